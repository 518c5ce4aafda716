/- Leaves of 22 cells, whole rows; ticked of no head. -/
import Derived.Test.YtdahjhokcjfioaaRunRef
import Derived.Test.YtdahjhokcjfioaaEv1
namespace Go.Proofs.Ytdahjhokcjfioaa
set_option linter.unusedVariables false
set_option linter.unusedSimpArgs false
set_option maxRecDepth 100000
open Go.RowKit Fg Reg
attribute [local irreducible] Reg.wE

theorem rlt_info : (Try.prog.info? 56).map (·.size) = some 22 := by kernel_rfl
theorem lfa_one (h : Bool) (D R : Rn) (p e d : Int) : (#[.bool (h), .int .u64 (D.x1), .int .u64 (hi D.y1), .int .u64 (lo D.y1), .int .u64 (D.m1), .int .u64 (D.x2), .int .u64 (hi D.y2), .int .u64 (lo D.y2), .int .u64 (D.m2), .bool (D.b), .int .u64 (R.x1), .int .u64 (hi R.y1), .int .u64 (lo R.y1), .int .u64 (R.m1), .int .u64 (R.x2), .int .u64 (hi R.y2), .int .u64 (lo R.y2), .int .u64 (R.m2), .bool (R.b), .int .u64 (p), .int .u64 (e), .int .u64 (d)] : Array Value).all (·.oneCell') = true := by kernel_rfl
theorem wpList_store_new2 {P : Program} {ops : Array Oper} {rest : List Oper} {op : Oper} {a : Act} {w : World} {O : Obj} {Q : Exit → Act → World → Prop} (hgd : op.guard = none) (ty : TypeId) (x y : Operand) (ho : op.op = .store ty x y)
    (c cells : Array Value) (hx : a.eval x = .pointer (some ⟨w.heap.size + 1, 0, none⟩)) (hy : a.eval y = .agg cells)
    (hi : (P.info? ty).map (·.size) = some cells.size) (hs : c.size = cells.size) (h1 : cells.all (·.oneCell') = true)
    (h : wpList P ops Q rest (a.put op.dst undef) ((w.alloc O).alloc (.cells cells ty))) : wpList P ops Q (op :: rest) a ((w.alloc O).alloc (.cells c ty)) :=
  wpList_store_new hgd ty x y ho c cells (by rw [hx]; simp) hy hi hs h1 h
theorem range_new (w : World) (cs : List Value) (t : TypeId) : (w.alloc (.cells cs.toArray t)).rangeAt w.heap.size 0 cs := fun j v hv => by
  rw [cell_of_row _ w.heap.size (0 + j) _ _ _ (heap_alloc_last w _), Nat.zero_add]
  simpa using hv
theorem range_alloc2 (w : World) (cs : List Value) (t : TypeId) (Z : Obj) : ((w.alloc (.cells cs.toArray t)).alloc Z).rangeAt w.heap.size 0 cs := fun j v hv => by
  have h := range_new w cs t j v hv
  rw [← h]
  exact ((Below.refl _ _).alloc (Nat.le_refl _) Z).cell (p := ⟨w.heap.size, 0 + j, none⟩) (by simp)
theorem range_new2 (w : World) (O : Obj) (cs : List Value) (t : TypeId) : ((w.alloc O).alloc (.cells cs.toArray t)).rangeAt (w.heap.size + 1) 0 cs := by
  have := range_new (w.alloc O) cs t
  simpa using this
theorem results_row {P : Program} {fn : Func} {s : Nat} {T : TypeId} {w : World} (hr : fn.results = #[.cell s T]) (tmps : Array Value) (g : Nat) (hs : tmps.getD s undef = .pointer (some ⟨g, 0, none⟩)) (cs : List Value) (d : TypeDesc) (hc : w.rangeAt g 0 cs)
    (hu : P.underlying T = some d) (hd : d.isRow = true) (hi : (P.info? T).map (·.size) = some cs.length) : (results fn tmps).run P w = .ok (.agg cs.toArray) w := by
  have h := run_loadVar_mid (P := P) w g 0 T cs d hc hu hd hi
  have hs' : tmps[s]?.getD undef = .pointer (some ⟨g, 0, none⟩) := by simpa using hs
  unfold results
  rw [hr]
  simp [Sem.run_bind, Sem.run_pure, Result.andThen_ok, asAddr, hs', h]
theorem below_setCells {B b : Nat} {W : World} (hb : B ≤ b) : ∀ (vs : List Value) (o : Nat) (z : World), Below B W z → Below B W (z.setCells b o vs)
  | [], _, _, h => h
  | v :: r, o, z, h => below_setCells hb r (o + 1) (z.setCell ⟨b, o, none⟩ v) (h.setCell hb v)
theorem there_only {S : Nat → Prop} {z z' : World} {b n : Nat} (h : z.there b 0 n) (ho : Only S z z') (hb : b < z.heap.size) (hs : ¬ S b) : z'.there b 0 n := fun j hj => by
  have := h j hj
  rw [← ho.cell hb hs, ← ho.frozen hb hs] at this
  exact this
theorem there_new (w : World) (cs : List Value) (t : TypeId) : (w.alloc (.cells cs.toArray t)).there w.heap.size 0 cs.length := fun j hj => by
  constructor
  · rw [cell_of_row _ w.heap.size (0 + j) _ _ _ (heap_alloc_last w _), Nat.zero_add]
    simp [hj]
  · have h := frozen_of_row (w.alloc (.cells cs.toArray t)) w.heap.size (0 + j) _ _ (heap_alloc_last w _)
    rw [h]
theorem there_new2 (w : World) (O : Obj) (cs : List Value) (t : TypeId) : ((w.alloc O).alloc (.cells cs.toArray t)).there (w.heap.size + 1) 0 cs.length := by
  have h := there_new (w.alloc O) cs t
  rw [show (w.alloc O).heap.size = w.heap.size + 1 by simp] at h
  exact h
theorem runits_c (n : Int) (hn : In n) (w : World) : Calls Try.prog 90 #[.int .u64 n] w fun ee w' => ee = .returned (.agg #[.int .u64 (hi (n * 65536)), .int .u64 (lo (n * 65536))]) ∧ Below w.heap.size w w' := by
  have K1 := Lib.hid (mul_c n 65536 hn (by unfold In; omega))
  go_enter Try.func90, Try.ntmps90
  go_wp2_with (go_at_call 137; ((with_reducible refine (K1.out _).mono ?_); rintro e w1 ⟨rfl, hbel⟩; obtain ⟨hcc, hff⟩ := bcell hbel; have hsz := hbel.size; (try simp at hsz); have hF : (w1.cell? ⟨w.heap.size, 0, none⟩ = some (.int .u64 (0)) ∧ w1.cell? ⟨w.heap.size, 1, none⟩ = some (.int .u64 (0)) ∧ w1.frozen? ⟨w.heap.size, 0, none⟩ = false ∧ w1.frozen? ⟨w.heap.size, 1, none⟩ = false ∧ w.heap.size < w1.heap.size) ∧ Below w.heap.size w w1 := (by ((repeat' apply And.intro) <;> first | (simp [go_sem, *]; done) | omega | (repeat' (first | with_reducible exact Below.refl _ _ | with_reducible assumption | ((with_reducible refine Below.drew ?_)) | ((with_reducible refine below_drewN ?_ _)) | ((with_reducible refine Below.alloc ?_ ?_ _); rotate_left; focus (first | omega | (simp; done) | (simp; omega))) | ((with_reducible refine Below.setCell ?_ ?_ _); rotate_left; focus (first | omega | (simp; done) | (simp; omega))) | ((with_reducible refine Below.trans ?_ (Below.mono (by with_reducible assumption) ?_)); rotate_left; focus (first | omega | (simp; done) | (simp; omega))))))); go_split_ands; clear hcc hff hbel))
  refine bodyPost_ret (v := .agg #[.int .u64 (hi (n * 65536)), .int .u64 (lo (n * 65536))]) (by simp [results, Try.results90, go_sem, *]) rfl ⟨rfl, (by repeat' (first | with_reducible exact Below.refl _ _ | with_reducible assumption | ((with_reducible refine Below.drew ?_)) | ((with_reducible refine below_drewN ?_ _)) | ((with_reducible refine Below.alloc ?_ ?_ _); rotate_left; focus (first | omega | (simp; done) | (simp; omega))) | ((with_reducible refine Below.setCell ?_ ?_ _); rotate_left; focus (first | omega | (simp; done) | (simp; omega))) | ((with_reducible refine Below.trans ?_ (Below.mono (by with_reducible assumption) ?_)); rotate_left; focus (first | omega | (simp; done) | (simp; omega)))))⟩
set_option maxHeartbeats 2000000 in
theorem ticked_no (h : Bool) (D R : Rn) (p e d head : Int) (hh : head ≤ 0) (w : World) : Calls Try.prog 95 #[.agg #[.bool (h), .int .u64 (D.x1), .int .u64 (hi D.y1), .int .u64 (lo D.y1), .int .u64 (D.m1), .int .u64 (D.x2), .int .u64 (hi D.y2), .int .u64 (lo D.y2), .int .u64 (D.m2), .bool (D.b), .int .u64 (R.x1), .int .u64 (hi R.y1), .int .u64 (lo R.y1), .int .u64 (R.m1), .int .u64 (R.x2), .int .u64 (hi R.y2), .int .u64 (lo R.y2), .int .u64 (R.m2), .bool (R.b), .int .u64 (p), .int .u64 (e), .int .u64 (d)], .int .i64 head] w fun ee w' => ee = .returned (.agg #[.bool (h), .int .u64 (D.x1), .int .u64 (hi D.y1), .int .u64 (lo D.y1), .int .u64 (D.m1), .int .u64 (D.x2), .int .u64 (hi D.y2), .int .u64 (lo D.y2), .int .u64 (D.m2), .bool (D.b), .int .u64 (R.x1), .int .u64 (hi R.y1), .int .u64 (lo R.y1), .int .u64 (R.m1), .int .u64 (R.x2), .int .u64 (hi R.y2), .int .u64 (lo R.y2), .int .u64 (R.m2), .bool (R.b), .int .u64 (p), .int .u64 (9223372036854775808), .int .u64 (9223372036854775808)]) ∧ Below w.heap.size w w' := by
  have LI := Lib.hid rlt_info
  have d0 : decide (0 < head) = false := by simp; omega
  clear hh
  go_enter Try.func95, Try.ntmps95
  go_wp2_with (first | (refine wpList_load_mid rfl 56 _ rfl w.heap.size 0 rfl _ _ (range_alloc2 w _ _ _) Try.underlying56 rfl LI.out ?_) | (refine wpList_store_new2 (w := w) rfl 56 _ _ rfl _ #[.bool (h), .int .u64 (D.x1), .int .u64 (hi D.y1), .int .u64 (lo D.y1), .int .u64 (D.m1), .int .u64 (D.x2), .int .u64 (hi D.y2), .int .u64 (lo D.y2), .int .u64 (D.m2), .bool (D.b), .int .u64 (R.x1), .int .u64 (hi R.y1), .int .u64 (lo R.y1), .int .u64 (R.m1), .int .u64 (R.x2), .int .u64 (hi R.y2), .int .u64 (lo R.y2), .int .u64 (R.m2), .bool (R.b), .int .u64 (p), .int .u64 (9223372036854775808), .int .u64 (9223372036854775808)] rfl rfl LI.out rfl (lfa_one h D R p (9223372036854775808) (9223372036854775808)) ?_))
  refine bodyPost_ret (v := .agg #[.bool (h), .int .u64 (D.x1), .int .u64 (hi D.y1), .int .u64 (lo D.y1), .int .u64 (D.m1), .int .u64 (D.x2), .int .u64 (hi D.y2), .int .u64 (lo D.y2), .int .u64 (D.m2), .bool (D.b), .int .u64 (R.x1), .int .u64 (hi R.y1), .int .u64 (lo R.y1), .int .u64 (R.m1), .int .u64 (R.x2), .int .u64 (hi R.y2), .int .u64 (lo R.y2), .int .u64 (R.m2), .bool (R.b), .int .u64 (p), .int .u64 (9223372036854775808), .int .u64 (9223372036854775808)]) (results_row Try.results95 _ (w.heap.size + 1) rfl _ _ (range_new2 _ _ _ _) Try.underlying56 rfl rlt_info) rfl ⟨rfl, (by repeat' (first | with_reducible exact Below.refl _ _ | with_reducible assumption | ((with_reducible refine Below.drew ?_)) | ((with_reducible refine below_drewN ?_ _)) | ((with_reducible refine Below.alloc ?_ ?_ _); rotate_left; focus (first | omega | (simp; done) | (simp; omega))) | ((with_reducible refine Below.setCell ?_ ?_ _); rotate_left; focus (first | omega | (simp; done) | (simp; omega))) | ((with_reducible refine Below.trans ?_ (Below.mono (by with_reducible assumption) ?_)); rotate_left; focus (first | omega | (simp; done) | (simp; omega)))))⟩
end Go.Proofs.Ytdahjhokcjfioaa
