/- What layer 20's texts on the reference's leaf lean on. -/
import Derived.Test.YtdahjhokcjfioaaLf5
import Derived.Deep.MidRow
namespace Go.Proofs.Ytdahjhokcjfioaa
set_option linter.unusedVariables false
set_option linter.unusedSimpArgs false
set_option maxRecDepth 100000
open Go.RowKit Fg Reg
attribute [local irreducible] Reg.wE

theorem range_belB {B b o : Nat} {W z : World} {cs : List Value} (h : W.rangeAt b o cs) (hb : Below B W z) (hlt : b < B) : z.rangeAt b o cs := fun j v hv => by
  rw [← h j v hv]
  exact hb.cell (p := ⟨b, o + j, none⟩) hlt
theorem there_belB {B b n : Nat} {W z : World} (h : W.there b 0 n) (hb : Below B W z) (hlt : b < B) : z.there b 0 n := fun j hj => by
  have := h j hj
  rw [← hb.cell (p := ⟨b, 0 + j, none⟩) hlt, ← hb.frozen (p := ⟨b, 0 + j, none⟩) hlt] at this
  exact this
theorem wpList_store_new3 {P : Program} {ops : Array Oper} {rest : List Oper} {op : Oper} {a : Act} {w : World} {Q : Exit → Act → World → Prop} (hgd : op.guard = none) (ty : TypeId) (x y : Operand) (ho : op.op = .store ty x y)
    (c cells : Array Value) (b : Nat) (hb : b = w.heap.size) (hx : a.eval x = .pointer (some ⟨b, 0, none⟩)) (hy : a.eval y = .agg cells)
    (hi : (P.info? ty).map (·.size) = some cells.size) (hs : c.size = cells.size) (h1 : cells.all (·.oneCell') = true)
    (h : wpList P ops Q rest (a.put op.dst undef) (w.alloc (.cells cells ty))) : wpList P ops Q (op :: rest) a (w.alloc (.cells c ty)) := by
  subst hb
  exact wpList_store_new hgd ty x y ho c cells hx hy hi hs h1 h
theorem quiet_load_mid {P : Program} {op : Oper} {a : Act} {C : World → Prop} {w : World} (ty : TypeId) (x : Operand) (ho : op.op = .load ty x)
    (b o : Nat) (hx : a.eval x = .pointer (some ⟨b, o, none⟩)) (cs : List Value) (d : TypeDesc) (hc : w.rangeAt b o cs)
    (hu : P.underlying ty = some d) (hd : d.isRow = true) (hi : (P.info? ty).map (·.size) = some cs.length) : op.quietAt P a C w (.agg cs.toArray) := by
  unfold Oper.quietAt execOp
  simp only [ho, hx, Instr.loadAt, Instr.sureAddr, Sem.run_bind, Sem.run_pure, Result.andThen_ok, run_loadVar_mid w b o ty cs d hc hu hd hi]
  exact ⟨rfl, rfl⟩
theorem eff_store20 {P : Program} {Cl : List Value → World → Prop} {ps : List Value} {o : Oper} {ρ : Act} {w w' : World} {X Y : Value} (ty : TypeId) (x y : Operand) (ho : o.op = .store ty x y) (hx : ρ.eval x = X) (hy : ρ.eval y = Y)
    (hr : (Instr.storeAt ty X Y).run P w = .ok () w') (h : Cl (ps ++ [undef]) w') : Reg.effUpon P Cl ps ((execOp ρ.eval o).run P w) := by
  unfold execOp
  simp only [ho, hx, hy, Sem.run_bind, Sem.run_pure, Result.andThen_ok, hr]
  exact h
theorem bcellB20 {B : Nat} {W w' : World} (hb : Below B W w') : (∀ b o, b < B → w'.cell? ⟨b, o, none⟩ = W.cell? ⟨b, o, none⟩) ∧ (∀ b o, b < B → w'.frozen? ⟨b, o, none⟩ = W.frozen? ⟨b, o, none⟩) := by
  refine ⟨fun b o h => hb.cell (p := ⟨b, o, none⟩) h, fun b o h => ?_⟩
  unfold World.frozen?
  rw [hb.block b h]
theorem range_cut {z : World} {b : Nat} {v : Value} {cs ds : List Value} (h : z.rangeAt b 0 (v :: (cs ++ ds))) : z.rangeAt b 1 cs := by
  unfold World.rangeAt at *
  intro q u hq
  have hl : q < cs.length := (List.getElem?_eq_some_iff.1 hq).1
  have := h (1 + q) u (by rw [show 1 + q = q + 1 by omega, List.getElem?_cons_succ, List.getElem?_append_left hl]; exact hq)
  simpa using this
theorem num20_c (a b : Int) (ha : In a) (hb : In b) (w : World) : Calls Try.prog 39 #[.agg #[.int .u64 a, .int .u64 b]] w fun ee w' => ee = .returned (.agg #[.int .u64 (d0 (val a b)), .int .u64 (d1 (val a b)), .int .u64 (d2 (val a b)), .int .u64 (d3 (val a b))]) ∧ Below w.heap.size w w' := by
  go_enter Try.func39, Try.ntmps39
  go_wp2_with (go_at_call 102; refine (reftwo_c a b ha hb _).mono ?_; rintro e w' ⟨rfl, hbel⟩; obtain ⟨hcc, hff⟩ := bcell hbel; have hsz := hbel.size; (try simp at hsz); have hF : (w'.cell? ⟨w.heap.size + 1, 0, none⟩ = some (.int .u64 0) ∧ w'.cell? ⟨w.heap.size + 1, 1, none⟩ = some (.int .u64 0) ∧ w'.cell? ⟨w.heap.size + 1, 2, none⟩ = some (.int .u64 0) ∧ w'.cell? ⟨w.heap.size + 1, 3, none⟩ = some (.int .u64 0) ∧ w'.frozen? ⟨w.heap.size + 1, 0, none⟩ = false ∧ w'.frozen? ⟨w.heap.size + 1, 1, none⟩ = false ∧ w'.frozen? ⟨w.heap.size + 1, 2, none⟩ = false ∧ w'.frozen? ⟨w.heap.size + 1, 3, none⟩ = false ∧ w.heap.size + 1 < w'.heap.size) := (by ((repeat' apply And.intro) <;> first | (simp [go_sem, *]; done) | omega | (repeat' (first | with_reducible exact Below.refl _ _ | with_reducible assumption | ((with_reducible refine Below.drew ?_)) | ((with_reducible refine below_drewN ?_ _)) | ((with_reducible refine Below.alloc ?_ ?_ _); rotate_left; focus (first | omega | (simp; done) | (simp; omega))) | ((with_reducible refine Below.setCell ?_ ?_ _); rotate_left; focus (first | omega | (simp; done) | (simp; omega))) | ((with_reducible refine Below.trans ?_ (Below.mono (by with_reducible assumption) ?_)); rotate_left; focus (first | omega | (simp; done) | (simp; omega))))))); go_split_ands)
  refine bodyPost_ret (v := .agg #[.int .u64 (d0 (val a b)), .int .u64 (d1 (val a b)), .int .u64 (d2 (val a b)), .int .u64 (d3 (val a b))]) (by simp [results, Try.results39, go_sem, *]) rfl ⟨rfl, (by repeat' (first | with_reducible exact Below.refl _ _ | with_reducible assumption | ((with_reducible refine Below.drew ?_)) | ((with_reducible refine below_drewN ?_ _)) | ((with_reducible refine Below.alloc ?_ ?_ _); rotate_left; focus (first | omega | (simp; done) | (simp; omega))) | ((with_reducible refine Below.setCell ?_ ?_ _); rotate_left; focus (first | omega | (simp; done) | (simp; omega))) | ((with_reducible refine Below.trans ?_ (Below.mono (by with_reducible assumption) ?_)); rotate_left; focus (first | omega | (simp; done) | (simp; omega)))))⟩
theorem run9_info : (Try.prog.info? 54).map (·.size) = some 9 := by kernel_rfl
end Go.Proofs.Ytdahjhokcjfioaa
