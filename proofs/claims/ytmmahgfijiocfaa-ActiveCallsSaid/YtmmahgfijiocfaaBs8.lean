/- Joined texts. -/
import Derived.Test.YtmmahgfijiocfaaBs0
import Derived.Test.YtmmahgfijiocfaaBs2
import Derived.Test.YtmmahgfijiocfaaBs3
import Derived.Test.YtmmahgfijiocfaaBs4
import Derived.Test.YtmmahgfijiocfaaBs7
import Derived.Deep.MidRow
import Derived.Deep.WholeRow
import Derived.Laws.CopyRow
set_option linter.unusedVariables false
set_option linter.unusedSimpArgs false
set_option maxRecDepth 100000
set_option maxHeartbeats 16000000
section
namespace Go.Proofs.Ytmmahgfijiocfaa
open Go.RowKit Fg Reg
def VR (z : World) (p : Nat) (ty : TypeId) (cs : Array Value) : Prop := z.heap[p]? = some (.cells cs ty (0, 0))
section
variable {z z' : World} {p : Nat} {ty : TypeId} {cs : Array Value}
theorem VR.lt (h : VR z p ty cs) : p < z.heap.size := (Array.getElem?_eq_some_iff.1 h).1
theorem VR.cell (h : VR z p ty cs) (j : Nat) {v : Value} (hv : cs[j]? = some v) : z.cell? ⟨p, j, none⟩ = some v := by
 unfold VR at h
 simp [World.cell?, h, hv]
theorem VR.frozen (h : VR z p ty cs) (j : Nat) : z.frozen? ⟨p, j, none⟩ = false := by
 unfold VR at h
 simp [World.frozen?, h]
theorem VR.range (h : VR z p ty cs) : z.rangeAt p 0 cs.toList := fun j v hv => by
 rw [Nat.zero_add]
 exact h.cell j (by simpa using hv)
theorem VR.frame (h : VR z p ty cs) (he : z'.heap[p]? = z.heap[p]?) : VR z' p ty cs := he.trans h
theorem VR.below {B : Nat} (h : VR z p ty cs) (hb : Below B z z') (hp : p < B) : VR z' p ty cs := h.frame (hb.block p hp)
theorem VR.bel (h : VR z p ty cs) (hb : Below z.heap.size z z') : VR z' p ty cs := h.frame (hb.block p h.lt)
theorem VR.only {S : Nat → Prop} (h : VR z p ty cs) (ho : Only S z z') (hs : ¬ S p) : VR z' p ty cs := h.frame (ho.block p h.lt hs)
theorem VR.alloc (h : VR z p ty cs) (o : Obj) : VR (z.alloc o) p ty cs := h.frame (Below.heap_alloc _ _ _ h.lt)
theorem VR.new (w : World) (cs : Array Value) (ty : TypeId) : VR (w.alloc (.cells cs ty)) w.heap.size ty cs := by
 unfold VR
 exact heap_alloc_new w _
theorem VR.ne_row {base : Nat} {e : TypeId} {size n : Nat} {v : Value} {xs : List Value} (h : VR z p ty cs) (ho : z.ownsRow base e size v n xs) (hne : ty ≠ e) : v.ownBlock ≠ some p := by
 intro hp
 rcases ho.2 with ⟨rfl, _⟩ | ⟨g, cap, cur, rfl, _, hg, _⟩
 ·simp [Value.ownBlock] at hp
 ·simp only [Value.ownBlock, Option.some.injEq] at hp
  subst hp
  unfold VR at h
  rw [h] at hg
  simp only [Option.some.injEq, Obj.cells.injEq] at hg
  exact hne hg.2.1
theorem VR.grown {base : Nat} {e : TypeId} {size n : Nat} {v : Value} {xs : List Value} (h : VR z p ty cs) (hg : z.grownBy z' v.ownBlock) (ho : z.ownsRow base e size v n xs) (hne : ty ≠ e) : VR z' p ty cs :=
 h.frame (hg.block p h.lt fun e' => h.ne_row ho hne e'.symm)
theorem own_var {base : Nat} {e : TypeId} {size n : Nat} {v : Value} {xs : List Value} (h : z.ownsRow base e size v n xs) (hv : VR z p ty cs) (hne : ty ≠ e) (ho : Only (fun k => k = p) z z') : z'.ownsRow base e size v n xs := by
 have hn := hv.ne_row h hne
 refine ⟨h.1, ?_⟩
 rcases h.2 with h' | ⟨g, cap, cur, h1, h2, h3, h4⟩
 ·exact .inl h'
 ·refine .inr ⟨g, cap, cur, h1, h2, ?_, h4⟩
  have hlt : g < z.heap.size := (Array.getElem?_eq_some_iff.1 h3).1
  rw [ho.block g hlt (fun e' => hn (by rw [h1, e']; rfl))]
  exact h3
end
section
variable {P : Program} {ops : Array Oper} {rest : List Oper} {a : Act} {w : World} {Q : Exit → Act → World → Prop}
theorem wpList_var_new {o1 o2 : Oper} (g1 : o1.guard = none) (g2 : o2.guard = none) (ty : TypeId) (zc : Array Value) (hz : ∀ w, (Instr.alloc ty true (.tuple #[])).run P w = .ok (.pointer (some ⟨w.heap.size, 0, none⟩)) (w.alloc (.cells zc ty)))
  (h1 : o1.op = .alloc ty) (x y : Operand) (h2 : o2.op = .store ty x y) (cells : Array Value)
  (hx : (a.put o1.dst (.pointer (some ⟨w.heap.size, 0, none⟩))).eval x = .pointer (some ⟨w.heap.size, 0, none⟩)) (hy : (a.put o1.dst (.pointer (some ⟨w.heap.size, 0, none⟩))).eval y = .agg cells)
  (hi : (P.info? ty).map (·.size) = some cells.size) (hs : zc.size = cells.size) (hone : cells.all (·.oneCell') = true)
  (hK : ∀ w1, w1.heap.size = w.heap.size + 1 → Below w.heap.size w w1 → VR w1 w.heap.size ty cells → wpList P ops Q rest ((a.put o1.dst (.pointer (some ⟨w.heap.size, 0, none⟩))).put o2.dst undef) w1) :
  wpList P ops Q (o1 :: o2 :: rest) a w := by
 refine wpList_plain g1 fun K1 hK1 => ?_
 unfold Oper.wp execOp
 simp only [h1, Sem.run_bind, Sem.run_pure, Result.andThen_ok, hz]
 refine hK1 _ _ (wpList_plain g2 fun K2 hK2 => ?_)
 unfold Oper.wp execOp
 simp only [h2, hx, hy, Sem.run_bind, Sem.run_pure, Result.andThen_ok, run_storeAt_new (P := P) w ty zc cells hi hs hone]
 exact hK2 _ _ (hK _ (by simp) (Below.alloc (Below.refl _ _) (Nat.le_refl _) _) (VR.new w cells ty))
theorem wpList_var_new3 {o1 om o2 : Oper} (g1 : o1.guard = none) (gm : om.guard = none) (g2 : o2.guard = none) (ty : TypeId) (zc : Array Value) (hz : ∀ w, (Instr.alloc ty true (.tuple #[])).run P w = .ok (.pointer (some ⟨w.heap.size, 0, none⟩)) (w.alloc (.cells zc ty)))
  (h1 : o1.op = .alloc ty) (xm : Operand) (hm : om.op = .assign xm) (x y : Operand) (h2 : o2.op = .store ty x y) (cells : Array Value) (vm : Value)
  (hxm : (a.put o1.dst (.pointer (some ⟨w.heap.size, 0, none⟩))).eval xm = vm)
  (hx : ((a.put o1.dst (.pointer (some ⟨w.heap.size, 0, none⟩))).put om.dst vm).eval x = .pointer (some ⟨w.heap.size, 0, none⟩)) (hy : ((a.put o1.dst (.pointer (some ⟨w.heap.size, 0, none⟩))).put om.dst vm).eval y = .agg cells)
  (hi : (P.info? ty).map (·.size) = some cells.size) (hs : zc.size = cells.size) (hone : cells.all (·.oneCell') = true)
  (hK : ∀ w1, w1.heap.size = w.heap.size + 1 → Below w.heap.size w w1 → VR w1 w.heap.size ty cells → wpList P ops Q rest (((a.put o1.dst (.pointer (some ⟨w.heap.size, 0, none⟩))).put om.dst vm).put o2.dst undef) w1) :
  wpList P ops Q (o1 :: om :: o2 :: rest) a w := by
 refine wpList_plain g1 fun K1 hK1 => ?_
 unfold Oper.wp execOp
 simp only [h1, Sem.run_bind, Sem.run_pure, Result.andThen_ok, hz]
 refine hK1 _ _ (wpList_plain gm fun K2 hK2 => ?_)
 unfold Oper.wp execOp
 simp only [hm, Sem.run_pure, hxm]
 refine hK2 _ _ (wpList_plain g2 fun K3 hK3 => ?_)
 unfold Oper.wp execOp
 simp only [h2, hx, hy, Sem.run_bind, Sem.run_pure, Result.andThen_ok, run_storeAt_new (P := P) w ty zc cells hi hs hone]
 exact hK3 _ _ (hK _ (by simp) (Below.alloc (Below.refl _ _) (Nat.le_refl _) _) (VR.new w cells ty))
theorem wpList_var_set {o : Oper} (g : o.guard = none) (ty : TypeId) (x y : Operand) (h2 : o.op = .store ty x y) (p : Nat) (old cells : Array Value) (hv : VR w p ty old)
  (hx : a.eval x = .pointer (some ⟨p, 0, none⟩)) (hy : a.eval y = .agg cells)
  (hi : (P.info? ty).map (·.size) = some cells.size) (hs : old.size = cells.size) (hone : cells.all (·.oneCell') = true)
  (hK : ∀ w1, w1.heap.size = w.heap.size → Only (fun k => k = p) w w1 → VR w1 p ty cells → wpList P ops Q rest (a.put o.dst undef) w1) :
  wpList P ops Q (o :: rest) a w := by
 refine wpList_plain g fun K hK' => ?_
 have hst := run_storeCells_at (P := P) p 0 ty cells.toList 0 old w hv (by simp [hs]) (fun v hv => Array.all_eq_true_iff_forall_mem.1 hone v (by simpa using hv))
 have hrow : ((old.toList.take (0 + 0) ++ cells.toList ++ old.toList.drop (0 + 0 + cells.toList.length)).toArray) = cells := by
  rw [List.drop_eq_nil_of_le (by simp [hs])]
  simp
 rw [hrow] at hst
 have hsv : (storeVar ty ⟨p, 0, none⟩ (.agg cells)).run P w = .ok () (w.setRow p cells) := by
  cases hq : P.info? ty with
  | none => simp [hq] at hi
  | some i =>
   have hs' : cells.size = i.size := by simp [hq] at hi; omega
   simp [storeVar, sizeOf, typeInfo, hq, Value.cells, hs', hst]
 unfold Oper.wp execOp
 simp only [h2, hx, hy, Instr.storeAt, Instr.sureAddr, Sem.run_bind, Sem.run_pure, Result.andThen_ok, hsv]
 exact hK' _ _ (hK _ (by simp [World.setRow]) ⟨rfl, rfl, rfl, by simp [World.setRow], fun k _ hk => setRow_other w p k cells hk⟩ (setRow_heap w p old cells ty (0, 0) hv))
theorem wpList_var_get {o : Oper} (g : o.guard = none) (ty : TypeId) (x : Operand) (h2 : o.op = .load ty x) (p : Nat) (cells : Array Value) (d : TypeDesc) (hv : VR w p ty cells)
  (hx : a.eval x = .pointer (some ⟨p, 0, none⟩)) (hu : P.underlying ty = some d) (hd : d.isRow = true)
  (hi : (P.info? ty).map (·.size) = some cells.size)
  (hK : wpList P ops Q rest (a.put o.dst (.agg cells)) w) :
  wpList P ops Q (o :: rest) a w := by
 refine wpList_load_mid g ty x h2 p 0 hx cells.toList d hv.range hu hd (by simpa using hi) ?_
 simpa using hK
theorem VR.part {z : World} {p : Nat} {ty : TypeId} {cs : Array Value} (h : VR z p ty cs) (o : Nat) (ys : List Value) (hy : ∀ j v, ys[j]? = some v → cs[o + j]? = some v) : z.rangeAt p o ys := fun j v hv => h.cell (o + j) (hy j v hv)
theorem wpList_part_get {o : Oper} (g : o.guard = none) (ty : TypeId) (x : Operand) (h2 : o.op = .load ty x) (p q : Nat) (cells : Array Value) (d : TypeDesc) (hr : w.rangeAt p q cells.toList)
  (hx : a.eval x = .pointer (some ⟨p, q, none⟩)) (hu : P.underlying ty = some d) (hd : d.isRow = true)
  (hi : (P.info? ty).map (·.size) = some cells.size)
  (hK : wpList P ops Q rest (a.put o.dst (.agg cells)) w) :
  wpList P ops Q (o :: rest) a w := by
 refine wpList_load_mid g ty x h2 p q hx cells.toList d hr hu hd (by simpa using hi) ?_
 simpa using hK
theorem wpList_var_get_g {o : Oper} (ty : TypeId) (x : Operand) (h2 : o.op = .load ty x) (p : Nat) (cells : Array Value) (d : TypeDesc) (hv : VR w p ty cells)
  (hx : a.eval x = .pointer (some ⟨p, 0, none⟩)) (hu : P.underlying ty = some d) (hd : d.isRow = true)
  (hi : (P.info? ty).map (·.size) = some cells.size) (g : Region.wanted o (yielded ops a.tmps) = true)
  (hK : wpList P ops Q rest (a.put o.dst (.agg cells)) w) :
  wpList P ops Q (o :: rest) a w := by
 refine wpList_step fun K hK' => ?_
 rw [if_pos g]
 refine wp_load_mid ty x h2 p 0 hx cells.toList d hv.range hu hd (by simpa using hi) (hK' _ _ ?_)
 simpa using hK
theorem quiet_var {op : Oper} {C : World → Prop} (ty : TypeId) (x : Operand) (ho : op.op = .load ty x) (p : Nat) (cells : Array Value) (d : TypeDesc) (hv : VR w p ty cells)
  (hx : a.eval x = .pointer (some ⟨p, 0, none⟩)) (hu : P.underlying ty = some d) (hd : d.isRow = true) (hi : (P.info? ty).map (·.size) = some cells.size) : op.quietAt P a C w (.agg cells) := by
 have h := run_loadVar_mid (P := P) w p 0 ty cells.toList d hv.range hu hd (by simpa using hi)
 unfold Oper.quietAt execOp
 simp only [ho, hx, Instr.loadAt, Instr.sureAddr, Sem.run_bind, Sem.run_pure, Result.andThen_ok, h]
 exact ⟨by simp, rfl⟩
theorem effv_store {Cl : List (Nat × Value) → World → Prop} {k : Nat} {ps : List (Nat × Value)} {o : Oper} {ρ : Act} {w' : World} {X Y : Value} (ty : TypeId) (x y : Operand) (ho : o.op = .store ty x y) (hx : ρ.eval x = X) (hy : ρ.eval y = Y)
  (hr : (Instr.storeAt ty X Y).run P w = .ok () w') (h : Cl (ps ++ [(k, undef)]) w') : Reg2.effUpon P Cl k ps ((execOp ρ.eval o).run P w) := by
 unfold execOp
 simp only [ho, hx, hy, Sem.run_bind, Sem.run_pure, Result.andThen_ok, hr]
 exact h
theorem effv_map {Cl : List (Nat × Value) → World → Prop} {k : Nat} {ps : List (Nat × Value)} {o : Oper} {ρ : Act} {w' : World} {mv xv vv : Value} (m x v : Operand) (t : TypeId)
  (ho : o.op = Op.mapUpdate t m x v) (hm : ρ.eval m = mv) (hx : ρ.eval x = xv) (hv : ρ.eval v = vv) (hr : (Instr.mapUpdate t mv xv vv).run P w = .ok () w') (h : Cl (ps ++ [(k, undef)]) w') :
  Reg2.effUpon P Cl k ps ((execOp ρ.eval o).run P w) := by
 simp [execOp, ho, hm, hx, hv, hr, Result.andThen, Reg2.effUpon]
 exact h
theorem effv_alloc {Cl : List (Nat × Value) → World → Prop} {k : Nat} {ps : List (Nat × Value)} {o : Oper} {ρ : Act} {w' : World} {u : Value} (ty : TypeId) (ho : o.op = .alloc ty)
  (hr : (Instr.alloc ty true (.tuple #[])).run P w = .ok u w') (h : Cl (ps ++ [(k, u)]) w') : Reg2.effUpon P Cl k ps ((execOp ρ.eval o).run P w) := by
 unfold execOp
 simp only [ho, Sem.run_bind, Sem.run_pure, Result.andThen_ok, hr]
 exact h
end
end Go.Proofs.Ytmmahgfijiocfaa
end
section
namespace Go.Proofs.Ytmmahgfijiocfaa
open Go.RowKit Fg Reg Go.Maps
attribute [local irreducible] Reg.wE VR
def clz : Cls := ⟨0, 0, false, 0, 0, 0, 0, 0, 0, 0, 0, 0, 0, 0⟩
def gcl (o : Option Cls) : Cls := match o with | some c => c | none => clz
def ger (o : Option Cls) : Int := match o with | some _ => 0 | none => 6
theorem hget_c {w : World} {tb mb : Nat} {f : Int → Option Cls} (h : HT w tb mb f) {i : Int} (hi : iok i) : Calls Try.prog 32 #[.pointer (some ⟨tb, 0, none⟩), .int .i64 i] w fun ee w' => ee = .returned (.tuple #[.agg #[.int .i64 ((gcl (f i))).id, .int .i64 ((gcl (f i))).par, .bool ((gcl (f i))).leaf, .int .u64 ((gcl (f i))).ra, .int .u64 ((gcl (f i))).rb, .int .u64 ((gcl (f i))).rc, .int .u64 ((gcl (f i))).la, .int .u64 ((gcl (f i))).lb, .int .u64 ((gcl (f i))).lc, .int .u64 ((gcl (f i))).ua, .int .u64 ((gcl (f i))).ub, .int .u64 ((gcl (f i))).uc, .int .i64 ((gcl (f i))).pk, .int .i64 ((gcl (f i))).bt], .int .i64 (ger (f i))]) ∧ Below w.heap.size w w' := by
 cases hc : f i with
 | none => exact hget_n h hi hc
 | some c => exact hget_y h hi hc
theorem cl_info : (Try.prog.info? 54).map (·.size) = some 14 := by kernel_rfl
theorem cla_one (c : Cls) : (#[.int .i64 c.id, .int .i64 c.par, .bool c.leaf, .int .u64 c.ra, .int .u64 c.rb, .int .u64 c.rc, .int .u64 c.la, .int .u64 c.lb, .int .u64 c.lc, .int .u64 c.ua, .int .u64 c.ub, .int .u64 c.uc, .int .i64 c.pk, .int .i64 c.bt] : Array Value).all (·.oneCell') = true := by kernel_rfl
theorem cl_alloc (w : World) : (Instr.alloc 54 true (.tuple #[])).run Try.prog w = .ok (.pointer (some ⟨w.heap.size, 0, none⟩)) (w.alloc (.cells #[.int .i64 0, .int .i64 0, .bool false, .int .u64 0, .int .u64 0, .int .u64 0, .int .u64 0, .int .u64 0, .int .u64 0, .int .u64 0, .int .u64 0, .int .u64 0, .int .i64 0, .int .i64 0] 54)) := by kernel_rfl
def upl (f : Int → Option Cls) : Nat → Int → List Int
 | 0, _ => []
 | n + 1, i => match f i with | none => [] | some c => i :: upl f n c.par
def fin (f : Int → Option Cls) : Nat → Int → Bool
 | 0, i => (f i).isNone
 | n + 1, i => match f i with | none => true | some c => fin f n c.par
theorem upl_none {f : Int → Option Cls} {i : Int} (h : f i = none) (n : Nat) : upl f n i = [] := by cases n <;> simp [upl, h]
theorem upl_some {f : Int → Option Cls} {i : Int} {c : Cls} (h : f i = some c) (n : Nat) : upl f (n + 1) i = i :: upl f n c.par := by simp [upl, h]
theorem fin_some {f : Int → Option Cls} {i : Int} {c : Cls} (h : f i = some c) (n : Nat) : fin f (n + 1) i = fin f n c.par := by simp [fin, h]
theorem upl_len (f : Int → Option Cls) : ∀ (n : Nat) (i : Int), (upl f n i).length ≤ n
 | 0, _ => Nat.le_refl _
 | n + 1, i => by
  unfold upl
  split
  ·exact Nat.zero_le _
  ·have := upl_len f n; simp only [List.length_cons]; exact Nat.succ_le_succ (this _)
theorem hup_c {w : World} {tb mb : Nat} {f : Int → Option Cls} (h : HT w tb mb f) (hok : ∀ x c, f x = some c → c.id = x ∧ iok c.par) (N : Nat) (hN : N ≤ 1000) (num : Int) (hid : iok num) (hf : fin f N num = true) :
  Calls Try.prog 62 #[.pointer (some ⟨tb, 0, none⟩), .int .i64 num] w fun e w' => ∃ v, e = .returned v ∧ w'.ownsRow w.heap.size 3 1 v (upl f N num).length ((upl f N num).map (Value.int .i64)) ∧ Below w.heap.size w w' := by
 obtain ⟨ii, ci0, cz0, cz1, cz2⟩ := int_partsH
 have CI0 := Lib.hid ci0
 have CZ0 := Lib.hid cz0
 have CZ1 := Lib.hid cz1
 have CZ2 := Lib.hid cz2
 have KG := Lib.hid (fun (z : World) (hz : HT z tb mb f) (i : Int) (hi : iok i) => hget_c hz hi)
 have H := Lib.hid h
 have HL := Lib.hid h.lt
 have HOK := Lib.hid hok
 have HID := Lib.hid hid
 have HF := Lib.hid hf
 have ALL := Lib.hid cl_alloc
 have INF := Lib.hid cl_info
 have ONE := Lib.hid cla_one
 clear h hok hid hf ci0 cz0 cz1 cz2
 go_enter Try.func62, Try.ntmps62
 go_wp2_with (first
  | go_guarded
  | (refine wpList_var_new rfl rfl 54 #[.int .i64 0, .int .i64 0, .bool false, .int .u64 0, .int .u64 0, .int .u64 0, .int .u64 0, .int .u64 0, .int .u64 0, .int .u64 0, .int .u64 0, .int .u64 0, .int .i64 0, .int .i64 0] ALL.out rfl _ _ rfl #[.int .i64 ((gcl (f num))).id, .int .i64 ((gcl (f num))).par, .bool ((gcl (f num))).leaf, .int .u64 ((gcl (f num))).ra, .int .u64 ((gcl (f num))).rb, .int .u64 ((gcl (f num))).rc, .int .u64 ((gcl (f num))).la, .int .u64 ((gcl (f num))).lb, .int .u64 ((gcl (f num))).lc, .int .u64 ((gcl (f num))).ua, .int .u64 ((gcl (f num))).ub, .int .u64 ((gcl (f num))).uc, .int .i64 ((gcl (f num))).pk, .int .i64 ((gcl (f num))).bt] rfl rfl INF.out rfl (ONE.out _) ?_; intro w2 hs2 hb2 hv2; have HV2 := Lib.hid hv2; have HB2 := Lib.hid (HB1.out.trans (hb2.mono HB1.out.size)); clear hb2 hv2)
  | (go_at_call 32; (with_reducible refine (KG.out _ H.out _ HID.out).mono ?_); rintro _ w1 ⟨rfl, hbel⟩; have HB1 := Lib.hid hbel; clear hbel))
 try go_frame
 go_loopg [5, 6, 7] N (fun k9 s5 s6 s7 wr => ∃ (i : Int) (done : List Int) (n m : Nat) (ao : Option Addr) (c p : Nat), s5 = .slice ao m c ∧ s6 = .pointer (some ⟨p, 0, none⟩) ∧ s7 = .int .i64 (ger (f i)) ∧ done.length = m ∧ upl f N num = done ++ upl f n i ∧ m + n = N ∧ fin f n i = true ∧ iok i ∧ VR wr p 54 #[.int .i64 ((gcl (f i))).id, .int .i64 ((gcl (f i))).par, .bool ((gcl (f i))).leaf, .int .u64 ((gcl (f i))).ra, .int .u64 ((gcl (f i))).rb, .int .u64 ((gcl (f i))).rc, .int .u64 ((gcl (f i))).la, .int .u64 ((gcl (f i))).lb, .int .u64 ((gcl (f i))).lc, .int .u64 ((gcl (f i))).ua, .int .u64 ((gcl (f i))).ub, .int .u64 ((gcl (f i))).uc, .int .i64 ((gcl (f i))).pk, .int .i64 ((gcl (f i))).bt] ∧ wr.ownsRow w.heap.size 3 1 (.slice ao m c) m (done.map (Value.int .i64)) ∧ w.heap.size ≤ p ∧ Below w.heap.size w wr ∧ n ≤ k9)
 case atStart => exact ⟨num, [], N, 0, none, 0, _, rfl, rfl, rfl, rfl, rfl, by omega, HF.out, HID.out, HV2.out, World.ownsRow_nil _ _ _ _, HB1.out.size, HB2.out, Nat.le_refl _⟩
 case round =>
  obtain ⟨i, done, n, m, ao, c, p, rfl, rfl, rfl, hm, hup, hmn, hfi, hi, hv, hO, hp, hB, hk⟩ := hrel
  have HM := Lib.hid hm
  have HUP := Lib.hid hup
  have HFI := Lib.hid hfi
  have HI := Lib.hid hi
  have HV := Lib.hid hv
  have HO := Lib.hid hO
  have HB := Lib.hid hB
  have hT : HT wr tb mb f := H.out.below hB
  have HT0 := Lib.hid hT
  clear hm hup hfi hi hO hB hT
  cases hc : f i with
  | none =>
   have hu := upl_none hc n
   have HU : Hid (upl f N num = done) := Lib.hid (by rw [HUP.out, hu, List.append_nil])
   have e1 : (gcl (none : Option Cls)) = clz := rfl
   have e2 : (ger (none : Option Cls)) = 6 := rfl
   rw [hc] at hv
   clear hu hv
   rw [e2]
   go_wp2_with (first | go_guarded)
   go_ret
   exact ⟨_, rfl, by rw [HU.out, HM.out]; exact HO.out, HB.out⟩
  | some cc =>
   have e1 : (gcl (some cc)) = cc := rfl
   have e2 : (ger (some cc)) = 0 := rfl
   have hcid := (HOK.out i cc hc).1
   have HPAR := Lib.hid (HOK.out i cc hc).2
   cases n with
   | zero => have h0 := HFI.out; unfold fin at h0; rw [hc] at h0; cases h0
   | succ n =>
    have hf1 := HFI.out
    rw [fin_some hc] at hf1
    have HF1 : Hid (fin f n cc.par = true) := Lib.hid hf1
    have hu1 := HUP.out
    rw [upl_some hc] at hu1
    have HU1 : Hid (upl f N num = (done ++ [cc.id]) ++ upl f n cc.par) := Lib.hid (by rw [hu1, hcid]; simp)
    have hv0 : VR wr p 54 #[.int .i64 cc.id, .int .i64 cc.par, .bool cc.leaf, .int .u64 cc.ra, .int .u64 cc.rb, .int .u64 cc.rc, .int .u64 cc.la, .int .u64 cc.lb, .int .u64 cc.lc, .int .u64 cc.ua, .int .u64 cc.ub, .int .u64 cc.uc, .int .i64 cc.pk, .int .i64 cc.bt] := by have := HV.out; rw [hc] at this; exact this
    have HV0 := Lib.hid hv0
    have HD1 : Hid ((done ++ [cc.id]).length = m + 1) := Lib.hid (by rw [List.length_append, HM.out]; rfl)
    have cid : wr.cell? ⟨p, 0, none⟩ = some (.int .i64 cc.id) := hv0.cell 0 rfl
    have hpl := hv0.lt
    have hmN : m ≤ 1000 := by omega
    rw [e2]
    clear hu1 hf1 hv hv0 e1 e2 hcid HV
    go_wp2_with (first
     | go_guarded
     | (refine wpList_var_set rfl 54 _ _ rfl _ #[.int .i64 cc.id, .int .i64 cc.par, .bool cc.leaf, .int .u64 cc.ra, .int .u64 cc.rb, .int .u64 cc.rc, .int .u64 cc.la, .int .u64 cc.lb, .int .u64 cc.lc, .int .u64 cc.ua, .int .u64 cc.ub, .int .u64 cc.uc, .int .i64 cc.pk, .int .i64 cc.bt] #[.int .i64 ((gcl (f cc.par))).id, .int .i64 ((gcl (f cc.par))).par, .bool ((gcl (f cc.par))).leaf, .int .u64 ((gcl (f cc.par))).ra, .int .u64 ((gcl (f cc.par))).rb, .int .u64 ((gcl (f cc.par))).rc, .int .u64 ((gcl (f cc.par))).la, .int .u64 ((gcl (f cc.par))).lb, .int .u64 ((gcl (f cc.par))).lc, .int .u64 ((gcl (f cc.par))).ua, .int .u64 ((gcl (f cc.par))).ub, .int .u64 ((gcl (f cc.par))).uc, .int .i64 ((gcl (f cc.par))).pk, .int .i64 ((gcl (f cc.par))).bt] HV5.out rfl rfl INF.out rfl (ONE.out _) ?_; intro w6 hs6 ho6 hv6; have HV6 := Lib.hid hv6; have HO6 := Lib.hid (own_var HO5.out HV5.out (by decide) ho6); have HB6 : Hid (Below w.heap.size w w6) := Lib.hid (HB5.out.trans ⟨ho6.1, ho6.2, ho6.3, ho6.4, fun k hk => ho6.5 k (Nat.lt_of_lt_of_le hk HB5.out.size) (by have := HB2.out.size; omega)⟩); clear ho6 hv6)
     | (go_at_call 32; (with_reducible refine (KG.out _ HT4.out _ HPAR.out).mono ?_); rintro _ w5 ⟨rfl, hbel⟩; have HV5 := Lib.hid (HV4.out.bel hbel); have HO5 := Lib.hid (row_bel HO4.out hbel); have HB5 := Lib.hid (HB4.out.trans (hbel.mono HB4.out.size)); clear hbel)
     | (refine wpList_var_new rfl rfl 54 #[.int .i64 0, .int .i64 0, .bool false, .int .u64 0, .int .u64 0, .int .u64 0, .int .u64 0, .int .u64 0, .int .u64 0, .int .u64 0, .int .u64 0, .int .u64 0, .int .i64 0, .int .i64 0] ALL.out rfl _ _ rfl #[.int .i64 cc.id, .int .i64 cc.par, .bool cc.leaf, .int .u64 cc.ra, .int .u64 cc.rb, .int .u64 cc.rc, .int .u64 cc.la, .int .u64 cc.lb, .int .u64 cc.lc, .int .u64 cc.ua, .int .u64 cc.ub, .int .u64 cc.uc, .int .i64 cc.pk, .int .i64 cc.bt] rfl rfl INF.out rfl (ONE.out _) ?_; intro w4 hs4 hb4 hv4; have cpar : w4.cell? ⟨z2.heap.size, 1, none⟩ = some (.int .i64 cc.par) := hv4.cell 1 rfl; have HV4 := Lib.hid hv4; have HO4 := Lib.hid (row_bel HO2.out hb4); have HB4 := Lib.hid (HB2.out.trans (hb4.mono HB2.out.size)); have HT4 := Lib.hid (H.out.below HB4.out); have hl4 := hv4.lt; clear hb4 hv4)
     | (refine wpList_var_get rfl 54 _ rfl p #[.int .i64 cc.id, .int .i64 cc.par, .bool cc.leaf, .int .u64 cc.ra, .int .u64 cc.rb, .int .u64 cc.rc, .int .u64 cc.la, .int .u64 cc.lb, .int .u64 cc.lc, .int .u64 cc.ua, .int .u64 cc.ub, .int .u64 cc.uc, .int .i64 cc.pk, .int .i64 cc.bt] _ HV2.out rfl Try.underlying54 rfl INF.out ?_)
     | (at_builtin; refine wpList_append_own _ rfl _ _ 31 rfl w.heap.size 3 ii (.int .i64 0) 1 8 Try.underlying31 CI0.out CZ0.out CZ1.out CZ2.out rfl (by decide) (.slice ao m c) _ _ rfl (World.ownsRow.alloc HO.out _) ⟨_, 0, none⟩ 1 1 [Value.int .i64 cc.id] rfl rfl ?c1 ?c2 ?c3 ?c4 ?c5 ?_; (case c1 => (intro q u hu; rcases q with _ | q <;> simp at hu <;> (try subst hu) <;> simp [Addr.add, go_sem, *])); (case c2 => (intro v hv; simp at hv; subst hv; rfl)); (case c3 => (unfold maxLen; omega)); (case c4 => omega); (case c5 => (have := HB.out.size; simp; omega)); intro v2 z2 hown2 hg2 _; (have HB2 : Hid (Below w.heap.size w z2) := Lib.hid (HB.out.trans ((Below.alloc (Below.refl _ _) HB.out.size _).grown hg2 (by have := HB.out.size; simp; omega) (fun q hq => (HO.out.lt q hq).1)))); (have HV2 := Lib.hid ((HV0.out.alloc _).grown hg2 (World.ownsRow.alloc HO.out _) (by decide))); obtain ⟨a2, c2, rfl⟩ := row_form hown2; (have HO2 := Lib.hid hown2); clear hown2 hg2))
    go_roundg n
    case rel => exact ⟨cc.par, done ++ [cc.id], n, m + 1, a2, c2, _, rfl, rfl, rfl, HD1.out, HU1.out, by omega, HF1.out, HPAR.out, HV6.out, by rw [List.map_append]; exact HO6.out, HB2.out.size, HB6.out, Nat.le_refl _⟩
    case measure => omega
theorem hdep_c {w : World} {tb mb : Nat} {f : Int → Option Cls} (h : HT w tb mb f) (hok : ∀ x c, f x = some c → c.id = x ∧ iok c.par) (N : Nat) (hN : N ≤ 1000) (num : Int) (hid : iok num) (hf : fin f N num = true) :
  Calls Try.prog 54 #[.pointer (some ⟨tb, 0, none⟩), .int .i64 num] w fun ee w' => ee = .returned (.int .i64 (upl f N num).length) ∧ Below w.heap.size w w' := by
 have K := Lib.hid (hup_c h hok N hN num hid hf)
 clear h hok hf hid
 go_enter Try.func54, Try.ntmps54
 go_wp2_with (first | go_guarded | (go_at_call 62; (with_reducible refine K.out.mono ?_); rintro _ w1 ⟨v, rfl, hr, hb⟩; obtain ⟨a2, c2, rfl⟩ := row_form hr; have HB := Lib.hid hb; clear hr hb))
 go_ret
 exact ⟨rfl, HB.out⟩
end Go.Proofs.Ytmmahgfijiocfaa
end
