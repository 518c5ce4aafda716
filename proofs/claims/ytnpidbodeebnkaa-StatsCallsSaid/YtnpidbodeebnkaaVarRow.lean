/- A variable of many cells that is a block of its own: taken, laid and read as one. -/
import Derived.Test.YtnpidbodeebnkaaBaseA
import Derived.Test.YtnpidbodeebnkaaRows0
import Derived.Test.YtnpidbodeebnkaaRegS
import Derived.Deep.MidRow
import Derived.Deep.WholeRow
import Derived.Laws.CopyRow
namespace Go.Proofs.Ytnpidbodeebnkaa
set_option linter.unusedVariables false
set_option linter.unusedSimpArgs false
set_option maxRecDepth 100000
open Go.RowKit Fg Reg

/-- Block p is a variable of type ty that holds just these cells. -/
def VR (z : World) (p : Nat) (ty : TypeId) (cs : Array Value) : Prop := z.heap[p]? = some (.cells cs ty (0, 0))
section
variable {z z' : World} {p : Nat} {ty : TypeId} {cs : Array Value}
theorem VR.lt (h : VR z p ty cs) : p < z.heap.size := (Array.getElem?_eq_some_iff.1 h).1
theorem VR.cell (h : VR z p ty cs) (j : Nat) {v : Value} (hv : cs[j]? = some v) : z.cell? ⟨p, j, none⟩ = some v := by
  unfold VR at h
  simp [World.cell?, h, hv]
theorem VR.frozen (h : VR z p ty cs) (j : Nat) : z.frozen? ⟨p, j, none⟩ = false := by
  unfold VR at h
  simp [World.frozen?, h]
theorem VR.range (h : VR z p ty cs) : z.rangeAt p 0 cs.toList := fun j v hv => by
  rw [Nat.zero_add]
  exact h.cell j (by simpa using hv)
theorem VR.there (h : VR z p ty cs) : z.there p 0 cs.size := fun j hj => by
  rw [Nat.zero_add]
  exact ⟨by rw [h.cell j (Array.getElem?_eq_getElem hj)]; rfl, h.frozen j⟩
theorem VR.frame (h : VR z p ty cs) (he : z'.heap[p]? = z.heap[p]?) : VR z' p ty cs := he.trans h
theorem VR.below {B : Nat} (h : VR z p ty cs) (hb : Below B z z') (hp : p < B) : VR z' p ty cs := h.frame (hb.block p hp)
theorem VR.bel (h : VR z p ty cs) (hb : Below z.heap.size z z') : VR z' p ty cs := h.frame (hb.block p h.lt)
theorem VR.only {S : Nat → Prop} (h : VR z p ty cs) (ho : Only S z z') (hs : ¬ S p) : VR z' p ty cs := h.frame (ho.block p h.lt hs)
theorem VR.alloc (h : VR z p ty cs) (o : Obj) : VR (z.alloc o) p ty cs := h.frame (Below.heap_alloc _ _ _ h.lt)
theorem VR.new (w : World) (cs : Array Value) (ty : TypeId) : VR (w.alloc (.cells cs ty)) w.heap.size ty cs := by
  unfold VR
  exact heap_alloc_new w _
theorem VR.ne_row {base : Nat} {e : TypeId} {size n : Nat} {v : Value} {xs : List Value} (h : VR z p ty cs) (ho : z.ownsRow base e size v n xs) (hne : ty ≠ e) : v.ownBlock ≠ some p := by
  intro hp
  rcases ho.2 with ⟨rfl, _⟩ | ⟨g, cap, cur, rfl, _, hg, _⟩
  · simp [Value.ownBlock] at hp
  · simp only [Value.ownBlock, Option.some.injEq] at hp
    subst hp
    unfold VR at h
    rw [h] at hg
    simp only [Option.some.injEq, Obj.cells.injEq] at hg
    exact hne hg.2.1
theorem VR.ne_map {es : Array MapEntry} {ck mb : Nat} (h : VR z p ty cs) (hm : z.heap[mb]? = some (.map es ck)) : mb ≠ p := by
  rintro rfl
  unfold VR at h
  rw [h] at hm
  cases hm
theorem VR.grown {base : Nat} {e : TypeId} {size n : Nat} {v : Value} {xs : List Value} (h : VR z p ty cs) (hg : z.grownBy z' v.ownBlock) (ho : z.ownsRow base e size v n xs) (hne : ty ≠ e) : VR z' p ty cs :=
  h.frame (hg.block p h.lt fun e' => h.ne_row ho hne e'.symm)
/-- A row stays when only a variable of another type turns. -/
theorem own_var {base : Nat} {e : TypeId} {size n : Nat} {v : Value} {xs : List Value} (h : z.ownsRow base e size v n xs) (hv : VR z p ty cs) (hne : ty ≠ e) (ho : Only (fun k => k = p) z z') : z'.ownsRow base e size v n xs := by
  have hn := hv.ne_row h hne
  refine ⟨h.1, ?_⟩
  rcases h.2 with h' | ⟨g, cap, cur, h1, h2, h3, h4⟩
  · exact .inl h'
  · refine .inr ⟨g, cap, cur, h1, h2, ?_, h4⟩
    have hlt : g < z.heap.size := (Array.getElem?_eq_some_iff.1 h3).1
    rw [ho.block g hlt (fun e' => hn (by rw [h1, e']; rfl))]
    exact h3
end
section
variable {P : Program} {ops : Array Oper} {rest : List Oper} {a : Act} {w : World} {Q : Exit → Act → World → Prop}
/-- A variable is made, and laid at once. -/
theorem wpList_var_new {o1 o2 : Oper} (g1 : o1.guard = none) (g2 : o2.guard = none) (ty : TypeId) (zc : Array Value) (hz : ∀ w, (Instr.alloc ty true (.tuple #[])).run P w = .ok (.pointer (some ⟨w.heap.size, 0, none⟩)) (w.alloc (.cells zc ty)))
    (h1 : o1.op = .alloc ty) (x y : Operand) (h2 : o2.op = .store ty x y) (cells : Array Value)
    (hx : (a.put o1.dst (.pointer (some ⟨w.heap.size, 0, none⟩))).eval x = .pointer (some ⟨w.heap.size, 0, none⟩)) (hy : (a.put o1.dst (.pointer (some ⟨w.heap.size, 0, none⟩))).eval y = .agg cells)
    (hi : (P.info? ty).map (·.size) = some cells.size) (hs : zc.size = cells.size) (hone : cells.all (·.oneCell') = true)
    (hK : ∀ w1, w1.heap.size = w.heap.size + 1 → Below w.heap.size w w1 → VR w1 w.heap.size ty cells → wpList P ops Q rest ((a.put o1.dst (.pointer (some ⟨w.heap.size, 0, none⟩))).put o2.dst undef) w1) :
    wpList P ops Q (o1 :: o2 :: rest) a w := by
  refine wpList_plain g1 fun K1 hK1 => ?_
  unfold Oper.wp execOp
  simp only [h1, Sem.run_bind, Sem.run_pure, Result.andThen_ok, hz]
  refine hK1 _ _ (wpList_plain g2 fun K2 hK2 => ?_)
  unfold Oper.wp execOp
  simp only [h2, hx, hy, Sem.run_bind, Sem.run_pure, Result.andThen_ok, run_storeAt_new (P := P) w ty zc cells hi hs hone]
  exact hK2 _ _ (hK _ (by simp) (Below.alloc (Below.refl _ _) (Nat.le_refl _) _) (VR.new w cells ty))
/-- A variable is made, another is assigned, and it is laid. -/
theorem wpList_var_new3 {o1 om o2 : Oper} (g1 : o1.guard = none) (gm : om.guard = none) (g2 : o2.guard = none) (ty : TypeId) (zc : Array Value) (hz : ∀ w, (Instr.alloc ty true (.tuple #[])).run P w = .ok (.pointer (some ⟨w.heap.size, 0, none⟩)) (w.alloc (.cells zc ty)))
    (h1 : o1.op = .alloc ty) (xm : Operand) (hm : om.op = .assign xm) (x y : Operand) (h2 : o2.op = .store ty x y) (cells : Array Value) (vm : Value)
    (hxm : (a.put o1.dst (.pointer (some ⟨w.heap.size, 0, none⟩))).eval xm = vm)
    (hx : ((a.put o1.dst (.pointer (some ⟨w.heap.size, 0, none⟩))).put om.dst vm).eval x = .pointer (some ⟨w.heap.size, 0, none⟩)) (hy : ((a.put o1.dst (.pointer (some ⟨w.heap.size, 0, none⟩))).put om.dst vm).eval y = .agg cells)
    (hi : (P.info? ty).map (·.size) = some cells.size) (hs : zc.size = cells.size) (hone : cells.all (·.oneCell') = true)
    (hK : ∀ w1, w1.heap.size = w.heap.size + 1 → Below w.heap.size w w1 → VR w1 w.heap.size ty cells → wpList P ops Q rest (((a.put o1.dst (.pointer (some ⟨w.heap.size, 0, none⟩))).put om.dst vm).put o2.dst undef) w1) :
    wpList P ops Q (o1 :: om :: o2 :: rest) a w := by
  refine wpList_plain g1 fun K1 hK1 => ?_
  unfold Oper.wp execOp
  simp only [h1, Sem.run_bind, Sem.run_pure, Result.andThen_ok, hz]
  refine hK1 _ _ (wpList_plain gm fun K2 hK2 => ?_)
  unfold Oper.wp execOp
  simp only [hm, Sem.run_pure, hxm]
  refine hK2 _ _ (wpList_plain g2 fun K3 hK3 => ?_)
  unfold Oper.wp execOp
  simp only [h2, hx, hy, Sem.run_bind, Sem.run_pure, Result.andThen_ok, run_storeAt_new (P := P) w ty zc cells hi hs hone]
  exact hK3 _ _ (hK _ (by simp) (Below.alloc (Below.refl _ _) (Nat.le_refl _) _) (VR.new w cells ty))
/-- A variable is laid anew. -/
theorem wpList_var_set {o : Oper} (g : o.guard = none) (ty : TypeId) (x y : Operand) (h2 : o.op = .store ty x y) (p : Nat) (old cells : Array Value) (hv : VR w p ty old)
    (hx : a.eval x = .pointer (some ⟨p, 0, none⟩)) (hy : a.eval y = .agg cells)
    (hi : (P.info? ty).map (·.size) = some cells.size) (hs : old.size = cells.size) (hone : cells.all (·.oneCell') = true)
    (hK : ∀ w1, w1.heap.size = w.heap.size → Only (fun k => k = p) w w1 → VR w1 p ty cells → wpList P ops Q rest (a.put o.dst undef) w1) :
    wpList P ops Q (o :: rest) a w := by
  refine wpList_plain g fun K hK' => ?_
  have hst := run_storeCells_at (P := P) p 0 ty cells.toList 0 old w hv (by simp [hs]) (fun v hv => Array.all_eq_true_iff_forall_mem.1 hone v (by simpa using hv))
  have hrow : ((old.toList.take (0 + 0) ++ cells.toList ++ old.toList.drop (0 + 0 + cells.toList.length)).toArray) = cells := by
    rw [List.drop_eq_nil_of_le (by simp [hs])]
    simp
  rw [hrow] at hst
  have hsv : (storeVar ty ⟨p, 0, none⟩ (.agg cells)).run P w = .ok () (w.setRow p cells) := by
    cases hq : P.info? ty with
    | none => simp [hq] at hi
    | some i =>
      have hs' : cells.size = i.size := by simp [hq] at hi; omega
      simp [storeVar, sizeOf, typeInfo, hq, Value.cells, hs', hst]
  unfold Oper.wp execOp
  simp only [h2, hx, hy, Instr.storeAt, Instr.sureAddr, Sem.run_bind, Sem.run_pure, Result.andThen_ok, hsv]
  exact hK' _ _ (hK _ (by simp [World.setRow]) ⟨rfl, rfl, rfl, by simp [World.setRow], fun k _ hk => setRow_other w p k cells hk⟩ (setRow_heap w p old cells ty (0, 0) hv))
/-- A variable is read. -/
theorem wpList_var_get {o : Oper} (g : o.guard = none) (ty : TypeId) (x : Operand) (h2 : o.op = .load ty x) (p : Nat) (cells : Array Value) (d : TypeDesc) (hv : VR w p ty cells)
    (hx : a.eval x = .pointer (some ⟨p, 0, none⟩)) (hu : P.underlying ty = some d) (hd : d.isRow = true)
    (hi : (P.info? ty).map (·.size) = some cells.size)
    (hK : wpList P ops Q rest (a.put o.dst (.agg cells)) w) :
    wpList P ops Q (o :: rest) a w := by
  refine wpList_load_mid g ty x h2 p 0 hx cells.toList d hv.range hu hd (by simpa using hi) ?_
  simpa using hK
/-- A part of a variable. -/
theorem VR.part {z : World} {p : Nat} {ty : TypeId} {cs : Array Value} (h : VR z p ty cs) (o : Nat) (ys : List Value) (hy : ∀ j v, ys[j]? = some v → cs[o + j]? = some v) : z.rangeAt p o ys := fun j v hv => h.cell (o + j) (hy j v hv)
/-- A part of a variable is read. -/
theorem wpList_part_get {o : Oper} (g : o.guard = none) (ty : TypeId) (x : Operand) (h2 : o.op = .load ty x) (p q : Nat) (cells : Array Value) (d : TypeDesc) (hr : w.rangeAt p q cells.toList)
    (hx : a.eval x = .pointer (some ⟨p, q, none⟩)) (hu : P.underlying ty = some d) (hd : d.isRow = true)
    (hi : (P.info? ty).map (·.size) = some cells.size)
    (hK : wpList P ops Q rest (a.put o.dst (.agg cells)) w) :
    wpList P ops Q (o :: rest) a w := by
  refine wpList_load_mid g ty x h2 p q hx cells.toList d hr hu hd (by simpa using hi) ?_
  simpa using hK
/-- A variable is read behind a guard that holds. -/
theorem wpList_var_get_g {o : Oper} (ty : TypeId) (x : Operand) (h2 : o.op = .load ty x) (p : Nat) (cells : Array Value) (d : TypeDesc) (hv : VR w p ty cells)
    (hx : a.eval x = .pointer (some ⟨p, 0, none⟩)) (hu : P.underlying ty = some d) (hd : d.isRow = true)
    (hi : (P.info? ty).map (·.size) = some cells.size) (g : Region.wanted o (yielded ops a.tmps) = true)
    (hK : wpList P ops Q rest (a.put o.dst (.agg cells)) w) :
    wpList P ops Q (o :: rest) a w := by
  refine wpList_step fun K hK' => ?_
  rw [if_pos g]
  refine wp_load_mid ty x h2 p 0 hx cells.toList d hv.range hu hd (by simpa using hi) (hK' _ _ ?_)
  simpa using hK
theorem quiet_var {op : Oper} {C : World → Prop} (ty : TypeId) (x : Operand) (ho : op.op = .load ty x) (p : Nat) (cells : Array Value) (d : TypeDesc) (hv : VR w p ty cells)
    (hx : a.eval x = .pointer (some ⟨p, 0, none⟩)) (hu : P.underlying ty = some d) (hd : d.isRow = true) (hi : (P.info? ty).map (·.size) = some cells.size) : op.quietAt P a C w (.agg cells) := by
  have h := run_loadVar_mid (P := P) w p 0 ty cells.toList d hv.range hu hd (by simpa using hi)
  unfold Oper.quietAt execOp
  simp only [ho, hx, Instr.loadAt, Instr.sureAddr, Sem.run_bind, Sem.run_pure, Result.andThen_ok, h]
  exact ⟨by simp, rfl⟩
theorem effv_store {Cl : List (Nat × Value) → World → Prop} {k : Nat} {ps : List (Nat × Value)} {o : Oper} {ρ : Act} {w' : World} {X Y : Value} (ty : TypeId) (x y : Operand) (ho : o.op = .store ty x y) (hx : ρ.eval x = X) (hy : ρ.eval y = Y)
    (hr : (Instr.storeAt ty X Y).run P w = .ok () w') (h : Cl (ps ++ [(k, undef)]) w') : Reg2.effUpon P Cl k ps ((execOp ρ.eval o).run P w) := by
  unfold execOp
  simp only [ho, hx, hy, Sem.run_bind, Sem.run_pure, Result.andThen_ok, hr]
  exact h
theorem effv_map {Cl : List (Nat × Value) → World → Prop} {k : Nat} {ps : List (Nat × Value)} {o : Oper} {ρ : Act} {w' : World} {mv xv vv : Value} (m x v : Operand) (t : TypeId)
    (ho : o.op = Op.mapUpdate t m x v) (hm : ρ.eval m = mv) (hx : ρ.eval x = xv) (hv : ρ.eval v = vv) (hr : (Instr.mapUpdate t mv xv vv).run P w = .ok () w') (h : Cl (ps ++ [(k, undef)]) w') :
    Reg2.effUpon P Cl k ps ((execOp ρ.eval o).run P w) := by
  simp [execOp, ho, hm, hx, hv, hr, Result.andThen, Reg2.effUpon]
  exact h
theorem effv_alloc {Cl : List (Nat × Value) → World → Prop} {k : Nat} {ps : List (Nat × Value)} {o : Oper} {ρ : Act} {w' : World} {u : Value} (ty : TypeId) (ho : o.op = .alloc ty)
    (hr : (Instr.alloc ty true (.tuple #[])).run P w = .ok u w') (h : Cl (ps ++ [(k, u)]) w') : Reg2.effUpon P Cl k ps ((execOp ρ.eval o).run P w) := by
  unfold execOp
  simp only [ho, Sem.run_bind, Sem.run_pure, Result.andThen_ok, hr]
  exact h
end
end Go.Proofs.Ytnpidbodeebnkaa
