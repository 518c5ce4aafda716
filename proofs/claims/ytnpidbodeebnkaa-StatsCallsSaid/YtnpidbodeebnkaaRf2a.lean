/- The reference: Count. -/
import Derived.Test.YtnpidbodeebnkaaRf1
namespace Go.Proofs.Ytnpidbodeebnkaa
set_option linter.unusedVariables false
set_option linter.unusedSimpArgs false
set_option maxRecDepth 100000
open Go.RowKit Fg Reg Go.Maps
attribute [local irreducible] Reg.wN Reg.wE QR

theorem r7_all (w : World) : (Instr.alloc 43 true (.tuple #[])).run Try.prog w = .ok (.pointer (some ⟨w.heap.size, 0, none⟩)) (w.alloc (.cells #[.int .u64 0, .int .u64 0, .int .u64 0, .int .u64 0, .int .u64 0] 43)) := by kernel_rfl
theorem r7_info : (Try.prog.info? 43).map (·.size) = some 5 := by kernel_rfl
theorem VR.set {z : World} {q : Nat} {ty : TypeId} {cs : Array Value} (h : VR z q ty cs) (j : Nat) (v : Value) : VR (z.setCell ⟨q, j, none⟩ v) q ty (cs.setIfInBounds j v) := by
  unfold VR at *
  obtain ⟨hlt, hk⟩ := Array.getElem?_eq_some_iff.1 h
  show (z.heap.modify q _)[q]? = _
  rw [Array.getElem?_eq_getElem (by rw [Array.size_modify]; exact hlt), Array.getElem_modify_self, hk]
  rfl
theorem VR.setN {z : World} {p q : Nat} {ty : TypeId} {cs : Array Value} (h : VR z p ty cs) (hne : p ≠ q) (j : Nat) (v : Value) : VR (z.setCell ⟨q, j, none⟩ v) p ty cs := h.frame (Below.heap_setCell z ⟨q, j, none⟩ v p hne)
theorem st_u64 (w : World) (p : Addr) (old : Value) (v : Int) (h1 : w.cell? p = some old) (h2 : w.frozen? p = false) : (Instr.storeAt 27 (.pointer (some p)) (.int .u64 v)).run Try.prog w = .ok () (w.setCell p (.int .u64 v)) := by
  simp [go_sem, h1, h2]
theorem wpList_cell_set {ops : Array Oper} {rest : List Oper} {a : Act} {w : World} {Q : Exit → Act → World → Prop} {o : Oper} (g : o.guard = none) (x y : Operand) (h2 : o.op = .store 27 x y) (q j : Nat) (ty : TypeId) (cs : Array Value) (hv : VR w q ty cs) (v : Int)
    (hx : a.eval x = .pointer (some ⟨q, j, none⟩)) (hy : a.eval y = .int .u64 v) (old : Value) (hj : cs[j]? = some old) (cs2 : Array Value) (he : cs.setIfInBounds j (.int .u64 v) = cs2)
    (hK : ∀ w1, w1.heap.size = w.heap.size → Only (fun k => k = q) w w1 → VR w1 q ty cs2 → wpList Try.prog ops Q rest (a.put o.dst undef) w1) :
    wpList Try.prog ops Q (o :: rest) a w := by
  refine wpList_plain g fun K hK' => ?_
  have hr := st_u64 w ⟨q, j, none⟩ old v (hv.cell j hj) (hv.frozen j)
  unfold Oper.wp execOp
  simp only [h2, hx, hy, Sem.run_bind, Sem.run_pure, Result.andThen_ok, hr]
  refine hK' _ _ (hK _ (by simp) ?_ (by rw [← he]; exact hv.set j _))
  exact ⟨rfl, rfl, rfl, by simp, fun k hk hne => Below.heap_setCell w ⟨q, j, none⟩ _ k hne⟩
/-- One more is counted. -/
def cst (x : R5) (q : PK) : R5 := ⟨IntKind.u64.wrap (x.a + 1), IntKind.u64.wrap (x.b + IntKind.u64.wrap q.ln), if q.rl = true then IntKind.u64.wrap (x.c + 1) else x.c, IntKind.u64.wrap (IntKind.u64.wrap (x.d + q.dn) - q.ta), if IntKind.u64.wrap (q.dn - q.ta) > x.e then IntKind.u64.wrap (q.dn - q.ta) else x.e⟩
theorem cst_tog {x : R5} (h : NR x) (q : PK) : cst x q = tog x q.row := by
  refine R5.ext' rfl rfl ?_ ?_ rfl
  · show (if q.rl = true then IntKind.u64.wrap (x.c + 1) else x.c) = IntKind.u64.wrap (x.c + (if q.rl = true then 1 else 0))
    split
    · rfl
    · rw [Int.add_zero, wrap_id h.c]
  · show IntKind.u64.wrap (IntKind.u64.wrap (x.d + q.dn) - q.ta) = IntKind.u64.wrap (x.d + IntKind.u64.wrap (q.dn - q.ta))
    simp only [wrap_u64]
    omega
theorem cst_00 {x : R5} {q : PK} {y : Int} (h1 : q.rl = false) (h2 : IntKind.u64.wrap (q.dn - q.ta) = y) (h3 : ¬ y > x.e) : cst x q = ⟨IntKind.u64.wrap (x.a + 1), IntKind.u64.wrap (x.b + IntKind.u64.wrap q.ln), x.c, IntKind.u64.wrap (IntKind.u64.wrap (x.d + q.dn) - q.ta), x.e⟩ := by unfold cst; rw [h2, if_neg h3, if_neg (by rw [h1]; simp)]
theorem cst_01 {x : R5} {q : PK} {y : Int} (h1 : q.rl = false) (h2 : IntKind.u64.wrap (q.dn - q.ta) = y) (h3 : y > x.e) : cst x q = ⟨IntKind.u64.wrap (x.a + 1), IntKind.u64.wrap (x.b + IntKind.u64.wrap q.ln), x.c, IntKind.u64.wrap (IntKind.u64.wrap (x.d + q.dn) - q.ta), y⟩ := by unfold cst; rw [h2, if_pos h3, if_neg (by rw [h1]; simp)]
theorem cst_10 {x : R5} {q : PK} {y : Int} (h1 : q.rl = true) (h2 : IntKind.u64.wrap (q.dn - q.ta) = y) (h3 : ¬ y > x.e) : cst x q = ⟨IntKind.u64.wrap (x.a + 1), IntKind.u64.wrap (x.b + IntKind.u64.wrap q.ln), IntKind.u64.wrap (x.c + 1), IntKind.u64.wrap (IntKind.u64.wrap (x.d + q.dn) - q.ta), x.e⟩ := by unfold cst; rw [h2, if_neg h3, if_pos h1]
theorem cst_11 {x : R5} {q : PK} {y : Int} (h1 : q.rl = true) (h2 : IntKind.u64.wrap (q.dn - q.ta) = y) (h3 : y > x.e) : cst x q = ⟨IntKind.u64.wrap (x.a + 1), IntKind.u64.wrap (x.b + IntKind.u64.wrap q.ln), IntKind.u64.wrap (x.c + 1), IntKind.u64.wrap (IntKind.u64.wrap (x.d + q.dn) - q.ta), y⟩ := by unfold cst; rw [h2, if_pos h3, if_pos h1]
/-- Is it counted? -/
def kep (all : Bool) (c : Int) (q : PK) : Bool := q.gn && (all || q.cl == c)
def cntG (all : Bool) (c : Int) (l : List PK) : R5 := sums r50 ((l.filter (kep all c)).map PK.row)
theorem cntG_one (c : Int) (l : List PK) : cntG false c l = cntC c l := by
  unfold cntG cntC goneC
  congr 2
theorem cntG_all (c : Int) (l : List PK) : cntG true c l = cntA l := by
  unfold cntG cntA goneA
  congr 2
  exact List.filter_congr fun q _ => by unfold kep; simp
theorem cntG_nr (all : Bool) (c : Int) (l : List PK) : NR (cntG all c l) := sums_nr _ r50_nr (fun r hr => by obtain ⟨q, _, rfl⟩ := List.mem_map.1 hr; exact row_nr q)
theorem cntG_yes {all : Bool} {c : Int} {l : List PK} {k : Nat} (h : k < l.length) (h1 : kep all c l[k] = true) : cntG all c (l.take (k + 1)) = cst (cntG all c (l.take k)) l[k] := by
  rw [cst_tog (cntG_nr _ _ _)]
  unfold cntG
  rw [take_sn l k h, List.filter_append, List.filter_cons_of_pos (p := kep all c) h1, List.map_append, sums_app]; rfl
theorem cntG_no {all : Bool} {c : Int} {l : List PK} {k : Nat} (h : k < l.length) (h1 : kep all c l[k] = false) : cntG all c (l.take (k + 1)) = cntG all c (l.take k) := by
  unfold cntG
  rw [take_sn l k h, List.filter_append, List.filter_cons_of_neg (p := kep all c) (by rw [h1]; simp), List.filter_nil, List.append_nil]
end Go.Proofs.Ytnpidbodeebnkaa
