/- Going through a text's signs; inspect.Number. -/
import Derived.Test.YtdiniaokkdcihaaDoorTx0
import Derived.Test.YtdiniaokkdcihaaDoorBaseA
import Derived.Lib.Strings
namespace Go.Proofs.YtdiniaokkdcihaaDoor
set_option linter.unusedVariables false
set_option linter.unusedSimpArgs false
set_option maxRecDepth 100000
open Go.RowKit Fg Reg
attribute [local irreducible] Reg.wE

/-- A loop over a text, at a place of it. -/
def StrIt (z : World) (r : Nat) (s : ByteArray) (pos : Nat) : Prop := z.heap[r]? = some (.stringIter s pos)
theorem StrIt.lt {z : World} {r : Nat} {s : ByteArray} {pos : Nat} (h : StrIt z r s pos) : r < z.heap.size := (Array.getElem?_eq_some_iff.1 h).1
theorem StrIt.frame {z z' : World} {r : Nat} {s : ByteArray} {pos : Nat} (h : StrIt z r s pos) (e : z'.heap[r]? = z.heap[r]?) : StrIt z' r s pos := by unfold StrIt at *; rw [e]; exact h
theorem StrIt.below {z z' : World} {r : Nat} {s : ByteArray} {pos : Nat} (h : StrIt z r s pos) (hb : Below z.heap.size z z') : StrIt z' r s pos := h.frame (hb.block r h.lt)
theorem StrIt.alloc {z : World} {r : Nat} {s : ByteArray} {pos : Nat} (h : StrIt z r s pos) (o : Obj) : StrIt (z.alloc o) r s pos := h.frame (Below.heap_alloc _ _ _ h.lt)
theorem StrIt.set {z : World} {r : Nat} {s : ByteArray} {pos : Nat} (h : StrIt z r s pos) {p : Addr} (h1 : r ≠ p.block) (u : Value) : StrIt (z.setCell p u) r s pos := h.frame (Below.heap_setCell z p u r h1)
def setBlkT (w : World) (b : Nat) (o : Obj) : World := { w with heap := w.heap.setIfInBounds b o }
def posOf (z : World) (r : Nat) : Nat := match z.heap[r]? with | some (.stringIter _ p) => p | _ => 0
theorem StrIt.pos {z : World} {r : Nat} {s : ByteArray} {pos : Nat} (h : StrIt z r s pos) : posOf z r = pos := by unfold posOf; unfold StrIt at h; rw [h]
theorem setBlkT_only {w : World} {r : Nat} {o : Obj} : Only (fun k => k = r) w (setBlkT w r o) := ⟨rfl, rfl, rfl, by simp [setBlkT], fun k hk hs => by simp [setBlkT, Ne.symm hs]⟩
theorem run_next_str {P : Program} (w : World) (s : ByteArray) (pos r : Nat) (ty : TypeId) (h : pos < s.size) (hr : StrIt w r s pos) :
    (Instr.next (.pointer (some ⟨r, 0, none⟩)) true ty).run P w = .ok (.tuple #[.bool true, .int .i64 pos, .int .i32 (Utf8.decode s pos).1]) (setBlkT w r (.stringIter s (pos + (Utf8.decode s pos).2))) := by
  unfold StrIt at hr
  simp [Instr.next, getObj, setObj, Sem.run_bind, Sem.run, hr, Result.andThen, h, goInt, setBlkT]
theorem run_next_over {P : Program} (w : World) (s : ByteArray) (pos r : Nat) (ty : TypeId) (h : ¬ pos < s.size) (hr : StrIt w r s pos) :
    (Instr.next (.pointer (some ⟨r, 0, none⟩)) true ty).run P w = .ok (.tuple #[.bool false]) w := by
  unfold StrIt at hr
  simp [Instr.next, getObj, Sem.run, hr, h]
theorem wpList_range_str {P : Program} {w : World} {ops : Array Oper} {rest : List Oper} {o : Oper} {a : Act} {Q : Exit → Act → World → Prop} (hg : o.guard = none) (m : Operand) (t : TypeId) (hop : o.op = Op.range t m) (ht : P.underlying t = some .string)
    (s : ByteArray) (hm : a.eval m = .string s) (n : Nat) (hn : w.heap.size = n)
    (hK : ∀ w', StrIt w' n s 0 → Below w.heap.size w w' → w'.heap.size = w.heap.size + 1 → wpList P ops Q rest (a.put o.dst (.pointer (some ⟨n, 0, none⟩))) w') : wpList P ops Q (o :: rest) a w := by
  subst hn
  refine wpList_plain hg fun K' hK' => ?_
  have hrun := run_range_string (P := P) w t s ht
  unfold Oper.wp
  simp [execOp, hop, hm, hrun, Result.andThen]
  exact hK' _ _ (hK _ (World.iter_heap w s 0) (Below.alloc (Below.refl _ _) (Nat.le_refl _) _) (by simp [World.iter]))
theorem wpList_next_str {P : Program} {w : World} {ops : Array Oper} {rest : List Oper} {o : Oper} {a : Act} {Q : Exit → Act → World → Prop} (hg : o.guard = none) (it : Operand) (hop : o.op = Op.next it true) (r : Nat) (s : ByteArray) (pos : Nat)
    (hit : a.eval it = .pointer (some ⟨r, 0, none⟩)) (h1 : StrIt w r s pos) (hp : pos < s.size) (rn : Int) (st : Nat) (hr : ((Utf8.decode s pos).1 : Int) = rn) (hst : (Utf8.decode s pos).2 = st)
    (hK : ∀ w', StrIt w' r s (pos + st) → Only (fun k => k = r) w w' → w'.heap.size = w.heap.size → wpList P ops Q rest (a.put o.dst (.tuple #[.bool true, .int .i64 pos, .int .i32 rn])) w') : wpList P ops Q (o :: rest) a w := by
  subst hr hst
  refine wpList_plain hg fun K' hK' => ?_
  have hrun := run_next_str (P := P) w s pos r o.type hp h1
  unfold Oper.wp
  simp [execOp, hop, hit, hrun, Result.andThen]
  exact hK' _ _ (hK _ (by unfold StrIt; simp [setBlkT, h1.lt]) setBlkT_only (by simp [setBlkT]))
theorem wpList_next_over {P : Program} {w : World} {ops : Array Oper} {rest : List Oper} {o : Oper} {a : Act} {Q : Exit → Act → World → Prop} (hg : o.guard = none) (it : Operand) (hop : o.op = Op.next it true) (r : Nat) (s : ByteArray) (pos : Nat)
    (hit : a.eval it = .pointer (some ⟨r, 0, none⟩)) (h1 : StrIt w r s pos) (hp : ¬ pos < s.size) (hK : wpList P ops Q rest (a.put o.dst (.tuple #[.bool false])) w) : wpList P ops Q (o :: rest) a w := by
  refine wpList_plain hg fun K' hK' => ?_
  have hrun := run_next_over (P := P) w s pos r o.type hp h1
  unfold Oper.wp
  simp [execOp, hop, hit, hrun, Result.andThen]
  exact hK' _ _ hK
theorem decode_ge (s : ByteArray) (pos : Nat) (h : pos < s.size) (ha : 128 ≤ (s[pos]'h).toNat) : 128 ≤ (Utf8.decode s pos).1 ∧ (Utf8.decode s pos).1 < 2097152 := by
  have e : s.get! (pos + 0) = s[pos]'h := by
    show s.get! pos = _
    simp [ByteArray.get!, getElem!_pos, h]
    rfl
  have hv : Utf8.runeError = 65533 := rfl
  have hb := (s[pos]'h).toNat_lt
  simp only [Utf8.decode, e, hv]
  rw [if_neg (by omega)]
  repeat' split
  all_goals (simp only [Bool.and_eq_true, decide_eq_true_eq, beq_iff_eq, ge_iff_le] at *; omega)
theorem byte_at (S : ByteArray) (k : Nat) (h : k < S.size) : S.data.toList[k]'(by rw [Array.length_toList]; exact h) = S[k]'h := by
  rw [Array.getElem_toList]; rfl
theorem val_yes (r : Int) (h0 : 48 ≤ r) (h1 : r ≤ 57) (w : World) : Calls Tryd.prog 74 #[.int .i32 r] w fun ee w' => ee = .returned (.tuple #[.int .u64 (r - 48), .bool true]) ∧ Below w.heap.size w w' := by
  have d0 : decide (r < 48) = false := by simp; omega
  have d1 : decide (57 < r) = false := by simp; omega
  have W1 : IntKind.i32.wrap (r - 48) = r - 48 := by rw [IntKind.wrap_i32]; omega
  have W2 : IntKind.u64.wrap (r - 48) = r - 48 := by rw [wrap_u64]; omega
  go_enter Tryd.func74, Tryd.ntmps74
  go_wp2
  (go_ret2; refine ⟨?_, ?_⟩; (focus (exact rfl)); ((repeat' (first | with_reducible exact Below.refl _ _ | with_reducible assumption | ((with_reducible refine Below.drew ?_)) | ((with_reducible refine below_drewN ?_ _)) | ((with_reducible refine Below.alloc ?_ ?_ _); rotate_left; focus (first | omega | (simp; done) | (simp; omega))) | ((with_reducible refine Below.setCell ?_ ?_ _); rotate_left; focus (first | omega | (simp; done) | (simp; omega))) | ((with_reducible refine Below.trans ?_ (Below.mono (by with_reducible assumption) ?_)); rotate_left; focus (first | omega | (simp; done) | (simp; omega))))); done))
theorem val_no (r : Int) (h : r < 48 ∨ 57 < r) (w : World) : Calls Tryd.prog 74 #[.int .i32 r] w fun ee w' => ee = .returned (.tuple #[.int .u64 0, .bool false]) ∧ Below w.heap.size w w' := by
  by_cases h0 : r < 48
  · have d0 : decide (r < 48) = true := by simpa using h0
    go_enter Tryd.func74, Tryd.ntmps74
    go_wp2
    (go_ret2; refine ⟨?_, ?_⟩; (focus (exact rfl)); ((repeat' (first | with_reducible exact Below.refl _ _ | with_reducible assumption | ((with_reducible refine Below.drew ?_)) | ((with_reducible refine below_drewN ?_ _)) | ((with_reducible refine Below.alloc ?_ ?_ _); rotate_left; focus (first | omega | (simp; done) | (simp; omega))) | ((with_reducible refine Below.setCell ?_ ?_ _); rotate_left; focus (first | omega | (simp; done) | (simp; omega))) | ((with_reducible refine Below.trans ?_ (Below.mono (by with_reducible assumption) ?_)); rotate_left; focus (first | omega | (simp; done) | (simp; omega))))); done))
  · have d0 : decide (r < 48) = false := by simpa using h0
    have d1 : decide (57 < r) = true := by simp; omega
    go_enter Tryd.func74, Tryd.ntmps74
    go_wp2
    (go_ret2; refine ⟨?_, ?_⟩; (focus (exact rfl)); ((repeat' (first | with_reducible exact Below.refl _ _ | with_reducible assumption | ((with_reducible refine Below.drew ?_)) | ((with_reducible refine below_drewN ?_ _)) | ((with_reducible refine Below.alloc ?_ ?_ _); rotate_left; focus (first | omega | (simp; done) | (simp; omega))) | ((with_reducible refine Below.setCell ?_ ?_ _); rotate_left; focus (first | omega | (simp; done) | (simp; omega))) | ((with_reducible refine Below.trans ?_ (Below.mono (by with_reducible assumption) ?_)); rotate_left; focus (first | omega | (simp; done) | (simp; omega))))); done))
theorem num_none (most : Int) (w : World) : Calls Tryd.prog 28 #[.string ⟨#[]⟩, .int .u64 most] w fun ee w' => ee = .returned (.tuple #[.int .u64 (0), .int .i64 (4)]) ∧ Below w.heap.size w w' := by
  go_enter Tryd.func28, Tryd.ntmps28
  go_wp2
  (go_ret2; refine ⟨?_, ?_⟩; (focus (exact rfl)); ((repeat' (first | with_reducible exact Below.refl _ _ | with_reducible assumption | ((with_reducible refine Below.drew ?_)) | ((with_reducible refine below_drewN ?_ _)) | ((with_reducible refine Below.alloc ?_ ?_ _); rotate_left; focus (first | omega | (simp; done) | (simp; omega))) | ((with_reducible refine Below.setCell ?_ ?_ _); rotate_left; focus (first | omega | (simp; done) | (simp; omega))) | ((with_reducible refine Below.trans ?_ (Below.mono (by with_reducible assumption) ?_)); rotate_left; focus (first | omega | (simp; done) | (simp; omega))))); done))
theorem not_empty {S : ByteArray} (h : 0 < S.size) : S.toList.isEmpty = false := by
  rw [ByteArray.toList_eq]
  rw [Bool.eq_false_iff]; intro e
  rw [List.isEmpty_iff] at e
  have : S.data.toList.length = 0 := by rw [e]; rfl
  rw [Array.length_toList] at this
  have h2 : S.size = S.data.size := rfl
  omega
theorem num_zero (S : ByteArray) (hs : 1 < S.size) (h0 : (S[0]'(by omega)).toNat = 48) (most : Int) (w : World) : Calls Tryd.prog 28 #[.string S, .int .u64 most] w fun ee w' => ee = .returned (.tuple #[.int .u64 (0), .int .i64 (4)]) ∧ Below w.heap.size w w' := by
  have hE := not_empty (by omega : 0 < S.size)
  have hI : ∀ (h : 0 < S.size), (S[0]'h).toNat = 48 := fun _ => h0
  have d1 : decide ((1 : Int) < S.size) = true := by simp; omega
  have d2 : (0 : Int) < S.size := by omega
  clear h0
  go_enter Tryd.func28, Tryd.ntmps28
  go_wp2
  (go_ret2; refine ⟨?_, ?_⟩; (focus (exact rfl)); ((repeat' (first | with_reducible exact Below.refl _ _ | with_reducible assumption | ((with_reducible refine Below.drew ?_)) | ((with_reducible refine below_drewN ?_ _)) | ((with_reducible refine Below.alloc ?_ ?_ _); rotate_left; focus (first | omega | (simp; done) | (simp; omega))) | ((with_reducible refine Below.setCell ?_ ?_ _); rotate_left; focus (first | omega | (simp; done) | (simp; omega))) | ((with_reducible refine Below.trans ?_ (Below.mono (by with_reducible assumption) ?_)); rotate_left; focus (first | omega | (simp; done) | (simp; omega))))); done))
end Go.Proofs.YtdiniaokkdcihaaDoor
