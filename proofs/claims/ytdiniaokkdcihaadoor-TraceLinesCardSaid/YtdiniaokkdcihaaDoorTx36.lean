/- trace.shaped of any words; slices.Delete of the second one. -/
import Derived.Test.YtdiniaokkdcihaaDoorTx33
import Derived.Test.YtdiniaokkdcihaaDoorLyD
import Derived.Test.YtdiniaokkdcihaaDoorTx30
import Derived.Shelf.Slices.Delete
namespace Go.Proofs.YtdiniaokkdcihaaDoor
set_option linter.unusedVariables false
set_option linter.unusedSimpArgs false
set_option maxRecDepth 100000
open Go.RowKit Fg Reg Go.Shelf
attribute [local irreducible] Reg.wE

/-- Words in a row. -/
def WR (z : World) (b o : Nat) (ls : List (List UInt8)) : Prop := ∀ j x, ls[j]? = some x → z.cell? ⟨b, o + j, none⟩ = some (.string ⟨x.toArray⟩)
theorem hasE_c (b c : Nat) (ls : List (List UInt8)) (z : World) (hR : WR z b 0 ls) (hl : ls.length ≤ 1000) :
    Calls Tryd.prog 106 #[.slice (some ⟨b, 0, none⟩) ls.length c, .string ⟨#[]⟩] z fun e w' => e = .returned (.bool (ls.any (·.isEmpty))) ∧ w' = z := by
  have h := Any.slices_Contains_string lhasstr b 0 ls.length c (ls.map fun l => (⟨l.toArray⟩ : ByteArray)) ⟨#[]⟩ z (by simp) (by omega) (fun j hj => by
    rw [List.length_map] at hj
    rw [hR j ls[j] (List.getElem?_eq_getElem hj)]
    simp [List.getD, hj])
  have e : Lib.containsS ((ls.map fun l => (⟨l.toArray⟩ : ByteArray)).take ls.length) ⟨#[]⟩ = ls.any (·.isEmpty) := by
    rw [List.take_of_length_le (by simp), Bool.eq_iff_iff, Lib.containsS_iff, List.any_eq_true, List.mem_map]
    constructor
    · rintro ⟨x, hx, h⟩
      refine ⟨x, hx, ?_⟩
      have h2 : x.toArray = #[] := congrArg ByteArray.data h
      simpa using h2
    · rintro ⟨x, hx, h⟩
      exact ⟨x, hx, by rw [List.isEmpty_iff.1 h]⟩
  rw [e] at h
  exact h
/-- May they be those of a line? -/
def shp (ls : List (List UInt8)) : Bool := !(ls.any (·.isEmpty)) && decide (2 ≤ ls.length) && (if ls[1]? = some [105, 110] then decide (ls.length = 10) else if ls[1]? = some [114, 101, 97, 108] ∨ ls[1]? = some [115, 104, 97, 114, 101] then decide (ls.length = 11) else false)
theorem shaped_c (b c : Nat) (ls : List (List UInt8)) (z : World) (hR : WR z b 0 ls) (hl : ls.length ≤ 1000) :
    Calls Tryd.prog 69 #[.slice (some ⟨b, 0, none⟩) ls.length c] z fun e w' => e = .returned (.bool (shp ls)) ∧ w' = z := by
  have K := Lib.hid (hasE_c b c ls z hR hl)
  unfold shp
  by_cases he : ls.any (·.isEmpty) = true
  · rw [he] at K ⊢
    clear hR he
    go_enter Tryd.func69, Tryd.ntmps69
    go_wp2_with (go_at_call 106; (with_reducible refine (K.out).mono ?_); rintro e w' ⟨rfl, rfl⟩)
    all_goals (go_ret; exact ⟨rfl, rfl⟩)
  have he : ls.any (·.isEmpty) = false := Bool.eq_false_iff.2 he
  rw [he] at K ⊢
  by_cases h2 : ls.length < 2
  · have d1 : decide ((ls.length : Int) < 2) = true := by simp; omega
    rw [show decide (2 ≤ ls.length) = false by simp; omega]
    clear hR he
    go_enter Tryd.func69, Tryd.ntmps69
    go_wp2_with (go_at_call 106; (with_reducible refine (K.out).mono ?_); rintro e w' ⟨rfl, rfl⟩)
    all_goals (go_ret; exact ⟨rfl, rfl⟩)
  have d1 : decide ((ls.length : Int) < 2) = false := by simp; omega
  have d2 : (1 : Int) < ls.length := by omega
  rw [show decide (2 ≤ ls.length) = true by simp; omega]
  have hx : ls[1]? = some ls[1] := List.getElem?_eq_getElem (by omega)
  rw [hx]
  obtain ⟨x, hxe⟩ : ∃ x, ls[1] = x := ⟨_, rfl⟩
  rw [hxe] at hx ⊢
  have h1 := hR 1 x hx
  rw [Nat.zero_add] at h1
  obtain ⟨P, hP⟩ : ∃ P : ByteArray, (⟨x.toArray⟩ : ByteArray) = P := ⟨_, rfl⟩
  have hPL : P.toList = x := by rw [← hP, ByteArray.toList_eq]
  rw [hP] at h1
  clear hP hxe hx hR he
  have e10 : ((ls.length : Int) == 10) = decide (ls.length = 10) := by
    rw [Bool.eq_iff_iff]; simp; omega
  have e11 : ((ls.length : Int) == 11) = decide (ls.length = 11) := by
    rw [Bool.eq_iff_iff]; simp; omega
  generalize decide (ls.length = 10) = b10 at *
  generalize decide (ls.length = 11) = b11 at *
  by_cases c1 : x = [105, 110]
  · subst c1
    have f1 : (P.toList == [105, 110]) = true := by rw [hPL]; rfl
    clear hPL
    simp only [Bool.not_false, Bool.true_and, if_true]
    go_enter Tryd.func69, Tryd.ntmps69
    go_wp2_with (go_at_call 106; (with_reducible refine (K.out).mono ?_); rintro e w' ⟨rfl, rfl⟩)
    go_ret
    exact ⟨rfl, rfl⟩
  have f1 : (P.toList == [105, 110]) = false := by rw [hPL]; simpa using c1
  rw [if_neg (by simpa using c1)]
  by_cases c2 : x = [114, 101, 97, 108]
  · subst c2
    have f2 : (P.toList == [114, 101, 97, 108]) = true := by rw [hPL]; rfl
    clear hPL c1
    simp only [Bool.not_false, Bool.true_and, true_or, if_true]
    go_enter Tryd.func69, Tryd.ntmps69
    go_wp2_with (go_at_call 106; (with_reducible refine (K.out).mono ?_); rintro e w' ⟨rfl, rfl⟩)
    go_ret
    exact ⟨rfl, rfl⟩
  have f2 : (P.toList == [114, 101, 97, 108]) = false := by rw [hPL]; simpa using c2
  by_cases c3 : x = [115, 104, 97, 114, 101]
  · subst c3
    have f3 : (P.toList == [115, 104, 97, 114, 101]) = true := by rw [hPL]; rfl
    clear hPL c1 c2
    simp only [Bool.not_false, Bool.true_and, or_true, if_true]
    go_enter Tryd.func69, Tryd.ntmps69
    go_wp2_with (go_at_call 106; (with_reducible refine (K.out).mono ?_); rintro e w' ⟨rfl, rfl⟩)
    go_ret
    exact ⟨rfl, rfl⟩
  have f3 : (P.toList == [115, 104, 97, 114, 101]) = false := by rw [hPL]; simpa using c3
  rw [if_neg (by simp [c2, c3])]
  clear hPL c1 c2 c3
  go_enter Tryd.func69, Tryd.ntmps69
  go_wp2_with (go_at_call 106; (with_reducible refine (K.out).mono ?_); rintro e w' ⟨rfl, rfl⟩)
  go_ret
  exact ⟨rfl, rfl⟩
theorem only_map {w : World} {b : Nat} (f : Array Value → Array Value) (q : Nat) : Only (fun k => k = b) w (Go.Sort.mapBlock (Sort.ahead w q) b f) := by
  refine ⟨rfl, rfl, rfl, by simp [Go.Sort.mapBlock], fun k hk hne => ?_⟩
  show (w.heap.modify b (Go.Sort.onCells f))[k]? = w.heap[k]?
  rw [Array.getElem?_modify, if_neg (fun e => hne e.symm)]
theorem del_c (b c : Nat) (ls : List (List UInt8)) (z : World) (hR : WR z b 0 ls) (hF : ∀ j, j < ls.length → z.frozen? ⟨b, j, none⟩ = false) (hl : ls.length ≤ 1000) (h2 : 2 ≤ ls.length) (hc : ls.length ≤ c) (hc2 : c ≤ 1000) :
    Calls Tryd.prog 70 #[.slice (some ⟨b, 0, none⟩) ls.length c, .int .i64 1, .int .i64 2] z fun e w' => e = .returned (.slice (some ⟨b, 0, none⟩) (ls.length - 1) c) ∧ WR w' b 0 (ls.take 1 ++ ls.drop 2) ∧ Only (fun k => k = b) z w' := by
  have hH : Go.Sort.Holds encStr z b 0 ls.toArray := fun j hj => by
    have hj' : j < ls.length := by simpa using hj
    refine ⟨?_, by rw [Nat.zero_add]; exact hF j hj'⟩
    rw [hR j ls[j] (List.getElem?_eq_getElem hj')]
    simp [hj']
  refine (Any.slices_Delete_string ldel b 0 c 1 2 ls z hH hc (by omega) (by omega) h2).mono ?_
  rintro e w' ⟨rfl, q, rfl⟩
  refine ⟨rfl, fun j x hj => ?_, only_map _ _⟩
  have hp := Go.Sort.holds_putRow encStr (Sort.ahead z q) b 0 ls.toArray (ls.take 1 ++ ls.drop 2 ++ List.replicate (2 - 1) []).toArray hH (by simp; omega)
  have hjl : j < (ls.take 1 ++ ls.drop 2).length := by
    rcases Nat.lt_or_ge j (ls.take 1 ++ ls.drop 2).length with h | h
    · exact h
    · rw [List.getElem?_eq_none h] at hj; cases hj
  have h := (hp j (by simp at hjl ⊢; omega)).1
  rw [h]
  have e : (ls.take 1 ++ ls.drop 2 ++ List.replicate (2 - 1) []).toArray[j]! = x := by
    rw [getElem!_pos _ j (by simp at hjl ⊢; omega)]
    rw [List.getElem_toArray, List.getElem_append_left hjl]
    rw [List.getElem?_eq_getElem hjl] at hj
    exact Option.some.inj hj
  rw [e]
end Go.Proofs.YtdiniaokkdcihaaDoor
