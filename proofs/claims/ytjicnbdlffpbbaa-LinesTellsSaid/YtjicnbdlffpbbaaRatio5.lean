import Derived.Test.YtjicnbdlffpbbaaRatio4
namespace Go.Proofs.Ytjicnbdlffpbbaa
set_option linter.unusedVariables false
set_option linter.unusedSimpArgs false
set_option maxRecDepth 100000
open Go.RowKit Fg Reg

theorem cmp_lt' {x y : Int} (h : x < y) : cmp x y = -1 := by unfold cmp; rw [if_neg (by omega), if_pos h]
theorem cmp_gt' {x y : Int} (h : y < x) : cmp x y = 1 := by unfold cmp; rw [if_neg (by omega), if_neg (by omega)]
theorem cmp_self' (x : Int) : cmp x x = 0 := by unfold cmp; rw [if_pos rfl]
theorem cmp_anti (x y : Int) : cmp y x = -cmp x y := by
  unfold cmp; split <;> split <;> (try split) <;> (try split) <;> omega
theorem cmp_cases (x y : Int) : (decide (x < y) = false ∧ decide (y < x) = false ∧ cmp x y = 0) ∨ (decide (x < y) = true ∧ decide (y < x) = false ∧ cmp x y = -1) ∨ (decide (x < y) = false ∧ decide (y < x) = true ∧ cmp x y = 1) := by
  rcases Int.lt_trichotomy x y with h | h | h
  · exact .inr (.inl ⟨by simpa using h, by simp; omega, cmp_lt' h⟩)
  · subst h; exact .inl ⟨by simp, by simp, cmp_self' x⟩
  · exact .inr (.inr ⟨by simp; omega, by simpa using h, cmp_gt' h⟩)

end Go.Proofs.Ytjicnbdlffpbbaa
