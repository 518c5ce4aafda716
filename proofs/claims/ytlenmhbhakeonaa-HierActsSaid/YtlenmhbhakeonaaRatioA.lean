import Derived.Test.YtlenmhbhakeonaaWideA
import Derived.Test.YtlenmhbhakeonaaRefA
namespace Go.Proofs.Ytlenmhbhakeonaa
set_option linter.unusedVariables false
set_option linter.unusedSimpArgs false
set_option maxRecDepth 100000
open Go.RowKit Fg Reg

theorem in_wf {a : Int} (h : (Lit.int .u64 a).wf = true) : In a := by
  have := bounds_u64 h
  unfold In; omega

end Go.Proofs.Ytlenmhbhakeonaa

namespace Go.Proofs.Ytlenmhbhakeonaa
set_option linter.unusedVariables false
set_option linter.unusedSimpArgs false
set_option maxRecDepth 100000
open Go.RowKit Fg Reg

end Go.Proofs.Ytlenmhbhakeonaa

namespace Go.Proofs.Ytlenmhbhakeonaa
set_option linter.unusedVariables false
set_option linter.unusedSimpArgs false
set_option maxRecDepth 100000
open Go.RowKit Fg Reg

theorem wd_quo {A b : Int} (hA : Wd A) (hb : 0 < b) : Wd (A / b) := by
  unfold Wd at *
  refine ⟨Int.ediv_nonneg hA.1 (by omega), ?_⟩
  have := Int.ediv_le_self b hA.1
  omega
theorem low_of_wd {Q : Int} (h : Wd Q) (h0 : hi Q = 0) : lo Q = Q := by unfold Wd at h; unfold hi at h0; unfold lo; omega
theorem val_zero (x : Int) : val 0 x = x := by unfold val; omega
theorem in_rest {A b : Int} (hb : In b) (h0 : 0 < b) : In (A % b) := by
  have h1 := Int.emod_nonneg A (show b ≠ 0 by omega)
  have h2 := Int.emod_lt_of_pos A h0
  unfold In at *; omega

end Go.Proofs.Ytlenmhbhakeonaa

namespace Go.Proofs.Ytlenmhbhakeonaa
set_option linter.unusedVariables false
set_option linter.unusedSimpArgs false
set_option maxRecDepth 100000
open Go.RowKit Fg Reg

/-- A wide number as one of 64 bits, and why it is not. -/
def nv (Q : Int) : Int := if hi Q = 0 then lo Q else 0
def ne (Q : Int) : Int := if hi Q = 0 then 0 else 20
theorem nv_ok {Q : Int} (h : hi Q = 0) : nv Q = lo Q := if_pos h
theorem ne_ok {Q : Int} (h : hi Q = 0) : ne Q = 0 := if_pos h
theorem nv_no {Q : Int} (h : ¬ hi Q = 0) : nv Q = 0 := if_neg h
theorem ne_no {Q : Int} (h : ¬ hi Q = 0) : ne Q = 20 := if_neg h
/-- The quotient, rounded up. -/
def cl (n d : Int) : Int := if n % d = 0 then n / d else n / d + 1

theorem wd_mul {a b : Int} (ha : In a) (hb : In b) : Wd (a * b) := by
  have := mpart_in ha hb 4
  rw [mpart_last] at this; exact this
end Go.Proofs.Ytlenmhbhakeonaa

namespace Go.Proofs.Ytlenmhbhakeonaa
set_option linter.unusedVariables false
set_option linter.unusedSimpArgs false
set_option maxRecDepth 100000
open Go.RowKit Fg Reg

end Go.Proofs.Ytlenmhbhakeonaa

namespace Go.Proofs.Ytlenmhbhakeonaa
set_option linter.unusedVariables false
set_option linter.unusedSimpArgs false
set_option maxRecDepth 100000
open Go.RowKit Fg Reg

end Go.Proofs.Ytlenmhbhakeonaa

namespace Go.Proofs.Ytlenmhbhakeonaa
set_option linter.unusedVariables false
set_option linter.unusedSimpArgs false
set_option maxRecDepth 100000
open Go.RowKit Fg Reg

theorem cl_between (n d : Int) : cl n d = n / d ∨ cl n d = n / d + 1 := by unfold cl; split <;> simp
theorem hi_zero {x : Int} (h : Wd x) : hi x = 0 ↔ x ≤ 18446744073709551615 := by unfold Wd at h; unfold hi; omega

end Go.Proofs.Ytlenmhbhakeonaa

namespace Go.Proofs.Ytlenmhbhakeonaa
set_option linter.unusedVariables false
set_option linter.unusedSimpArgs false
set_option maxRecDepth 100000
open Go.RowKit Fg Reg

theorem cmp_lt' {x y : Int} (h : x < y) : cmp x y = -1 := by unfold cmp; rw [if_neg (by omega), if_pos h]
theorem cmp_gt' {x y : Int} (h : y < x) : cmp x y = 1 := by unfold cmp; rw [if_neg (by omega), if_neg (by omega)]
theorem cmp_self' (x : Int) : cmp x x = 0 := by unfold cmp; rw [if_pos rfl]
theorem cmp_anti (x y : Int) : cmp y x = -cmp x y := by
  unfold cmp; split <;> split <;> (try split) <;> (try split) <;> omega
theorem cmp_cases (x y : Int) : (decide (x < y) = false ∧ decide (y < x) = false ∧ cmp x y = 0) ∨ (decide (x < y) = true ∧ decide (y < x) = false ∧ cmp x y = -1) ∨ (decide (x < y) = false ∧ decide (y < x) = true ∧ cmp x y = 1) := by
  rcases Int.lt_trichotomy x y with h | h | h
  · exact .inr (.inl ⟨by simpa using h, by simp; omega, cmp_lt' h⟩)
  · subst h; exact .inl ⟨by simp, by simp, cmp_self' x⟩
  · exact .inr (.inr ⟨by simp; omega, by simpa using h, cmp_gt' h⟩)

end Go.Proofs.Ytlenmhbhakeonaa
