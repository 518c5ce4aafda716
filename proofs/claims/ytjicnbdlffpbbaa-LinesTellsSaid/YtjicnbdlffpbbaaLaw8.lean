import Derived.Test.YtjicnbdlffpbbaaLaw7
namespace Go.Proofs.Ytjicnbdlffpbbaa
set_option linter.unusedVariables false
set_option linter.unusedSimpArgs false
set_option maxRecDepth 100000
open Go.RowKit Fg Reg

theorem wd_quo {A b : Int} (hA : Wd A) (hb : 0 < b) : Wd (A / b) := by
  unfold Wd at *
  refine ⟨Int.ediv_nonneg hA.1 (by omega), ?_⟩
  have := Int.ediv_le_self b hA.1
  omega
theorem low_of_wd {Q : Int} (h : Wd Q) (h0 : hi Q = 0) : lo Q = Q := by unfold Wd at h; unfold hi at h0; unfold lo; omega
theorem val_zero (x : Int) : val 0 x = x := by unfold val; omega
theorem in_rest {A b : Int} (hb : In b) (h0 : 0 < b) : In (A % b) := by
  have h1 := Int.emod_nonneg A (show b ≠ 0 by omega)
  have h2 := Int.emod_lt_of_pos A h0
  unfold In at *; omega

end Go.Proofs.Ytjicnbdlffpbbaa
