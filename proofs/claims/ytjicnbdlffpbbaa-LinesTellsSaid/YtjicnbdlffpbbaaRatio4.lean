import Derived.Test.YtjicnbdlffpbbaaRatio3
namespace Go.Proofs.Ytjicnbdlffpbbaa
set_option linter.unusedVariables false
set_option linter.unusedSimpArgs false
set_option maxRecDepth 100000
open Go.RowKit Fg Reg

theorem cl_between (n d : Int) : cl n d = n / d ∨ cl n d = n / d + 1 := by unfold cl; split <;> simp
theorem hi_zero {x : Int} (h : Wd x) : hi x = 0 ↔ x ≤ 18446744073709551615 := by unfold Wd at h; unfold hi; omega

end Go.Proofs.Ytjicnbdlffpbbaa
