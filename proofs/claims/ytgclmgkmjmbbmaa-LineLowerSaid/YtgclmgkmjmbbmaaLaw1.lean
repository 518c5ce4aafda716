import Derived.Test.YtgclmgkmjmbbmaaWide2
import Derived.Test.YtgclmgkmjmbbmaaWide4
import Derived.Test.YtgclmgkmjmbbmaaRef6
namespace Go.Proofs.Ytgclmgkmjmbbmaa
set_option linter.unusedVariables false
set_option linter.unusedSimpArgs false
open Go.RowKit Fg Reg

theorem in_wf {a : Int} (h : (Lit.int .u64 a).wf = true) : In a := by
  have := bounds_u64 h
  unfold In; omega

end Go.Proofs.Ytgclmgkmjmbbmaa
