import Derived.Test.YtjicnbdlffpbbaaWide2
import Derived.Test.YtjicnbdlffpbbaaWide4
import Derived.Test.YtjicnbdlffpbbaaRef6
namespace Go.Proofs.Ytjicnbdlffpbbaa
set_option linter.unusedVariables false
set_option linter.unusedSimpArgs false
set_option maxRecDepth 100000
open Go.RowKit Fg Reg

theorem in_wf {a : Int} (h : (Lit.int .u64 a).wf = true) : In a := by
  have := bounds_u64 h
  unfold In; omega

end Go.Proofs.Ytjicnbdlffpbbaa
