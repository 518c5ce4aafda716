import Derived.Test.YtgclmgkmjmbbmaaLaw1
namespace Go.Proofs.Ytgclmgkmjmbbmaa
set_option linter.unusedVariables false
set_option linter.unusedSimpArgs false
open Go.RowKit Fg Reg

end Go.Proofs.Ytgclmgkmjmbbmaa
