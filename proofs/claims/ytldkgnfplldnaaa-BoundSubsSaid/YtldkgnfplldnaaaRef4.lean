import Derived.Test.YtldkgnfplldnaaaRef3
import Derived.Test.YtldkgnfplldnaaaMathQuo
namespace Go.Proofs.Ytldkgnfplldnaaa
set_option linter.unusedVariables false
set_option linter.unusedSimpArgs false
open Go.RowKit Fg Reg

end Go.Proofs.Ytldkgnfplldnaaa
