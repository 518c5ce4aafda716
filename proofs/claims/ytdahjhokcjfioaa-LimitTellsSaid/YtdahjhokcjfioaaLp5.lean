/- SpansApart's law, for any arguments. -/
import Derived.Test.YtdahjhokcjfioaaLp4
namespace Go.Proofs.Ytdahjhokcjfioaa
set_option linter.unusedVariables false
set_option linter.unusedSimpArgs false
set_option maxRecDepth 100000
open Go.RowKit Fg Reg

end Go.Proofs.Ytdahjhokcjfioaa
