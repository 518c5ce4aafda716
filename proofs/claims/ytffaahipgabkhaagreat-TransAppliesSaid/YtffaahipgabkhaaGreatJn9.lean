/- Joined texts. -/
import Derived.Test.YtffaahipgabkhaaGreatJn0
import Derived.Test.YtffaahipgabkhaaGreatJn7
import Derived.Test.YtffaahipgabkhaaGreatJn8
set_option linter.unusedVariables false
set_option linter.unusedSimpArgs false
set_option maxRecDepth 100000
set_option maxHeartbeats 16000000
section
namespace Go.Proofs.YtffaahipgabkhaaGreat
open Go.RowKit Fg Reg
end Go.Proofs.YtffaahipgabkhaaGreat
namespace Go.Proofs.YtffaahipgabkhaaGreat
open Go.RowKit Fg Reg
end Go.Proofs.YtffaahipgabkhaaGreat
namespace Go.Proofs.YtffaahipgabkhaaGreat
open Go.RowKit Fg Reg
theorem val_zero (x : Int) : val 0 x = x := by unfold val; omega
end Go.Proofs.YtffaahipgabkhaaGreat
namespace Go.Proofs.YtffaahipgabkhaaGreat
open Go.RowKit Fg Reg
def nv (Q : Int) : Int := if hi Q = 0 then lo Q else 0
def ne (Q : Int) : Int := if hi Q = 0 then 0 else 20
def cl (n d : Int) : Int := if n % d = 0 then n / d else n / d + 1
theorem wd_mul {a b : Int} (ha : In a) (hb : In b) : Wd (a * b) := by
 have := mpart_in ha hb 4
 rw [mpart_last] at this; exact this
end Go.Proofs.YtffaahipgabkhaaGreat
namespace Go.Proofs.YtffaahipgabkhaaGreat
open Go.RowKit Fg Reg
end Go.Proofs.YtffaahipgabkhaaGreat
namespace Go.Proofs.YtffaahipgabkhaaGreat
open Go.RowKit Fg Reg
end Go.Proofs.YtffaahipgabkhaaGreat
namespace Go.Proofs.YtffaahipgabkhaaGreat
open Go.RowKit Fg Reg
end Go.Proofs.YtffaahipgabkhaaGreat
namespace Go.Proofs.YtffaahipgabkhaaGreat
open Go.RowKit Fg Reg
end Go.Proofs.YtffaahipgabkhaaGreat
end
