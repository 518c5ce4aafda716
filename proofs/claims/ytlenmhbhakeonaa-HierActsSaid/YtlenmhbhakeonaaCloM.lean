/- The library's contracts on sorting and on a map's keys, at this program's numbers. -/
import Derived.Test.YtlenmhbhakeonaaBaseA
import Derived.Shelf.SlMaps.Clone
import Derived.Ground.SlmcProg
namespace Go.Proofs.Ytlenmhbhakeonaa
set_option linter.unusedVariables false
open Go.Shelf

def cloneM_ren : Go.Shelf.Ren := ⟨fun | 5 => 67 | 7 => 96 | n => n, fun | 23 => 108 | 25 => 3 | 3 => 31 | 4 => 4 | 20 => 20 | n => n, fun | n => n⟩
theorem cloneM : Go.Proofs.SlLaysW.n5 Try.prog cloneM_ren := {
  mixed := by kernel_rfl
  f5 := ⟨Try.f67.name, by decide, Try.func67.trans (congrArg some (by kernel_rfl))⟩
  f7 := Try.func96.trans (congrArg some (by kernel_rfl))
  t4 := Try.underlying4
  a4 := Try.isAgg4
  z4 := Try.sizeOf4
  v4 := Try.zeroValue4
  t20 := Try.underlying20
  a20 := Try.isAgg20
  z20 := Try.sizeOf20
  v20 := Try.zeroValue20
  t23 := Try.underlying108
  a23 := Try.isAgg108
  z23 := Try.sizeOf108
  v23 := Try.zeroValue108 }

end Go.Proofs.Ytlenmhbhakeonaa
