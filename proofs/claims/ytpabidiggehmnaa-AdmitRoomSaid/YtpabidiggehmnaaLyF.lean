/- The library's contracts on sorting and on a map's keys, at this program's numbers. -/
import Derived.Test.YtpabidiggehmnaaBaseA
import Derived.Shelf.SlicesE.Compact
import Derived.Ground.SlgnProg
namespace Go.Proofs.Ytpabidiggehmnaa
set_option linter.unusedVariables false
open Go.Shelf

def lcmp_ren : Go.Shelf.Ren := ⟨fun | 43 => 44 | n => n, fun | 22 => 35 | 23 => 23 | 3 => 3 | 4 => 4 | 0 => 0 | n => n, fun | n => n⟩
theorem lcmp : Go.Proofs.SlLaysE.n43 Try.prog lcmp_ren := {
  mixed := by kernel_rfl
  f43 := ⟨Try.f44.name, by decide, Try.func44.trans (congrArg some (by kernel_rfl))⟩
  t0 := Try.underlying0
  a0 := Try.isAgg0
  z0 := Try.sizeOf0
  v0 := Try.zeroValue0
  t3 := Try.underlying3
  a3 := Try.isAgg3
  z3 := Try.sizeOf3
  v3 := Try.zeroValue3
  t4 := Try.underlying4
  a4 := Try.isAgg4
  z4 := Try.sizeOf4
  v4 := Try.zeroValue4
  t22 := Try.underlying35
  a22 := Try.isAgg35
  z22 := Try.sizeOf35
  v22 := Try.zeroValue35
  a23 := Try.isAgg23
  z23 := Try.sizeOf23 }

end Go.Proofs.Ytpabidiggehmnaa
