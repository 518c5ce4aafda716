/- Runs as records, more of them. Nothing of the program is imported here. -/
import Derived.Test.YtjicnbdlffpbbaaRunA
namespace Go.Proofs.Ytjicnbdlffpbbaa
set_option linter.unusedVariables false
set_option linter.unusedSimpArgs false
set_option maxRecDepth 100000
namespace Fg
theorem rn_sm {r : Rn} (h : r.sm) {x : Int} (hx : In x) (hx2 : x < 4611686018427387904) : r.at x < 1267650600228229401496703205376 + 316912650057057350374175801344 := by
  have key : ∀ {X Y M : Int}, Sml Y M → In X → lat X Y M x < 1267650600228229401496703205376 + 316912650057057350374175801344 := by
    intro X Y M hs hX
    rw [lat_small hs hX.1 hx]
    have := hs.y1
    split
    · omega
    · have := (mul_bd hs.m0 (show M ≤ 68719476735 by have := hs.m1; omega) (show 0 ≤ x - X by omega) (show x - X ≤ 4611686018427387903 by have := hX.1; omega) (by omega)).2
      omega
  unfold Rn.at rn
  split
  · exact key h.s1 h.i1
  · exact key h.s2 h.i2
end Fg
end Go.Proofs.Ytjicnbdlffpbbaa
