/- Joined texts. -/
import Derived.Test.YtffaahipgabkhaaGreatJn0
import Derived.Test.YtffaahipgabkhaaGreatJn28
set_option linter.unusedVariables false
set_option linter.unusedSimpArgs false
set_option maxRecDepth 100000
set_option maxHeartbeats 16000000
section
namespace Go.Proofs.YtffaahipgabkhaaGreat
open Go.RowKit Fg Reg Go.Sort
attribute [local irreducible] Reg.wE Holds
theorem pal_end (a i j i2 j2 : Nat) (d : Array Int) (xa : Int) (hx : d[a]! = xa) (h1 : scanUp (fun x => ltInt x xa) d j i = i2) (h2 : scanDown (fun x => !ltInt x xa) d i2 j = j2) (h : i2 > j2) : partLoop ltInt a i j d = (j2, d) := by
 subst hx
 rw [partLoop]
 simp only [h1, h2, if_pos h]
theorem pal_go (a i j i2 j2 : Nat) (d : Array Int) (xa : Int) (hx : d[a]! = xa) (h1 : scanUp (fun x => ltInt x xa) d j i = i2) (h2 : scanDown (fun x => !ltInt x xa) d i2 j = j2) (h : ¬ i2 > j2) (g1 : i ≤ i2) (g2 : j2 ≤ j) (g3 : 1 ≤ i) : partLoop ltInt a i j d = partLoop ltInt a (i2 + 1) (j2 - 1) (swp d i2 j2) := by
 subst hx
 rw [partLoop]
 simp only [h1, h2, if_neg h]
 rw [dif_pos (by omega)]
theorem par_end (d : Array Int) (a B pv i2 j2 : Nat) (xa : Int) (hx : (swp d a pv)[a]! = xa) (h1 : scanUp (fun x => ltInt x xa) (swp d a pv) B (a + 1) = i2) (h2 : scanDown (fun x => !ltInt x xa) (swp d a pv) i2 B = j2) (h : i2 > j2) : partition ltInt d a (B + 1) pv = (j2, true, swp (swp d a pv) j2 a) := by
 subst hx
 unfold partition
 simp only [Nat.add_sub_cancel, h1, h2, if_pos h]
theorem par_go (d : Array Int) (a B pv i2 j2 : Nat) (xa : Int) (hx : (swp d a pv)[a]! = xa) (h1 : scanUp (fun x => ltInt x xa) (swp d a pv) B (a + 1) = i2) (h2 : scanDown (fun x => !ltInt x xa) (swp d a pv) i2 B = j2) (h : ¬ i2 > j2) : partition ltInt d a (B + 1) pv = ((partLoop ltInt a (i2 + 1) (j2 - 1) (swp (swp d a pv) i2 j2)).1, false, swp (partLoop ltInt a (i2 + 1) (j2 - 1) (swp (swp d a pv) i2 j2)).2 (partLoop ltInt a (i2 + 1) (j2 - 1) (swp (swp d a pv) i2 j2)).1 a) := by
 subst hx
 unfold partition
 simp only [Nat.add_sub_cancel, h1, h2, if_neg h]
end Go.Proofs.YtffaahipgabkhaaGreat
end
