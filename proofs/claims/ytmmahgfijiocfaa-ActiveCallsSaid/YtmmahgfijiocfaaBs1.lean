/- Joined texts. -/
import Derived.Test.YtmmahgfijiocfaaBs0
import Derived.RowKit
import Derived.IntWalk
set_option linter.unusedVariables false
set_option linter.unusedSimpArgs false
set_option maxRecDepth 100000
set_option maxHeartbeats 16000000
section
namespace Go.Proofs.Ytmmahgfijiocfaa
namespace Fg
def hi (x : Int) : Int := x / 18446744073709551616 % 18446744073709551616
def lo (x : Int) : Int := x % 18446744073709551616
def val (a b : Int) : Int := a * 18446744073709551616 + b
def In (x : Int) : Prop := 0 ≤ x ∧ x ≤ 18446744073709551615
def mpart (a b : Int) : Nat → Int
 | 0 => 0
 | 1 => (a % 4294967296) * (b % 4294967296)
 | 2 => (a % 4294967296) * (b % 4294967296) + (a % 4294967296) * (b / 4294967296) * 4294967296
 | 3 => (a % 4294967296) * (b % 4294967296) + (a % 4294967296) * (b / 4294967296) * 4294967296 + (a / 4294967296) * (b % 4294967296) * 4294967296
 | _ => (a % 4294967296) * (b % 4294967296) + (a % 4294967296) * (b / 4294967296) * 4294967296 + (a / 4294967296) * (b % 4294967296) * 4294967296 + (a / 4294967296) * (b / 4294967296) * 18446744073709551616
def d0 (x : Int) : Int := x % 4294967296
def d1 (x : Int) : Int := x / 4294967296 % 4294967296
def d2 (x : Int) : Int := x / 18446744073709551616 % 4294967296
def d3 (x : Int) : Int := x / 79228162514264337593543950336 % 4294967296
def num4 (a b c d : Int) : Int := a + b * 4294967296 + c * 18446744073709551616 + d * 79228162514264337593543950336
def Dg (x : Int) : Prop := 0 ≤ x ∧ x ≤ 4294967295
def M128 : Int := 340282366920938463463374607431768211456
def Wd (x : Int) : Prop := 0 ≤ x ∧ x < 340282366920938463463374607431768211456
end Fg
end Go.Proofs.Ytmmahgfijiocfaa
namespace Go.Proofs.Ytmmahgfijiocfaa
namespace Fg
def down (r0 c : Int) (i : Nat) : Int := r0 * 2 ^ i + c / 2 ^ (64 - i)
def Divs (r0 c d : Int) (i : Nat) (q r : Int) : Prop := down r0 c i = q * d + r ∧ 0 ≤ r ∧ r < d ∧ 0 ≤ q ∧ q < 2 ^ i
end Fg
end Go.Proofs.Ytmmahgfijiocfaa
namespace Go.Proofs.Ytmmahgfijiocfaa
namespace Fg
def pre (n : Int) (i : Nat) : Int := n / 2 ^ (128 - i)
def QR (n b : Int) (i : Nat) (q r : Int) : Prop := q = pre n i / b ∧ r = pre n i % b
end Fg
end Go.Proofs.Ytmmahgfijiocfaa
namespace Go.Proofs.Ytmmahgfijiocfaa
namespace Fg
def decF : Nat → Int → List Int
 | 0, _ => []
 | f + 1, m => if m / 10 = 0 then [48 + m % 10] else decF f (m / 10) ++ [48 + m % 10]
def strOf (ns : List Int) : ByteArray := ns.foldl (fun r n => r.push (UInt8.ofNat n.toNat)) ByteArray.empty
def dec (n : Int) : ByteArray := strOf (decF 39 n)
def Decs (n : Int) (k : Nat) (m : Int) (ds : List Int) : Prop :=
 k ≤ 39 ∧ Wd m ∧ m < 10 ^ (39 - k) ∧ (k = 0 ∨ 1 ≤ m) ∧ ds.length = k ∧ decF 39 n = decF (39 - k) m ++ ds ∧ ∀ x ∈ ds, 48 ≤ x ∧ x ≤ 57
end Fg
end Go.Proofs.Ytmmahgfijiocfaa
namespace Go.Proofs.Ytmmahgfijiocfaa
namespace Fg
def TD (n : Int) (k : Nat) (m : Int) (ds : List Int) : Prop :=
 (m = 0 ∧ decF 39 n = ds ∧ k ≤ 38 ∧ ds.length ≤ 39) ∨ (Decs n (k + 1) m ds ∧ 1 ≤ m)
end Fg
end Go.Proofs.Ytmmahgfijiocfaa
end
