/- Joined texts. -/
import Derived.Test.YtffaahipgabkhaaGreatJn0
import Derived.RowKit
import Derived.IntWalk
set_option linter.unusedVariables false
set_option linter.unusedSimpArgs false
set_option maxRecDepth 100000
set_option maxHeartbeats 16000000
section
namespace Go.Proofs.YtffaahipgabkhaaGreat
namespace Fg
def hi (x : Int) : Int := x / 18446744073709551616 % 18446744073709551616
def lo (x : Int) : Int := x % 18446744073709551616
def val (a b : Int) : Int := a * 18446744073709551616 + b
def In (x : Int) : Prop := 0 ≤ x ∧ x ≤ 18446744073709551615
theorem hi_in (x : Int) : In (hi x) := by unfold In hi; omega
theorem lo_in (x : Int) : In (lo x) := by unfold In lo; omega
theorem val_hi_lo {x : Int} (h0 : 0 ≤ x) (h1 : x < 340282366920938463463374607431768211456) : val (hi x) (lo x) = x := by unfold hi lo val; omega
theorem wrap_u64 (n : Int) : IntKind.u64.wrap n = n % 18446744073709551616 := by
 simp [IntKind.wrap, IntKind.bits, IntKind.signed]
theorem in_half0 {a : Int} (h : In a) : 0 ≤ a % 4294967296 ∧ a % 4294967296 ≤ 4294967295 := by unfold In at h; omega
theorem in_half1 {a : Int} (h : In a) : 0 ≤ a / 4294967296 ∧ a / 4294967296 ≤ 4294967295 := by unfold In at h; omega
theorem half_mul {x y : Int} (hx : 0 ≤ x ∧ x ≤ 4294967295) (hy : 0 ≤ y ∧ y ≤ 4294967295) : 0 ≤ x * y ∧ x * y ≤ 18446744065119617025 := by
 refine ⟨Int.mul_nonneg hx.1 hy.1, ?_⟩
 have h1 := Int.mul_le_mul hx.2 hy.2 hy.1 (by decide)
 simpa using h1
theorem wrap_half {x y : Int} (hx : 0 ≤ x ∧ x ≤ 4294967295) (hy : 0 ≤ y ∧ y ≤ 4294967295) : IntKind.u64.wrap (x * y) = x * y := by
 have := half_mul hx hy
 rw [wrap_u64]; omega
def mpart (a b : Int) : Nat → Int
 | 0 => 0
 | 1 => (a % 4294967296) * (b % 4294967296)
 | 2 => (a % 4294967296) * (b % 4294967296) + (a % 4294967296) * (b / 4294967296) * 4294967296
 | 3 => (a % 4294967296) * (b % 4294967296) + (a % 4294967296) * (b / 4294967296) * 4294967296 + (a / 4294967296) * (b % 4294967296) * 4294967296
 | _ => (a % 4294967296) * (b % 4294967296) + (a % 4294967296) * (b / 4294967296) * 4294967296 + (a / 4294967296) * (b % 4294967296) * 4294967296 + (a / 4294967296) * (b / 4294967296) * 18446744073709551616
theorem mpart_last (a b : Int) : mpart a b 4 = a * b := by
 have ha := Int.emod_add_mul_ediv a 4294967296
 have hb := Int.emod_add_mul_ediv b 4294967296
 unfold mpart
 simp only
 generalize a % 4294967296 = a0 at *
 generalize a / 4294967296 = a1 at *
 generalize b % 4294967296 = b0 at *
 generalize b / 4294967296 = b1 at *
 rw [← ha, ← hb, Int.add_mul, Int.mul_add, Int.mul_add]
 have e1 : a0 * (4294967296 * b1) = a0 * b1 * 4294967296 := by rw [Int.mul_left_comm, Int.mul_comm]
 have e2 : 4294967296 * a1 * b0 = a1 * b0 * 4294967296 := by rw [Int.mul_assoc, Int.mul_comm]
 have e3 : 4294967296 * a1 * (4294967296 * b1) = a1 * b1 * 18446744073709551616 := by
  rw [Int.mul_assoc, Int.mul_left_comm a1, ← Int.mul_assoc 4294967296, Int.mul_comm]; rfl
 rw [e1, e2, e3]; omega
theorem mpart_in {a b : Int} (ha : In a) (hb : In b) (k : Nat) : 0 ≤ mpart a b k ∧ mpart a b k < 340282366920938463463374607431768211456 := by
 have h00 := half_mul (in_half0 ha) (in_half0 hb)
 have h01 := half_mul (in_half0 ha) (in_half1 hb)
 have h10 := half_mul (in_half1 ha) (in_half0 hb)
 have h11 := half_mul (in_half1 ha) (in_half1 hb)
 unfold mpart
 split <;> omega
theorem acc {p q v m : Int} (h0 : 0 ≤ p ∧ p < 340282366920938463463374607431768211456) (h1 : 0 ≤ v * m ∧ v * m < 340282366920938463463374607431768211456) (hq : q = p + v * m) :
  hi (val (hi p) (lo p) + val (hi (v * m)) (lo (v * m))) = hi q ∧ lo (val (hi p) (lo p) + val (hi (v * m)) (lo (v * m))) = lo q := by
 rw [val_hi_lo h0.1 h0.2, val_hi_lo h1.1 h1.2, hq]; exact ⟨rfl, rfl⟩
def d0 (x : Int) : Int := x % 4294967296
def d1 (x : Int) : Int := x / 4294967296 % 4294967296
def d2 (x : Int) : Int := x / 18446744073709551616 % 4294967296
def d3 (x : Int) : Int := x / 79228162514264337593543950336 % 4294967296
def num4 (a b c d : Int) : Int := a + b * 4294967296 + c * 18446744073709551616 + d * 79228162514264337593543950336
def Dg (x : Int) : Prop := 0 ≤ x ∧ x ≤ 4294967295
theorem d0_in (x : Int) : 0 ≤ d0 x ∧ d0 x ≤ 4294967295 := by unfold d0; omega
theorem d1_in (x : Int) : 0 ≤ d1 x ∧ d1 x ≤ 4294967295 := by unfold d1; omega
theorem d2_in (x : Int) : 0 ≤ d2 x ∧ d2 x ≤ 4294967295 := by unfold d2; omega
theorem d3_in (x : Int) : 0 ≤ d3 x ∧ d3 x ≤ 4294967295 := by unfold d3; omega
theorem num4_dig {x : Int} (h0 : 0 ≤ x) (h1 : x < 340282366920938463463374607431768211456) : num4 (d0 x) (d1 x) (d2 x) (d3 x) = x := by
 unfold num4 d0 d1 d2 d3; omega
def M128 : Int := 340282366920938463463374607431768211456
def Wd (x : Int) : Prop := 0 ≤ x ∧ x < 340282366920938463463374607431768211456
theorem in_wd {x : Int} (h : In x) : Wd x := by unfold In at h; unfold Wd; omega
theorem num4_wd {x : Int} (h : Wd x) : num4 (d0 x) (d1 x) (d2 x) (d3 x) = x := num4_dig h.1 h.2
end Fg
end Go.Proofs.YtffaahipgabkhaaGreat
namespace Go.Proofs.YtffaahipgabkhaaGreat
namespace Fg
def down (r0 c : Int) (i : Nat) : Int := r0 * 2 ^ i + c / 2 ^ (64 - i)
def Divs (r0 c d : Int) (i : Nat) (q r : Int) : Prop := down r0 c i = q * d + r ∧ 0 ≤ r ∧ r < d ∧ 0 ≤ q ∧ q < 2 ^ i
end Fg
end Go.Proofs.YtffaahipgabkhaaGreat
namespace Go.Proofs.YtffaahipgabkhaaGreat
namespace Fg
def pre (n : Int) (i : Nat) : Int := n / 2 ^ (128 - i)
def QR (n b : Int) (i : Nat) (q r : Int) : Prop := q = pre n i / b ∧ r = pre n i % b
end Fg
end Go.Proofs.YtffaahipgabkhaaGreat
namespace Go.Proofs.YtffaahipgabkhaaGreat
namespace Fg
def decF : Nat → Int → List Int
 | 0, _ => []
 | f + 1, m => if m / 10 = 0 then [48 + m % 10] else decF f (m / 10) ++ [48 + m % 10]
def strOf (ns : List Int) : ByteArray := ns.foldl (fun r n => r.push (UInt8.ofNat n.toNat)) ByteArray.empty
def dec (n : Int) : ByteArray := strOf (decF 39 n)
theorem val_wd {m : Int} (h : Wd m) : val (hi m) (lo m) = m := val_hi_lo h.1 h.2
def Decs (n : Int) (k : Nat) (m : Int) (ds : List Int) : Prop :=
 k ≤ 39 ∧ Wd m ∧ m < 10 ^ (39 - k) ∧ (k = 0 ∨ 1 ≤ m) ∧ ds.length = k ∧ decF 39 n = decF (39 - k) m ++ ds ∧ ∀ x ∈ ds, 48 ≤ x ∧ x ≤ 57
end Fg
end Go.Proofs.YtffaahipgabkhaaGreat
namespace Go.Proofs.YtffaahipgabkhaaGreat
namespace Fg
def TD (n : Int) (k : Nat) (m : Int) (ds : List Int) : Prop :=
 (m = 0 ∧ decF 39 n = ds ∧ k ≤ 38 ∧ ds.length ≤ 39) ∨ (Decs n (k + 1) m ds ∧ 1 ≤ m)
end Fg
end Go.Proofs.YtffaahipgabkhaaGreat
end
