import Derived.RowKit
import Derived.IntWalk
/- Plain facts on numbers of 128 bits, put together of halves of 64 bits. Nothing of the program is imported here. -/
namespace Go.Proofs.Ytnpidbodeebnkaa
set_option linter.unusedVariables false
set_option linter.unusedSimpArgs false
set_option maxRecDepth 100000
namespace Fg

/-- The halves of a number. -/
def hi (x : Int) : Int := x / 18446744073709551616 % 18446744073709551616
def lo (x : Int) : Int := x % 18446744073709551616
/-- The number of two halves. -/
def val (a b : Int) : Int := a * 18446744073709551616 + b
/-- 0 ≤ x < 2^64 -/
def In (x : Int) : Prop := 0 ≤ x ∧ x ≤ 18446744073709551615

theorem hi_in (x : Int) : In (hi x) := by unfold In hi; omega
theorem lo_in (x : Int) : In (lo x) := by unfold In lo; omega
theorem hi_val {a b : Int} (ha : In a) (hb : In b) : hi (val a b) = a := by unfold In at *; unfold hi val; omega
theorem lo_val {a b : Int} (hb : In b) : lo (val a b) = b := by unfold In at *; unfold lo val; omega
theorem val_hi_lo {x : Int} (h0 : 0 ≤ x) (h1 : x < 340282366920938463463374607431768211456) : val (hi x) (lo x) = x := by unfold hi lo val; omega
theorem val_in {a b : Int} (ha : In a) (hb : In b) : 0 ≤ val a b ∧ val a b < 340282366920938463463374607431768211456 := by unfold In at *; unfold val; omega
theorem val_inj {a b c d : Int} (ha : In a) (hb : In b) (hc : In c) (hd : In d) (h : val a b = val c d) : a = c ∧ b = d := by
  unfold In at *; unfold val at h; omega
theorem wrap_u64 (n : Int) : IntKind.u64.wrap n = n % 18446744073709551616 := by
  simp [IntKind.wrap, IntKind.bits, IntKind.signed]

theorem in_wrap (n : Int) : In (IntKind.u64.wrap n) := by rw [wrap_u64]; unfold In; omega
theorem in_half0 {a : Int} (h : In a) : 0 ≤ a % 4294967296 ∧ a % 4294967296 ≤ 4294967295 := by unfold In at h; omega
theorem in_half1 {a : Int} (h : In a) : 0 ≤ a / 4294967296 ∧ a / 4294967296 ≤ 4294967295 := by unfold In at h; omega
/-- The product of two halves. -/
theorem half_mul {x y : Int} (hx : 0 ≤ x ∧ x ≤ 4294967295) (hy : 0 ≤ y ∧ y ≤ 4294967295) : 0 ≤ x * y ∧ x * y ≤ 18446744065119617025 := by
  refine ⟨Int.mul_nonneg hx.1 hy.1, ?_⟩
  have h1 := Int.mul_le_mul hx.2 hy.2 hy.1 (by decide)
  simpa using h1
theorem wrap_half {x y : Int} (hx : 0 ≤ x ∧ x ≤ 4294967295) (hy : 0 ≤ y ∧ y ≤ 4294967295) : IntKind.u64.wrap (x * y) = x * y := by
  have := half_mul hx hy
  rw [wrap_u64]; omega
/-- What has been gathered of the product of two numbers behind k of its four parts. -/
def mpart (a b : Int) : Nat → Int
  | 0 => 0
  | 1 => (a % 4294967296) * (b % 4294967296)
  | 2 => (a % 4294967296) * (b % 4294967296) + (a % 4294967296) * (b / 4294967296) * 4294967296
  | 3 => (a % 4294967296) * (b % 4294967296) + (a % 4294967296) * (b / 4294967296) * 4294967296 + (a / 4294967296) * (b % 4294967296) * 4294967296
  | _ => (a % 4294967296) * (b % 4294967296) + (a % 4294967296) * (b / 4294967296) * 4294967296 + (a / 4294967296) * (b % 4294967296) * 4294967296 + (a / 4294967296) * (b / 4294967296) * 18446744073709551616
theorem mpart_last (a b : Int) : mpart a b 4 = a * b := by
  have ha := Int.emod_add_mul_ediv a 4294967296
  have hb := Int.emod_add_mul_ediv b 4294967296
  unfold mpart
  simp only
  generalize a % 4294967296 = a0 at *
  generalize a / 4294967296 = a1 at *
  generalize b % 4294967296 = b0 at *
  generalize b / 4294967296 = b1 at *
  rw [← ha, ← hb, Int.add_mul, Int.mul_add, Int.mul_add]
  have e1 : a0 * (4294967296 * b1) = a0 * b1 * 4294967296 := by rw [Int.mul_left_comm, Int.mul_comm]
  have e2 : 4294967296 * a1 * b0 = a1 * b0 * 4294967296 := by rw [Int.mul_assoc, Int.mul_comm]
  have e3 : 4294967296 * a1 * (4294967296 * b1) = a1 * b1 * 18446744073709551616 := by
    rw [Int.mul_assoc, Int.mul_left_comm a1, ← Int.mul_assoc 4294967296, Int.mul_comm]; rfl
  rw [e1, e2, e3]; omega
theorem mpart_in {a b : Int} (ha : In a) (hb : In b) (k : Nat) : 0 ≤ mpart a b k ∧ mpart a b k < 340282366920938463463374607431768211456 := by
  have h00 := half_mul (in_half0 ha) (in_half0 hb)
  have h01 := half_mul (in_half0 ha) (in_half1 hb)
  have h10 := half_mul (in_half1 ha) (in_half0 hb)
  have h11 := half_mul (in_half1 ha) (in_half1 hb)
  unfold mpart
  split <;> omega
/-- One mpart more is added to what has been gathered. -/
theorem acc {p q v m : Int} (h0 : 0 ≤ p ∧ p < 340282366920938463463374607431768211456) (h1 : 0 ≤ v * m ∧ v * m < 340282366920938463463374607431768211456) (hq : q = p + v * m) :
    hi (val (hi p) (lo p) + val (hi (v * m)) (lo (v * m))) = hi q ∧ lo (val (hi p) (lo p) + val (hi (v * m)) (lo (v * m))) = lo q := by
  rw [val_hi_lo h0.1 h0.2, val_hi_lo h1.1 h1.2, hq]; exact ⟨rfl, rfl⟩

/-- The digits of a number to the base 2^32. -/
def d0 (x : Int) : Int := x % 4294967296
def d1 (x : Int) : Int := x / 4294967296 % 4294967296
def d2 (x : Int) : Int := x / 18446744073709551616 % 4294967296
def d3 (x : Int) : Int := x / 79228162514264337593543950336 % 4294967296
def num4 (a b c d : Int) : Int := a + b * 4294967296 + c * 18446744073709551616 + d * 79228162514264337593543950336
def Dg (x : Int) : Prop := 0 ≤ x ∧ x ≤ 4294967295
theorem d0_in (x : Int) : 0 ≤ d0 x ∧ d0 x ≤ 4294967295 := by unfold d0; omega
theorem d1_in (x : Int) : 0 ≤ d1 x ∧ d1 x ≤ 4294967295 := by unfold d1; omega
theorem d2_in (x : Int) : 0 ≤ d2 x ∧ d2 x ≤ 4294967295 := by unfold d2; omega
theorem d3_in (x : Int) : 0 ≤ d3 x ∧ d3 x ≤ 4294967295 := by unfold d3; omega
theorem num4_dig {x : Int} (h0 : 0 ≤ x) (h1 : x < 340282366920938463463374607431768211456) : num4 (d0 x) (d1 x) (d2 x) (d3 x) = x := by
  unfold num4 d0 d1 d2 d3; omega

def M128 : Int := 340282366920938463463374607431768211456
/-- A number of 128 bits. -/
def Wd (x : Int) : Prop := 0 ≤ x ∧ x < 340282366920938463463374607431768211456
theorem in_wd {x : Int} (h : In x) : Wd x := by unfold In at h; unfold Wd; omega
theorem num4_wd {x : Int} (h : Wd x) : num4 (d0 x) (d1 x) (d2 x) (d3 x) = x := num4_dig h.1 h.2

end Fg
end Go.Proofs.Ytnpidbodeebnkaa

/- Plain facts on division bit by bit. Nothing of the program is imported here. -/
namespace Go.Proofs.Ytnpidbodeebnkaa
set_option linter.unusedVariables false
set_option linter.unusedSimpArgs false
set_option maxRecDepth 100000
namespace Fg

theorem ediv_of {n d q r : Int} (hd : 0 < d) (h : n = q * d + r) (h0 : 0 ≤ r) (h1 : r < d) : n / d = q ∧ n % d = r := by
  refine (Int.ediv_emod_unique hd).2 ⟨?_, h0, h1⟩
  rw [Int.mul_comm]; omega
/-- What has been brought down behind i bits of c. -/
def down (r0 c : Int) (i : Nat) : Int := r0 * 2 ^ i + c / 2 ^ (64 - i)
theorem down_zero (r0 c : Int) (h : In c) : down r0 c 0 = r0 := by
  unfold down In at *
  have : c / 2 ^ (64 - 0) = 0 := Int.ediv_eq_zero_of_lt h.1 (by simp; omega)
  rw [this]; simp
theorem down_succ (r0 c : Int) (i : Nat) (hi : i < 64) : down r0 c (i + 1) = 2 * down r0 c i + c / 2 ^ (63 - i) % 2 := by
  unfold down
  rw [show 64 - (i + 1) = 63 - i by omega, show 64 - i = (63 - i) + 1 by omega, Int.pow_succ, Int.pow_succ, ← Int.ediv_ediv_of_nonneg (Int.pow_nonneg (by decide))]
  generalize c / 2 ^ (63 - i) = y
  have e : r0 * (2 ^ i * 2) = 2 * (r0 * 2 ^ i) := by rw [← Int.mul_assoc, Int.mul_comm]
  rw [e]; omega
theorem down_last (r0 c : Int) : down r0 c 64 = r0 * 18446744073709551616 + c := by
  unfold down; simp
theorem pow_pos2 (i : Nat) : (1 : Int) ≤ 2 ^ i := by
  have := Int.pow_pos (n := 2) (m := i) (by decide); omega
theorem pow_le63 (i : Nat) (hi : i ≤ 63) : (2 : Int) ^ i ≤ 9223372036854775808 := by
  have : (2 : Nat) ^ i ≤ 2 ^ 63 := Nat.pow_le_pow_right (by decide) hi
  have h : ((2 ^ i : Nat) : Int) ≤ ((2 ^ 63 : Nat) : Int) := Int.ofNat_le.2 this
  simpa using h
/-- Behind i bits the quotient is q, and the rest r. -/
def Divs (r0 c d : Int) (i : Nat) (q r : Int) : Prop := down r0 c i = q * d + r ∧ 0 ≤ r ∧ r < d ∧ 0 ≤ q ∧ q < 2 ^ i
theorem divs_zero {r0 c d : Int} (hc : In c) (h0 : 0 ≤ r0) (h1 : r0 < d) : Divs r0 c d 0 0 r0 := by
  refine ⟨?_, h0, h1, Int.le_refl _, by simp⟩
  rw [down_zero _ _ hc]; omega
theorem divs_room {r0 c d q r : Int} {i : Nat} (hi : i ≤ 63) (h : Divs r0 c d i q r) : 0 ≤ q ∧ q ≤ 9223372036854775807 := by
  have := pow_le63 i hi
  obtain ⟨_, _, _, h4, h5⟩ := h
  omega
theorem divs_more {r0 c d q r : Int} {i : Nat} (hi : i < 64) (h : Divs r0 c d i q r) (hd : d ≤ 2 * r + c / 2 ^ (63 - i) % 2) : Divs r0 c d (i + 1) (2 * q + 1) (2 * r + c / 2 ^ (63 - i) % 2 - d) := by
  obtain ⟨h1, h2, h3, h4, h5⟩ := h
  refine ⟨?_, by omega, by omega, by omega, by rw [Int.pow_succ]; omega⟩
  rw [down_succ _ _ _ hi, h1, Int.add_mul, Int.mul_assoc]; omega
theorem divs_less {r0 c d q r : Int} {i : Nat} (hi : i < 64) (h : Divs r0 c d i q r) (hd : 2 * r + c / 2 ^ (63 - i) % 2 < d) : Divs r0 c d (i + 1) (2 * q) (2 * r + c / 2 ^ (63 - i) % 2) := by
  obtain ⟨h1, h2, h3, h4, h5⟩ := h
  refine ⟨?_, by omega, by omega, by omega, by rw [Int.pow_succ]; omega⟩
  rw [down_succ _ _ _ hi, h1, Int.mul_assoc]; omega
theorem divs_last {a c d q r : Int} (ha : In a) (hc : In c) (hd : 0 < d) (h : Divs (a % d) c d 64 q r) : val a c / d = val (a / d) q ∧ val a c % d = r ∧ In q := by
  obtain ⟨h1, h2, h3, h4, h5⟩ := h
  rw [down_last] at h1
  have e := Int.emod_add_mul_ediv a d
  have : val a c = val (a / d) q * d + r := by
    unfold val
    rw [Int.add_mul]
    have e2 : a / d * 18446744073709551616 * d = (d * (a / d)) * 18446744073709551616 := by
      rw [Int.mul_right_comm, Int.mul_comm (a / d) d]
    rw [e2]
    generalize d * (a / d) = z at *
    omega
  have h := ediv_of hd this h2 h3
  refine ⟨h.1, h.2, h4, ?_⟩
  have : (2 : Int) ^ 64 = 18446744073709551616 := by decide
  omega
theorem div_plain {a c d : Int} (hd : 0 < d) (h0 : a % d = 0) : val a c / d = val (a / d) (c / d) ∧ val a c % d = c % d := by
  have e := Int.emod_add_mul_ediv a d
  have e1 := Int.emod_add_mul_ediv c d
  refine ediv_of hd ?_ (Int.emod_nonneg _ (by omega)) (Int.emod_lt_of_pos _ hd)
  unfold val
  rw [Int.add_mul]
  have e2 : a / d * 18446744073709551616 * d = (d * (a / d)) * 18446744073709551616 := by
    rw [Int.mul_right_comm, Int.mul_comm (a / d) d]
  have e3 : c / d * d = d * (c / d) := Int.mul_comm _ _
  rw [e2, e3]
  generalize d * (a / d) = z at *
  generalize d * (c / d) = y at *
  omega
theorem in_ediv {a d : Int} (ha : In a) (hd : 0 < d) : In (a / d) := by
  unfold In at *
  exact ⟨Int.ediv_nonneg ha.1 (by omega), Int.le_trans (Int.ediv_le_self _ ha.1) ha.2⟩
theorem in_emod {a d : Int} (hd : In d) (h : 0 < d) : In (a % d) := by
  unfold In at *
  have := Int.emod_nonneg a (b := d) (by omega)
  have := Int.emod_lt_of_pos a h
  omega

theorem divs_more' {r0 c d q r : Int} {i : Nat} (hi : i < 64) (h : Divs r0 c d i q r) (hd : d ≤ r * 2 + c / 2 ^ (63 - i) % 2) : Divs r0 c d (i + 1) (q * 2 + 1) (r * 2 + c / 2 ^ (63 - i) % 2 - d) := by
  have := divs_more hi h (by omega)
  rwa [Int.mul_comm 2 q, Int.mul_comm 2 r] at this
theorem divs_less' {r0 c d q r : Int} {i : Nat} (hi : i < 64) (h : Divs r0 c d i q r) (hd : r * 2 + c / 2 ^ (63 - i) % 2 < d) : Divs r0 c d (i + 1) (q * 2) (r * 2 + c / 2 ^ (63 - i) % 2) := by
  have := divs_less hi h (by omega)
  rwa [Int.mul_comm 2 q, Int.mul_comm 2 r] at this

end Fg
end Go.Proofs.Ytnpidbodeebnkaa

/- Plain facts on division bit by bit, of numbers of 128 bits. Nothing of the program is imported here. -/
namespace Go.Proofs.Ytnpidbodeebnkaa
set_option linter.unusedVariables false
set_option linter.unusedSimpArgs false
set_option maxRecDepth 100000
namespace Fg

/-- What has been brought down behind i bits of 128. -/
def pre (n : Int) (i : Nat) : Int := n / 2 ^ (128 - i)
theorem pre_zero {n : Int} (h : Wd n) : pre n 0 = 0 := by
  unfold pre
  refine Int.ediv_eq_zero_of_lt h.1 ?_
  have : (2 : Int) ^ (128 - 0) = 340282366920938463463374607431768211456 := by decide
  rw [this]; exact h.2
theorem pre_last (n : Int) : pre n 128 = n := by unfold pre; simp
theorem pre_succ (n : Int) (i : Nat) (hi : i < 128) : pre n (i + 1) = pre n i + pre n i + n / 2 ^ (127 - i) % 2 := by
  unfold pre
  rw [show 128 - (i + 1) = 127 - i by omega, show 128 - i = (127 - i) + 1 by omega, Int.pow_succ, ← Int.ediv_ediv_of_nonneg (Int.pow_nonneg (by decide))]
  generalize n / 2 ^ (127 - i) = y
  omega
theorem pre_nonneg {n : Int} (h : Wd n) (i : Nat) : 0 ≤ pre n i := Int.ediv_nonneg h.1 (Int.pow_nonneg (by decide))
theorem pre_half {n : Int} (h : Wd n) (i : Nat) (hi : i < 128) : pre n i < 170141183460469231731687303715884105728 := by
  unfold pre
  have e : 128 - i = (127 - i) + 1 := by omega
  rw [e, Int.pow_succ, Int.mul_comm, ← Int.ediv_ediv_of_nonneg (by decide)]
  have h1 : n / 2 < 170141183460469231731687303715884105728 := by have := h.2; omega
  have h2 : 0 ≤ n / 2 := by have := h.1; omega
  exact Int.lt_of_le_of_lt (Int.ediv_le_self _ h2) h1
theorem quo_half {n b : Int} (h : Wd n) (i : Nat) (hi : i < 128) (hb : 1 ≤ b) : 0 ≤ pre n i / b ∧ Wd (pre n i / b + pre n i / b) := by
  have h0 := pre_nonneg h i
  have h1 := pre_half h i hi
  have h2 := Int.ediv_le_self b h0
  have h3 := Int.ediv_nonneg h0 (b := b) (by omega)
  refine ⟨h3, ?_⟩
  unfold Wd
  omega
theorem rest_in {n b : Int} (hb : 1 ≤ b) (i : Nat) : 0 ≤ pre n i % b ∧ pre n i % b < b := ⟨Int.emod_nonneg _ (by omega), Int.emod_lt_of_pos _ (by omega)⟩
/-- One bit more: the rest has room, .. -/
theorem quo_less {n b : Int} (hb : 1 ≤ b) (i : Nat) (hi : i < 128) (h : pre n i % b + pre n i % b + n / 2 ^ (127 - i) % 2 < b) :
    pre n (i + 1) / b = pre n i / b + pre n i / b ∧ pre n (i + 1) % b = pre n i % b + pre n i % b + n / 2 ^ (127 - i) % 2 := by
  have hr := rest_in (n := n) hb i
  have e := Int.emod_add_mul_ediv (pre n i) b
  refine ediv_of (by omega) ?_ (by omega) h
  rw [pre_succ _ _ hi, Int.add_mul]
  have e2 : pre n i / b * b = b * (pre n i / b) := Int.mul_comm _ _
  rw [e2]; omega
/-- .. or the number is taken off. -/
theorem quo_more {n b : Int} (hb : 1 ≤ b) (i : Nat) (hi : i < 128) (h : b ≤ pre n i % b + pre n i % b + n / 2 ^ (127 - i) % 2) :
    pre n (i + 1) / b = pre n i / b + pre n i / b + 1 ∧ pre n (i + 1) % b = pre n i % b + pre n i % b + n / 2 ^ (127 - i) % 2 - b := by
  have hr := rest_in (n := n) hb i
  have e := Int.emod_add_mul_ediv (pre n i) b
  refine ediv_of (by omega) ?_ (by omega) (by omega)
  rw [pre_succ _ _ hi, Int.add_mul, Int.add_mul]
  have e2 : pre n i / b * b = b * (pre n i / b) := Int.mul_comm _ _
  rw [e2]; omega
/-- The bits of a number out of its digits. -/
theorem bit_of (x D : Int) (k j : Nat) (hD : D = x / 2 ^ (32 * k) % 4294967296) (hj : j < 32) : D / 2 ^ j % 2 = x / 2 ^ (32 * k + j) % 2 := by
  rw [hD, Int.pow_add, ← Int.ediv_ediv_of_nonneg (Int.pow_nonneg (by decide))]
  generalize x / 2 ^ (32 * k) = y
  have e : (4294967296 : Int) = 2 ^ j * 2 ^ (32 - j) := by
    rw [← Int.pow_add, show j + (32 - j) = 32 by omega]; decide
  have hp : (0 : Int) < 2 ^ j := Int.pow_pos (by decide)
  have h1 : y % 4294967296 / 2 ^ j = y / 2 ^ j % 2 ^ (32 - j) := by
    have a := Int.emod_add_mul_ediv y 4294967296
    have : y / 2 ^ j = y % 4294967296 / 2 ^ j + 2 ^ (32 - j) * (y / 4294967296) := by
      have hy : y = y % 4294967296 + 2 ^ j * (2 ^ (32 - j) * (y / 4294967296)) := by
        rw [← Int.mul_assoc, ← e]; exact a.symm
      rw (occs := .pos [1]) [hy]
      rw [Int.add_mul_ediv_left _ _ (by omega)]
    rw [this, Int.add_mul_emod_self_left]
    refine (Int.emod_eq_of_lt (Int.ediv_nonneg (by omega) (by omega)) ?_).symm
    refine Int.ediv_lt_of_lt_mul hp ?_
    rw [Int.mul_comm, ← e]
    omega
  rw [h1, show 32 - j = (31 - j) + 1 by omega, Int.pow_succ]
  generalize y / 2 ^ j = z
  have hdvd : (2 : Int) ∣ 2 ^ (31 - j) * 2 := ⟨2 ^ (31 - j), by rw [Int.mul_comm]⟩
  exact Int.emod_emod_of_dvd z hdvd
theorem dig_bits (x : Int) (j : Nat) (hj : j < 32) : d0 x / 2 ^ j % 2 = x / 2 ^ j % 2 ∧ d1 x / 2 ^ j % 2 = x / 2 ^ (32 + j) % 2 ∧ d2 x / 2 ^ j % 2 = x / 2 ^ (64 + j) % 2 ∧ d3 x / 2 ^ j % 2 = x / 2 ^ (96 + j) % 2 := by
  refine ⟨?_, bit_of x _ 1 j (by unfold d1; rfl) hj, bit_of x _ 2 j (by unfold d2; rfl) hj, bit_of x _ 3 j (by unfold d3; rfl) hj⟩
  have := bit_of x (d0 x) 0 j (by unfold d0; simp) hj
  simpa using this
theorem half_again (D : Int) (m : Nat) : D / 2 ^ m / 2 = D / 2 ^ (m + 1) := by
  rw [Int.ediv_ediv_of_nonneg (Int.pow_nonneg (by decide)), ← Int.pow_succ]
theorem half_in {D : Int} (h : 0 ≤ D ∧ D ≤ 4294967295) (m : Nat) : 0 ≤ D / 2 ^ m ∧ D / 2 ^ m ≤ 4294967295 := by
  have hp : (0 : Int) < 2 ^ m := Int.pow_pos (by decide)
  exact ⟨Int.ediv_nonneg h.1 (by omega), Int.le_trans (Int.ediv_le_self _ h.1) h.2⟩

/-- q and r are what division tells behind i bits. -/
def QR (n b : Int) (i : Nat) (q r : Int) : Prop := q = pre n i / b ∧ r = pre n i % b
theorem qr_zero {n b : Int} (h : Wd n) : QR n b 0 0 0 := by unfold QR; rw [pre_zero h]; simp
theorem qr_last {n b q r : Int} (h : QR n b 128 q r) : q = n / b ∧ r = n % b := by unfold QR at h; rwa [pre_last] at h
theorem qr_room {n b q r : Int} {i : Nat} (hn : Wd n) (hb : 1 ≤ b) (hi : i < 128) (h : QR n b i q r) : 0 ≤ q ∧ Wd (q + q) ∧ 0 ≤ r ∧ r < b := by
  have q1 := quo_half (b := b) hn i hi hb
  have q2 := rest_in (n := n) hb i
  obtain ⟨rfl, rfl⟩ := h
  exact ⟨q1.1, q1.2, q2.1, q2.2⟩
theorem qr_less {n b q r : Int} {i : Nat} (hb : 1 ≤ b) (hi : i < 128) (h : QR n b i q r) (hl : r + r + n / 2 ^ (127 - i) % 2 < b) : QR n b (i + 1) (q + q + 0) (r + r + n / 2 ^ (127 - i) % 2) := by
  obtain ⟨rfl, rfl⟩ := h
  have := quo_less hb i hi hl
  exact ⟨by rw [this.1, Int.add_zero], this.2.symm⟩
theorem qr_more {n b q r : Int} {i : Nat} (hb : 1 ≤ b) (hi : i < 128) (h : QR n b i q r) (hl : b ≤ r + r + n / 2 ^ (127 - i) % 2) : QR n b (i + 1) (q + q + 1) (r + r + n / 2 ^ (127 - i) % 2 - b) := by
  obtain ⟨rfl, rfl⟩ := h
  have := quo_more hb i hi hl
  exact ⟨this.1.symm, this.2.symm⟩

end Fg
end Go.Proofs.Ytnpidbodeebnkaa

/- A number in tens, digit by digit. Nothing of the program is imported here. -/
namespace Go.Proofs.Ytnpidbodeebnkaa
set_option linter.unusedVariables false
set_option linter.unusedSimpArgs false
set_option maxRecDepth 100000
namespace Fg

/-- The digits of a number, the highest one first, as bytes. -/
def decF : Nat → Int → List Int
  | 0, _ => []
  | f + 1, m => if m / 10 = 0 then [48 + m % 10] else decF f (m / 10) ++ [48 + m % 10]
/-- Bytes as a string. -/
def strOf (ns : List Int) : ByteArray := ns.foldl (fun r n => r.push (UInt8.ofNat n.toNat)) ByteArray.empty
def dec (n : Int) : ByteArray := strOf (decF 39 n)
theorem decF_end {f : Nat} {m : Int} (h : m / 10 = 0) : decF (f + 1) m = [48 + m % 10] := by simp [decF, h]
theorem decF_on {f : Nat} {m : Int} (h : ¬ m / 10 = 0) : decF (f + 1) m = decF f (m / 10) ++ [48 + m % 10] := by simp [decF, h]
/-- 10^k -/
theorem ten_succ (k : Nat) (h : k < 39) : (10 : Int) ^ (39 - k) = 10 * 10 ^ (39 - (k + 1)) := by
  rw [show 39 - k = (39 - (k + 1)) + 1 by omega, Int.pow_succ, Int.mul_comm]
theorem dec_step {m : Int} {k : Nat} (h0 : 0 ≤ m) (hk : k < 39) (h : m < 10 ^ (39 - k)) : 0 ≤ m / 10 ∧ m / 10 < 10 ^ (39 - (k + 1)) := by
  rw [ten_succ k hk] at h
  generalize (10 : Int) ^ (39 - (k + 1)) = p at *
  omega
theorem wd_ten {n : Int} (h : Wd n) : n < 10 ^ (39 - 0) := by
  have e : (10 : Int) ^ (39 - 0) = 1000000000000000000000000000000000000000 := by decide
  rw [e]; have := h.2; omega
theorem wd_div {m : Int} (h : Wd m) : Wd (m / 10) := by unfold Wd at *; omega
theorem val_wd {m : Int} (h : Wd m) : val (hi m) (lo m) = m := val_hi_lo h.1 h.2
theorem hi_lo_zero {m : Int} (h : Wd m) : (hi m = 0 ∧ lo m = 0) ↔ m = 0 := by
  unfold Wd at h; unfold hi lo; omega
/-- What the text's loop knows behind k digits: what is left, and what is written. -/
def Decs (n : Int) (k : Nat) (m : Int) (ds : List Int) : Prop :=
  k ≤ 39 ∧ Wd m ∧ m < 10 ^ (39 - k) ∧ (k = 0 ∨ 1 ≤ m) ∧ ds.length = k ∧ decF 39 n = decF (39 - k) m ++ ds ∧ ∀ x ∈ ds, 48 ≤ x ∧ x ≤ 57
theorem decs_zero {n : Int} (h : Wd n) : Decs n 0 n [] := ⟨by omega, h, wd_ten h, .inl rfl, rfl, by simp, by simp⟩
theorem decs_lt {n m : Int} {k : Nat} {ds : List Int} (h : Decs n k m ds) : k < 39 := by
  obtain ⟨h1, h2, h3, h4, _⟩ := h
  rcases Nat.lt_or_ge k 39 with hk | hk
  · exact hk
  · have : k = 39 := by omega
    subst this
    have e : (10 : Int) ^ (39 - 39) = 1 := by decide
    rw [e] at h3
    omega
theorem decs_on {n m : Int} {k : Nat} {ds : List Int} (h : Decs n k m ds) (hm : ¬ m / 10 = 0) : Decs n (k + 1) (m / 10) ((48 + m % 10) :: ds) := by
  have hk := decs_lt h
  obtain ⟨h1, h2, h3, h4, h5, h6, h7⟩ := h
  have hs := dec_step h2.1 hk h3
  refine ⟨by omega, wd_div h2, hs.2, .inr (by omega), by simp [h5], ?_, ?_⟩
  · rw [h6, show 39 - k = (39 - (k + 1)) + 1 by omega, decF_on hm]; simp
  · intro x hx
    simp only [List.mem_cons] at hx
    rcases hx with rfl | hx
    · omega
    · exact h7 x hx
theorem decs_end {n m : Int} {k : Nat} {ds : List Int} (h : Decs n k m ds) (hm : m / 10 = 0) : decF 39 n = (48 + m % 10) :: ds := by
  have hk := decs_lt h
  obtain ⟨h1, h2, h3, h4, h5, h6, h7⟩ := h
  rw [h6, show 39 - k = (39 - (k + 1)) + 1 by omega, decF_end hm]; simp

end Fg
end Go.Proofs.Ytnpidbodeebnkaa

/- The reference's text of a number, digit by digit. Nothing of the program is imported here. -/
namespace Go.Proofs.Ytnpidbodeebnkaa
set_option linter.unusedVariables false
set_option linter.unusedSimpArgs false
set_option maxRecDepth 100000
namespace Fg
/-- What is left, and what is written, behind k + 1 digits. -/
def TD (n : Int) (k : Nat) (m : Int) (ds : List Int) : Prop :=
  (m = 0 ∧ decF 39 n = ds ∧ k ≤ 38 ∧ ds.length ≤ 39) ∨ (Decs n (k + 1) m ds ∧ 1 ≤ m)
theorem td_start {n : Int} (h : Wd n) : TD n 0 (n / 10) [48 + n % 10] := by
  by_cases h0 : n / 10 = 0
  · left
    exact ⟨h0, by rw [show (39 : Nat) = 38 + 1 by rfl, decF_end h0], by omega, by simp⟩
  · right
    exact ⟨decs_on (decs_zero h) h0, by unfold Wd at h; omega⟩
theorem td_next {n m : Int} {k : Nat} {ds : List Int} (h : TD n k m ds) (hm : ¬ m = 0) : TD n (k + 1) (m / 10) ((48 + m % 10) :: ds) := by
  rcases h with h | ⟨h, h1⟩
  · exact absurd h.1 hm
  · have hk := decs_lt h
    by_cases h0 : m / 10 = 0
    · left
      exact ⟨h0, decs_end h h0, by omega, by have := h.2.2.2.2.1; simp; omega⟩
    · right
      exact ⟨decs_on h h0, by omega⟩
theorem td_wd {n m : Int} {k : Nat} {ds : List Int} (h : TD n k m ds) : Wd m := by
  rcases h with h | ⟨h, h1⟩
  · rw [h.1]; unfold Wd; omega
  · exact h.2.1
theorem td_le {n m : Int} {k : Nat} {ds : List Int} (h : TD n k m ds) : k ≤ 38 ∧ ds.length ≤ 39 := by
  rcases h with h | ⟨h, h1⟩
  · exact h.2.2
  · have := decs_lt h
    have := h.2.2.2.2.1
    omega
theorem td_end {n : Int} {k : Nat} {ds : List Int} (h : TD n k 0 ds) : decF 39 n = ds := by
  rcases h with h | ⟨h, h1⟩
  · exact h.2.1
  · omega
theorem dig_zero {m : Int} (h : Wd m) (h0 : d0 m = 0) (h1 : d1 m = 0) (h2 : d2 m = 0) (h3 : d3 m = 0) : m = 0 := by
  have := num4_wd h
  rw [h0, h1, h2, h3] at this
  unfold num4 at this; omega

theorem strOf_fold (ns : List Int) : ∀ r : ByteArray, ns.foldl (fun r n => r.push (UInt8.ofNat n.toNat)) r = ⟨r.data ++ (ns.map fun n => UInt8.ofNat n.toNat).toArray⟩ := by
  induction ns with
  | nil => intro r; simp
  | cons n ns ih => intro r; rw [List.foldl_cons, ih]; apply ByteArray.ext; simp [ByteArray.push]
theorem strOf_eq (ns : List Int) : strOf ns = ⟨(ns.map fun n => UInt8.ofNat n.toNat).toArray⟩ := by
  unfold strOf; rw [strOf_fold]; apply ByteArray.ext; show (#[] : Array UInt8) ++ _ = _; rw [Array.empty_append]
theorem strOf_size (ns : List Int) : (strOf ns).size = ns.length := by rw [strOf_eq]; simp [ByteArray.size]
theorem strOf_append (a b : List Int) : strOf a ++ strOf b = strOf (a ++ b) := by
  rw [strOf_eq, strOf_eq, strOf_eq]; apply ByteArray.ext; simp
theorem decF_bounds (n : Int) : ∀ f, ∀ x ∈ decF f n, 48 ≤ x ∧ x ≤ 57 := by
  intro f
  induction f generalizing n with
  | zero => intro x hx; simp [decF] at hx
  | succ f ih =>
    intro x hx
    by_cases h : n / 10 = 0
    · rw [decF_end h] at hx; simp at hx; omega
    · rw [decF_on h] at hx
      rcases List.mem_append.1 hx with hx | hx
      · exact ih _ x hx
      · simp at hx; omega
/-- No 0 ahead of others. -/
theorem decF_head (n : Int) (h0 : 0 ≤ n) : ∀ f, n < 10 ^ f → ∀ (h : 1 < (decF f n).length), (decF f n)[0]'(by omega) ≠ 48 := by
  intro f
  induction f generalizing n with
  | zero => intro _ h; simp [decF] at h
  | succ f ih =>
    intro hf h
    by_cases hq : n / 10 = 0
    · exfalso; rw [decF_end hq] at h; simp at h
    · have hf' : n / 10 < 10 ^ f := by
        rw [Int.pow_succ] at hf
        generalize (10 : Int) ^ f = p at *
        omega
      simp only [decF_on hq]
      have hne : 0 < (decF f (n / 10)).length := by
        cases f with
        | zero => simp at hf'; omega
        | succ f =>
          by_cases h2 : n / 10 / 10 = 0
          · rw [decF_end h2]; simp
          · rw [decF_on h2]; simp
      rw [List.getElem_append_left hne]
      by_cases h1 : 1 < (decF f (n / 10)).length
      · exact ih (n / 10) (by omega) hf' h1
      · cases f with
        | zero => simp [decF] at hne
        | succ f =>
          by_cases h2 : n / 10 / 10 = 0
          · simp only [decF_end h2, List.getElem_cons_zero]; omega
          · exfalso
            rw [decF_on h2] at h1
            have : 0 < (decF f (n / 10 / 10)).length := by
              cases f with
              | zero =>
                have hf2 : n / 10 < 10 := by simpa using hf'
                exfalso; omega
              | succ f =>
                by_cases h3 : n / 10 / 10 / 10 = 0
                · rw [decF_end h3]; simp
                · rw [decF_on h3]; simp
            rw [List.length_append] at h1; simp only [List.length_cons, List.length_nil] at h1; omega
theorem decF_len (n : Int) (h : Wd n) : 1 ≤ (decF 39 n).length ∧ (decF 39 n).length ≤ 39 := by
  refine ⟨?_, ?_⟩
  · rw [show (39 : Nat) = 38 + 1 by rfl]
    by_cases h2 : n / 10 = 0
    · rw [decF_end h2]; simp
    · rw [decF_on h2]; simp
  · have : ∀ f m, (decF f m).length ≤ f := by
      intro f
      induction f with
      | zero => intro m; simp [decF]
      | succ f ih =>
        intro m
        by_cases h2 : m / 10 = 0
        · rw [decF_end h2]; simp
        · rw [decF_on h2]; have := ih (m / 10); simp; omega
    exact this 39 n
end Fg
end Go.Proofs.Ytnpidbodeebnkaa
