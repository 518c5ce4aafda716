/- Plain facts on division bit by bit. Nothing of the program is imported here. -/
import Derived.Test.YtjicnbdlffpbbaaMath
namespace Go.Proofs.Ytjicnbdlffpbbaa
set_option linter.unusedVariables false
set_option linter.unusedSimpArgs false
set_option maxRecDepth 100000
namespace Fg

theorem ediv_of {n d q r : Int} (hd : 0 < d) (h : n = q * d + r) (h0 : 0 ≤ r) (h1 : r < d) : n / d = q ∧ n % d = r := by
  refine (Int.ediv_emod_unique hd).2 ⟨?_, h0, h1⟩
  rw [Int.mul_comm]; omega
/-- What has been brought down behind i bits of c. -/
def down (r0 c : Int) (i : Nat) : Int := r0 * 2 ^ i + c / 2 ^ (64 - i)
theorem down_zero (r0 c : Int) (h : In c) : down r0 c 0 = r0 := by
  unfold down In at *
  have : c / 2 ^ (64 - 0) = 0 := Int.ediv_eq_zero_of_lt h.1 (by simp; omega)
  rw [this]; simp
theorem down_succ (r0 c : Int) (i : Nat) (hi : i < 64) : down r0 c (i + 1) = 2 * down r0 c i + c / 2 ^ (63 - i) % 2 := by
  unfold down
  rw [show 64 - (i + 1) = 63 - i by omega, show 64 - i = (63 - i) + 1 by omega, Int.pow_succ, Int.pow_succ, ← Int.ediv_ediv_of_nonneg (Int.pow_nonneg (by decide))]
  generalize c / 2 ^ (63 - i) = y
  have e : r0 * (2 ^ i * 2) = 2 * (r0 * 2 ^ i) := by rw [← Int.mul_assoc, Int.mul_comm]
  rw [e]; omega
theorem down_last (r0 c : Int) : down r0 c 64 = r0 * 18446744073709551616 + c := by
  unfold down; simp
theorem pow_pos2 (i : Nat) : (1 : Int) ≤ 2 ^ i := by
  have := Int.pow_pos (n := 2) (m := i) (by decide); omega
theorem pow_le63 (i : Nat) (hi : i ≤ 63) : (2 : Int) ^ i ≤ 9223372036854775808 := by
  have : (2 : Nat) ^ i ≤ 2 ^ 63 := Nat.pow_le_pow_right (by decide) hi
  have h : ((2 ^ i : Nat) : Int) ≤ ((2 ^ 63 : Nat) : Int) := Int.ofNat_le.2 this
  simpa using h
/-- Behind i bits the quotient is q, and the rest r. -/
def Divs (r0 c d : Int) (i : Nat) (q r : Int) : Prop := down r0 c i = q * d + r ∧ 0 ≤ r ∧ r < d ∧ 0 ≤ q ∧ q < 2 ^ i
theorem divs_zero {r0 c d : Int} (hc : In c) (h0 : 0 ≤ r0) (h1 : r0 < d) : Divs r0 c d 0 0 r0 := by
  refine ⟨?_, h0, h1, Int.le_refl _, by simp⟩
  rw [down_zero _ _ hc]; omega
theorem divs_room {r0 c d q r : Int} {i : Nat} (hi : i ≤ 63) (h : Divs r0 c d i q r) : 0 ≤ q ∧ q ≤ 9223372036854775807 := by
  have := pow_le63 i hi
  obtain ⟨_, _, _, h4, h5⟩ := h
  omega
theorem divs_more {r0 c d q r : Int} {i : Nat} (hi : i < 64) (h : Divs r0 c d i q r) (hd : d ≤ 2 * r + c / 2 ^ (63 - i) % 2) : Divs r0 c d (i + 1) (2 * q + 1) (2 * r + c / 2 ^ (63 - i) % 2 - d) := by
  obtain ⟨h1, h2, h3, h4, h5⟩ := h
  refine ⟨?_, by omega, by omega, by omega, by rw [Int.pow_succ]; omega⟩
  rw [down_succ _ _ _ hi, h1, Int.add_mul, Int.mul_assoc]; omega
theorem divs_less {r0 c d q r : Int} {i : Nat} (hi : i < 64) (h : Divs r0 c d i q r) (hd : 2 * r + c / 2 ^ (63 - i) % 2 < d) : Divs r0 c d (i + 1) (2 * q) (2 * r + c / 2 ^ (63 - i) % 2) := by
  obtain ⟨h1, h2, h3, h4, h5⟩ := h
  refine ⟨?_, by omega, by omega, by omega, by rw [Int.pow_succ]; omega⟩
  rw [down_succ _ _ _ hi, h1, Int.mul_assoc]; omega
theorem divs_last {a c d q r : Int} (ha : In a) (hc : In c) (hd : 0 < d) (h : Divs (a % d) c d 64 q r) : val a c / d = val (a / d) q ∧ val a c % d = r ∧ In q := by
  obtain ⟨h1, h2, h3, h4, h5⟩ := h
  rw [down_last] at h1
  have e := Int.emod_add_mul_ediv a d
  have : val a c = val (a / d) q * d + r := by
    unfold val
    rw [Int.add_mul]
    have e2 : a / d * 18446744073709551616 * d = (d * (a / d)) * 18446744073709551616 := by
      rw [Int.mul_right_comm, Int.mul_comm (a / d) d]
    rw [e2]
    generalize d * (a / d) = z at *
    omega
  have h := ediv_of hd this h2 h3
  refine ⟨h.1, h.2, h4, ?_⟩
  have : (2 : Int) ^ 64 = 18446744073709551616 := by decide
  omega
theorem div_plain {a c d : Int} (hd : 0 < d) (h0 : a % d = 0) : val a c / d = val (a / d) (c / d) ∧ val a c % d = c % d := by
  have e := Int.emod_add_mul_ediv a d
  have e1 := Int.emod_add_mul_ediv c d
  refine ediv_of hd ?_ (Int.emod_nonneg _ (by omega)) (Int.emod_lt_of_pos _ hd)
  unfold val
  rw [Int.add_mul]
  have e2 : a / d * 18446744073709551616 * d = (d * (a / d)) * 18446744073709551616 := by
    rw [Int.mul_right_comm, Int.mul_comm (a / d) d]
  have e3 : c / d * d = d * (c / d) := Int.mul_comm _ _
  rw [e2, e3]
  generalize d * (a / d) = z at *
  generalize d * (c / d) = y at *
  omega
theorem in_ediv {a d : Int} (ha : In a) (hd : 0 < d) : In (a / d) := by
  unfold In at *
  exact ⟨Int.ediv_nonneg ha.1 (by omega), Int.le_trans (Int.ediv_le_self _ ha.1) ha.2⟩
theorem in_emod {a d : Int} (hd : In d) (h : 0 < d) : In (a % d) := by
  unfold In at *
  have := Int.emod_nonneg a (b := d) (by omega)
  have := Int.emod_lt_of_pos a h
  omega

theorem divs_more' {r0 c d q r : Int} {i : Nat} (hi : i < 64) (h : Divs r0 c d i q r) (hd : d ≤ r * 2 + c / 2 ^ (63 - i) % 2) : Divs r0 c d (i + 1) (q * 2 + 1) (r * 2 + c / 2 ^ (63 - i) % 2 - d) := by
  have := divs_more hi h (by omega)
  rwa [Int.mul_comm 2 q, Int.mul_comm 2 r] at this
theorem divs_less' {r0 c d q r : Int} {i : Nat} (hi : i < 64) (h : Divs r0 c d i q r) (hd : r * 2 + c / 2 ^ (63 - i) % 2 < d) : Divs r0 c d (i + 1) (q * 2) (r * 2 + c / 2 ^ (63 - i) % 2) := by
  have := divs_less hi h (by omega)
  rwa [Int.mul_comm 2 q, Int.mul_comm 2 r] at this

end Fg
end Go.Proofs.Ytjicnbdlffpbbaa
