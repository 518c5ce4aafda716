/- Plain facts on division bit by bit, of numbers of 128 bits. Nothing of the program is imported here. -/
import Derived.Test.YtjicnbdlffpbbaaMathDiv
namespace Go.Proofs.Ytjicnbdlffpbbaa
set_option linter.unusedVariables false
set_option linter.unusedSimpArgs false
set_option maxRecDepth 100000
namespace Fg

/-- What has been brought down behind i bits of 128. -/
def pre (n : Int) (i : Nat) : Int := n / 2 ^ (128 - i)
theorem pre_zero {n : Int} (h : Wd n) : pre n 0 = 0 := by
  unfold pre
  refine Int.ediv_eq_zero_of_lt h.1 ?_
  have : (2 : Int) ^ (128 - 0) = 340282366920938463463374607431768211456 := by decide
  rw [this]; exact h.2
theorem pre_last (n : Int) : pre n 128 = n := by unfold pre; simp
theorem pre_succ (n : Int) (i : Nat) (hi : i < 128) : pre n (i + 1) = pre n i + pre n i + n / 2 ^ (127 - i) % 2 := by
  unfold pre
  rw [show 128 - (i + 1) = 127 - i by omega, show 128 - i = (127 - i) + 1 by omega, Int.pow_succ, ← Int.ediv_ediv_of_nonneg (Int.pow_nonneg (by decide))]
  generalize n / 2 ^ (127 - i) = y
  omega
theorem pre_nonneg {n : Int} (h : Wd n) (i : Nat) : 0 ≤ pre n i := Int.ediv_nonneg h.1 (Int.pow_nonneg (by decide))
theorem pre_half {n : Int} (h : Wd n) (i : Nat) (hi : i < 128) : pre n i < 170141183460469231731687303715884105728 := by
  unfold pre
  have e : 128 - i = (127 - i) + 1 := by omega
  rw [e, Int.pow_succ, Int.mul_comm, ← Int.ediv_ediv_of_nonneg (by decide)]
  have h1 : n / 2 < 170141183460469231731687303715884105728 := by have := h.2; omega
  have h2 : 0 ≤ n / 2 := by have := h.1; omega
  exact Int.lt_of_le_of_lt (Int.ediv_le_self _ h2) h1
theorem quo_half {n b : Int} (h : Wd n) (i : Nat) (hi : i < 128) (hb : 1 ≤ b) : 0 ≤ pre n i / b ∧ Wd (pre n i / b + pre n i / b) := by
  have h0 := pre_nonneg h i
  have h1 := pre_half h i hi
  have h2 := Int.ediv_le_self b h0
  have h3 := Int.ediv_nonneg h0 (b := b) (by omega)
  refine ⟨h3, ?_⟩
  unfold Wd
  omega
theorem rest_in {n b : Int} (hb : 1 ≤ b) (i : Nat) : 0 ≤ pre n i % b ∧ pre n i % b < b := ⟨Int.emod_nonneg _ (by omega), Int.emod_lt_of_pos _ (by omega)⟩
/-- One bit more: the rest has room, .. -/
theorem quo_less {n b : Int} (hb : 1 ≤ b) (i : Nat) (hi : i < 128) (h : pre n i % b + pre n i % b + n / 2 ^ (127 - i) % 2 < b) :
    pre n (i + 1) / b = pre n i / b + pre n i / b ∧ pre n (i + 1) % b = pre n i % b + pre n i % b + n / 2 ^ (127 - i) % 2 := by
  have hr := rest_in (n := n) hb i
  have e := Int.emod_add_mul_ediv (pre n i) b
  refine ediv_of (by omega) ?_ (by omega) h
  rw [pre_succ _ _ hi, Int.add_mul]
  have e2 : pre n i / b * b = b * (pre n i / b) := Int.mul_comm _ _
  rw [e2]; omega
/-- .. or the number is taken off. -/
theorem quo_more {n b : Int} (hb : 1 ≤ b) (i : Nat) (hi : i < 128) (h : b ≤ pre n i % b + pre n i % b + n / 2 ^ (127 - i) % 2) :
    pre n (i + 1) / b = pre n i / b + pre n i / b + 1 ∧ pre n (i + 1) % b = pre n i % b + pre n i % b + n / 2 ^ (127 - i) % 2 - b := by
  have hr := rest_in (n := n) hb i
  have e := Int.emod_add_mul_ediv (pre n i) b
  refine ediv_of (by omega) ?_ (by omega) (by omega)
  rw [pre_succ _ _ hi, Int.add_mul, Int.add_mul]
  have e2 : pre n i / b * b = b * (pre n i / b) := Int.mul_comm _ _
  rw [e2]; omega
/-- The bits of a number out of its digits. -/
theorem bit_of (x D : Int) (k j : Nat) (hD : D = x / 2 ^ (32 * k) % 4294967296) (hj : j < 32) : D / 2 ^ j % 2 = x / 2 ^ (32 * k + j) % 2 := by
  rw [hD, Int.pow_add, ← Int.ediv_ediv_of_nonneg (Int.pow_nonneg (by decide))]
  generalize x / 2 ^ (32 * k) = y
  have e : (4294967296 : Int) = 2 ^ j * 2 ^ (32 - j) := by
    rw [← Int.pow_add, show j + (32 - j) = 32 by omega]; decide
  have hp : (0 : Int) < 2 ^ j := Int.pow_pos (by decide)
  have h1 : y % 4294967296 / 2 ^ j = y / 2 ^ j % 2 ^ (32 - j) := by
    have a := Int.emod_add_mul_ediv y 4294967296
    have : y / 2 ^ j = y % 4294967296 / 2 ^ j + 2 ^ (32 - j) * (y / 4294967296) := by
      have hy : y = y % 4294967296 + 2 ^ j * (2 ^ (32 - j) * (y / 4294967296)) := by
        rw [← Int.mul_assoc, ← e]; exact a.symm
      rw (occs := .pos [1]) [hy]
      rw [Int.add_mul_ediv_left _ _ (by omega)]
    rw [this, Int.add_mul_emod_self_left]
    refine (Int.emod_eq_of_lt (Int.ediv_nonneg (by omega) (by omega)) ?_).symm
    refine Int.ediv_lt_of_lt_mul hp ?_
    rw [Int.mul_comm, ← e]
    omega
  rw [h1, show 32 - j = (31 - j) + 1 by omega, Int.pow_succ]
  generalize y / 2 ^ j = z
  have hdvd : (2 : Int) ∣ 2 ^ (31 - j) * 2 := ⟨2 ^ (31 - j), by rw [Int.mul_comm]⟩
  exact Int.emod_emod_of_dvd z hdvd
theorem dig_bits (x : Int) (j : Nat) (hj : j < 32) : d0 x / 2 ^ j % 2 = x / 2 ^ j % 2 ∧ d1 x / 2 ^ j % 2 = x / 2 ^ (32 + j) % 2 ∧ d2 x / 2 ^ j % 2 = x / 2 ^ (64 + j) % 2 ∧ d3 x / 2 ^ j % 2 = x / 2 ^ (96 + j) % 2 := by
  refine ⟨?_, bit_of x _ 1 j (by unfold d1; rfl) hj, bit_of x _ 2 j (by unfold d2; rfl) hj, bit_of x _ 3 j (by unfold d3; rfl) hj⟩
  have := bit_of x (d0 x) 0 j (by unfold d0; simp) hj
  simpa using this
theorem half_again (D : Int) (m : Nat) : D / 2 ^ m / 2 = D / 2 ^ (m + 1) := by
  rw [Int.ediv_ediv_of_nonneg (Int.pow_nonneg (by decide)), ← Int.pow_succ]
theorem half_in {D : Int} (h : 0 ≤ D ∧ D ≤ 4294967295) (m : Nat) : 0 ≤ D / 2 ^ m ∧ D / 2 ^ m ≤ 4294967295 := by
  have hp : (0 : Int) < 2 ^ m := Int.pow_pos (by decide)
  exact ⟨Int.ediv_nonneg h.1 (by omega), Int.le_trans (Int.ediv_le_self _ h.1) h.2⟩

/-- q and r are what division tells behind i bits. -/
def QR (n b : Int) (i : Nat) (q r : Int) : Prop := q = pre n i / b ∧ r = pre n i % b
theorem qr_zero {n b : Int} (h : Wd n) : QR n b 0 0 0 := by unfold QR; rw [pre_zero h]; simp
theorem qr_last {n b q r : Int} (h : QR n b 128 q r) : q = n / b ∧ r = n % b := by unfold QR at h; rwa [pre_last] at h
theorem qr_room {n b q r : Int} {i : Nat} (hn : Wd n) (hb : 1 ≤ b) (hi : i < 128) (h : QR n b i q r) : 0 ≤ q ∧ Wd (q + q) ∧ 0 ≤ r ∧ r < b := by
  have q1 := quo_half (b := b) hn i hi hb
  have q2 := rest_in (n := n) hb i
  obtain ⟨rfl, rfl⟩ := h
  exact ⟨q1.1, q1.2, q2.1, q2.2⟩
theorem qr_less {n b q r : Int} {i : Nat} (hb : 1 ≤ b) (hi : i < 128) (h : QR n b i q r) (hl : r + r + n / 2 ^ (127 - i) % 2 < b) : QR n b (i + 1) (q + q + 0) (r + r + n / 2 ^ (127 - i) % 2) := by
  obtain ⟨rfl, rfl⟩ := h
  have := quo_less hb i hi hl
  exact ⟨by rw [this.1, Int.add_zero], this.2.symm⟩
theorem qr_more {n b q r : Int} {i : Nat} (hb : 1 ≤ b) (hi : i < 128) (h : QR n b i q r) (hl : b ≤ r + r + n / 2 ^ (127 - i) % 2) : QR n b (i + 1) (q + q + 1) (r + r + n / 2 ^ (127 - i) % 2 - b) := by
  obtain ⟨rfl, rfl⟩ := h
  have := quo_more hb i hi hl
  exact ⟨this.1.symm, this.2.symm⟩

end Fg
end Go.Proofs.Ytjicnbdlffpbbaa
