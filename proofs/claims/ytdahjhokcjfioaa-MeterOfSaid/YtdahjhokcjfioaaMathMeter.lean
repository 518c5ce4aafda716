/- A moving average, as numbers. Nothing of the program is imported here. -/
import Derived.Test.YtdahjhokcjfioaaMathA
namespace Go.Proofs.Ytdahjhokcjfioaa
set_option linter.unusedVariables false
set_option linter.unusedSimpArgs false
set_option maxRecDepth 100000
namespace Fg
/-- The average when a window of b bytes closes; q is two to the shift. -/
def mst (q a b : Int) : Int := a - a / q + b * 65536 / q
/-- The average when k windows have closed. -/
def mrun (q : Int) : Nat → Int → Int → Int
  | 0, a, _ => a
  | k + 1, a, b => mrun q k (mst q a b) 0
def mby : Nat → Int → Int
  | 0, b => b
  | _ + 1, _ => 0
theorem mst_bd {q a b M : Int} (hq : 0 < q) (ha : 0 ≤ a) (hb : 0 ≤ b) (h1 : a ≤ M) (h2 : b * 65536 ≤ M) : 0 ≤ mst q a b ∧ mst q a b ≤ M := by
  have e1 : a / q ≤ a := Int.ediv_le_self _ ha
  have e2 : 0 ≤ b * 65536 / q := Int.ediv_nonneg (by omega) (by omega)
  have e3 : b * 65536 / q ≤ M / q := Int.ediv_le_ediv hq h2
  have e4 : M / q ≤ a / q + (M - a) := by
    have h := Int.add_mul_ediv_right a (M - a) (show q ≠ 0 by omega)
    rw [← h]
    apply Int.ediv_le_ediv hq
    have := Int.mul_le_mul_of_nonneg_left (show 1 ≤ q by omega) (show 0 ≤ M - a by omega)
    omega
  unfold mst
  omega
theorem mst_le {q a : Int} (ha : 0 ≤ a) (hq : 0 < q) : mst q a 0 = a - a / q := by
  unfold mst; simp
theorem mrun_fix {q a : Int} (h : mst q a 0 = a) : ∀ k, mrun q k a 0 = a
  | 0 => rfl
  | k + 1 => by rw [mrun, h]; exact mrun_fix h k
theorem mrun_bd {q M : Int} (hq : 0 < q) : ∀ (k : Nat) {a b : Int}, 0 ≤ a → 0 ≤ b → a ≤ M → b * 65536 ≤ M → 0 ≤ mrun q k a b ∧ mrun q k a b ≤ M
  | 0, a, b, ha, hb, h1, h2 => ⟨ha, h1⟩
  | k + 1, a, b, ha, hb, h1, h2 => by
    have h := mst_bd hq ha hb h1 h2
    exact mrun_bd hq k h.1 (Int.le_refl _) h.2 (by omega)
theorem mby_bd {b : Int} (hb : 0 ≤ b) (k : Nat) : 0 ≤ mby k b ∧ mby k b ≤ b := by
  cases k <;> simp [mby] <;> omega
theorem mrun_add (q : Int) : ∀ (j k : Nat) (a : Int), mrun q (j + k) a 0 = mrun q k (mrun q j a 0) 0
  | 0, k, a => by simp [mrun]
  | j + 1, k, a => by rw [show j + 1 + k = (j + k) + 1 by omega, mrun, mrun, mrun_add q j k]
/-- So many windows take it below what the shift leaves nothing of. -/
theorem mrun_one {q e : Int} (hq : 0 < q) (he : 1 ≤ e) : ∀ (k : Nat) (a : Int), 0 ≤ a → a < q * e + k * e → 0 ≤ mrun q k a 0 ∧ mrun q k a 0 < q * e
  | 0, a, ha, h => ⟨ha, by rw [mrun]; simpa using h⟩
  | k + 1, a, ha, h => by
    have hm := mst_bd (M := a) hq ha (Int.le_refl 0) (Int.le_refl _) (by omega)
    rw [mrun]
    have hke : 0 ≤ (k : Int) * e := Int.mul_nonneg (by omega) (by omega)
    refine mrun_one hq he k _ hm.1 ?_
    rcases Int.lt_or_le a (q * e) with hlt | hge
    · omega
    · have h3 : q * e / q ≤ a / q := Int.ediv_le_ediv hq hge
      rw [Int.mul_ediv_cancel_left _ (show q ≠ 0 by omega)] at h3
      rw [mst_le ha hq]
      have h4 : ((k + 1 : Nat) : Int) * e = (k : Int) * e + e := by rw [Int.natCast_add, Int.add_mul]; simp
      omega
theorem mrun_pow {q : Nat} (hq : 0 < q) : ∀ (n : Nat) (a : Int), 0 ≤ a → a < q * 2 ^ n → 0 ≤ mrun q (q * n) a 0 ∧ mrun q (q * n) a 0 < q
  | 0, a, ha, h => ⟨by simpa [mrun] using ha, by simpa [mrun] using h⟩
  | n + 1, a, ha, h => by
    have hq' : (0 : Int) < q := by omega
    have hp : (1 : Int) ≤ 2 ^ n := by
      have : 0 < (2 : Int) ^ n := Int.pow_pos (by omega)
      omega
    have h1 := mrun_one hq' hp q a ha (by rw [Int.pow_succ] at h; rw [← Int.mul_assoc] at h; omega)
    have h2 := mrun_pow hq n _ h1.1 h1.2
    rw [show q * (n + 1) = q + q * n by rw [Nat.mul_add]; omega, mrun_add]
    exact h2
theorem mrun_low {q : Int} (hq : 0 < q) (k : Nat) {a : Int} (h0 : 0 ≤ a) (h : a < q) : mrun q k a 0 = a :=
  mrun_fix (by rw [mst_le h0 hq, Int.ediv_eq_zero_of_lt h0 h]; omega) k
/-- Many windows without bytes. -/
theorem mrun_fades {s : Nat} (hs : s ≤ 8) {a b : Int} (ha : 0 ≤ a) (h1 : a ≤ 72057594037927936) (hb : 0 ≤ b) (h2 : b ≤ 1099511627776) {k : Nat} (hk : 1048576 ≤ k) :
    mrun (2 ^ s) k a b < 2 ^ s := by
  obtain ⟨k, rfl⟩ : ∃ j, k = j + 1 := ⟨k - 1, by omega⟩
  have hq : (0 : Int) < 2 ^ s := Int.pow_pos (by omega)
  have hqn : 0 < 2 ^ s := Nat.pow_pos (by omega)
  have hc : ((2 ^ s : Nat) : Int) = 2 ^ s := by simp
  have hm := mst_bd (M := 72057594037927936) hq ha hb h1 (by omega)
  rw [mrun]
  generalize mst (2 ^ s) a b = x at *
  have hb2 : 2 ^ s ≤ 256 := by
    have := Nat.pow_le_pow_right (show 0 < 2 by omega) hs
    simpa using this
  have h57 : (x : Int) < ((2 ^ s : Nat) : Int) * 2 ^ 57 := by
    have : (1 : Int) * 2 ^ 57 ≤ ((2 ^ s : Nat) : Int) * 2 ^ 57 := Int.mul_le_mul_of_nonneg_right (by omega) (by decide)
    have h9 : (1 : Int) * 2 ^ 57 = 144115188075855872 := by decide
    omega
  have h3 := mrun_pow hqn 57 x hm.1 h57
  obtain ⟨j, rfl⟩ : ∃ j, k = 2 ^ s * 57 + j := ⟨k - 2 ^ s * 57, by omega⟩
  rw [hc] at h3
  rw [mrun_add, mrun_low hq j h3.1 h3.2]
  exact h3.2
theorem mrun_last (q : Int) : ∀ (k : Nat) (a b : Int), mrun q (k + 1) a b = mst q (mrun q k a b) (mby k b)
  | 0, a, b => by simp [mrun, mby]
  | k + 1, a, b => by
    rw [mrun, mrun_last q k (mst q a b) 0, mrun]
    cases k <;> simp [mby]
theorem mrun_stop {q a b : Int} {k : Nat} (h1 : mby k b = 0) (h2 : mst q (mrun q k a b) (mby k b) = mrun q k a b) : ∀ j : Nat, mrun q (k + j) a b = mrun q k a b ∧ mby (k + j) b = 0
  | 0 => ⟨rfl, h1⟩
  | j + 1 => by
    have ih := mrun_stop h1 h2 j
    refine ⟨?_, rfl⟩
    rw [show k + (j + 1) = (k + j) + 1 by omega, mrun_last, ih.1, ih.2]
    rw [h1] at h2
    exact h2
end Fg
end Go.Proofs.Ytdahjhokcjfioaa
