/- A number in tens, digit by digit. Nothing of the program is imported here. -/
import Derived.Test.YtjicnbdlffpbbaaMathQuo
namespace Go.Proofs.Ytjicnbdlffpbbaa
set_option linter.unusedVariables false
set_option linter.unusedSimpArgs false
set_option maxRecDepth 100000
namespace Fg

/-- The digits of a number, the highest one first, as bytes. -/
def decF : Nat → Int → List Int
  | 0, _ => []
  | f + 1, m => if m / 10 = 0 then [48 + m % 10] else decF f (m / 10) ++ [48 + m % 10]
/-- Bytes as a string. -/
def strOf (ns : List Int) : ByteArray := ns.foldl (fun r n => r.push (UInt8.ofNat n.toNat)) ByteArray.empty
def dec (n : Int) : ByteArray := strOf (decF 39 n)
theorem decF_end {f : Nat} {m : Int} (h : m / 10 = 0) : decF (f + 1) m = [48 + m % 10] := by simp [decF, h]
theorem decF_on {f : Nat} {m : Int} (h : ¬ m / 10 = 0) : decF (f + 1) m = decF f (m / 10) ++ [48 + m % 10] := by simp [decF, h]
/-- 10^k -/
theorem ten_succ (k : Nat) (h : k < 39) : (10 : Int) ^ (39 - k) = 10 * 10 ^ (39 - (k + 1)) := by
  rw [show 39 - k = (39 - (k + 1)) + 1 by omega, Int.pow_succ, Int.mul_comm]
theorem dec_step {m : Int} {k : Nat} (h0 : 0 ≤ m) (hk : k < 39) (h : m < 10 ^ (39 - k)) : 0 ≤ m / 10 ∧ m / 10 < 10 ^ (39 - (k + 1)) := by
  rw [ten_succ k hk] at h
  generalize (10 : Int) ^ (39 - (k + 1)) = p at *
  omega
theorem wd_ten {n : Int} (h : Wd n) : n < 10 ^ (39 - 0) := by
  have e : (10 : Int) ^ (39 - 0) = 1000000000000000000000000000000000000000 := by decide
  rw [e]; have := h.2; omega
theorem wd_div {m : Int} (h : Wd m) : Wd (m / 10) := by unfold Wd at *; omega
theorem val_wd {m : Int} (h : Wd m) : val (hi m) (lo m) = m := val_hi_lo h.1 h.2
theorem hi_lo_zero {m : Int} (h : Wd m) : (hi m = 0 ∧ lo m = 0) ↔ m = 0 := by
  unfold Wd at h; unfold hi lo; omega
/-- What the text's loop knows behind k digits: what is left, and what is written. -/
def Decs (n : Int) (k : Nat) (m : Int) (ds : List Int) : Prop :=
  k ≤ 39 ∧ Wd m ∧ m < 10 ^ (39 - k) ∧ (k = 0 ∨ 1 ≤ m) ∧ ds.length = k ∧ decF 39 n = decF (39 - k) m ++ ds ∧ ∀ x ∈ ds, 48 ≤ x ∧ x ≤ 57
theorem decs_zero {n : Int} (h : Wd n) : Decs n 0 n [] := ⟨by omega, h, wd_ten h, .inl rfl, rfl, by simp, by simp⟩
theorem decs_lt {n m : Int} {k : Nat} {ds : List Int} (h : Decs n k m ds) : k < 39 := by
  obtain ⟨h1, h2, h3, h4, _⟩ := h
  rcases Nat.lt_or_ge k 39 with hk | hk
  · exact hk
  · have : k = 39 := by omega
    subst this
    have e : (10 : Int) ^ (39 - 39) = 1 := by decide
    rw [e] at h3
    omega
theorem decs_on {n m : Int} {k : Nat} {ds : List Int} (h : Decs n k m ds) (hm : ¬ m / 10 = 0) : Decs n (k + 1) (m / 10) ((48 + m % 10) :: ds) := by
  have hk := decs_lt h
  obtain ⟨h1, h2, h3, h4, h5, h6, h7⟩ := h
  have hs := dec_step h2.1 hk h3
  refine ⟨by omega, wd_div h2, hs.2, .inr (by omega), by simp [h5], ?_, ?_⟩
  · rw [h6, show 39 - k = (39 - (k + 1)) + 1 by omega, decF_on hm]; simp
  · intro x hx
    simp only [List.mem_cons] at hx
    rcases hx with rfl | hx
    · omega
    · exact h7 x hx
theorem decs_end {n m : Int} {k : Nat} {ds : List Int} (h : Decs n k m ds) (hm : m / 10 = 0) : decF 39 n = (48 + m % 10) :: ds := by
  have hk := decs_lt h
  obtain ⟨h1, h2, h3, h4, h5, h6, h7⟩ := h
  rw [h6, show 39 - k = (39 - (k + 1)) + 1 by omega, decF_end hm]; simp

end Fg
end Go.Proofs.Ytjicnbdlffpbbaa
