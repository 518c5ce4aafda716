/- The reference's text of a number, digit by digit. Nothing of the program is imported here. -/
import Derived.Test.YtfdbghcnadanoaaMathDec
namespace Go.Proofs.Ytfdbghcnadanoaa
set_option linter.unusedVariables false
set_option linter.unusedSimpArgs false
namespace Fg
/-- What is left, and what is written, behind k + 1 digits. -/
def TD (n : Int) (k : Nat) (m : Int) (ds : List Int) : Prop :=
  (m = 0 ∧ decF 39 n = ds ∧ k ≤ 38 ∧ ds.length ≤ 39) ∨ (Decs n (k + 1) m ds ∧ 1 ≤ m)
theorem td_start {n : Int} (h : Wd n) : TD n 0 (n / 10) [48 + n % 10] := by
  by_cases h0 : n / 10 = 0
  · left
    exact ⟨h0, by rw [show (39 : Nat) = 38 + 1 by rfl, decF_end h0], by omega, by simp⟩
  · right
    exact ⟨decs_on (decs_zero h) h0, by unfold Wd at h; omega⟩
theorem td_next {n m : Int} {k : Nat} {ds : List Int} (h : TD n k m ds) (hm : ¬ m = 0) : TD n (k + 1) (m / 10) ((48 + m % 10) :: ds) := by
  rcases h with h | ⟨h, h1⟩
  · exact absurd h.1 hm
  · have hk := decs_lt h
    by_cases h0 : m / 10 = 0
    · left
      exact ⟨h0, decs_end h h0, by omega, by have := h.2.2.2.2.1; simp; omega⟩
    · right
      exact ⟨decs_on h h0, by omega⟩
theorem td_wd {n m : Int} {k : Nat} {ds : List Int} (h : TD n k m ds) : Wd m := by
  rcases h with h | ⟨h, h1⟩
  · rw [h.1]; unfold Wd; omega
  · exact h.2.1
theorem td_le {n m : Int} {k : Nat} {ds : List Int} (h : TD n k m ds) : k ≤ 38 ∧ ds.length ≤ 39 := by
  rcases h with h | ⟨h, h1⟩
  · exact h.2.2
  · have := decs_lt h
    have := h.2.2.2.2.1
    omega
theorem td_end {n : Int} {k : Nat} {ds : List Int} (h : TD n k 0 ds) : decF 39 n = ds := by
  rcases h with h | ⟨h, h1⟩
  · exact h.2.1
  · omega
theorem dig_zero {m : Int} (h : Wd m) (h0 : d0 m = 0) (h1 : d1 m = 0) (h2 : d2 m = 0) (h3 : d3 m = 0) : m = 0 := by
  have := num4_wd h
  rw [h0, h1, h2, h3] at this
  unfold num4 at this; omega

theorem strOf_fold (ns : List Int) : ∀ r : ByteArray, ns.foldl (fun r n => r.push (UInt8.ofNat n.toNat)) r = ⟨r.data ++ (ns.map fun n => UInt8.ofNat n.toNat).toArray⟩ := by
  induction ns with
  | nil => intro r; simp
  | cons n ns ih => intro r; rw [List.foldl_cons, ih]; apply ByteArray.ext; simp [ByteArray.push]
theorem strOf_eq (ns : List Int) : strOf ns = ⟨(ns.map fun n => UInt8.ofNat n.toNat).toArray⟩ := by
  unfold strOf; rw [strOf_fold]; apply ByteArray.ext; show (#[] : Array UInt8) ++ _ = _; rw [Array.empty_append]
theorem strOf_size (ns : List Int) : (strOf ns).size = ns.length := by rw [strOf_eq]; simp [ByteArray.size]
theorem strOf_append (a b : List Int) : strOf a ++ strOf b = strOf (a ++ b) := by
  rw [strOf_eq, strOf_eq, strOf_eq]; apply ByteArray.ext; simp
theorem decF_bounds (n : Int) : ∀ f, ∀ x ∈ decF f n, 48 ≤ x ∧ x ≤ 57 := by
  intro f
  induction f generalizing n with
  | zero => intro x hx; simp [decF] at hx
  | succ f ih =>
    intro x hx
    by_cases h : n / 10 = 0
    · rw [decF_end h] at hx; simp at hx; omega
    · rw [decF_on h] at hx
      rcases List.mem_append.1 hx with hx | hx
      · exact ih _ x hx
      · simp at hx; omega
/-- No 0 ahead of others. -/
theorem decF_head (n : Int) (h0 : 0 ≤ n) : ∀ f, n < 10 ^ f → ∀ (h : 1 < (decF f n).length), (decF f n)[0]'(by omega) ≠ 48 := by
  intro f
  induction f generalizing n with
  | zero => intro _ h; simp [decF] at h
  | succ f ih =>
    intro hf h
    by_cases hq : n / 10 = 0
    · exfalso; rw [decF_end hq] at h; simp at h
    · have hf' : n / 10 < 10 ^ f := by
        rw [Int.pow_succ] at hf
        generalize (10 : Int) ^ f = p at *
        omega
      simp only [decF_on hq]
      have hne : 0 < (decF f (n / 10)).length := by
        cases f with
        | zero => simp at hf'; omega
        | succ f =>
          by_cases h2 : n / 10 / 10 = 0
          · rw [decF_end h2]; simp
          · rw [decF_on h2]; simp
      rw [List.getElem_append_left hne]
      by_cases h1 : 1 < (decF f (n / 10)).length
      · exact ih (n / 10) (by omega) hf' h1
      · cases f with
        | zero => simp [decF] at hne
        | succ f =>
          by_cases h2 : n / 10 / 10 = 0
          · simp only [decF_end h2, List.getElem_cons_zero]; omega
          · exfalso
            rw [decF_on h2] at h1
            have : 0 < (decF f (n / 10 / 10)).length := by
              cases f with
              | zero =>
                have hf2 : n / 10 < 10 := by simpa using hf'
                exfalso; omega
              | succ f =>
                by_cases h3 : n / 10 / 10 / 10 = 0
                · rw [decF_end h3]; simp
                · rw [decF_on h3]; simp
            rw [List.length_append] at h1; simp only [List.length_cons, List.length_nil] at h1; omega
theorem decF_len (n : Int) (h : Wd n) : 1 ≤ (decF 39 n).length ∧ (decF 39 n).length ≤ 39 := by
  refine ⟨?_, ?_⟩
  · rw [show (39 : Nat) = 38 + 1 by rfl]
    by_cases h2 : n / 10 = 0
    · rw [decF_end h2]; simp
    · rw [decF_on h2]; simp
  · have : ∀ f m, (decF f m).length ≤ f := by
      intro f
      induction f with
      | zero => intro m; simp [decF]
      | succ f ih =>
        intro m
        by_cases h2 : m / 10 = 0
        · rw [decF_end h2]; simp
        · rw [decF_on h2]; have := ih (m / 10); simp; omega
    exact this 39 n
end Fg
end Go.Proofs.Ytfdbghcnadanoaa
