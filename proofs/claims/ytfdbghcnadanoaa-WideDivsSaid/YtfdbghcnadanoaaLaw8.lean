import Derived.Test.YtfdbghcnadanoaaLaw7
namespace Go.Proofs.Ytfdbghcnadanoaa
set_option linter.unusedVariables false
set_option linter.unusedSimpArgs false
open Go.RowKit Fg Reg

theorem wd_quo {A b : Int} (hA : Wd A) (hb : 0 < b) : Wd (A / b) := by
  unfold Wd at *
  refine ⟨Int.ediv_nonneg hA.1 (by omega), ?_⟩
  have := Int.ediv_le_self b hA.1
  omega
theorem low_of_wd {Q : Int} (h : Wd Q) (h0 : hi Q = 0) : lo Q = Q := by unfold Wd at h; unfold hi at h0; unfold lo; omega
theorem val_zero (x : Int) : val 0 x = x := by unfold val; omega
theorem in_rest {A b : Int} (hb : In b) (h0 : 0 < b) : In (A % b) := by
  have h1 := Int.emod_nonneg A (show b ≠ 0 by omega)
  have h2 := Int.emod_lt_of_pos A h0
  unfold In at *; omega

theorem wideDivs_law (a0 a1 b : Int) (wa0 : (Lit.int .u64 a0).wf = true) (wa1 : (Lit.int .u64 a1).wf = true) (wb : (Lit.int .u64 b).wf = true) (w : World) :
    Calls Try.prog 6 #[.agg #[.int .u64 a0, .int .u64 a1], .int .u64 b] w fun e w' => e = .returned (.bool true) ∧ Below w.heap.size w w' := by
  have ha0 := in_wf wa0
  have ha1 := in_wf wa1
  have hb := in_wf wb
  have hA : Wd (val a0 a1) := val_in ha0 ha1
  by_cases hb0 : b = 0
  · subst hb0; exact wideDivs_none a0 a1 w
  · have hb1 : 0 < b := by unfold In at hb; omega
    have hq := wd_quo hA hb1
    have hr := in_rest (A := val a0 a1) hb hb1
    refine wideDivs_core a0 a1 b (hi (val a0 a1 / b)) (lo (val a0 a1 / b)) (val a0 a1 % b) (val a0 a1) (val a0 a1 / b) (hi (lo (val a0 a1 / b) * b)) (lo (lo (val a0 a1 / b) * b)) ha0 ha1 hb1 (Int.emod_lt_of_pos _ hb1) rfl rfl rfl ?_ ?_ ?_ w
    · intro w; exact div_some a0 a1 b ha0 ha1 hb (by omega) w
    · intro w; exact refquo_c _ b hA hb (by omega) w
    · intro h0
      refine ⟨fun w => mul_c _ b (lo_in _) hb w, fun w => ?_⟩
      have h := add_c (hi (lo (val a0 a1 / b) * b)) (lo (lo (val a0 a1 / b) * b)) 0 (val a0 a1 % b) (hi_in _) (lo_in _) (by unfold In; omega) hr w
      have e1 : lo (val a0 a1 / b) = val a0 a1 / b := low_of_wd hq h0
      have e2 := Int.mul_ediv_add_emod (val a0 a1) b
      have e4 : val a0 a1 / b * b = val a0 a1 - val a0 a1 % b := by rw [Int.mul_comm]; omega
      have h2 := Int.emod_nonneg (val a0 a1) (show b ≠ 0 by omega)
      have hp : Wd (lo (val a0 a1 / b) * b) := by
        rw [e1, e4]; unfold Wd at hA ⊢
        have := Int.mul_nonneg hq.1 (show 0 ≤ b by omega)
        omega
      have e5 := val_zero (val a0 a1 % b)
      have e6 : lo (val a0 a1 / b) * b + val a0 a1 % b = val a0 a1 := by rw [e1, e4]; omega
      rw [val_wd hp, e5, e6] at h
      have e7 : decide (340282366920938463463374607431768211455 < val a0 a1) = false := by
        unfold Wd at hA; simp; omega
      rwa [e7, hi_val ha0 ha1, lo_val ha1] at h
end Go.Proofs.Ytfdbghcnadanoaa
