import Derived.Test.YtjicnbdlffpbbaaCurve1
namespace Go.Proofs.Ytjicnbdlffpbbaa
set_option linter.unusedVariables false
set_option linter.unusedSimpArgs false
set_option maxRecDepth 100000
open Go.RowKit Fg Reg

theorem ksv_c (m1 d m2 t : Int) (h1 : In m1) (h2 : In d) (h3 : In m2) (ht : In t) (w : World) : Calls Try.prog 31 #[.agg #[.int .u64 (m1), .int .u64 (d), .int .u64 (m2)], .int .u64 t] w fun ee w' => ee = .returned (.agg #[.int .u64 (hi (srv m1 d m2 t)), .int .u64 (lo (srv m1 d m2 t))]) ∧ Below w.heap.size w w' := by
  by_cases h : kind m1 d m2 = 0
  · rw [srv_no h]
    exact ksv_no m1 d m2 t h1 h2 h3 h w
  · rw [srv_ok h]
    have hk := okc h1 h2 h3 h
    rcases Int.lt_or_le d t with hlt | hle
    · have e : sv m1 d m2 t = m1 * d + m2 * (t - d) := if_neg (by omega)
      have ht2 : In (t - d) := by unfold In at *; omega
      refine ksv_hi m1 d m2 t _ _ _ _ _ _ (decide (340282366920938463463374607431768211455 < sv m1 d m2 t)) h1 h2 h3 ht hlt h (mul_c m1 d h1 h2) (mul_c m2 (t - d) h3 ht2) (fun w => ?_) w
      have k := add_c (hi (m1 * d)) (lo (m1 * d)) (hi (m2 * (t - d))) (lo (m2 * (t - d))) (hi_in _) (lo_in _) (hi_in _) (lo_in _) w
      rw [val_wd (wd_mul h1 h2), val_wd (wd_mul h3 ht2), ← e] at k
      exact k
    · have e : sv m1 d m2 t = m1 * t := if_pos hle
      rw [e]
      have z : In 0 := by unfold In; omega
      refine ksv_lo m1 d m2 t _ _ h1 h2 h3 ht hle h (mul_c m1 t h1 ht) (fun w => ?_) (fun w => ?_) w
      · have k := mul_c m2 0 h3 z w
        rw [Int.mul_zero] at k
        exact k
      · have k := add_c (hi (m1 * t)) (lo (m1 * t)) 0 0 (hi_in _) (lo_in _) z z w
        have hw := wd_mul h1 ht
        rw [val_wd hw, val_zero, Int.add_zero] at k
        have e2 : decide (340282366920938463463374607431768211455 < m1 * t) = false := by unfold Wd at hw; simp; omega
        rwa [e2] at k

theorem clg_wd {W m : Int} (hW : Wd W) (hm1 : 1 ≤ m) : Wd (clg W m) := by
  have h1 := cl_between W m
  rw [cl_clg] at h1
  have h2 := wd_quo hW (show 0 < m by omega)
  have h3 := Int.ediv_le_self m hW.1
  unfold Wd at *
  rcases h1 with h1 | h1
  · omega
  · refine ⟨by omega, ?_⟩
    rw [h1]
    rcases Int.lt_or_le m 2 with hm2 | hm2
    · have : m = 1 := by omega
      subst this
      have : clg W 1 = W := by unfold clg; rw [if_pos (by omega)]; omega
      omega
    · have h4 : W / m * m ≤ W := Int.ediv_mul_le W (by omega)
      have h5 : W / m * 2 ≤ W / m * m := Int.mul_le_mul_of_nonneg_left hm2 (Int.ediv_nonneg hW.1 (by omega))
      omega
end Go.Proofs.Ytjicnbdlffpbbaa
