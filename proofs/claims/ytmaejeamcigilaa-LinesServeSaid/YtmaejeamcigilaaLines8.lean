import Derived.Test.YtmaejeamcigilaaLines7
namespace Go.Proofs.Ytmaejeamcigilaa
set_option linter.unusedVariables false
set_option linter.unusedSimpArgs false
set_option maxRecDepth 100000
open Go.RowKit Fg Reg

theorem sml_wd {Y M : Int} (h : Sml Y M) : Wd Y := by
  have := h.y0
  have := h.y1
  unfold Wd; omega
theorem sml_in {Y M : Int} (h : Sml Y M) : In M := by
  have := h.m0
  have := h.m1
  unfold In; omega
theorem cmpw_c {A B : Int} (hA : Wd A) (hB : Wd B) (w : World) : Calls Try.prog 28 #[.agg #[.int .u64 (hi A), .int .u64 (lo A)], .agg #[.int .u64 (hi B), .int .u64 (lo B)]] w fun ee w' => ee = .returned (.int .i64 (cmp A B)) ∧ Below w.heap.size w w' := by
  have k := compare_c (hi A) (lo A) (hi B) (lo B) (hi_in _) (lo_in _) (hi_in _) (lo_in _) w
  rwa [val_wd hA, val_wd hB] at k
theorem rr_in {b : Bool} {X1 Y1 M1 X2 Y2 M2 W : Int} (i1 : In X1) (l1 : In M1) (i2 : In X2) (l2 : In M2) (hW : 0 ≤ W) : 0 ≤ rr b X1 Y1 M1 X2 Y2 M2 W ∧ rr b X1 Y1 M1 X2 Y2 M2 W ≤ 9223372036854775808 := by
  have g1 := lrch_in (Y := Y1) (W := W) i1 l1 hW
  have g2 := lrch_in (Y := Y2) (W := W) i2 l2 hW
  unfold rr; split <;> assumption

theorem linesServe_mid (m1 d m2 X Y t : Int) (h1 : In m1) (h2 : In d) (h3 : In m2) (hk : ¬ kind m1 d m2 = 0) (hX : 0 ≤ X ∧ X < 4611686018427387904) (ht : 0 ≤ t ∧ t < 4611686018427387904) (hY0 : 0 ≤ Y) (hY : Y < 19807040628566084398385987584)
    (b X1 Y1 M1 X2 Y2 M2) (i1 : In X1) (s1 : Sml Y1 M1) (i2 : In X2) (s2 : Sml Y2 M2)
    (c A1 B1 C1 A2 B2 C2) (i3 : In A1) (s3 : Sml B1 C1) (i4 : In A2) (s4 : Sml B2 C2)
    (hAt : rn b X1 Y1 M1 X2 Y2 M2 (X + t) = Y + sv m1 d m2 t)
    (hle : Y + sv m1 d m2 t ≤ rn c A1 B1 C1 A2 B2 C2 (X + t))
    (kST : ∀ w, Calls Try.prog 14 #[.agg #[.int .u64 (m1), .int .u64 (d), .int .u64 (m2)], .int .u64 X, .agg #[.int .u64 (hi Y), .int .u64 (lo Y)]] w fun ee w' => ee = .returned (.agg #[.int .u64 (X1), .int .u64 (hi Y1), .int .u64 (lo Y1), .int .u64 (M1), .int .u64 (X2), .int .u64 (hi Y2), .int .u64 (lo Y2), .int .u64 (M2), .bool b]) ∧ Below w.heap.size w w')
    (kRD : ∀ w, Calls Try.prog 17 #[.agg #[.int .u64 (m1), .int .u64 (d), .int .u64 (m2)], .int .u64 X, .agg #[.int .u64 (hi Y), .int .u64 (lo Y)]] w fun ee w' => ee = .returned (.agg #[.int .u64 (A1), .int .u64 (hi B1), .int .u64 (lo B1), .int .u64 (C1), .int .u64 (A2), .int .u64 (hi B2), .int .u64 (lo B2), .int .u64 (C2), .bool c]) ∧ Below w.heap.size w w')
    (hsm : hi Y < 1073741824) (w : World) :
    Calls Try.prog 5 #[.agg #[.int .u64 (m1), .int .u64 (d), .int .u64 (m2)], .agg #[.int .u64 (X), .int .u64 ((hi Y)), .int .u64 ((lo Y))], .int .u64 t] w fun e w' => e = .returned (.bool true) ∧ Below w.heap.size w w' := by
  have ok := okc h1 h2 h3 hk
  have hti : In t := by unfold In; omega
  have hxt : In (X + t) := by unfold In; omega
  have v0 := sv_nn ok ht.1
  have v1 := sv_lt ok hti
  have wY : Wd Y := by unfold Wd; omega
  have wv : Wd (sv m1 d m2 t) := by unfold Wd; omega
  have wS : Wd (Y + sv m1 d m2 t) := by unfold Wd; omega
  have wW : Wd (Y + sv m1 d m2 t + 1) := by unfold Wd; omega
  have rg := rr_in (b := b) (Y1 := Y1) (Y2 := Y2) i1 (sml_in s1) i2 (sml_in s2) wW.1
  have spec := rr_spec (b := b) (x := X + t) s1 s2 i1 i2 (sml_in s1) (sml_in s2) hxt wW.1 (by rw [hAt]; omega)
  have a1 := rat_run b X1 Y1 M1 X2 Y2 M2 (X + t) i1 (sml_wd s1) (sml_in s1) i2 (sml_wd s2) (sml_in s2) hxt
  have a2 := rat_run c A1 B1 C1 A2 B2 C2 (X + t) i3 (sml_wd s3) (sml_in s3) i4 (sml_wd s4) (sml_in s4) hxt
  have a3 := rrc_run b X1 Y1 M1 X2 Y2 M2 (Y + sv m1 d m2 t + 1) i1 (sml_wd s1) (sml_in s1) i2 (sml_wd s2) (sml_in s2) wW
  have w2 : Wd (rn c A1 B1 C1 A2 B2 C2 (X + t)) := rn_wd (sml_wd s3) (sml_wd s4)
  have wR : ∀ n, Wd (rn b X1 Y1 M1 X2 Y2 M2 n) := fun n => rn_wd (sml_wd s1) (sml_wd s2)
  have a4 := fun n (hn : In n) => rat_run b X1 Y1 M1 X2 Y2 M2 n i1 (sml_wd s1) (sml_in s1) i2 (sml_wd s2) (sml_in s2) hn
  rw [hAt] at a1
  have kSV := ksv_c m1 d m2 t h1 h2 h3 hti
  rw [srv_ok hk] at kSV
  have kAD := add_c (hi Y) (lo Y) (hi (sv m1 d m2 t)) (lo (sv m1 d m2 t)) (hi_in _) (lo_in _) (hi_in _) (lo_in _)
  rw [val_wd wY, val_wd wv, show decide (340282366920938463463374607431768211455 < Y + sv m1 d m2 t) = false from by simp; omega] at kAD
  have kA0 := add_c (hi (Y + sv m1 d m2 t)) (lo (Y + sv m1 d m2 t)) 0 1 (hi_in _) (lo_in _) (by unfold In; omega) (by unfold In; omega)
  rw [val_wd wS, show val 0 1 = 1 from rfl] at kA0
  have hc1 : decide (cmp (rn c A1 B1 C1 A2 B2 C2 (X + t)) (Y + sv m1 d m2 t) < 0) = false := by
    simp; unfold cmp; split <;> (try split) <;> omega
  have kC1 := cmpw_c w2 wS
  generalize rn c A1 B1 C1 A2 B2 C2 (X + t) = v at *
  generalize rr b X1 Y1 M1 X2 Y2 M2 (Y + sv m1 d m2 t + 1) = n at *
  have kC2 := cmpw_c (wR n) wW
  have kC3 := cmpw_c (wR (n - 1)) wW
  refine linesServe_core m1 d m2 X (hi Y) (lo Y) t hX ht X1 (hi Y1) (lo Y1) M1 X2 (hi Y2) (lo Y2) M2 A1 (hi B1) (lo B1) C1 A2 (hi B2) (lo B2) C2 b c _ _ _ _ _ _ _ _ _ n _ _ _ _ _ _ _ hc1 ?_ ((small_c X (hi Y) (lo Y) · |>.1 ⟨hX.2, hsm⟩)) (krt_yes m1 d m2 h1 h2 h3 hk) kST kSV kAD a1 kRD a2 kC1 kA0 a3 (fun hn => a4 n (by unfold In; omega)) kC2 (fun hn => ?_) kC3 w
  · rcases Int.lt_or_le n 9223372036854775808 with hn | hn
    · have s := spec hn
      refine .inr ⟨by omega, hn, by simp; omega, s.1, ?_, ?_⟩
      · unfold cmp; split <;> (try split) <;> omega
      · unfold cmp; split <;> (try split) <;> omega
    · exact .inl (by omega)
  · have s := spec hn
    exact a4 (n - 1) (by unfold In; omega)

set_option maxHeartbeats 4000000 in
theorem linesServe_law (m1 d m2 X yp yq t : Int) (w1 : (Lit.int .u64 m1).wf = true) (w2 : (Lit.int .u64 d).wf = true) (w3 : (Lit.int .u64 m2).wf = true) (wx : (Lit.int .u64 X).wf = true) (wp : (Lit.int .u64 yp).wf = true) (wq : (Lit.int .u64 yq).wf = true) (wt : (Lit.int .u64 t).wf = true) (w : World) :
    Calls Try.prog 5 #[.agg #[.int .u64 (m1), .int .u64 (d), .int .u64 (m2)], .agg #[.int .u64 (X), .int .u64 (yp), .int .u64 (yq)], .int .u64 t] w fun e w' => e = .returned (.bool true) ∧ Below w.heap.size w w' := by
  have h1 := in_wf w1
  have h2 := in_wf w2
  have h3 := in_wf w3
  have hX := in_wf wx
  have hp := in_wf wp
  have hq := in_wf wq
  have ht := in_wf wt
  by_cases c1 : X < 4611686018427387904 ∧ yp < 1073741824
  case neg => exact linesServe_out m1 d m2 X yp yq t false (.inl rfl) (fun w => (small_c X yp yq w).2 c1) w
  have kSM := fun w => (small_c X yp yq w).1 c1
  rcases Int.lt_or_le t 4611686018427387904 with c2 | c2
  case inr => exact linesServe_out m1 d m2 X yp yq t true (.inr ⟨rfl, c2⟩) kSM w
  by_cases hk : kind m1 d m2 = 0
  · exact linesServe_bad m1 d m2 X yp yq t c2 kSM (krt_no m1 d m2 h1 h2 h3 hk) w
  clear kSM w1 w2 w3 wx wp wq wt
  obtain ⟨Y, hYe⟩ : ∃ Y, Y = val yp yq := ⟨_, rfl⟩
  have ep : yp = hi Y := by rw [hYe, hi_val hp hq]
  have eq : yq = lo Y := by rw [hYe, lo_val hq]
  have hY0 : 0 ≤ Y := by rw [hYe]; exact (val_in hp hq).1
  have hY1 : Y < 19807040628566084398385987584 := by
    rw [hYe]; unfold val; unfold In at hq; have := c1.2; omega
  rw [ep, eq]
  rw [ep] at c1
  clear hYe ep eq hp hq yp yq
  have ok := okc h1 h2 h3 hk
  have kk := kof_c m1 d m2 h1 h2 h3
  have hr := kind_range m1 d m2
  have n1 := ok.n1
  have n2 := ok.n2
  have n3 := ok.n3
  have b1 := ok.b1
  have b2 := ok.b2
  have b3 := ok.b3
  have x0 := hX.1
  have t0 := ht.1
  have xt : In (X + t) := by unfold In; omega
  have zI : In 0 := by unfold In; omega
  have zS : Sml 0 0 := by constructor <;> omega
  have sY : Sml Y m2 := by constructor <;> omega
  have sY0 : Sml Y 0 := by constructor <;> omega
  have sY1 : Sml Y m1 := by constructor <;> omega
  have one : ∀ X2 Y2 M2 x, rn false 0 0 0 X2 Y2 M2 x = lat X2 Y2 M2 x := fun X2 Y2 M2 x => if_neg (by simp)
  rcases (by omega : kind m1 d m2 = 1 ∨ kind m1 d m2 = 2 ∨ kind m1 d m2 = 3 ∨ kind m1 d m2 = 4) with k | k | k | k
  · have kk' := kk
    rw [k] at kk'
    have r := rdy_none m1 d m2 X (hi Y) (lo Y) 1 (by simp) kk'
    have s := sta_same m1 d m2 X (hi Y) (lo Y) 1 (.agg #[]) ⟨_, rfl⟩ (by decide) kk' _ _ _ _ _ _ _ _ _ r
    have e0 : sv m1 d m2 t = 0 := by
      have z : m1 = 0 ∧ m2 = 0 := by
        unfold kind at k; revert k; repeat' split
        all_goals omega
      rw [z.1, z.2]; unfold sv; simp
    have e1 : lat X Y 0 (X + t) = Y := by rw [run_lin sY0 hX t0 xt]; simp
    refine linesServe_mid m1 d m2 X Y t h1 h2 h3 hk ⟨x0, c1.1⟩ ⟨t0, c2⟩ hY0 hY1 false 0 0 0 X Y 0 zI zS hX sY0 false 0 0 0 X Y 0 zI zS hX sY0 ?_ ?_ s r c1.2 w
    · rw [one, e1, e0]; omega
    · rw [one, e1, e0]; omega
  · have kk' := kk
    rw [k] at kk'
    have r := rdy_one m1 d m2 X (hi Y) (lo Y) 2 (by simp) kk'
    have s := sta_same m1 d m2 X (hi Y) (lo Y) 2 (.agg #[]) ⟨_, rfl⟩ (by decide) kk' _ _ _ _ _ _ _ _ _ r
    have e0 : sv m1 d m2 t = m2 * t := by
      have z := kind_of12 (.inr k)
      rw [z.1, z.2]; unfold sv
      split
      · rfl
      · simp
    have e1 : lat X Y m2 (X + t) = Y + m2 * t := run_lin sY hX t0 xt
    refine linesServe_mid m1 d m2 X Y t h1 h2 h3 hk ⟨x0, c1.1⟩ ⟨t0, c2⟩ hY0 hY1 false 0 0 0 X Y m2 zI zS hX sY false 0 0 0 X Y m2 zI zS hX sY ?_ ?_ s r c1.2 w
    · rw [one, e1, e0]
    · rw [one, e1, e0]; omega
  · have kk' := kk
    rw [k] at kk'
    have hlt := kind_of3 k
    have hs : In (m1 - m2) := by unfold In; omega
    have hb := mul_bd (show 0 ≤ m1 - m2 by omega) (show m1 - m2 ≤ 4294967295 by omega) n2 b2 (by omega)
    have hP : Wd ((m1 - m2) * d) := by unfold Wd; omega
    have hYw : Wd Y := by unfold Wd; omega
    have sZ : Sml (Y + (m1 - m2) * d) m2 := by constructor <;> omega
    have r := rdy_two m1 d m2 X (hi Y) (lo Y) _ _ _ _ _ h1 h3 hlt kk' (mul_c (m1 - m2) d hs h2) (fun w => by
      have k := add_c (hi Y) (lo Y) (hi ((m1 - m2) * d)) (lo ((m1 - m2) * d)) (hi_in _) (lo_in _) (hi_in _) (lo_in _) w
      rw [val_wd hYw, val_wd hP] at k
      exact k)
    have s := sta_same m1 d m2 X (hi Y) (lo Y) 3 (.agg #[]) ⟨_, rfl⟩ (by decide) kk' _ _ _ _ _ _ _ _ _ r
    have e1 := run_two sY1 sZ hX t0 n2 xt hlt
    refine linesServe_mid m1 d m2 X Y t h1 h2 h3 hk ⟨x0, c1.1⟩ ⟨t0, c2⟩ hY0 hY1 true X Y m1 X (Y + (m1 - m2) * d) m2 hX sY1 hX sZ true X Y m1 X (Y + (m1 - m2) * d) m2 hX sY1 hX sZ e1 ?_ s r c1.2 w
    rw [e1]; omega
  · have kk' := kk
    rw [k] at kk'
    have z := kind_of4 k
    have hs : In (X + d) := by unfold In; omega
    have r := rdy_one m1 d m2 X (hi Y) (lo Y) 4 (by simp) kk'
    have r2 := rdy_one m1 d m2 (X + d) (hi Y) (lo Y) 4 (by simp) kk'
    have s := sta_late m1 d m2 X (hi Y) (lo Y) hX h2 hs kk' _ _ _ _ _ _ _ _ _ r2
    have e0 : sv m1 d m2 t = if t ≤ d then 0 else m2 * (t - d) := by
      rw [z]; unfold sv; simp
    have e1 : lat (X + d) Y m2 (X + t) = Y + sv m1 d m2 t := by
      rw [run_late sY hs xt, e0]
      split <;> omega
    have e2 : lat X Y m2 (X + t) = Y + m2 * t := run_lin sY hX t0 xt
    refine linesServe_mid m1 d m2 X Y t h1 h2 h3 hk ⟨x0, c1.1⟩ ⟨t0, c2⟩ hY0 hY1 false 0 0 0 (X + d) Y m2 zI zS hs sY false 0 0 0 X Y m2 zI zS hX sY ?_ ?_ s r c1.2 w
    · rw [one, e1]
    · rw [one, e2, e0]
      have q := Int.mul_le_mul_of_nonneg_left (show t - d ≤ t by omega) n3
      have q2 := Int.mul_nonneg n3 t0
      split <;> omega
end Go.Proofs.Ytmaejeamcigilaa
