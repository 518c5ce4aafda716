import Derived.Test.YtjicnbdlffpbbaaLines16
import Derived.Test.YtjicnbdlffpbbaaMathRn2
namespace Go.Proofs.Ytjicnbdlffpbbaa
set_option linter.unusedVariables false
set_option linter.unusedSimpArgs false
set_option maxRecDepth 100000
open Go.RowKit Fg Reg

theorem linesEligible_law (m1 d m2 X p q U r s t0 t1 : Int) (w1 : (Lit.int .u64 m1).wf = true) (w2 : (Lit.int .u64 d).wf = true) (w3 : (Lit.int .u64 m2).wf = true) (wx : (Lit.int .u64 X).wf = true) (wp : (Lit.int .u64 p).wf = true) (wq : (Lit.int .u64 q).wf = true) (wu : (Lit.int .u64 U).wf = true) (wr : (Lit.int .u64 r).wf = true) (ws : (Lit.int .u64 s).wf = true) (wt0 : (Lit.int .u64 t0).wf = true) (wt1 : (Lit.int .u64 t1).wf = true) (w : World) :
    Calls Try.prog 5 #[.agg #[.int .u64 (m1), .int .u64 (d), .int .u64 (m2)], .agg #[.int .u64 X, .int .u64 p, .int .u64 q, .int .u64 U, .int .u64 r, .int .u64 s], .agg #[.int .u64 t0, .int .u64 t1]] w fun e w' => e = .returned (.bool true) ∧ Below w.heap.size w w' := by
  have h1 := in_wf w1
  have h2 := in_wf w2
  have h3 := in_wf w3
  have hX := in_wf wx
  have hp := in_wf wp
  have hq := in_wf wq
  have hU := in_wf wu
  have hr := in_wf wr
  have hs := in_wf ws
  have ht0 := in_wf wt0
  have ht1 := in_wf wt1
  clear w1 w2 w3 wx wp wq wu wr ws wt0 wt1
  have kc : ∀ w, Calls Try.prog 25 #[.agg #[.int .u64 r, .int .u64 s], .agg #[.int .u64 p, .int .u64 q]] w fun ee w' => ee = .returned (.int .i64 (cmp (val r s) (val p q))) ∧ Below w.heap.size w w' := fun w => compare_c r s p q hr hs hp hq w
  have rt : ∃ b, (b = true ↔ ¬ kind m1 d m2 = 0) ∧ ∀ w, Calls Try.prog 26 #[.agg #[.int .u64 (m1), .int .u64 (d), .int .u64 (m2)]] w fun ee w' => ee = .returned (.bool b) ∧ Below w.heap.size w w' := by
    by_cases hk : kind m1 d m2 = 0
    · exact ⟨false, by simp [hk], krt_no m1 d m2 h1 h2 h3 hk⟩
    · exact ⟨true, by simp [hk], krt_yes m1 d m2 h1 h2 h3 hk⟩
  obtain ⟨b, hb, kr⟩ := rt
  have s1 : ∃ b, (b = true ↔ (X < 4611686018427387904 ∧ p < 1073741824)) ∧ ∀ w, Calls Try.prog 24 #[.agg #[.int .u64 (X), .int .u64 (p), .int .u64 (q)]] w fun ee w' => ee = .returned (.bool b) ∧ Below w.heap.size w w' := by
    by_cases c : X < 4611686018427387904 ∧ p < 1073741824
    · exact ⟨true, by simp [c], fun w => (small_c X p q w).1 c⟩
    · exact ⟨false, by simpa using c, fun w => (small_c X p q w).2 c⟩
  have s2 : ∃ b, (b = true ↔ (U < 4611686018427387904 ∧ r < 1073741824)) ∧ ∀ w, Calls Try.prog 24 #[.agg #[.int .u64 (U), .int .u64 (r), .int .u64 (s)]] w fun ee w' => ee = .returned (.bool b) ∧ Below w.heap.size w w' := by
    by_cases c : U < 4611686018427387904 ∧ r < 1073741824
    · exact ⟨true, by simp [c], fun w => (small_c U r s w).1 c⟩
    · exact ⟨false, by simpa using c, fun w => (small_c U r s w).2 c⟩
  obtain ⟨b1, hb1, k1⟩ := s1
  obtain ⟨b2, hb2, k2⟩ := s2
  by_cases hin : b1 = true ∧ b2 = true ∧ X ≤ U ∧ 0 ≤ cmp (val r s) (val p q) ∧ b = true ∧ U ≤ t0 ∧ t0 < 4611686018427387904 ∧ t1 < 4611686018427387904
  case neg =>
    refine linesEligible_out m1 d m2 X p q U r s _ t0 t1 b1 b2 b ?_ k1 k2 kc kr w
    cases b1 <;> cases b2 <;> cases b <;> simp at hin ⊢ <;> omega
  obtain ⟨rfl, rfl, hXU, hz, rfl, g3, g4, g5⟩ := hin
  have g1 := hb1.1 rfl
  have g2 := hb2.1 rfl
  have hk := hb.1 rfl
  have ok := okc h1 h2 h3 hk
  have hX0 := hX.1
  have t10 := ht1.1
  obtain ⟨Y, hY⟩ : ∃ Y, Y = val p q := ⟨_, rfl⟩
  obtain ⟨V, hV⟩ : ∃ V, V = val r s := ⟨_, rfl⟩
  have y0 : 0 ≤ Y ∧ Y < 19807040628566084398385987584 := by rw [hY]; unfold val; unfold In at hp hq; omega
  have v0 : 0 ≤ V ∧ V < 19807040628566084398385987584 := by rw [hV]; unfold val; unfold In at hr hs; omega
  have hYV : Y ≤ V := by
    rw [hY, hV]
    unfold cmp at hz
    revert hz
    (repeat' split) <;> omega
  have ep : p = hi Y := by rw [hY, hi_val hp hq]
  have eq : q = lo Y := by rw [hY, lo_val hq]
  have er : r = hi V := by rw [hV, hi_val hr hs]
  have es : s = lo V := by rw [hV, lo_val hs]
  clear hY hV hb1 hb2 hb
  subst ep eq er es
  have sm := fun l => srun_sm (late := l) (X := X) h1 h2 h3 hX0 (by omega) y0.1 (show Y < 1000000000000000000000000000000 by omega)
  have sn := fun l => srun_sm (late := l) (X := U) h1 h2 h3 (by omega) (by omega) v0.1 (show V < 1000000000000000000000000000000 by omega)
  have el := elig h1 h2 h3 hk hX0 hXU g2.1 y0.1 hYV v0.2 g3 g4 t10 g5
  have kS := fun w => start_R h1 h2 h3 hX0 (show X ≤ 9223372036854775808 by omega) y0.1 (show Y < 1000000000000000000000000000000 by omega) w
  have kT := fun w => start_R h1 h2 h3 (show 0 ≤ U by omega) (show U ≤ 9223372036854775808 by omega) v0.1 (show V < 1000000000000000000000000000000 by omega) w
  have kS' := fun w => ready_R (X := X) h1 h2 h3 y0.1 (show Y < 1000000000000000000000000000000 by omega) w
  have kT' := fun w => ready_R (X := U) h1 h2 h3 v0.1 (show V < 1000000000000000000000000000000 by omega) w
  have kM := fun w => meet_R (sm true).ok (sn true).ok w
  have kM' := fun w => meet_R (sm false).ok (sn false).ok w
  have okG := (sm true).meet (sn true)
  have okH := (sm false).meet (sn false)
  generalize (srun true m1 d m2 X Y).meet (srun true m1 d m2 U V) = G at *
  generalize (srun false m1 d m2 X Y).meet (srun false m1 d m2 U V) = H at *
  clear sm sn
  generalize srun true m1 d m2 X Y = R at *
  generalize srun true m1 d m2 U V = S at *
  generalize srun false m1 d m2 X Y = R' at *
  generalize srun false m1 d m2 U V = S' at *
  have t0I : In t0 := by unfold In; omega
  have tsI : In (t0 + t1) := by unfold In; omega
  have kA := fun w => at_R okH.ok t0I w
  have kB := fun w => at_R okG.ok tsI w
  have wA := okH.ok.at_wd t0
  have wB := okG.ok.at_wd (t0 + t1)
  have v1 := sv_nn ok ht1.1
  have v2 := sv_lt ok ht1
  have kV := ksv_c m1 d m2 t1 h1 h2 h3 ht1
  rw [srv_ok hk] at kV
  have wV : Wd (sv m1 d m2 t1) := by unfold Wd; omega
  have wVV : Wd V := by unfold Wd; omega
  have hAs := rn_sm okH (x := t0) t0I g4
  have wS : Wd (H.at t0 + sv m1 d m2 t1) := by unfold Wd at wA ⊢; omega
  have kD := add_c (hi (H.at t0)) (lo (H.at t0)) (hi (sv m1 d m2 t1)) (lo (sv m1 d m2 t1)) (hi_in _) (lo_in _) (hi_in _) (lo_in _)
  rw [val_wd wA, val_wd wV, show decide (340282366920938463463374607431768211455 < H.at t0 + sv m1 d m2 t1) = false from by simp; unfold Wd at wS; omega] at kD
  have kE := fun w => cmp_R wB wVV w
  have kF := fun w => cmp_R wB wS w
  generalize H.at t0 = A at *
  generalize G.at (t0 + t1) = T at *
  have kM1 : ∀ w, Calls Try.prog 21 #[rvv R, rvv S] w fun ee w' => ee = .returned (.agg #[.int .u64 (G.x1), .int .u64 (hi G.y1), .int .u64 (lo G.y1), .int .u64 (G.m1), .int .u64 (G.x2), .int .u64 (hi G.y2), .int .u64 (lo G.y2), .int .u64 (G.m2), .bool G.b]) ∧ Below w.heap.size w w' := kM
  have kM2 : ∀ w, Calls Try.prog 21 #[rvv R', rvv S'] w fun ee w' => ee = .returned (.agg #[.int .u64 (H.x1), .int .u64 (hi H.y1), .int .u64 (lo H.y1), .int .u64 (H.m1), .int .u64 (H.x2), .int .u64 (hi H.y2), .int .u64 (lo H.y2), .int .u64 (H.m2), .bool H.b]) ∧ Below w.heap.size w w' := kM'
  have kA1 : ∀ w, Calls Try.prog 16 #[.agg #[.int .u64 (H.x1), .int .u64 (hi H.y1), .int .u64 (lo H.y1), .int .u64 (H.m1), .int .u64 (H.x2), .int .u64 (hi H.y2), .int .u64 (lo H.y2), .int .u64 (H.m2), .bool H.b], .int .u64 t0] w fun ee w' => ee = .returned (.agg #[.int .u64 (hi A), .int .u64 (lo A)]) ∧ Below w.heap.size w w' := kA
  have kB1 : ∀ w, Calls Try.prog 16 #[.agg #[.int .u64 (G.x1), .int .u64 (hi G.y1), .int .u64 (lo G.y1), .int .u64 (G.m1), .int .u64 (G.x2), .int .u64 (hi G.y2), .int .u64 (lo G.y2), .int .u64 (G.m2), .bool G.b], .int .u64 (t0 + t1)] w fun ee w' => ee = .returned (.agg #[.int .u64 (hi T), .int .u64 (lo T)]) ∧ Below w.heap.size w w' := kB
  clear kM kM' kA kB
  exact linesEligible_core m1 d m2 X (hi Y) (lo Y) U (hi V) (lo V) _ t0 t1 hXU hz (by omega) g3 g4 t10 g5 G.x1 (hi G.y1) (lo G.y1) G.m1 G.x2 (hi G.y2) (lo G.y2) G.m2 H.x1 (hi H.y1) (lo H.y1) H.m1 H.x2 (hi H.y2) (lo H.y2) H.m2 G.b H.b (rvv R) (rvv S) (rvv R') (rvv S') _ _ _ _ _ _ _ _ (cmp T V) (cmp T (A + sv m1 d m2 t1))
    (by unfold cmp; (repeat' split) <;> omega) ⟨_, rfl⟩ ⟨_, rfl⟩ ⟨_, rfl⟩ ⟨_, rfl⟩ k1 k2 kc kr kS kT kM1 kS' kT' kM2 kA1 kV kD kB1 kE kF w
end Go.Proofs.Ytjicnbdlffpbbaa
