import Derived.Test.YtjicnbdlffpbbaaLines14
import Derived.Test.YtjicnbdlffpbbaaRunA
import Derived.Test.YtjicnbdlffpbbaaLawsA
namespace Go.Proofs.Ytjicnbdlffpbbaa
set_option linter.unusedVariables false
set_option linter.unusedSimpArgs false
set_option maxRecDepth 100000
open Go.RowKit Fg Reg

theorem cmp_R {A B : Int} (hA : Wd A) (hB : Wd B) (w : World) : Calls Try.prog 25 #[.agg #[.int .u64 (hi A), .int .u64 (lo A)], .agg #[.int .u64 (hi B), .int .u64 (lo B)]] w fun ee w' => ee = .returned (.int .i64 (cmp A B)) ∧ Below w.heap.size w w' := by
  have k := compare_c (hi A) (lo A) (hi B) (lo B) (hi_in _) (lo_in _) (hi_in _) (lo_in _) w
  rwa [val_wd hA, val_wd hB] at k
theorem add_R {A c : Int} (hA : Wd A) (hc : In c) (w : World) : Calls Try.prog 28 #[.agg #[.int .u64 (hi A), .int .u64 (lo A)], .agg #[.int .u64 0, .int .u64 c]] w fun ee w' => ee = .returned (.tuple #[.agg #[.int .u64 (hi (A + c)), .int .u64 (lo (A + c))], .bool (decide (340282366920938463463374607431768211455 < A + c))]) ∧ Below w.heap.size w w' := by
  have k := add_c (hi A) (lo A) 0 c (hi_in _) (lo_in _) (by unfold In; omega) hc w
  rwa [val_wd hA, show val 0 c = c by unfold val; omega] at k

theorem meetRound_of {m1 d m2 X U Y V : Int} (h1 : In m1) (h2 : In d) (h3 : In m2) (hd : d ≤ 1048576) (hX : 0 ≤ X) (hXU : X ≤ U) (hU1 : U < 4611686018427387904) (hY : 0 ≤ Y) (hYV : Y ≤ V) (hV : V < 19807040628566084398385987584) (k : Nat) (hk : k < 6) (r s g : Rn)
    (er : r = srun true m1 d m2 X Y) (es : s = srun true m1 d m2 U V) (eg : g = r.meet s) :
    MeetRound m1 d m2 X U (hi V) (lo V) r.x1 (hi r.y1) (lo r.y1) r.m1 r.x2 (hi r.y2) (lo r.y2) r.m2 s.x1 (hi s.y1) (lo s.y1) s.m1 s.x2 (hi s.y2) (lo s.y2) s.m2 g.x1 (hi g.y1) (lo g.y1) g.m1 g.x2 (hi g.y2) (lo g.y2) g.m2 r.b s.b k := by
  have q1 : 0 ≤ (k : Int) * k := Int.mul_nonneg (by omega) (by omega)
  have q2 : (k : Int) * k ≤ 5 * 5 := Int.mul_le_mul (by omega) (by omega) (by omega) (by omega)
  have q3 : 0 ≤ (k : Int) * k * k := Int.mul_nonneg q1 (by omega)
  have q4 : (k : Int) * k * k ≤ 25 * 5 := Int.mul_le_mul (by omega) (by omega) (by omega) (by omega)
  have d0 := h2.1
  have sr : r.sm := er ▸ srun_sm h1 h2 h3 hX (by omega) hY (by omega)
  have ss : s.sm := es ▸ srun_sm h1 h2 h3 (by omega) (by omega) (by omega) (by omega)
  have sg : g.sm := eg ▸ sr.meet ss
  have hx : In (U + d + (k : Int) * k * k) := by unfold In; omega
  have wV : Wd V := by unfold Wd; omega
  have cI : In (1 + (k : Int) * k * 40) := by unfold In; omega
  have wW : Wd (V + (1 + (k : Int) * k * 40)) := by unfold Wd; omega
  have ha := srun_meet_at (l := true) (X := X) (Y := Y) (U := U) (V := V) h1 h2 h3 hX (by omega) (by omega) (by omega) hY (by omega) (by omega) (by omega) hx (by omega) (by omega)
  have hr := srun_meet_rch (l := true) (X := X) (Y := Y) (U := U) (V := V) (W := V + (1 + (k : Int) * k * 40)) h1 h2 h3 hX hXU (by omega) (by omega) hY (by omega) (by omega) (by omega) (by omega) (by omega)
  rw [← er, ← es, ← eg] at ha hr
  have kd := fun w => at_R sg.ok hx w
  have kh := fun w => rch_R sg.ok wW w
  rw [ha] at kd
  rw [hr] at kh
  generalize hxx : U + d + (k : Int) * k * k = x at *
  generalize hWW : V + (1 + (k : Int) * k * 40) = W at *
  have ka : ∀ w, Calls Try.prog 16 #[.agg #[.int .u64 (r.x1), .int .u64 (hi r.y1), .int .u64 (lo r.y1), .int .u64 (r.m1), .int .u64 (r.x2), .int .u64 (hi r.y2), .int .u64 (lo r.y2), .int .u64 (r.m2), .bool r.b], .int .u64 x] w fun ee w' => ee = .returned (.agg #[.int .u64 (hi (r.at x)), .int .u64 (lo (r.at x))]) ∧ Below w.heap.size w w' := fun w => at_R sr.ok hx w
  have kb : ∀ w, Calls Try.prog 16 #[.agg #[.int .u64 (s.x1), .int .u64 (hi s.y1), .int .u64 (lo s.y1), .int .u64 (s.m1), .int .u64 (s.x2), .int .u64 (hi s.y2), .int .u64 (lo s.y2), .int .u64 (s.m2), .bool s.b], .int .u64 x] w fun ee w' => ee = .returned (.agg #[.int .u64 (hi (s.at x)), .int .u64 (lo (s.at x))]) ∧ Below w.heap.size w w' := fun w => at_R ss.ok hx w
  have kf : ∀ w, Calls Try.prog 19 #[.agg #[.int .u64 (r.x1), .int .u64 (hi r.y1), .int .u64 (lo r.y1), .int .u64 (r.m1), .int .u64 (r.x2), .int .u64 (hi r.y2), .int .u64 (lo r.y2), .int .u64 (r.m2), .bool r.b], .agg #[.int .u64 (hi W), .int .u64 (lo W)]] w fun ee w' => ee = .returned (.int .u64 (r.rch W)) ∧ Below w.heap.size w w' := fun w => rch_R sr.ok wW w
  have kg : ∀ w, Calls Try.prog 19 #[.agg #[.int .u64 (s.x1), .int .u64 (hi s.y1), .int .u64 (lo s.y1), .int .u64 (s.m1), .int .u64 (s.x2), .int .u64 (hi s.y2), .int .u64 (lo s.y2), .int .u64 (s.m2), .bool s.b], .agg #[.int .u64 (hi W), .int .u64 (lo W)]] w fun ee w' => ee = .returned (.int .u64 (s.rch W)) ∧ Below w.heap.size w w' := fun w => rch_R ss.ok wW w
  have hgb : g.b = r.b := by rw [eg]; rfl
  have kd' : ∀ w, Calls Try.prog 16 #[.agg #[.int .u64 (g.x1), .int .u64 (hi g.y1), .int .u64 (lo g.y1), .int .u64 (g.m1), .int .u64 (g.x2), .int .u64 (hi g.y2), .int .u64 (lo g.y2), .int .u64 (g.m2), .bool r.b], .int .u64 x] w fun ee w' => ee = .returned (.agg #[.int .u64 (hi (if s.at x < r.at x then s.at x else r.at x)), .int .u64 (lo (if s.at x < r.at x then s.at x else r.at x))]) ∧ Below w.heap.size w w' := by rw [← hgb]; exact kd
  have kh' : ∀ w, Calls Try.prog 19 #[.agg #[.int .u64 (g.x1), .int .u64 (hi g.y1), .int .u64 (lo g.y1), .int .u64 (g.m1), .int .u64 (g.x2), .int .u64 (hi g.y2), .int .u64 (lo g.y2), .int .u64 (g.m2), .bool r.b], .agg #[.int .u64 (hi W), .int .u64 (lo W)]] w fun ee w' => ee = .returned (.int .u64 (if s.rch W > r.rch W then s.rch W else r.rch W)) ∧ Below w.heap.size w w' := by rw [← hgb]; exact kh
  have kc := fun w => cmp_R (ss.ok.at_wd x) (sr.ok.at_wd x) w
  have ke := fun w => add_R wV cI w
  rw [hWW] at ke
  clear kd kh ha hr sr ss sg er es eg hgb
  unfold MeetRound
  rw [hxx]
  generalize r.at x = A at *
  generalize s.at x = B at *
  refine ⟨hi A, lo A, hi B, lo B, hi (if B < A then B else A), lo (if B < A then B else A), cmp B A, hi W, lo W, r.rch W, s.rch W, _, ?_, ka, kb, kc, kd', ke, kf, kg, kh'⟩
  by_cases c : B < A
  · exact .inl ⟨by unfold cmp; rw [if_neg (by omega), if_pos c]; omega, by rw [if_pos c], by rw [if_pos c]⟩
  · exact .inr ⟨by unfold cmp; (repeat' split) <;> omega, by rw [if_neg c], by rw [if_neg c]⟩

theorem linesMeet_law (m1 d m2 X p q U r s : Int) (w1 : (Lit.int .u64 m1).wf = true) (w2 : (Lit.int .u64 d).wf = true) (w3 : (Lit.int .u64 m2).wf = true) (wx : (Lit.int .u64 X).wf = true) (wp : (Lit.int .u64 p).wf = true) (wq : (Lit.int .u64 q).wf = true) (wu : (Lit.int .u64 U).wf = true) (wr : (Lit.int .u64 r).wf = true) (ws : (Lit.int .u64 s).wf = true) (w : World) :
    Calls Try.prog 4 #[.agg #[.int .u64 (m1), .int .u64 (d), .int .u64 (m2)], .agg #[.int .u64 (X), .int .u64 (p), .int .u64 (q)], .agg #[.int .u64 (U), .int .u64 (r), .int .u64 (s)]] w fun e w' => e = .returned (.bool true) ∧ Below w.heap.size w w' := by
  have h1 := in_wf w1
  have h2 := in_wf w2
  have h3 := in_wf w3
  have hX := in_wf wx
  have hp := in_wf wp
  have hq := in_wf wq
  have hU := in_wf wu
  have hr := in_wf wr
  have hs := in_wf ws
  clear w1 w2 w3 wx wp wq wu wr ws
  have kc : ∀ w, Calls Try.prog 25 #[.agg #[.int .u64 r, .int .u64 s], .agg #[.int .u64 p, .int .u64 q]] w fun ee w' => ee = .returned (.int .i64 (cmp (val r s) (val p q))) ∧ Below w.heap.size w w' := fun w => compare_c r s p q hr hs hp hq w
  have rt : ∃ b, (b = true ↔ ¬ kind m1 d m2 = 0) ∧ ∀ w, Calls Try.prog 26 #[.agg #[.int .u64 (m1), .int .u64 (d), .int .u64 (m2)]] w fun ee w' => ee = .returned (.bool b) ∧ Below w.heap.size w w' := by
    by_cases hk : kind m1 d m2 = 0
    · exact ⟨false, by simp [hk], krt_no m1 d m2 h1 h2 h3 hk⟩
    · exact ⟨true, by simp [hk], krt_yes m1 d m2 h1 h2 h3 hk⟩
  obtain ⟨b, hb, kr⟩ := rt
  have s1 : ∃ b, (b = true ↔ (X < 4611686018427387904 ∧ p < 1073741824)) ∧ ∀ w, Calls Try.prog 24 #[.agg #[.int .u64 (X), .int .u64 (p), .int .u64 (q)]] w fun ee w' => ee = .returned (.bool b) ∧ Below w.heap.size w w' := by
    by_cases c : X < 4611686018427387904 ∧ p < 1073741824
    · exact ⟨true, by simp [c], fun w => (small_c X p q w).1 c⟩
    · exact ⟨false, by simpa using c, fun w => (small_c X p q w).2 c⟩
  have s2 : ∃ b, (b = true ↔ (U < 4611686018427387904 ∧ r < 1073741824)) ∧ ∀ w, Calls Try.prog 24 #[.agg #[.int .u64 (U), .int .u64 (r), .int .u64 (s)]] w fun ee w' => ee = .returned (.bool b) ∧ Below w.heap.size w w' := by
    by_cases c : U < 4611686018427387904 ∧ r < 1073741824
    · exact ⟨true, by simp [c], fun w => (small_c U r s w).1 c⟩
    · exact ⟨false, by simpa using c, fun w => (small_c U r s w).2 c⟩
  obtain ⟨b1, hb1, k1⟩ := s1
  obtain ⟨b2, hb2, k2⟩ := s2
  by_cases hin : b1 = true ∧ b2 = true ∧ X ≤ U ∧ 0 ≤ cmp (val r s) (val p q) ∧ b = true
  case neg =>
    refine linesMeet_out m1 d m2 X p q U r s _ b1 b2 b ?_ k1 k2 kc kr w
    cases b1 <;> cases b2 <;> cases b <;> simp at hin ⊢ <;> omega
  obtain ⟨rfl, rfl, hXU, hz, rfl⟩ := hin
  have g1 := hb1.1 rfl
  have g2 := hb2.1 rfl
  have hk := hb.1 rfl
  have ok := okc h1 h2 h3 hk
  have hd1 := ok.b2
  have hd0 := ok.n2
  have hX0 := hX.1
  obtain ⟨Y, hY⟩ : ∃ Y, Y = val p q := ⟨_, rfl⟩
  obtain ⟨V, hV⟩ : ∃ V, V = val r s := ⟨_, rfl⟩
  have y0 : 0 ≤ Y ∧ Y < 19807040628566084398385987584 := by rw [hY]; unfold val; unfold In at hp hq; omega
  have v0 : 0 ≤ V ∧ V < 19807040628566084398385987584 := by rw [hV]; unfold val; unfold In at hr hs; omega
  have hYV : Y ≤ V := by
    rw [hY, hV]
    unfold cmp at hz
    revert hz
    (repeat' split) <;> omega
  have ep : p = hi Y := by rw [hY, hi_val hp hq]
  have eq : q = lo Y := by rw [hY, lo_val hq]
  have er : r = hi V := by rw [hV, hi_val hr hs]
  have es : s = lo V := by rw [hV, lo_val hs]
  clear hY hV hb1 hb2 hb
  subst ep eq er es
  have sr := srun_sm (late := true) (X := X) h1 h2 h3 hX0 (by omega) y0.1 (show Y < 1000000000000000000000000000000 by omega)
  have ss := srun_sm (late := true) (X := U) h1 h2 h3 (by omega) (by omega) v0.1 (show V < 1000000000000000000000000000000 by omega)
  obtain ⟨R, eR⟩ : ∃ R, R = srun true m1 d m2 X Y := ⟨_, rfl⟩
  obtain ⟨S, eS⟩ : ∃ S, S = srun true m1 d m2 U V := ⟨_, rfl⟩
  have kS := fun w => start_R h1 h2 h3 hX0 (show X ≤ 9223372036854775808 by omega) y0.1 (show Y < 1000000000000000000000000000000 by omega) w
  have kT := fun w => start_R h1 h2 h3 (show 0 ≤ U by omega) (show U ≤ 9223372036854775808 by omega) v0.1 (show V < 1000000000000000000000000000000 by omega) w
  rw [← eR] at sr kS
  rw [← eS] at ss kT
  have kM := fun w => meet_R sr.ok ss.ok w
  have K := fun k hk => meetRound_of h1 h2 h3 hd1 hX0 hXU g2.1 y0.1 hYV v0.2 k hk R S (R.meet S) eR eS rfl
  generalize hG : R.meet S = G at *
  have hgb : G.b = R.b := by rw [← hG]; rfl
  have kM' : ∀ w, Calls Try.prog 21 #[.agg #[.int .u64 (R.x1), .int .u64 (hi R.y1), .int .u64 (lo R.y1), .int .u64 (R.m1), .int .u64 (R.x2), .int .u64 (hi R.y2), .int .u64 (lo R.y2), .int .u64 (R.m2), .bool R.b], .agg #[.int .u64 (S.x1), .int .u64 (hi S.y1), .int .u64 (lo S.y1), .int .u64 (S.m1), .int .u64 (S.x2), .int .u64 (hi S.y2), .int .u64 (lo S.y2), .int .u64 (S.m2), .bool S.b]] w fun ee w' => ee = .returned (.agg #[.int .u64 (G.x1), .int .u64 (hi G.y1), .int .u64 (lo G.y1), .int .u64 (G.m1), .int .u64 (G.x2), .int .u64 (hi G.y2), .int .u64 (lo G.y2), .int .u64 (G.m2), .bool R.b]) ∧ Below w.heap.size w w' := fun w => by
    have k := kM w
    unfold rvv at k
    rw [hgb] at k
    exact k
  exact linesMeet_core m1 d m2 X (hi Y) (lo Y) U (hi V) (lo V) _ hXU hz ⟨hd0, hd1⟩ ⟨by omega, g2.1⟩ R.x1 (hi R.y1) (lo R.y1) R.m1 R.x2 (hi R.y2) (lo R.y2) R.m2 S.x1 (hi S.y1) (lo S.y1) S.m1 S.x2 (hi S.y2) (lo S.y2) S.m2 G.x1 (hi G.y1) (lo G.y1) G.m1 G.x2 (hi G.y2) (lo G.y2) G.m2 R.b S.b k1 k2 kc kr kS kT kM' K w
end Go.Proofs.Ytjicnbdlffpbbaa
