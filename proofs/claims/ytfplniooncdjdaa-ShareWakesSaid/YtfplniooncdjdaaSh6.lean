/- ShareWakes: the mathematics of wakes. -/
import Derived.Test.YtfplniooncdjdaaSh4
namespace Go.Proofs.Ytfplniooncdjdaa
set_option linter.unusedVariables false
set_option linter.unusedSimpArgs false
set_option maxRecDepth 100000
open Go.RowKit Fg Reg

theorem reach_ge {X Y M W x : Int} (h : Sml Y M) (hX : In X) (hM : 0 < M) (hx : In x) (hx2 : x < 9223372036854775808) (hle : X ≤ x) (hW : lat X Y M x ≤ W) : x ≤ mx2 (lrch X Y M W) X := by
  have x0 := hX.1
  by_cases he : X = x
  · subst he; unfold mx2; split <;> omega
  · rw [lat_full h hX hx hle] at hW
    have hp : 0 < M * (x - X) := Int.mul_pos hM (by omega)
    rw [lrch_gt (by omega), if_neg (by omega)]
    have s := clg_spec (n := W - Y) hM
    have hc : x - X ≤ clg (W - Y) M := by
      rcases Int.lt_or_le (clg (W - Y) M) (x - X) with h' | h'
      · have := Int.mul_le_mul_of_nonneg_left (show clg (W - Y) M ≤ x - X - 1 by omega) (show 0 ≤ M by omega)
        have e : M * (x - X - 1) = M * (x - X) - M := by rw [Int.mul_sub, Int.mul_one]
        omega
      · exact h'
    by_cases c : clg (W - Y) M + X < 9223372036854775808
    · rw [if_pos c]; unfold mx2; split <;> omega
    · rw [if_neg c]; unfold mx2; split <;> omega
/-- The lower one of a line and of one that begins at low with just W, or more: when it has W. -/
theorem pick_time {X Y M low V W : Int} (h : Sml Y M) (g : Sml V M) (hX : In X) (hl : In low) (hl2 : low < 9223372036854775808) (hle : X ≤ low) (hV : W ≤ V) :
    (V = W → 0 < M → mx2 (lrch (slc (lwr X Y M low V M) X low) (slc (lwr X Y M low V M) Y V) M W) (slc (lwr X Y M low V M) X low) = mx2 (mx2 (lrch X Y M W) X) low) ∧
    mx2 (mx2 (lrch (slc (lwr X Y M low V M) X low) (slc (lwr X Y M low V M) Y V) M W) (slc (lwr X Y M low V M) X low)) low = mx2 (mx2 (lrch X Y M W) X) low := by
  have hz : (if X < low then low else X) = low := by split <;> omega
  have hlat : lat low V M low = V := by unfold lat; rw [if_pos (Int.le_refl _)]
  have l0 := hl.1
  unfold lwr
  rw [hz, hlat]
  by_cases hc : lat X Y M low ≤ V
  · rw [decide_eq_true hc]
    simp only [slc, if_true]
    refine ⟨fun he hM => ?_, trivial⟩
    have := reach_ge (W := W) h hX hM hl hl2 hle (by omega)
    generalize mx2 (lrch X Y M W) X = T at *
    unfold mx2; split <;> omega
  · rw [decide_eq_false hc]
    simp only [slc, Bool.false_eq_true, if_false]
    have e0 : lrch low V M W = 0 := if_pos hV
    have e1 : mx2 (lrch X Y M W) X ≤ low := by
      have := reach_le h hX hl hl2 hle (show W ≤ lat X Y M low by omega)
      unfold mx2; split <;> omega
    rw [e0]
    generalize mx2 (lrch X Y M W) X = T at *
    refine ⟨fun _ _ => ?_, ?_⟩ <;> (unfold mx2; split <;> (try split) <;> omega)
/-- What is known of a run behind wakes. -/
structure WI (c1 cd c2 low : Int) (r : Rn) : Prop where
  sm : r.sm
  b : r.b = decide (kind c1 cd c2 = 3)
  m1 : r.b = true → r.m1 = c1
  m2 : r.m2 = c2
  x1 : r.b = true → r.x1 ≤ low
  x2 : r.x2 ≤ low
theorem tm_two (r : Rn) (n : Int) (hb : r.b = true) : tmR r n = mx2 (mx2 (lrch r.x1 r.y1 r.m1 (n * 65536)) r.x1) (mx2 (lrch r.x2 r.y2 r.m2 (n * 65536)) r.x2) := by
  unfold tmR Rn.rch rr
  rw [hb]
  simp only [if_true, true_and]
  generalize lrch r.x1 r.y1 r.m1 (n * 65536) = A
  generalize lrch r.x2 r.y2 r.m2 (n * 65536) = B
  unfold mx2
  repeat' split
  all_goals omega
theorem tm_one (r : Rn) (n : Int) (hb : r.b = false) : tmR r n = mx2 (lrch r.x2 r.y2 r.m2 (n * 65536)) r.x2 := by
  unfold tmR Rn.rch rr
  rw [hb]
  simp
theorem srun_wi {c1 cd c2 low n : Int} (h1 : In c1) (h2 : In cd) (h3 : In c2) (hk : kind c1 cd c2 = 2 ∨ kind c1 cd c2 = 3) (hl : 0 ≤ low) (hl2 : low < 9223372036854775808) (hn : 0 ≤ n) (hn2 : n ≤ 18446744073709551615) :
    WI c1 cd c2 low (srun true c1 cd c2 low (n * 65536)) ∧ (srun true c1 cd c2 low (n * 65536)).x2 = low ∧ n * 65536 ≤ (srun true c1 cd c2 low (n * 65536)).y2 ∧ (kind c1 cd c2 = 2 → (srun true c1 cd c2 low (n * 65536)).y2 = n * 65536) ∧
    (kind c1 cd c2 = 3 → (srun true c1 cd c2 low (n * 65536)).x1 = low ∧ (srun true c1 cd c2 low (n * 65536)).y1 = n * 65536) := by
  have sm := srun_sm (late := true) (X := low) (Y := n * 65536) h1 h2 h3 hl (by omega) (by omega) (by omega)
  rcases hk with hk | hk
  · have e : srun true c1 cd c2 low (n * 65536) = ⟨false, 0, 0, 0, low, n * 65536, c2⟩ := by
      unfold srun; rw [if_neg (by omega), if_neg (by omega), if_pos hk]
    rw [e] at sm ⊢
    exact ⟨⟨sm, by rw [hk]; rfl, fun h => (by cases h), rfl, fun h => (by cases h), Int.le_refl _⟩, rfl, Int.le_refl _, fun _ => rfl, fun h => by omega⟩
  · have e : srun true c1 cd c2 low (n * 65536) = ⟨true, low, n * 65536, c1, low, n * 65536 + (c1 - c2) * cd, c2⟩ := by
      unfold srun; rw [if_pos hk]
    have hc := cut_bd (kind_ok h1 h2 h3 (.inr (.inl hk))) (kind_of3 hk)
    rw [e] at sm ⊢
    exact ⟨⟨sm, by rw [hk]; rfl, fun _ => rfl, rfl, fun _ => Int.le_refl _, Int.le_refl _⟩, rfl, by show n * 65536 ≤ n * 65536 + (c1 - c2) * cd; omega, fun h => by omega, fun _ => ⟨rfl, rfl⟩⟩
theorem wake_first {c1 cd c2 low n : Int} (h1 : In c1) (h2 : In cd) (h3 : In c2) (hk : kind c1 cd c2 = 2 ∨ kind c1 cd c2 = 3) (hl : 0 ≤ low) (hl2 : low < 9223372036854775808) (hn : 0 ≤ n) (hn2 : n ≤ 18446744073709551615) :
    tmR (srun true c1 cd c2 low (n * 65536)) n = low := by
  obtain ⟨hw, e2, f2, g2, g1⟩ := srun_wi h1 h2 h3 hk hl hl2 hn hn2
  generalize srun true c1 cd c2 low (n * 65536) = s at *
  have z2 : lrch s.x2 s.y2 s.m2 (n * 65536) = 0 := if_pos f2
  rcases hk with hk | hk
  · rw [tm_one s n (by rw [hw.b, hk]; rfl), z2, e2]
    unfold mx2; split <;> omega
  · obtain ⟨e1, f1⟩ := g1 hk
    have z1 : lrch s.x1 s.y1 s.m1 (n * 65536) = 0 := if_pos (by omega)
    rw [tm_two s n (by rw [hw.b, hk]; rfl), z1, z2, e1, e2]
    unfold mx2; repeat' split
    all_goals omega
theorem wake_step {c1 cd c2 low0 low n : Int} {r : Rn} (h1 : In c1) (h2 : In cd) (h3 : In c2) (hk : kind c1 cd c2 = 2 ∨ kind c1 cd c2 = 3) (hr : WI c1 cd c2 low0 r) (h0 : low0 ≤ low) (hl : 0 ≤ low) (hl2 : low < 9223372036854775808) (hn : 0 ≤ n) (hn2 : n ≤ 18446744073709551615) :
    tmR (r.meet (srun true c1 cd c2 low (n * 65536))) n = mx2 (tmR r n) low ∧ WI c1 cd c2 low (r.meet (srun true c1 cd c2 low (n * 65536))) := by
  obtain ⟨hw, e2, f2, g2, g1⟩ := srun_wi h1 h2 h3 hk hl hl2 hn hn2
  generalize srun true c1 cd c2 low (n * 65536) = s at *
  have hlI : In low := by unfold In; omega
  have hp2 := pick_time (W := n * 65536) (low := low) hr.sm.s2 (V := s.y2) (by have := hw.sm.s2; rwa [hw.m2, ← hr.m2] at this) hr.sm.i2 hlI hl2 (by have := hr.x2; omega) f2
  have em2 : s.m2 = r.m2 := by rw [hw.m2, hr.m2]
  have eb : s.b = r.b := by rw [hw.b, hr.b]
  have hx2 : (slc (r.c2 s) r.x2 s.x2) ≤ low := by unfold slc; split; (have := hr.x2; omega); (have := hw.x2; omega)
  rcases hk with hk | hk
  · have hb : r.b = false := by rw [hr.b, hk]; rfl
    have hm : 0 < r.m2 := by
      have := h1.1
      have := h3.1
      rw [hr.m2]
      unfold kind at hk
      revert hk
      repeat' split
      all_goals omega
    have hmb : (r.meet s).b = false := hb
    refine ⟨?_, hr.sm.meet hw.sm, by rw [hmb, hk]; rfl, fun h => (by rw [hmb] at h; cases h), (by show slc _ _ _ = _; rw [em2, slc_same, hr.m2]), fun h => (by rw [hmb] at h; cases h), hx2⟩
    rw [tm_one _ n hmb, tm_one r n hb]
    have := hp2.1 (g2 hk) hm
    rw [← this]
    show mx2 (lrch (slc (r.c2 s) r.x2 s.x2) (slc (r.c2 s) r.y2 s.y2) (slc (r.c2 s) r.m2 s.m2) (n * 65536)) (slc (r.c2 s) r.x2 s.x2) = _
    unfold Rn.c2
    rw [em2, slc_same, e2]
  · have hb : r.b = true := by rw [hr.b, hk]; rfl
    have hm12 := kind_of3 hk
    obtain ⟨e1, f1⟩ := g1 hk
    have em1 : s.m1 = r.m1 := by rw [hw.m1 (by rw [eb, hb]), hr.m1 hb]
    have hc10 : 0 < r.m1 := by rw [hr.m1 hb]; have := h3.1; omega
    have hmb : (r.meet s).b = true := hb
    have hx1 : slc (r.c1 s) r.x1 s.x1 ≤ low := by unfold slc; split; (have := hr.x1 hb; omega); (have := hw.x1 (by rw [eb, hb]); omega)
    have q1 : (r.meet s).x1 = slc (r.c1 s) r.x1 s.x1 := by show slc r.b _ _ = _; rw [hb]; rfl
    have q2 : (r.meet s).y1 = slc (r.c1 s) r.y1 s.y1 := by show slc r.b _ _ = _; rw [hb]; rfl
    have q3 : (r.meet s).m1 = r.m1 := by show slc r.b (slc _ _ _) _ = _; rw [hb, em1, slc_same]; rfl
    have q4 : (r.meet s).m2 = r.m2 := by show slc _ _ _ = _; rw [em2, slc_same]
    have hp1 := pick_time (W := n * 65536) (low := low) hr.sm.s1 (V := s.y1) (by have := hw.sm.s1; rwa [em1] at this) hr.sm.i1 hlI hl2 (by have := hr.x1 hb; omega) (by omega)
    refine ⟨?_, hr.sm.meet hw.sm, by rw [hmb, hk]; rfl, fun _ => by rw [q3, hr.m1 hb], by rw [q4, hr.m2], fun _ => by rw [q1]; exact hx1, hx2⟩
    rw [tm_two _ n hmb, tm_two r n hb, q1, q2, q3, q4]
    show mx2 _ (mx2 (lrch (slc (r.c2 s) r.x2 s.x2) (slc (r.c2 s) r.y2 s.y2) r.m2 (n * 65536)) (slc (r.c2 s) r.x2 s.x2)) = _
    have p1 := hp1.1 f1 hc10
    have p2 : mx2 (mx2 (lrch (slc (r.c2 s) r.x2 s.x2) (slc (r.c2 s) r.y2 s.y2) r.m2 (n * 65536)) (slc (r.c2 s) r.x2 s.x2)) low = mx2 (mx2 (lrch r.x2 r.y2 r.m2 (n * 65536)) r.x2) low := by
      have := hp2.2
      unfold Rn.c2
      rw [em2, e2]
      exact this
    unfold Rn.c1
    rw [em1, e1]
    generalize mx2 (lrch (slc (r.c2 s) r.x2 s.x2) (slc (r.c2 s) r.y2 s.y2) r.m2 (n * 65536)) (slc (r.c2 s) r.x2 s.x2) = B at *
    rw [p1]
    generalize mx2 (lrch r.x1 r.y1 r.m1 (n * 65536)) r.x1 = A1 at *
    generalize mx2 (lrch r.x2 r.y2 r.m2 (n * 65536)) r.x2 = A2 at *
    unfold mx2 at *
    revert p2
    repeat' split
    all_goals (intro p2; omega)
theorem lrch_mono {X Y M W W' : Int} (hX : In X) (hM : In M) (hW : 0 ≤ W) (h : W ≤ W') : lrch X Y M W ≤ lrch X Y M W' := by
  have g := lrch_in (X := X) (Y := Y) (M := M) (W := W') hX hM (by omega)
  by_cases c : W ≤ Y
  · rw [show lrch X Y M W = 0 from if_pos c]; exact g.1
  · rw [lrch_gt (show Y < W by omega), lrch_gt (show Y < W' by omega)]
    split
    · omega
    · have := clg_mono (n := W - Y) (n' := W' - Y) (m := M) (by unfold In at hM; omega) (by omega)
      split <;> split <;> omega
theorem tm_mono {r : Rn} (h : r.ok) {n n' : Int} (hn : 0 ≤ n) (hle : n ≤ n') : tmR r n ≤ tmR r n' := by
  have a := lrch_mono (Y := r.y1) h.i1 h.l1 (show 0 ≤ n * 65536 by omega) (show n * 65536 ≤ n' * 65536 by omega)
  have b := lrch_mono (Y := r.y2) h.i2 h.l2 (show 0 ≤ n * 65536 by omega) (show n * 65536 ≤ n' * 65536 by omega)
  cases hb : r.b with
  | true =>
    rw [tm_two r n hb, tm_two r n' hb]
    unfold mx2
    repeat' split
    all_goals omega
  | false =>
    rw [tm_one r n hb, tm_one r n' hb]
    unfold mx2
    repeat' split
    all_goals omega
end Go.Proofs.Ytfplniooncdjdaa
