import Derived.Test.YtjicnbdlffpbbaaLines5
import Derived.Test.YtjicnbdlffpbbaaMathRun
namespace Go.Proofs.Ytjicnbdlffpbbaa
set_option linter.unusedVariables false
set_option linter.unusedSimpArgs false
set_option maxRecDepth 100000
open Go.RowKit Fg Reg

theorem rat_run (b : Bool) (X1 Y1 M1 X2 Y2 M2 x : Int) (i1 : In X1) (j1 : Wd Y1) (l1 : In M1) (i2 : In X2) (j2 : Wd Y2) (l2 : In M2) (hx : In x) (w : World) :
    Calls Try.prog 16 #[.agg #[.int .u64 (X1), .int .u64 (hi Y1), .int .u64 (lo Y1), .int .u64 (M1), .int .u64 (X2), .int .u64 (hi Y2), .int .u64 (lo Y2), .int .u64 (M2), .bool b], .int .u64 x] w fun ee w' => ee = .returned (.agg #[.int .u64 (hi (rn b X1 Y1 M1 X2 Y2 M2 x)), .int .u64 (lo (rn b X1 Y1 M1 X2 Y2 M2 x))]) ∧ Below w.heap.size w w' := by
  cases b with
  | false =>
    rw [show rn false X1 Y1 M1 X2 Y2 M2 x = lat X2 Y2 M2 x from if_neg (by simp)]
    exact rat_1 _ _ _ _ _ _ _ _ x _ _ (lat_c X2 Y2 M2 x i2 j2 l2 hx) w
  | true =>
    have k := fun w => compare_c (hi (lat X1 Y1 M1 x)) (lo (lat X1 Y1 M1 x)) (hi (lat X2 Y2 M2 x)) (lo (lat X2 Y2 M2 x)) (hi_in _) (lo_in _) (hi_in _) (lo_in _) w
    rw [val_wd (lat_wd j1), val_wd (lat_wd j2)] at k
    refine rat_2 _ _ _ _ _ _ _ _ x _ _ _ _ _ _ _ ?_ (lat_c X2 Y2 M2 x i2 j2 l2 hx) (lat_c X1 Y1 M1 x i1 j1 l1 hx) k w
    rcases Int.lt_or_le (lat X1 Y1 M1 x) (lat X2 Y2 M2 x) with c | c
    · left
      rw [show rn true X1 Y1 M1 X2 Y2 M2 x = lat X1 Y1 M1 x from if_pos ⟨rfl, c⟩, cmp_lt' c]
      exact ⟨by decide, rfl, rfl⟩
    · right
      rw [show rn true X1 Y1 M1 X2 Y2 M2 x = lat X2 Y2 M2 x from if_neg (by omega)]
      refine ⟨?_, rfl, rfl⟩
      unfold cmp; split <;> (try split) <;> omega
theorem rrc_run (b : Bool) (X1 Y1 M1 X2 Y2 M2 W : Int) (i1 : In X1) (j1 : Wd Y1) (l1 : In M1) (i2 : In X2) (j2 : Wd Y2) (l2 : In M2) (hW : Wd W) (w : World) :
    Calls Try.prog 19 #[.agg #[.int .u64 (X1), .int .u64 (hi Y1), .int .u64 (lo Y1), .int .u64 (M1), .int .u64 (X2), .int .u64 (hi Y2), .int .u64 (lo Y2), .int .u64 (M2), .bool b], .agg #[.int .u64 (hi W), .int .u64 (lo W)]] w fun ee w' => ee = .returned (.int .u64 (rr b X1 Y1 M1 X2 Y2 M2 W)) ∧ Below w.heap.size w w' := by
  have g2 := lrch_in (Y := Y2) (W := W) i2 l2 hW.1
  cases b with
  | false =>
    rw [show rr false X1 Y1 M1 X2 Y2 M2 W = lrch X2 Y2 M2 W from if_neg (by simp)]
    exact rrc_1 _ _ _ _ _ _ _ _ _ _ _ g2.1 (lrch_c X2 Y2 M2 W i2 j2 l2 hW) w
  | true =>
    refine rrc_2 _ _ _ _ _ _ _ _ _ _ _ _ _ g2.1 ?_ (lrch_c X2 Y2 M2 W i2 j2 l2 hW) (lrch_c X1 Y1 M1 W i1 j1 l1 hW) w
    unfold rr; simp

theorem small_c (X p q : Int) (w : World) : (X < 4611686018427387904 ∧ p < 1073741824 → Calls Try.prog 24 #[.agg #[.int .u64 (X), .int .u64 (p), .int .u64 (q)]] w fun ee w' => ee = .returned (.bool true) ∧ Below w.heap.size w w') ∧ (¬ (X < 4611686018427387904 ∧ p < 1073741824) → Calls Try.prog 24 #[.agg #[.int .u64 (X), .int .u64 (p), .int .u64 (q)]] w fun ee w' => ee = .returned (.bool false) ∧ Below w.heap.size w w') := by
  constructor
  · intro h
    obtain ⟨h1, h2⟩ := h
    go_enter Try.func24, Try.ntmps24
    go_wp2
    (go_ret; refine ⟨?_, ?_⟩; (focus (exact rfl)); ((repeat' (first | with_reducible exact Below.refl _ _ | with_reducible assumption | ((with_reducible refine Below.drew ?_)) | ((with_reducible refine below_drewN ?_ _)) | ((with_reducible refine Below.alloc ?_ ?_ _); rotate_left; focus (first | omega | (simp; done) | (simp; omega))) | ((with_reducible refine Below.setCell ?_ ?_ _); rotate_left; focus (first | omega | (simp; done) | (simp; omega))) | ((with_reducible refine Below.trans ?_ (Below.mono (by with_reducible assumption) ?_)); rotate_left; focus (first | omega | (simp; done) | (simp; omega))))); done))
  · intro h
    by_cases h1 : X < 4611686018427387904
    · have h2 : decide (p < 1073741824) = false := by simp; omega
      clear h
      go_enter Try.func24, Try.ntmps24
      go_wp2
      (go_ret; refine ⟨?_, ?_⟩; (focus (exact rfl)); ((repeat' (first | with_reducible exact Below.refl _ _ | with_reducible assumption | ((with_reducible refine Below.drew ?_)) | ((with_reducible refine below_drewN ?_ _)) | ((with_reducible refine Below.alloc ?_ ?_ _); rotate_left; focus (first | omega | (simp; done) | (simp; omega))) | ((with_reducible refine Below.setCell ?_ ?_ _); rotate_left; focus (first | omega | (simp; done) | (simp; omega))) | ((with_reducible refine Below.trans ?_ (Below.mono (by with_reducible assumption) ?_)); rotate_left; focus (first | omega | (simp; done) | (simp; omega))))); done))
    · have h2 : decide (X < 4611686018427387904) = false := by simp; omega
      clear h h1
      go_enter Try.func24, Try.ntmps24
      go_wp2
      (go_ret; refine ⟨?_, ?_⟩; (focus (exact rfl)); ((repeat' (first | with_reducible exact Below.refl _ _ | with_reducible assumption | ((with_reducible refine Below.drew ?_)) | ((with_reducible refine below_drewN ?_ _)) | ((with_reducible refine Below.alloc ?_ ?_ _); rotate_left; focus (first | omega | (simp; done) | (simp; omega))) | ((with_reducible refine Below.setCell ?_ ?_ _); rotate_left; focus (first | omega | (simp; done) | (simp; omega))) | ((with_reducible refine Below.trans ?_ (Below.mono (by with_reducible assumption) ?_)); rotate_left; focus (first | omega | (simp; done) | (simp; omega))))); done))

end Go.Proofs.Ytjicnbdlffpbbaa
