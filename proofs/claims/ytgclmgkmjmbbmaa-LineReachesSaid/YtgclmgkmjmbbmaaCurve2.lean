import Derived.Test.YtgclmgkmjmbbmaaCurve1
namespace Go.Proofs.Ytgclmgkmjmbbmaa
set_option linter.unusedVariables false
set_option linter.unusedSimpArgs false
open Go.RowKit Fg Reg

theorem ksv_c (m1 d m2 t : Int) (h1 : In m1) (h2 : In d) (h3 : In m2) (ht : In t) (w : World) : Calls Try.prog 15 #[.agg #[.int .u64 (m1), .int .u64 (d), .int .u64 (m2)], .int .u64 t] w fun ee w' => ee = .returned (.agg #[.int .u64 (hi (srv m1 d m2 t)), .int .u64 (lo (srv m1 d m2 t))]) ∧ Below w.heap.size w w' := by
  by_cases h : kind m1 d m2 = 0
  · rw [srv_no h]
    exact ksv_no m1 d m2 t h1 h2 h3 h w
  · rw [srv_ok h]
    have hk := okc h1 h2 h3 h
    rcases Int.lt_or_le d t with hlt | hle
    · have e : sv m1 d m2 t = m1 * d + m2 * (t - d) := if_neg (by omega)
      have ht2 : In (t - d) := by unfold In at *; omega
      refine ksv_hi m1 d m2 t _ _ _ _ _ _ (decide (340282366920938463463374607431768211455 < sv m1 d m2 t)) h1 h2 h3 ht hlt h (mul_c m1 d h1 h2) (mul_c m2 (t - d) h3 ht2) (fun w => ?_) w
      have k := add_c (hi (m1 * d)) (lo (m1 * d)) (hi (m2 * (t - d))) (lo (m2 * (t - d))) (hi_in _) (lo_in _) (hi_in _) (lo_in _) w
      rw [val_wd (wd_mul h1 h2), val_wd (wd_mul h3 ht2), ← e] at k
      exact k
    · have e : sv m1 d m2 t = m1 * t := if_pos hle
      rw [e]
      have z : In 0 := by unfold In; omega
      refine ksv_lo m1 d m2 t _ _ h1 h2 h3 ht hle h (mul_c m1 t h1 ht) (fun w => ?_) (fun w => ?_) w
      · have k := mul_c m2 0 h3 z w
        rw [Int.mul_zero] at k
        exact k
      · have k := add_c (hi (m1 * t)) (lo (m1 * t)) 0 0 (hi_in _) (lo_in _) z z w
        have hw := wd_mul h1 ht
        rw [val_wd hw, val_zero, Int.add_zero] at k
        have e2 : decide (340282366920938463463374607431768211455 < m1 * t) = false := by unfold Wd at hw; simp; omega
        rwa [e2] at k

theorem kov_zero (m b : Int) (w : World) : Calls Try.prog 37 #[.agg #[.int .u64 0, .int .u64 0], .int .u64 m, .int .u64 b] w fun ee w' => ee = .returned (.int .u64 b) ∧ Below w.heap.size w w' := by
  go_enter Try.func37, Try.ntmps37
  go_wp2
  (go_ret; refine ⟨?_, ?_⟩; (focus (exact rfl)); ((repeat' (first | with_reducible exact Below.refl _ _ | with_reducible assumption | ((with_reducible refine Below.drew ?_)) | ((with_reducible refine below_drewN ?_ _)) | ((with_reducible refine Below.alloc ?_ ?_ _); rotate_left; focus (first | omega | (simp; done) | (simp; omega))) | ((with_reducible refine Below.setCell ?_ ?_ _); rotate_left; focus (first | omega | (simp; done) | (simp; omega))) | ((with_reducible refine Below.trans ?_ (Below.mono (by with_reducible assumption) ?_)); rotate_left; focus (first | omega | (simp; done) | (simp; omega))))); done))
set_option maxHeartbeats 1000000 in
theorem kov_bad (W m b g : Int) (hW : Wd W) (h0 : ¬ W = 0) (hg : (g == 0) = false)
    (k1 : ∀ w, Calls Try.prog 41 #[.agg #[.int .u64 (hi W), .int .u64 (lo W)], .int .u64 m] w fun ee w' => ee = .returned (.tuple #[.int .u64 (0), .int .i64 (g)]) ∧ Below w.heap.size w w')
    (w : World) : Calls Try.prog 37 #[.agg #[.int .u64 (hi W), .int .u64 (lo W)], .int .u64 m, .int .u64 b] w fun ee w' => ee = .returned (.int .u64 9223372036854775808) ∧ Below w.heap.size w w' := by
  have K1 := Lib.hid k1
  have hg2 : (g != 0) = true := by rw [bne, hg]; rfl
  have hz := hi_lo_zero hW
  have H0 : ¬ (hi W = 0 ∧ lo W = 0) := fun h => h0 (hz.1 h)
  clear k1 hz h0
  generalize hi W = x at *
  generalize lo W = y at *
  by_cases hx : x = 0
  · subst hx
    have hy : (y == 0) = false := by rw [beq_eq_false_iff_ne]; exact fun h => H0 ⟨rfl, h⟩
    clear H0
    go_enter Try.func37, Try.ntmps37
    go_wp2_with (go_at_call 41; ((with_reducible refine (K1.out _).mono ?_); rintro e w1 ⟨rfl, hbel⟩; obtain ⟨hcc, hff⟩ := bcell hbel; have hsz := hbel.size; (try simp at hsz); have hF : Below w.heap.size w w1 := (by ((repeat' apply And.intro) <;> first | (simp [go_sem, *]; done) | omega | (repeat' (first | with_reducible exact Below.refl _ _ | with_reducible assumption | ((with_reducible refine Below.drew ?_)) | ((with_reducible refine below_drewN ?_ _)) | ((with_reducible refine Below.alloc ?_ ?_ _); rotate_left; focus (first | omega | (simp; done) | (simp; omega))) | ((with_reducible refine Below.setCell ?_ ?_ _); rotate_left; focus (first | omega | (simp; done) | (simp; omega))) | ((with_reducible refine Below.trans ?_ (Below.mono (by with_reducible assumption) ?_)); rotate_left; focus (first | omega | (simp; done) | (simp; omega))))))); go_split_ands; clear hcc hff hbel))
    (go_ret; refine ⟨?_, ?_⟩; (focus (exact rfl)); ((repeat' (first | with_reducible exact Below.refl _ _ | with_reducible assumption | ((with_reducible refine Below.drew ?_)) | ((with_reducible refine below_drewN ?_ _)) | ((with_reducible refine Below.alloc ?_ ?_ _); rotate_left; focus (first | omega | (simp; done) | (simp; omega))) | ((with_reducible refine Below.setCell ?_ ?_ _); rotate_left; focus (first | omega | (simp; done) | (simp; omega))) | ((with_reducible refine Below.trans ?_ (Below.mono (by with_reducible assumption) ?_)); rotate_left; focus (first | omega | (simp; done) | (simp; omega))))); done))
  · have hx' : (x == 0) = false := by simpa using hx
    clear H0 hx
    go_enter Try.func37, Try.ntmps37
    go_wp2_with (go_at_call 41; ((with_reducible refine (K1.out _).mono ?_); rintro e w1 ⟨rfl, hbel⟩; obtain ⟨hcc, hff⟩ := bcell hbel; have hsz := hbel.size; (try simp at hsz); have hF : Below w.heap.size w w1 := (by ((repeat' apply And.intro) <;> first | (simp [go_sem, *]; done) | omega | (repeat' (first | with_reducible exact Below.refl _ _ | with_reducible assumption | ((with_reducible refine Below.drew ?_)) | ((with_reducible refine below_drewN ?_ _)) | ((with_reducible refine Below.alloc ?_ ?_ _); rotate_left; focus (first | omega | (simp; done) | (simp; omega))) | ((with_reducible refine Below.setCell ?_ ?_ _); rotate_left; focus (first | omega | (simp; done) | (simp; omega))) | ((with_reducible refine Below.trans ?_ (Below.mono (by with_reducible assumption) ?_)); rotate_left; focus (first | omega | (simp; done) | (simp; omega))))))); go_split_ands; clear hcc hff hbel))
    (go_ret; refine ⟨?_, ?_⟩; (focus (exact rfl)); ((repeat' (first | with_reducible exact Below.refl _ _ | with_reducible assumption | ((with_reducible refine Below.drew ?_)) | ((with_reducible refine below_drewN ?_ _)) | ((with_reducible refine Below.alloc ?_ ?_ _); rotate_left; focus (first | omega | (simp; done) | (simp; omega))) | ((with_reducible refine Below.setCell ?_ ?_ _); rotate_left; focus (first | omega | (simp; done) | (simp; omega))) | ((with_reducible refine Below.trans ?_ (Below.mono (by with_reducible assumption) ?_)); rotate_left; focus (first | omega | (simp; done) | (simp; omega))))); done))
set_option maxHeartbeats 1000000 in
theorem kov_ok (W m b c r : Int) (hW : Wd W) (h0 : ¬ W = 0) (hb : 0 ≤ b ∧ b ≤ 9223372036854775808) (hc : 0 ≤ c ∧ c ≤ 18446744073709551615)
    (hr : (r = b + c ∧ c < 9223372036854775808 - b) ∨ (r = 9223372036854775808 ∧ 9223372036854775808 - b ≤ c))
    (k1 : ∀ w, Calls Try.prog 41 #[.agg #[.int .u64 (hi W), .int .u64 (lo W)], .int .u64 m] w fun ee w' => ee = .returned (.tuple #[.int .u64 (c), .int .i64 (0)]) ∧ Below w.heap.size w w')
    (w : World) : Calls Try.prog 37 #[.agg #[.int .u64 (hi W), .int .u64 (lo W)], .int .u64 m, .int .u64 b] w fun ee w' => ee = .returned (.int .u64 r) ∧ Below w.heap.size w w' := by
  have K1 := Lib.hid k1
  have hz := hi_lo_zero hW
  have H0 : ¬ (hi W = 0 ∧ lo W = 0) := fun h => h0 (hz.1 h)
  clear k1 hz h0
  generalize hi W = x at *
  generalize lo W = y at *
  rcases hr with ⟨rfl, hr⟩ | ⟨rfl, hr⟩
  all_goals
    by_cases hx : x = 0
    · subst hx
      have hy : (y == 0) = false := by rw [beq_eq_false_iff_ne]; exact fun h => H0 ⟨rfl, h⟩
      clear H0
      go_enter Try.func37, Try.ntmps37
      go_wp2_with (go_at_call 41; ((with_reducible refine (K1.out _).mono ?_); rintro e w1 ⟨rfl, hbel⟩; obtain ⟨hcc, hff⟩ := bcell hbel; have hsz := hbel.size; (try simp at hsz); have hF : Below w.heap.size w w1 := (by ((repeat' apply And.intro) <;> first | (simp [go_sem, *]; done) | omega | (repeat' (first | with_reducible exact Below.refl _ _ | with_reducible assumption | ((with_reducible refine Below.drew ?_)) | ((with_reducible refine below_drewN ?_ _)) | ((with_reducible refine Below.alloc ?_ ?_ _); rotate_left; focus (first | omega | (simp; done) | (simp; omega))) | ((with_reducible refine Below.setCell ?_ ?_ _); rotate_left; focus (first | omega | (simp; done) | (simp; omega))) | ((with_reducible refine Below.trans ?_ (Below.mono (by with_reducible assumption) ?_)); rotate_left; focus (first | omega | (simp; done) | (simp; omega))))))); go_split_ands; clear hcc hff hbel))
      (go_ret; refine ⟨?_, ?_⟩; (focus (exact rfl)); ((repeat' (first | with_reducible exact Below.refl _ _ | with_reducible assumption | ((with_reducible refine Below.drew ?_)) | ((with_reducible refine below_drewN ?_ _)) | ((with_reducible refine Below.alloc ?_ ?_ _); rotate_left; focus (first | omega | (simp; done) | (simp; omega))) | ((with_reducible refine Below.setCell ?_ ?_ _); rotate_left; focus (first | omega | (simp; done) | (simp; omega))) | ((with_reducible refine Below.trans ?_ (Below.mono (by with_reducible assumption) ?_)); rotate_left; focus (first | omega | (simp; done) | (simp; omega))))); done))
    · have hx' : (x == 0) = false := by simpa using hx
      clear H0 hx
      go_enter Try.func37, Try.ntmps37
      go_wp2_with (go_at_call 41; ((with_reducible refine (K1.out _).mono ?_); rintro e w1 ⟨rfl, hbel⟩; obtain ⟨hcc, hff⟩ := bcell hbel; have hsz := hbel.size; (try simp at hsz); have hF : Below w.heap.size w w1 := (by ((repeat' apply And.intro) <;> first | (simp [go_sem, *]; done) | omega | (repeat' (first | with_reducible exact Below.refl _ _ | with_reducible assumption | ((with_reducible refine Below.drew ?_)) | ((with_reducible refine below_drewN ?_ _)) | ((with_reducible refine Below.alloc ?_ ?_ _); rotate_left; focus (first | omega | (simp; done) | (simp; omega))) | ((with_reducible refine Below.setCell ?_ ?_ _); rotate_left; focus (first | omega | (simp; done) | (simp; omega))) | ((with_reducible refine Below.trans ?_ (Below.mono (by with_reducible assumption) ?_)); rotate_left; focus (first | omega | (simp; done) | (simp; omega))))))); go_split_ands; clear hcc hff hbel))
      (go_ret; refine ⟨?_, ?_⟩; (focus (exact rfl)); ((repeat' (first | with_reducible exact Below.refl _ _ | with_reducible assumption | ((with_reducible refine Below.drew ?_)) | ((with_reducible refine below_drewN ?_ _)) | ((with_reducible refine Below.alloc ?_ ?_ _); rotate_left; focus (first | omega | (simp; done) | (simp; omega))) | ((with_reducible refine Below.setCell ?_ ?_ _); rotate_left; focus (first | omega | (simp; done) | (simp; omega))) | ((with_reducible refine Below.trans ?_ (Below.mono (by with_reducible assumption) ?_)); rotate_left; focus (first | omega | (simp; done) | (simp; omega))))); done))

theorem clg_wd {W m : Int} (hW : Wd W) (hm1 : 1 ≤ m) : Wd (clg W m) := by
  have h1 := cl_between W m
  rw [cl_clg] at h1
  have h2 := wd_quo hW (show 0 < m by omega)
  have h3 := Int.ediv_le_self m hW.1
  unfold Wd at *
  rcases h1 with h1 | h1
  · omega
  · refine ⟨by omega, ?_⟩
    rw [h1]
    rcases Int.lt_or_le m 2 with hm2 | hm2
    · have : m = 1 := by omega
      subst this
      have : clg W 1 = W := by unfold clg; rw [if_pos (by omega)]; omega
      omega
    · have h4 : W / m * m ≤ W := Int.ediv_mul_le W (by omega)
      have h5 : W / m * 2 ≤ W / m * m := Int.mul_le_mul_of_nonneg_left hm2 (Int.ediv_nonneg hW.1 (by omega))
      omega
theorem kov_c (W m b : Int) (hW : Wd W) (hm : In m) (hb : 0 ≤ b ∧ b ≤ 9223372036854775808) (w : World) : Calls Try.prog 37 #[.agg #[.int .u64 (hi W), .int .u64 (lo W)], .int .u64 m, .int .u64 b] w fun ee w' => ee = .returned (.int .u64 (ov W m b)) ∧ Below w.heap.size w w' := by
  by_cases h0 : W = 0
  · subst h0
    rw [show ov 0 m b = b from if_pos rfl]
    exact kov_zero m b w
  · have e : ov W m b = if m = 0 then 9223372036854775808 else if clg W m + b < 9223372036854775808 then b + clg W m else 9223372036854775808 := if_neg h0
    rw [e]
    by_cases hm0 : m = 0
    · subst hm0
      rw [if_pos rfl]
      exact kov_bad W 0 b 1 hW h0 (by decide) (ceil_none _ _) w
    · rw [if_neg hm0]
      have hm1 : 1 ≤ m := by unfold In at hm; omega
      have k := ceil_c (hi W) (lo W) m (hi_in _) (lo_in _) hm hm1
      rw [val_wd hW, cl_clg] at k
      have hC := clg_nn (n := W) hW.1 (show 0 < m by omega)
      by_cases hh : hi (clg W m) = 0
      · rw [nv_ok hh, ne_ok hh] at k
        have hq := clg_wd hW hm1
        have hl : lo (clg W m) = clg W m := low_of_wd hq hh
        rw [hl] at k
        have hI := (hi_zero hq).1 hh
        by_cases h3 : clg W m + b < 9223372036854775808
        · rw [if_pos h3]
          exact kov_ok W m b (clg W m) _ hW h0 hb ⟨hC, hI⟩ (.inl ⟨rfl, by omega⟩) k w
        · rw [if_neg h3]
          exact kov_ok W m b (clg W m) _ hW h0 hb ⟨hC, hI⟩ (.inr ⟨rfl, by omega⟩) k w
      · rw [nv_no hh, ne_no hh] at k
        have h3 : ¬ clg W m + b < 9223372036854775808 := by
          intro h4
          apply hh
          unfold hi; omega
        rw [if_neg h3]
        exact kov_bad W m b 20 hW h0 (by decide) k w

theorem ktk_no (m1 d m2 w0 y0 : Int) (h1 : In m1) (h2 : In d) (h3 : In m2) (h : kind m1 d m2 = 0) (w : World) : Calls Try.prog 19 #[.agg #[.int .u64 (m1), .int .u64 (d), .int .u64 (m2)], .agg #[.int .u64 w0, .int .u64 y0]] w fun ee w' => ee = .returned (.int .u64 9223372036854775808) ∧ Below w.heap.size w w' := by
  have K := Lib.hid (krt_no m1 d m2 h1 h2 h3 h)
  clear h
  go_enter Try.func19, Try.ntmps19
  go_wp2_with (go_at_call 13; ((with_reducible refine (K.out _).mono ?_); rintro e w1 ⟨rfl, hbel⟩; obtain ⟨hcc, hff⟩ := bcell hbel; have hsz := hbel.size; (try simp at hsz); have hF : (w1.cell? ⟨w.heap.size, 0, none⟩ = some (.int .u64 m1) ∧ w1.cell? ⟨w.heap.size, 1, none⟩ = some (.int .u64 d) ∧ w1.cell? ⟨w.heap.size, 2, none⟩ = some (.int .u64 m2) ∧ w.heap.size < w1.heap.size) ∧ (w1.cell? ⟨w.heap.size + 1, 0, none⟩ = some (.int .u64 (w0)) ∧ w1.cell? ⟨w.heap.size + 1, 1, none⟩ = some (.int .u64 (y0)) ∧ w.heap.size + 1 < w1.heap.size) ∧ Below w.heap.size w w1 := (by ((repeat' apply And.intro) <;> first | (simp [go_sem, *]; done) | omega | (repeat' (first | with_reducible exact Below.refl _ _ | with_reducible assumption | ((with_reducible refine Below.drew ?_)) | ((with_reducible refine below_drewN ?_ _)) | ((with_reducible refine Below.alloc ?_ ?_ _); rotate_left; focus (first | omega | (simp; done) | (simp; omega))) | ((with_reducible refine Below.setCell ?_ ?_ _); rotate_left; focus (first | omega | (simp; done) | (simp; omega))) | ((with_reducible refine Below.trans ?_ (Below.mono (by with_reducible assumption) ?_)); rotate_left; focus (first | omega | (simp; done) | (simp; omega))))))); go_split_ands; clear hcc hff hbel))
  (go_ret; refine ⟨?_, ?_⟩; (focus (exact rfl)); ((repeat' (first | with_reducible exact Below.refl _ _ | with_reducible assumption | ((with_reducible refine Below.drew ?_)) | ((with_reducible refine below_drewN ?_ _)) | ((with_reducible refine Below.alloc ?_ ?_ _); rotate_left; focus (first | omega | (simp; done) | (simp; omega))) | ((with_reducible refine Below.setCell ?_ ?_ _); rotate_left; focus (first | omega | (simp; done) | (simp; omega))) | ((with_reducible refine Below.trans ?_ (Below.mono (by with_reducible assumption) ?_)); rotate_left; focus (first | omega | (simp; done) | (simp; omega))))); done))
set_option maxHeartbeats 1000000 in
theorem ktk_lo (m1 d m2 w0 y0 p q x r : Int) (h1 : In m1) (h2 : In d) (h3 : In m2) (h : ¬ kind m1 d m2 = 0) (hx : x ≤ 0)
    (k1 : ∀ w, Calls Try.prog 33 #[.int .u64 m1, .int .u64 d] w fun ee w' => ee = .returned (.agg #[.int .u64 p, .int .u64 q]) ∧ Below w.heap.size w w')
    (k2 : ∀ w, Calls Try.prog 18 #[.agg #[.int .u64 w0, .int .u64 y0], .agg #[.int .u64 p, .int .u64 q]] w fun ee w' => ee = .returned (.int .i64 x) ∧ Below w.heap.size w w')
    (k3 : ∀ w, Calls Try.prog 37 #[.agg #[.int .u64 w0, .int .u64 y0], .int .u64 m1, .int .u64 0] w fun ee w' => ee = .returned (.int .u64 r) ∧ Below w.heap.size w w')
    (w : World) : Calls Try.prog 19 #[.agg #[.int .u64 (m1), .int .u64 (d), .int .u64 (m2)], .agg #[.int .u64 w0, .int .u64 y0]] w fun ee w' => ee = .returned (.int .u64 r) ∧ Below w.heap.size w w' := by
  have K := Lib.hid (krt_yes m1 d m2 h1 h2 h3 h)
  have K1 := Lib.hid k1
  have K2 := Lib.hid k2
  have K3 := Lib.hid k3
  clear h k1 k2 k3
  go_enter Try.func19, Try.ntmps19
  go_wp2_with (first
    | (go_at_call 13; ((with_reducible refine (K.out _).mono ?_); rintro e w1 ⟨rfl, hbel⟩; obtain ⟨hcc, hff⟩ := bcell hbel; have hsz := hbel.size; (try simp at hsz); have hF : (w1.cell? ⟨w.heap.size, 0, none⟩ = some (.int .u64 m1) ∧ w1.cell? ⟨w.heap.size, 1, none⟩ = some (.int .u64 d) ∧ w1.cell? ⟨w.heap.size, 2, none⟩ = some (.int .u64 m2) ∧ w.heap.size < w1.heap.size) ∧ (w1.cell? ⟨w.heap.size + 1, 0, none⟩ = some (.int .u64 (w0)) ∧ w1.cell? ⟨w.heap.size + 1, 1, none⟩ = some (.int .u64 (y0)) ∧ w.heap.size + 1 < w1.heap.size) ∧ Below w.heap.size w w1 := (by ((repeat' apply And.intro) <;> first | (simp [go_sem, *]; done) | omega | (repeat' (first | with_reducible exact Below.refl _ _ | with_reducible assumption | ((with_reducible refine Below.drew ?_)) | ((with_reducible refine below_drewN ?_ _)) | ((with_reducible refine Below.alloc ?_ ?_ _); rotate_left; focus (first | omega | (simp; done) | (simp; omega))) | ((with_reducible refine Below.setCell ?_ ?_ _); rotate_left; focus (first | omega | (simp; done) | (simp; omega))) | ((with_reducible refine Below.trans ?_ (Below.mono (by with_reducible assumption) ?_)); rotate_left; focus (first | omega | (simp; done) | (simp; omega))))))); go_split_ands; clear hcc hff hbel))
    | (go_at_call 33; ((with_reducible refine (K1.out _).mono ?_); rintro e w2 ⟨rfl, hbel⟩; obtain ⟨hcc, hff⟩ := bcell hbel; have hsz := hbel.size; (try simp at hsz); have hF : (w2.cell? ⟨w.heap.size, 0, none⟩ = some (.int .u64 m1) ∧ w2.cell? ⟨w.heap.size, 1, none⟩ = some (.int .u64 d) ∧ w2.cell? ⟨w.heap.size, 2, none⟩ = some (.int .u64 m2) ∧ w.heap.size < w2.heap.size) ∧ (w2.cell? ⟨w.heap.size + 1, 0, none⟩ = some (.int .u64 (w0)) ∧ w2.cell? ⟨w.heap.size + 1, 1, none⟩ = some (.int .u64 (y0)) ∧ w.heap.size + 1 < w2.heap.size) ∧ Below w.heap.size w w2 := (by ((repeat' apply And.intro) <;> first | (simp [go_sem, *]; done) | omega | (repeat' (first | with_reducible exact Below.refl _ _ | with_reducible assumption | ((with_reducible refine Below.drew ?_)) | ((with_reducible refine below_drewN ?_ _)) | ((with_reducible refine Below.alloc ?_ ?_ _); rotate_left; focus (first | omega | (simp; done) | (simp; omega))) | ((with_reducible refine Below.setCell ?_ ?_ _); rotate_left; focus (first | omega | (simp; done) | (simp; omega))) | ((with_reducible refine Below.trans ?_ (Below.mono (by with_reducible assumption) ?_)); rotate_left; focus (first | omega | (simp; done) | (simp; omega))))))); go_split_ands; clear hcc hff hbel))
    | (go_at_call 18; ((with_reducible refine (K2.out _).mono ?_); rintro e w3 ⟨rfl, hbel⟩; obtain ⟨hcc, hff⟩ := bcell hbel; have hsz := hbel.size; (try simp at hsz); have hF : (w3.cell? ⟨w.heap.size, 0, none⟩ = some (.int .u64 m1) ∧ w3.cell? ⟨w.heap.size, 1, none⟩ = some (.int .u64 d) ∧ w3.cell? ⟨w.heap.size, 2, none⟩ = some (.int .u64 m2) ∧ w.heap.size < w3.heap.size) ∧ (w3.cell? ⟨w.heap.size + 1, 0, none⟩ = some (.int .u64 (w0)) ∧ w3.cell? ⟨w.heap.size + 1, 1, none⟩ = some (.int .u64 (y0)) ∧ w.heap.size + 1 < w3.heap.size) ∧ (w3.cell? ⟨w2.heap.size, 0, none⟩ = some (.int .u64 (p)) ∧ w3.cell? ⟨w2.heap.size, 1, none⟩ = some (.int .u64 (q)) ∧ w2.heap.size < w3.heap.size) ∧ Below w.heap.size w w3 := (by ((repeat' apply And.intro) <;> first | (simp [go_sem, *]; done) | omega | (repeat' (first | with_reducible exact Below.refl _ _ | with_reducible assumption | ((with_reducible refine Below.drew ?_)) | ((with_reducible refine below_drewN ?_ _)) | ((with_reducible refine Below.alloc ?_ ?_ _); rotate_left; focus (first | omega | (simp; done) | (simp; omega))) | ((with_reducible refine Below.setCell ?_ ?_ _); rotate_left; focus (first | omega | (simp; done) | (simp; omega))) | ((with_reducible refine Below.trans ?_ (Below.mono (by with_reducible assumption) ?_)); rotate_left; focus (first | omega | (simp; done) | (simp; omega))))))); go_split_ands; clear hcc hff hbel))
    | (go_at_call 37; ((with_reducible refine (K3.out _).mono ?_); rintro e w4 ⟨rfl, hbel⟩; obtain ⟨hcc, hff⟩ := bcell hbel; have hsz := hbel.size; (try simp at hsz); have hF : Below w.heap.size w w4 := (by ((repeat' apply And.intro) <;> first | (simp [go_sem, *]; done) | omega | (repeat' (first | with_reducible exact Below.refl _ _ | with_reducible assumption | ((with_reducible refine Below.drew ?_)) | ((with_reducible refine below_drewN ?_ _)) | ((with_reducible refine Below.alloc ?_ ?_ _); rotate_left; focus (first | omega | (simp; done) | (simp; omega))) | ((with_reducible refine Below.setCell ?_ ?_ _); rotate_left; focus (first | omega | (simp; done) | (simp; omega))) | ((with_reducible refine Below.trans ?_ (Below.mono (by with_reducible assumption) ?_)); rotate_left; focus (first | omega | (simp; done) | (simp; omega))))))); go_split_ands; clear hcc hff hbel)))
  (go_ret; refine ⟨?_, ?_⟩; (focus (exact rfl)); ((repeat' (first | with_reducible exact Below.refl _ _ | with_reducible assumption | ((with_reducible refine Below.drew ?_)) | ((with_reducible refine below_drewN ?_ _)) | ((with_reducible refine Below.alloc ?_ ?_ _); rotate_left; focus (first | omega | (simp; done) | (simp; omega))) | ((with_reducible refine Below.setCell ?_ ?_ _); rotate_left; focus (first | omega | (simp; done) | (simp; omega))) | ((with_reducible refine Below.trans ?_ (Below.mono (by with_reducible assumption) ?_)); rotate_left; focus (first | omega | (simp; done) | (simp; omega))))); done))
set_option maxHeartbeats 1000000 in
theorem ktk_hi (m1 d m2 w0 y0 p q u v x r : Int) (fl : Bool) (h1 : In m1) (h2 : In d) (h3 : In m2) (h : ¬ kind m1 d m2 = 0) (hx : 0 < x)
    (k1 : ∀ w, Calls Try.prog 33 #[.int .u64 m1, .int .u64 d] w fun ee w' => ee = .returned (.agg #[.int .u64 p, .int .u64 q]) ∧ Below w.heap.size w w')
    (k2 : ∀ w, Calls Try.prog 18 #[.agg #[.int .u64 w0, .int .u64 y0], .agg #[.int .u64 p, .int .u64 q]] w fun ee w' => ee = .returned (.int .i64 x) ∧ Below w.heap.size w w')
    (k4 : ∀ w, Calls Try.prog 21 #[.agg #[.int .u64 w0, .int .u64 y0], .agg #[.int .u64 p, .int .u64 q]] w fun ee w' => ee = .returned (.tuple #[.agg #[.int .u64 u, .int .u64 v], .bool fl]) ∧ Below w.heap.size w w')
    (k3 : ∀ w, Calls Try.prog 37 #[.agg #[.int .u64 u, .int .u64 v], .int .u64 m2, .int .u64 d] w fun ee w' => ee = .returned (.int .u64 r) ∧ Below w.heap.size w w')
    (w : World) : Calls Try.prog 19 #[.agg #[.int .u64 (m1), .int .u64 (d), .int .u64 (m2)], .agg #[.int .u64 w0, .int .u64 y0]] w fun ee w' => ee = .returned (.int .u64 r) ∧ Below w.heap.size w w' := by
  have K := Lib.hid (krt_yes m1 d m2 h1 h2 h3 h)
  have K1 := Lib.hid k1
  have K2 := Lib.hid k2
  have K3 := Lib.hid k3
  have K4 := Lib.hid k4
  clear h k1 k2 k3 k4
  go_enter Try.func19, Try.ntmps19
  go_wp2_with (first
    | (go_at_call 13; ((with_reducible refine (K.out _).mono ?_); rintro e w1 ⟨rfl, hbel⟩; obtain ⟨hcc, hff⟩ := bcell hbel; have hsz := hbel.size; (try simp at hsz); have hF : (w1.cell? ⟨w.heap.size, 0, none⟩ = some (.int .u64 m1) ∧ w1.cell? ⟨w.heap.size, 1, none⟩ = some (.int .u64 d) ∧ w1.cell? ⟨w.heap.size, 2, none⟩ = some (.int .u64 m2) ∧ w.heap.size < w1.heap.size) ∧ (w1.cell? ⟨w.heap.size + 1, 0, none⟩ = some (.int .u64 (w0)) ∧ w1.cell? ⟨w.heap.size + 1, 1, none⟩ = some (.int .u64 (y0)) ∧ w.heap.size + 1 < w1.heap.size) ∧ Below w.heap.size w w1 := (by ((repeat' apply And.intro) <;> first | (simp [go_sem, *]; done) | omega | (repeat' (first | with_reducible exact Below.refl _ _ | with_reducible assumption | ((with_reducible refine Below.drew ?_)) | ((with_reducible refine below_drewN ?_ _)) | ((with_reducible refine Below.alloc ?_ ?_ _); rotate_left; focus (first | omega | (simp; done) | (simp; omega))) | ((with_reducible refine Below.setCell ?_ ?_ _); rotate_left; focus (first | omega | (simp; done) | (simp; omega))) | ((with_reducible refine Below.trans ?_ (Below.mono (by with_reducible assumption) ?_)); rotate_left; focus (first | omega | (simp; done) | (simp; omega))))))); go_split_ands; clear hcc hff hbel))
    | (go_at_call 33; ((with_reducible refine (K1.out _).mono ?_); rintro e w2 ⟨rfl, hbel⟩; obtain ⟨hcc, hff⟩ := bcell hbel; have hsz := hbel.size; (try simp at hsz); have hF : (w2.cell? ⟨w.heap.size, 0, none⟩ = some (.int .u64 m1) ∧ w2.cell? ⟨w.heap.size, 1, none⟩ = some (.int .u64 d) ∧ w2.cell? ⟨w.heap.size, 2, none⟩ = some (.int .u64 m2) ∧ w.heap.size < w2.heap.size) ∧ (w2.cell? ⟨w.heap.size + 1, 0, none⟩ = some (.int .u64 (w0)) ∧ w2.cell? ⟨w.heap.size + 1, 1, none⟩ = some (.int .u64 (y0)) ∧ w.heap.size + 1 < w2.heap.size) ∧ Below w.heap.size w w2 := (by ((repeat' apply And.intro) <;> first | (simp [go_sem, *]; done) | omega | (repeat' (first | with_reducible exact Below.refl _ _ | with_reducible assumption | ((with_reducible refine Below.drew ?_)) | ((with_reducible refine below_drewN ?_ _)) | ((with_reducible refine Below.alloc ?_ ?_ _); rotate_left; focus (first | omega | (simp; done) | (simp; omega))) | ((with_reducible refine Below.setCell ?_ ?_ _); rotate_left; focus (first | omega | (simp; done) | (simp; omega))) | ((with_reducible refine Below.trans ?_ (Below.mono (by with_reducible assumption) ?_)); rotate_left; focus (first | omega | (simp; done) | (simp; omega))))))); go_split_ands; clear hcc hff hbel))
    | (go_at_call 18; ((with_reducible refine (K2.out _).mono ?_); rintro e w3 ⟨rfl, hbel⟩; obtain ⟨hcc, hff⟩ := bcell hbel; have hsz := hbel.size; (try simp at hsz); have hF : (w3.cell? ⟨w.heap.size, 0, none⟩ = some (.int .u64 m1) ∧ w3.cell? ⟨w.heap.size, 1, none⟩ = some (.int .u64 d) ∧ w3.cell? ⟨w.heap.size, 2, none⟩ = some (.int .u64 m2) ∧ w.heap.size < w3.heap.size) ∧ (w3.cell? ⟨w.heap.size + 1, 0, none⟩ = some (.int .u64 (w0)) ∧ w3.cell? ⟨w.heap.size + 1, 1, none⟩ = some (.int .u64 (y0)) ∧ w.heap.size + 1 < w3.heap.size) ∧ (w3.cell? ⟨w2.heap.size, 0, none⟩ = some (.int .u64 (p)) ∧ w3.cell? ⟨w2.heap.size, 1, none⟩ = some (.int .u64 (q)) ∧ w2.heap.size < w3.heap.size) ∧ Below w.heap.size w w3 := (by ((repeat' apply And.intro) <;> first | (simp [go_sem, *]; done) | omega | (repeat' (first | with_reducible exact Below.refl _ _ | with_reducible assumption | ((with_reducible refine Below.drew ?_)) | ((with_reducible refine below_drewN ?_ _)) | ((with_reducible refine Below.alloc ?_ ?_ _); rotate_left; focus (first | omega | (simp; done) | (simp; omega))) | ((with_reducible refine Below.setCell ?_ ?_ _); rotate_left; focus (first | omega | (simp; done) | (simp; omega))) | ((with_reducible refine Below.trans ?_ (Below.mono (by with_reducible assumption) ?_)); rotate_left; focus (first | omega | (simp; done) | (simp; omega))))))); go_split_ands; clear hcc hff hbel))
    | (go_at_call 21; ((with_reducible refine (K4.out _).mono ?_); rintro e w5 ⟨rfl, hbel⟩; obtain ⟨hcc, hff⟩ := bcell hbel; have hsz := hbel.size; (try simp at hsz); have hF : (w5.cell? ⟨w.heap.size, 0, none⟩ = some (.int .u64 m1) ∧ w5.cell? ⟨w.heap.size, 1, none⟩ = some (.int .u64 d) ∧ w5.cell? ⟨w.heap.size, 2, none⟩ = some (.int .u64 m2) ∧ w.heap.size < w5.heap.size) ∧ (w5.cell? ⟨w.heap.size + 1, 0, none⟩ = some (.int .u64 (w0)) ∧ w5.cell? ⟨w.heap.size + 1, 1, none⟩ = some (.int .u64 (y0)) ∧ w.heap.size + 1 < w5.heap.size) ∧ (w5.cell? ⟨w2.heap.size, 0, none⟩ = some (.int .u64 (p)) ∧ w5.cell? ⟨w2.heap.size, 1, none⟩ = some (.int .u64 (q)) ∧ w2.heap.size < w5.heap.size) ∧ Below w.heap.size w w5 := (by ((repeat' apply And.intro) <;> first | (simp [go_sem, *]; done) | omega | (repeat' (first | with_reducible exact Below.refl _ _ | with_reducible assumption | ((with_reducible refine Below.drew ?_)) | ((with_reducible refine below_drewN ?_ _)) | ((with_reducible refine Below.alloc ?_ ?_ _); rotate_left; focus (first | omega | (simp; done) | (simp; omega))) | ((with_reducible refine Below.setCell ?_ ?_ _); rotate_left; focus (first | omega | (simp; done) | (simp; omega))) | ((with_reducible refine Below.trans ?_ (Below.mono (by with_reducible assumption) ?_)); rotate_left; focus (first | omega | (simp; done) | (simp; omega))))))); go_split_ands; clear hcc hff hbel))
    | (go_at_call 37; ((with_reducible refine (K3.out _).mono ?_); rintro e w4 ⟨rfl, hbel⟩; obtain ⟨hcc, hff⟩ := bcell hbel; have hsz := hbel.size; (try simp at hsz); have hF : Below w.heap.size w w4 := (by ((repeat' apply And.intro) <;> first | (simp [go_sem, *]; done) | omega | (repeat' (first | with_reducible exact Below.refl _ _ | with_reducible assumption | ((with_reducible refine Below.drew ?_)) | ((with_reducible refine below_drewN ?_ _)) | ((with_reducible refine Below.alloc ?_ ?_ _); rotate_left; focus (first | omega | (simp; done) | (simp; omega))) | ((with_reducible refine Below.setCell ?_ ?_ _); rotate_left; focus (first | omega | (simp; done) | (simp; omega))) | ((with_reducible refine Below.trans ?_ (Below.mono (by with_reducible assumption) ?_)); rotate_left; focus (first | omega | (simp; done) | (simp; omega))))))); go_split_ands; clear hcc hff hbel)))
  (go_ret; refine ⟨?_, ?_⟩; (focus (exact rfl)); ((repeat' (first | with_reducible exact Below.refl _ _ | with_reducible assumption | ((with_reducible refine Below.drew ?_)) | ((with_reducible refine below_drewN ?_ _)) | ((with_reducible refine Below.alloc ?_ ?_ _); rotate_left; focus (first | omega | (simp; done) | (simp; omega))) | ((with_reducible refine Below.setCell ?_ ?_ _); rotate_left; focus (first | omega | (simp; done) | (simp; omega))) | ((with_reducible refine Below.trans ?_ (Below.mono (by with_reducible assumption) ?_)); rotate_left; focus (first | omega | (simp; done) | (simp; omega))))); done))
theorem ktk_c (m1 d m2 W : Int) (h1 : In m1) (h2 : In d) (h3 : In m2) (hW : Wd W) (w : World) : Calls Try.prog 19 #[.agg #[.int .u64 (m1), .int .u64 (d), .int .u64 (m2)], .agg #[.int .u64 (hi W), .int .u64 (lo W)]] w fun ee w' => ee = .returned (.int .u64 (tk m1 d m2 W)) ∧ Below w.heap.size w w' := by
  by_cases h : kind m1 d m2 = 0
  · rw [show tk m1 d m2 W = 9223372036854775808 from if_pos h]
    exact ktk_no m1 d m2 _ _ h1 h2 h3 h w
  · have hk := okc h1 h2 h3 h
    have hP := wd_mul h1 h2
    have e : tk m1 d m2 W = if W ≤ m1 * d then ov W m1 0 else ov (W - m1 * d) m2 d := if_neg h
    rw [e]
    have kc := compare_c (hi W) (lo W) (hi (m1 * d)) (lo (m1 * d)) (hi_in _) (lo_in _) (hi_in _) (lo_in _)
    rw [val_wd hW, val_wd hP] at kc
    by_cases c1 : W ≤ m1 * d
    · rw [if_pos c1]
      refine ktk_lo m1 d m2 _ _ _ _ _ _ h1 h2 h3 h ?_ (mul_c m1 d h1 h2) kc (kov_c W m1 0 hW h1 (by omega)) w
      unfold cmp; split <;> (try split) <;> omega
    · rw [if_neg c1]
      have hS : Wd (W - m1 * d) := by unfold Wd at *; omega
      have ks := sub_c (hi W) (lo W) (hi (m1 * d)) (lo (m1 * d)) (hi_in _) (lo_in _) (hi_in _) (lo_in _)
      rw [val_wd hW, val_wd hP] at ks
      refine ktk_hi m1 d m2 _ _ _ _ _ _ _ _ _ h1 h2 h3 h ?_ (mul_c m1 d h1 h2) kc ks (kov_c (W - m1 * d) m2 d hS h3 (by have := hk.b2; have := hk.n2; omega)) w
      unfold cmp; split <;> (try split) <;> omega
end Go.Proofs.Ytgclmgkmjmbbmaa
