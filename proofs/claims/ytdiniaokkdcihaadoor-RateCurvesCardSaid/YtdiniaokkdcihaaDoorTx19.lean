/- The reference's slopes and ticks. -/
import Derived.Test.YtdiniaokkdcihaaDoorTx11
import Derived.Test.YtdiniaokkdcihaaDoorRefA
namespace Go.Proofs.YtdiniaokkdcihaaDoor
set_option linter.unusedVariables false
set_option linter.unusedSimpArgs false
set_option maxRecDepth 100000
open Go.RowKit Fg Reg
attribute [local irreducible] Reg.wE

theorem rrtd_c (n h : Int) (w : World) : Calls Tryd.prog 91 #[.int .u64 n, .int .u64 h] w fun ee w' => ee = .returned (.bool (rm n && cm h)) ∧ Below w.heap.size w w' := by
  unfold rm cm
  by_cases h0 : 1 ≤ n
  · by_cases h1 : n ≤ 1000000000000
    · by_cases h2 : 1 ≤ h
      · rw [decide_eq_true h0, decide_eq_true h1, decide_eq_true h2]
        simp only [Bool.true_and]
        have d0 := decide_eq_true h0
        have d1 := decide_eq_true h1
        have d2 := decide_eq_true h2
        go_enter Tryd.func91, Tryd.ntmps91
        go_wp2
        (go_ret; refine ⟨?_, ?_⟩; (focus (exact rfl)); ((repeat' (first | with_reducible exact Below.refl _ _ | with_reducible assumption | ((with_reducible refine Below.drew ?_)) | ((with_reducible refine below_drewN ?_ _)) | ((with_reducible refine Below.alloc ?_ ?_ _); rotate_left; focus (first | omega | (simp; done) | (simp; omega))) | ((with_reducible refine Below.setCell ?_ ?_ _); rotate_left; focus (first | omega | (simp; done) | (simp; omega))) | ((with_reducible refine Below.trans ?_ (Below.mono (by with_reducible assumption) ?_)); rotate_left; focus (first | omega | (simp; done) | (simp; omega))))); done))
      · rw [decide_eq_true h0, decide_eq_true h1, decide_eq_false h2]
        simp only [Bool.true_and, Bool.false_and]
        have d0 := decide_eq_true h0
        have d1 := decide_eq_true h1
        have d2 := decide_eq_false h2
        go_enter Tryd.func91, Tryd.ntmps91
        go_wp2
        (go_ret; refine ⟨?_, ?_⟩; (focus (exact rfl)); ((repeat' (first | with_reducible exact Below.refl _ _ | with_reducible assumption | ((with_reducible refine Below.drew ?_)) | ((with_reducible refine below_drewN ?_ _)) | ((with_reducible refine Below.alloc ?_ ?_ _); rotate_left; focus (first | omega | (simp; done) | (simp; omega))) | ((with_reducible refine Below.setCell ?_ ?_ _); rotate_left; focus (first | omega | (simp; done) | (simp; omega))) | ((with_reducible refine Below.trans ?_ (Below.mono (by with_reducible assumption) ?_)); rotate_left; focus (first | omega | (simp; done) | (simp; omega))))); done))
    · rw [decide_eq_true h0, decide_eq_false h1]
      simp only [Bool.true_and, Bool.false_and]
      have d0 := decide_eq_true h0
      have d1 := decide_eq_false h1
      go_enter Tryd.func91, Tryd.ntmps91
      go_wp2
      (go_ret; refine ⟨?_, ?_⟩; (focus (exact rfl)); ((repeat' (first | with_reducible exact Below.refl _ _ | with_reducible assumption | ((with_reducible refine Below.drew ?_)) | ((with_reducible refine below_drewN ?_ _)) | ((with_reducible refine Below.alloc ?_ ?_ _); rotate_left; focus (first | omega | (simp; done) | (simp; omega))) | ((with_reducible refine Below.setCell ?_ ?_ _); rotate_left; focus (first | omega | (simp; done) | (simp; omega))) | ((with_reducible refine Below.trans ?_ (Below.mono (by with_reducible assumption) ?_)); rotate_left; focus (first | omega | (simp; done) | (simp; omega))))); done))
  · rw [decide_eq_false h0]
    simp only [Bool.false_and]
    have d0 := decide_eq_false h0
    go_enter Tryd.func91, Tryd.ntmps91
    go_wp2
    (go_ret; refine ⟨?_, ?_⟩; (focus (exact rfl)); ((repeat' (first | with_reducible exact Below.refl _ _ | with_reducible assumption | ((with_reducible refine Below.drew ?_)) | ((with_reducible refine below_drewN ?_ _)) | ((with_reducible refine Below.alloc ?_ ?_ _); rotate_left; focus (first | omega | (simp; done) | (simp; omega))) | ((with_reducible refine Below.setCell ?_ ?_ _); rotate_left; focus (first | omega | (simp; done) | (simp; omega))) | ((with_reducible refine Below.trans ?_ (Below.mono (by with_reducible assumption) ?_)); rotate_left; focus (first | omega | (simp; done) | (simp; omega))))); done))
theorem rovr_c (v most : Int) (w : World) : Calls Tryd.prog 92 #[.agg #[.int .u64 (v), .int .i64 (0)], .int .u64 most] w fun ee w' => ee = .returned (.agg #[.int .u64 (ovV v most), .int .i64 (ovE v most)]) ∧ Below w.heap.size w w' := by
  unfold ovV ovE
  by_cases h : most < v
  · rw [if_pos h, if_pos h]
    have d0 := decide_eq_true h
    go_enter Tryd.func92, Tryd.ntmps92
    go_wp2
    refine bodyPost_ret (v := .agg #[.int .u64 (0), .int .i64 (20)]) (by simp [results, Tryd.results92, go_sem, *]) rfl ⟨rfl, (by repeat' (first | with_reducible exact Below.refl _ _ | with_reducible assumption | ((with_reducible refine Below.drew ?_)) | ((with_reducible refine below_drewN ?_ _)) | ((with_reducible refine Below.alloc ?_ ?_ _); rotate_left; focus (first | omega | (simp; done) | (simp; omega))) | ((with_reducible refine Below.setCell ?_ ?_ _); rotate_left; focus (first | omega | (simp; done) | (simp; omega))) | ((with_reducible refine Below.trans ?_ (Below.mono (by with_reducible assumption) ?_)); rotate_left; focus (first | omega | (simp; done) | (simp; omega)))))⟩
  · rw [if_neg h, if_neg h]
    have d0 := decide_eq_false h
    go_enter Tryd.func92, Tryd.ntmps92
    go_wp2
    refine bodyPost_ret (v := .agg #[.int .u64 (v), .int .i64 (0)]) (by simp [results, Tryd.results92, go_sem, *]) rfl ⟨rfl, (by repeat' (first | with_reducible exact Below.refl _ _ | with_reducible assumption | ((with_reducible refine Below.drew ?_)) | ((with_reducible refine below_drewN ?_ _)) | ((with_reducible refine Below.alloc ?_ ?_ _); rotate_left; focus (first | omega | (simp; done) | (simp; omega))) | ((with_reducible refine Below.setCell ?_ ?_ _); rotate_left; focus (first | omega | (simp; done) | (simp; omega))) | ((with_reducible refine Below.trans ?_ (Below.mono (by with_reducible assumption) ?_)); rotate_left; focus (first | omega | (simp; done) | (simp; omega)))))⟩
theorem rslo_c (n h : Int) (hn : In n) (hh : In h) (w : World) : Calls Tryd.prog 53 #[.int .u64 n, .int .u64 h] w fun ee w' => ee = .returned (.agg #[.int .u64 (sloV n h), .int .i64 (sloE n h)]) ∧ Below w.heap.size w w' := by
  unfold sloV sloE
  have kr := fun w => rrtd_c n h w
  by_cases hc : rm n = true ∧ cm h = true
  · rw [if_pos hc, if_pos hc]
    rw [hc.1, hc.2] at kr
    have h0 := (rm_iff n).1 hc.1
    have h1 := (cm_iff h).1 hc.2
    have hq : 0 ≤ n * 8192 / h ∧ n * 8192 / h < 18446744073709551616 := by
      have a1 : 0 ≤ n * 8192 / h := Int.ediv_nonneg (by omega) (by omega)
      have a2 : n * 8192 / h ≤ n * 8192 := Int.ediv_le_self _ (by omega)
      omega
    have hs := nv_small hq.1 hq.2
    have kd := fun w => reffloor_c (n * 8192) h (by unfold Wd; omega) hh h1.1 w
    rw [hs.1, hs.2] at kd
    have KR := Lib.hid kr
    have KM := Lib.hid (fun w => refmul_c n 8192 hn (by unfold In; omega) w)
    have KD := Lib.hid kd
    generalize n * 8192 / h = q at *
    have KO := Lib.hid (fun w => rovr_c q 4294967295 w)
    generalize n * 8192 = p at *
    clear kr kd hs hq h0 h1 hc
    go_enter Tryd.func53, Tryd.ntmps53
    go_wp2_with (first | (go_at_call 91; ((with_reducible refine (KR.out _).mono ?_); rintro e w1 ⟨rfl, hbel⟩; obtain ⟨hcc, hff⟩ := bcell hbel; have hsz := hbel.size; (try simp at hsz); have hF : (w1.cell? ⟨w.heap.size, 0, none⟩ = some (.int .u64 0) ∧ w1.cell? ⟨w.heap.size, 1, none⟩ = some (.int .i64 0) ∧ w1.frozen? ⟨w.heap.size, 0, none⟩ = false ∧ w1.frozen? ⟨w.heap.size, 1, none⟩ = false ∧ w.heap.size < w1.heap.size) ∧ Below w.heap.size w w1 := (by ((repeat' apply And.intro) <;> first | (simp [go_sem, *]; done) | omega | (repeat' (first | with_reducible exact Below.refl _ _ | with_reducible assumption | ((with_reducible refine Below.drew ?_)) | ((with_reducible refine below_drewN ?_ _)) | ((with_reducible refine Below.alloc ?_ ?_ _); rotate_left; focus (first | omega | (simp; done) | (simp; omega))) | ((with_reducible refine Below.setCell ?_ ?_ _); rotate_left; focus (first | omega | (simp; done) | (simp; omega))) | ((with_reducible refine Below.trans ?_ (Below.mono (by with_reducible assumption) ?_)); rotate_left; focus (first | omega | (simp; done) | (simp; omega))))))); go_split_ands; clear hcc hff hbel)) | (go_at_call 56; ((with_reducible refine (KM.out _).mono ?_); rintro e w2 ⟨rfl, hbel⟩; obtain ⟨hcc, hff⟩ := bcell hbel; have hsz := hbel.size; (try simp at hsz); have hF : (w2.cell? ⟨w.heap.size, 0, none⟩ = some (.int .u64 0) ∧ w2.cell? ⟨w.heap.size, 1, none⟩ = some (.int .i64 0) ∧ w2.frozen? ⟨w.heap.size, 0, none⟩ = false ∧ w2.frozen? ⟨w.heap.size, 1, none⟩ = false ∧ w.heap.size < w2.heap.size) ∧ Below w.heap.size w w2 := (by ((repeat' apply And.intro) <;> first | (simp [go_sem, *]; done) | omega | (repeat' (first | with_reducible exact Below.refl _ _ | with_reducible assumption | ((with_reducible refine Below.drew ?_)) | ((with_reducible refine below_drewN ?_ _)) | ((with_reducible refine Below.alloc ?_ ?_ _); rotate_left; focus (first | omega | (simp; done) | (simp; omega))) | ((with_reducible refine Below.setCell ?_ ?_ _); rotate_left; focus (first | omega | (simp; done) | (simp; omega))) | ((with_reducible refine Below.trans ?_ (Below.mono (by with_reducible assumption) ?_)); rotate_left; focus (first | omega | (simp; done) | (simp; omega))))))); go_split_ands; clear hcc hff hbel)) | (go_at_call 93; ((with_reducible refine (KD.out _).mono ?_); rintro e w3 ⟨rfl, hbel⟩; obtain ⟨hcc, hff⟩ := bcell hbel; have hsz := hbel.size; (try simp at hsz); have hF : (w3.cell? ⟨w.heap.size, 0, none⟩ = some (.int .u64 0) ∧ w3.cell? ⟨w.heap.size, 1, none⟩ = some (.int .i64 0) ∧ w3.frozen? ⟨w.heap.size, 0, none⟩ = false ∧ w3.frozen? ⟨w.heap.size, 1, none⟩ = false ∧ w.heap.size < w3.heap.size) ∧ Below w.heap.size w w3 := (by ((repeat' apply And.intro) <;> first | (simp [go_sem, *]; done) | omega | (repeat' (first | with_reducible exact Below.refl _ _ | with_reducible assumption | ((with_reducible refine Below.drew ?_)) | ((with_reducible refine below_drewN ?_ _)) | ((with_reducible refine Below.alloc ?_ ?_ _); rotate_left; focus (first | omega | (simp; done) | (simp; omega))) | ((with_reducible refine Below.setCell ?_ ?_ _); rotate_left; focus (first | omega | (simp; done) | (simp; omega))) | ((with_reducible refine Below.trans ?_ (Below.mono (by with_reducible assumption) ?_)); rotate_left; focus (first | omega | (simp; done) | (simp; omega))))))); go_split_ands; clear hcc hff hbel)) | (go_at_call 94; ((with_reducible refine (KD.out _).mono ?_); rintro e w3 ⟨rfl, hbel⟩; obtain ⟨hcc, hff⟩ := bcell hbel; have hsz := hbel.size; (try simp at hsz); have hF : (w3.cell? ⟨w.heap.size, 0, none⟩ = some (.int .u64 0) ∧ w3.cell? ⟨w.heap.size, 1, none⟩ = some (.int .i64 0) ∧ w3.frozen? ⟨w.heap.size, 0, none⟩ = false ∧ w3.frozen? ⟨w.heap.size, 1, none⟩ = false ∧ w.heap.size < w3.heap.size) ∧ Below w.heap.size w w3 := (by ((repeat' apply And.intro) <;> first | (simp [go_sem, *]; done) | omega | (repeat' (first | with_reducible exact Below.refl _ _ | with_reducible assumption | ((with_reducible refine Below.drew ?_)) | ((with_reducible refine below_drewN ?_ _)) | ((with_reducible refine Below.alloc ?_ ?_ _); rotate_left; focus (first | omega | (simp; done) | (simp; omega))) | ((with_reducible refine Below.setCell ?_ ?_ _); rotate_left; focus (first | omega | (simp; done) | (simp; omega))) | ((with_reducible refine Below.trans ?_ (Below.mono (by with_reducible assumption) ?_)); rotate_left; focus (first | omega | (simp; done) | (simp; omega))))))); go_split_ands; clear hcc hff hbel)) | (go_at_call 92; ((with_reducible refine (KO.out _).mono ?_); rintro e w4 ⟨rfl, hbel⟩; obtain ⟨hcc, hff⟩ := bcell hbel; have hsz := hbel.size; (try simp at hsz); have hF : (w4.cell? ⟨w.heap.size, 0, none⟩ = some (.int .u64 0) ∧ w4.cell? ⟨w.heap.size, 1, none⟩ = some (.int .i64 0) ∧ w4.frozen? ⟨w.heap.size, 0, none⟩ = false ∧ w4.frozen? ⟨w.heap.size, 1, none⟩ = false ∧ w.heap.size < w4.heap.size) ∧ Below w.heap.size w w4 := (by ((repeat' apply And.intro) <;> first | (simp [go_sem, *]; done) | omega | (repeat' (first | with_reducible exact Below.refl _ _ | with_reducible assumption | ((with_reducible refine Below.drew ?_)) | ((with_reducible refine below_drewN ?_ _)) | ((with_reducible refine Below.alloc ?_ ?_ _); rotate_left; focus (first | omega | (simp; done) | (simp; omega))) | ((with_reducible refine Below.setCell ?_ ?_ _); rotate_left; focus (first | omega | (simp; done) | (simp; omega))) | ((with_reducible refine Below.trans ?_ (Below.mono (by with_reducible assumption) ?_)); rotate_left; focus (first | omega | (simp; done) | (simp; omega))))))); go_split_ands; clear hcc hff hbel)))
    refine bodyPost_ret (v := .agg #[.int .u64 (ovV q 4294967295), .int .i64 (ovE q 4294967295)]) (by simp [results, Tryd.results53, go_sem, *]) rfl ⟨rfl, (by repeat' (first | with_reducible exact Below.refl _ _ | with_reducible assumption | ((with_reducible refine Below.drew ?_)) | ((with_reducible refine below_drewN ?_ _)) | ((with_reducible refine Below.alloc ?_ ?_ _); rotate_left; focus (first | omega | (simp; done) | (simp; omega))) | ((with_reducible refine Below.setCell ?_ ?_ _); rotate_left; focus (first | omega | (simp; done) | (simp; omega))) | ((with_reducible refine Below.trans ?_ (Below.mono (by with_reducible assumption) ?_)); rotate_left; focus (first | omega | (simp; done) | (simp; omega)))))⟩
  · rw [if_neg hc, if_neg hc]
    have e : (rm n && cm h) = false := by
      rw [Bool.eq_false_iff]; intro e; rw [Bool.and_eq_true] at e; exact hc e
    rw [e] at kr
    have KR := Lib.hid kr
    clear kr e hc
    go_enter Tryd.func53, Tryd.ntmps53
    go_wp2_with (go_at_call 91; ((with_reducible refine (KR.out _).mono ?_); rintro e w1 ⟨rfl, hbel⟩; obtain ⟨hcc, hff⟩ := bcell hbel; have hsz := hbel.size; (try simp at hsz); have hF : (w1.cell? ⟨w.heap.size, 0, none⟩ = some (.int .u64 0) ∧ w1.cell? ⟨w.heap.size, 1, none⟩ = some (.int .i64 0) ∧ w1.frozen? ⟨w.heap.size, 0, none⟩ = false ∧ w1.frozen? ⟨w.heap.size, 1, none⟩ = false ∧ w.heap.size < w1.heap.size) ∧ Below w.heap.size w w1 := (by ((repeat' apply And.intro) <;> first | (simp [go_sem, *]; done) | omega | (repeat' (first | with_reducible exact Below.refl _ _ | with_reducible assumption | ((with_reducible refine Below.drew ?_)) | ((with_reducible refine below_drewN ?_ _)) | ((with_reducible refine Below.alloc ?_ ?_ _); rotate_left; focus (first | omega | (simp; done) | (simp; omega))) | ((with_reducible refine Below.setCell ?_ ?_ _); rotate_left; focus (first | omega | (simp; done) | (simp; omega))) | ((with_reducible refine Below.trans ?_ (Below.mono (by with_reducible assumption) ?_)); rotate_left; focus (first | omega | (simp; done) | (simp; omega))))))); go_split_ands; clear hcc hff hbel))
    refine bodyPost_ret (v := .agg #[.int .u64 (0), .int .i64 (1)]) (by simp [results, Tryd.results53, go_sem, *]) rfl ⟨rfl, (by repeat' (first | with_reducible exact Below.refl _ _ | with_reducible assumption | ((with_reducible refine Below.drew ?_)) | ((with_reducible refine below_drewN ?_ _)) | ((with_reducible refine Below.alloc ?_ ?_ _); rotate_left; focus (first | omega | (simp; done) | (simp; omega))) | ((with_reducible refine Below.setCell ?_ ?_ _); rotate_left; focus (first | omega | (simp; done) | (simp; omega))) | ((with_reducible refine Below.trans ?_ (Below.mono (by with_reducible assumption) ?_)); rotate_left; focus (first | omega | (simp; done) | (simp; omega)))))⟩
theorem rbyt_c (n h : Int) (hn : In n) (hh : In h) (w : World) : Calls Tryd.prog 55 #[.int .u64 n, .int .u64 h] w fun ee w' => ee = .returned (.agg #[.int .u64 (bytV n h), .int .i64 (bytE n h)]) ∧ Below w.heap.size w w' := by
  unfold bytV bytE
  have kr := fun w => rrtd_c n h w
  by_cases hc : rm n = true ∧ cm h = true
  · rw [if_pos hc, if_pos hc]
    rw [hc.1, hc.2] at kr
    have h0 := (rm_iff n).1 hc.1
    have h1 := (cm_iff h).1 hc.2
    have hq := cl_small (8 * h) n (by omega) h0.1
    have hs := nv_small hq.1 (by omega)
    have kd := fun w => refceil_c (8 * h) n (by unfold Wd; omega) hn h0.1 w
    rw [hs.1, hs.2] at kd
    have KR := Lib.hid kr
    have KM := Lib.hid (fun w => refmul_c 8 h (by unfold In; omega) hh w)
    have KD := Lib.hid kd
    generalize cl (8 * h) n = q at *
    have KO := Lib.hid (fun w => rovr_c q 65536 w)
    generalize 8 * h = p at *
    clear kr kd hs hq h0 h1 hc
    go_enter Tryd.func55, Tryd.ntmps55
    go_wp2_with (first | (go_at_call 91; ((with_reducible refine (KR.out _).mono ?_); rintro e w1 ⟨rfl, hbel⟩; obtain ⟨hcc, hff⟩ := bcell hbel; have hsz := hbel.size; (try simp at hsz); have hF : (w1.cell? ⟨w.heap.size, 0, none⟩ = some (.int .u64 0) ∧ w1.cell? ⟨w.heap.size, 1, none⟩ = some (.int .i64 0) ∧ w1.frozen? ⟨w.heap.size, 0, none⟩ = false ∧ w1.frozen? ⟨w.heap.size, 1, none⟩ = false ∧ w.heap.size < w1.heap.size) ∧ Below w.heap.size w w1 := (by ((repeat' apply And.intro) <;> first | (simp [go_sem, *]; done) | omega | (repeat' (first | with_reducible exact Below.refl _ _ | with_reducible assumption | ((with_reducible refine Below.drew ?_)) | ((with_reducible refine below_drewN ?_ _)) | ((with_reducible refine Below.alloc ?_ ?_ _); rotate_left; focus (first | omega | (simp; done) | (simp; omega))) | ((with_reducible refine Below.setCell ?_ ?_ _); rotate_left; focus (first | omega | (simp; done) | (simp; omega))) | ((with_reducible refine Below.trans ?_ (Below.mono (by with_reducible assumption) ?_)); rotate_left; focus (first | omega | (simp; done) | (simp; omega))))))); go_split_ands; clear hcc hff hbel)) | (go_at_call 56; ((with_reducible refine (KM.out _).mono ?_); rintro e w2 ⟨rfl, hbel⟩; obtain ⟨hcc, hff⟩ := bcell hbel; have hsz := hbel.size; (try simp at hsz); have hF : (w2.cell? ⟨w.heap.size, 0, none⟩ = some (.int .u64 0) ∧ w2.cell? ⟨w.heap.size, 1, none⟩ = some (.int .i64 0) ∧ w2.frozen? ⟨w.heap.size, 0, none⟩ = false ∧ w2.frozen? ⟨w.heap.size, 1, none⟩ = false ∧ w.heap.size < w2.heap.size) ∧ Below w.heap.size w w2 := (by ((repeat' apply And.intro) <;> first | (simp [go_sem, *]; done) | omega | (repeat' (first | with_reducible exact Below.refl _ _ | with_reducible assumption | ((with_reducible refine Below.drew ?_)) | ((with_reducible refine below_drewN ?_ _)) | ((with_reducible refine Below.alloc ?_ ?_ _); rotate_left; focus (first | omega | (simp; done) | (simp; omega))) | ((with_reducible refine Below.setCell ?_ ?_ _); rotate_left; focus (first | omega | (simp; done) | (simp; omega))) | ((with_reducible refine Below.trans ?_ (Below.mono (by with_reducible assumption) ?_)); rotate_left; focus (first | omega | (simp; done) | (simp; omega))))))); go_split_ands; clear hcc hff hbel)) | (go_at_call 93; ((with_reducible refine (KD.out _).mono ?_); rintro e w3 ⟨rfl, hbel⟩; obtain ⟨hcc, hff⟩ := bcell hbel; have hsz := hbel.size; (try simp at hsz); have hF : (w3.cell? ⟨w.heap.size, 0, none⟩ = some (.int .u64 0) ∧ w3.cell? ⟨w.heap.size, 1, none⟩ = some (.int .i64 0) ∧ w3.frozen? ⟨w.heap.size, 0, none⟩ = false ∧ w3.frozen? ⟨w.heap.size, 1, none⟩ = false ∧ w.heap.size < w3.heap.size) ∧ Below w.heap.size w w3 := (by ((repeat' apply And.intro) <;> first | (simp [go_sem, *]; done) | omega | (repeat' (first | with_reducible exact Below.refl _ _ | with_reducible assumption | ((with_reducible refine Below.drew ?_)) | ((with_reducible refine below_drewN ?_ _)) | ((with_reducible refine Below.alloc ?_ ?_ _); rotate_left; focus (first | omega | (simp; done) | (simp; omega))) | ((with_reducible refine Below.setCell ?_ ?_ _); rotate_left; focus (first | omega | (simp; done) | (simp; omega))) | ((with_reducible refine Below.trans ?_ (Below.mono (by with_reducible assumption) ?_)); rotate_left; focus (first | omega | (simp; done) | (simp; omega))))))); go_split_ands; clear hcc hff hbel)) | (go_at_call 94; ((with_reducible refine (KD.out _).mono ?_); rintro e w3 ⟨rfl, hbel⟩; obtain ⟨hcc, hff⟩ := bcell hbel; have hsz := hbel.size; (try simp at hsz); have hF : (w3.cell? ⟨w.heap.size, 0, none⟩ = some (.int .u64 0) ∧ w3.cell? ⟨w.heap.size, 1, none⟩ = some (.int .i64 0) ∧ w3.frozen? ⟨w.heap.size, 0, none⟩ = false ∧ w3.frozen? ⟨w.heap.size, 1, none⟩ = false ∧ w.heap.size < w3.heap.size) ∧ Below w.heap.size w w3 := (by ((repeat' apply And.intro) <;> first | (simp [go_sem, *]; done) | omega | (repeat' (first | with_reducible exact Below.refl _ _ | with_reducible assumption | ((with_reducible refine Below.drew ?_)) | ((with_reducible refine below_drewN ?_ _)) | ((with_reducible refine Below.alloc ?_ ?_ _); rotate_left; focus (first | omega | (simp; done) | (simp; omega))) | ((with_reducible refine Below.setCell ?_ ?_ _); rotate_left; focus (first | omega | (simp; done) | (simp; omega))) | ((with_reducible refine Below.trans ?_ (Below.mono (by with_reducible assumption) ?_)); rotate_left; focus (first | omega | (simp; done) | (simp; omega))))))); go_split_ands; clear hcc hff hbel)) | (go_at_call 92; ((with_reducible refine (KO.out _).mono ?_); rintro e w4 ⟨rfl, hbel⟩; obtain ⟨hcc, hff⟩ := bcell hbel; have hsz := hbel.size; (try simp at hsz); have hF : (w4.cell? ⟨w.heap.size, 0, none⟩ = some (.int .u64 0) ∧ w4.cell? ⟨w.heap.size, 1, none⟩ = some (.int .i64 0) ∧ w4.frozen? ⟨w.heap.size, 0, none⟩ = false ∧ w4.frozen? ⟨w.heap.size, 1, none⟩ = false ∧ w.heap.size < w4.heap.size) ∧ Below w.heap.size w w4 := (by ((repeat' apply And.intro) <;> first | (simp [go_sem, *]; done) | omega | (repeat' (first | with_reducible exact Below.refl _ _ | with_reducible assumption | ((with_reducible refine Below.drew ?_)) | ((with_reducible refine below_drewN ?_ _)) | ((with_reducible refine Below.alloc ?_ ?_ _); rotate_left; focus (first | omega | (simp; done) | (simp; omega))) | ((with_reducible refine Below.setCell ?_ ?_ _); rotate_left; focus (first | omega | (simp; done) | (simp; omega))) | ((with_reducible refine Below.trans ?_ (Below.mono (by with_reducible assumption) ?_)); rotate_left; focus (first | omega | (simp; done) | (simp; omega))))))); go_split_ands; clear hcc hff hbel)))
    refine bodyPost_ret (v := .agg #[.int .u64 (ovV q 65536), .int .i64 (ovE q 65536)]) (by simp [results, Tryd.results55, go_sem, *]) rfl ⟨rfl, (by repeat' (first | with_reducible exact Below.refl _ _ | with_reducible assumption | ((with_reducible refine Below.drew ?_)) | ((with_reducible refine below_drewN ?_ _)) | ((with_reducible refine Below.alloc ?_ ?_ _); rotate_left; focus (first | omega | (simp; done) | (simp; omega))) | ((with_reducible refine Below.setCell ?_ ?_ _); rotate_left; focus (first | omega | (simp; done) | (simp; omega))) | ((with_reducible refine Below.trans ?_ (Below.mono (by with_reducible assumption) ?_)); rotate_left; focus (first | omega | (simp; done) | (simp; omega)))))⟩
  · rw [if_neg hc, if_neg hc]
    have e : (rm n && cm h) = false := by
      rw [Bool.eq_false_iff]; intro e; rw [Bool.and_eq_true] at e; exact hc e
    rw [e] at kr
    have KR := Lib.hid kr
    clear kr e hc
    go_enter Tryd.func55, Tryd.ntmps55
    go_wp2_with (go_at_call 91; ((with_reducible refine (KR.out _).mono ?_); rintro e w1 ⟨rfl, hbel⟩; obtain ⟨hcc, hff⟩ := bcell hbel; have hsz := hbel.size; (try simp at hsz); have hF : (w1.cell? ⟨w.heap.size, 0, none⟩ = some (.int .u64 0) ∧ w1.cell? ⟨w.heap.size, 1, none⟩ = some (.int .i64 0) ∧ w1.frozen? ⟨w.heap.size, 0, none⟩ = false ∧ w1.frozen? ⟨w.heap.size, 1, none⟩ = false ∧ w.heap.size < w1.heap.size) ∧ Below w.heap.size w w1 := (by ((repeat' apply And.intro) <;> first | (simp [go_sem, *]; done) | omega | (repeat' (first | with_reducible exact Below.refl _ _ | with_reducible assumption | ((with_reducible refine Below.drew ?_)) | ((with_reducible refine below_drewN ?_ _)) | ((with_reducible refine Below.alloc ?_ ?_ _); rotate_left; focus (first | omega | (simp; done) | (simp; omega))) | ((with_reducible refine Below.setCell ?_ ?_ _); rotate_left; focus (first | omega | (simp; done) | (simp; omega))) | ((with_reducible refine Below.trans ?_ (Below.mono (by with_reducible assumption) ?_)); rotate_left; focus (first | omega | (simp; done) | (simp; omega))))))); go_split_ands; clear hcc hff hbel))
    refine bodyPost_ret (v := .agg #[.int .u64 (0), .int .i64 (1)]) (by simp [results, Tryd.results55, go_sem, *]) rfl ⟨rfl, (by repeat' (first | with_reducible exact Below.refl _ _ | with_reducible assumption | ((with_reducible refine Below.drew ?_)) | ((with_reducible refine below_drewN ?_ _)) | ((with_reducible refine Below.alloc ?_ ?_ _); rotate_left; focus (first | omega | (simp; done) | (simp; omega))) | ((with_reducible refine Below.setCell ?_ ?_ _); rotate_left; focus (first | omega | (simp; done) | (simp; omega))) | ((with_reducible refine Below.trans ?_ (Below.mono (by with_reducible assumption) ?_)); rotate_left; focus (first | omega | (simp; done) | (simp; omega)))))⟩
theorem rtik_c (n h : Int) (hn : In n) (hh : In h) (w : World) : Calls Tryd.prog 54 #[.int .u64 n, .int .u64 h] w fun ee w' => ee = .returned (.agg #[.int .u64 (tikV n h), .int .i64 (tikE n h)]) ∧ Below w.heap.size w w' := by
  unfold tikV tikE
  have hn' : 0 ≤ n ∧ n ≤ 18446744073709551615 := hn
  by_cases h0 : n ≤ 1000000000
  · have d0 : decide ((1000000000 : Int) < n) = false := by simp; omega
    by_cases h1 : 1 ≤ h
    · have d1 : decide (h < 1) = false := by simp; omega
      by_cases h2 : h ≤ 1000000000
      · have d2 : decide ((1000000000 : Int) < h) = false := by simp; omega
        have hc : n ≤ 1000000000 ∧ cm h = true := ⟨h0, (cm_iff h).2 ⟨h1, h2⟩⟩
        rw [if_pos hc, if_pos hc]
        have hp : 0 ≤ n * h ∧ n * h ≤ 1000000000000000000 := by
          have a1 : 0 ≤ n * h := Int.mul_nonneg hn'.1 (by omega)
          have a2 : n * h ≤ 1000000000 * 1000000000 := Int.mul_le_mul h0 h2 (by omega) (by omega)
          omega
        have hq := cl_small (n * h) 1000000 hp.1 (by omega)
        have hs := nv_small hq.1 (by omega)
        have kd := fun w => refceil_c (n * h) 1000000 (by unfold Wd; omega) (by unfold In; omega) (by omega) w
        rw [hs.1, hs.2] at kd
        have KM := Lib.hid (fun w => refmul_c n h hn hh w)
        have KD := Lib.hid kd
        generalize cl (n * h) 1000000 = q at *
        have KO := Lib.hid (fun w => rovr_c q 1048576 w)
        generalize n * h = p at *
        clear kd hs hq hc hp h0 h1 h2
        go_enter Tryd.func54, Tryd.ntmps54
        go_wp2_with (first | (go_at_call 56; ((with_reducible refine (KM.out _).mono ?_); rintro e w2 ⟨rfl, hbel⟩; obtain ⟨hcc, hff⟩ := bcell hbel; have hsz := hbel.size; (try simp at hsz); have hF : (w2.cell? ⟨w.heap.size, 0, none⟩ = some (.int .u64 0) ∧ w2.cell? ⟨w.heap.size, 1, none⟩ = some (.int .i64 0) ∧ w2.frozen? ⟨w.heap.size, 0, none⟩ = false ∧ w2.frozen? ⟨w.heap.size, 1, none⟩ = false ∧ w.heap.size < w2.heap.size) ∧ Below w.heap.size w w2 := (by ((repeat' apply And.intro) <;> first | (simp [go_sem, *]; done) | omega | (repeat' (first | with_reducible exact Below.refl _ _ | with_reducible assumption | ((with_reducible refine Below.drew ?_)) | ((with_reducible refine below_drewN ?_ _)) | ((with_reducible refine Below.alloc ?_ ?_ _); rotate_left; focus (first | omega | (simp; done) | (simp; omega))) | ((with_reducible refine Below.setCell ?_ ?_ _); rotate_left; focus (first | omega | (simp; done) | (simp; omega))) | ((with_reducible refine Below.trans ?_ (Below.mono (by with_reducible assumption) ?_)); rotate_left; focus (first | omega | (simp; done) | (simp; omega))))))); go_split_ands; clear hcc hff hbel)) | (go_at_call 94; ((with_reducible refine (KD.out _).mono ?_); rintro e w3 ⟨rfl, hbel⟩; obtain ⟨hcc, hff⟩ := bcell hbel; have hsz := hbel.size; (try simp at hsz); have hF : (w3.cell? ⟨w.heap.size, 0, none⟩ = some (.int .u64 0) ∧ w3.cell? ⟨w.heap.size, 1, none⟩ = some (.int .i64 0) ∧ w3.frozen? ⟨w.heap.size, 0, none⟩ = false ∧ w3.frozen? ⟨w.heap.size, 1, none⟩ = false ∧ w.heap.size < w3.heap.size) ∧ Below w.heap.size w w3 := (by ((repeat' apply And.intro) <;> first | (simp [go_sem, *]; done) | omega | (repeat' (first | with_reducible exact Below.refl _ _ | with_reducible assumption | ((with_reducible refine Below.drew ?_)) | ((with_reducible refine below_drewN ?_ _)) | ((with_reducible refine Below.alloc ?_ ?_ _); rotate_left; focus (first | omega | (simp; done) | (simp; omega))) | ((with_reducible refine Below.setCell ?_ ?_ _); rotate_left; focus (first | omega | (simp; done) | (simp; omega))) | ((with_reducible refine Below.trans ?_ (Below.mono (by with_reducible assumption) ?_)); rotate_left; focus (first | omega | (simp; done) | (simp; omega))))))); go_split_ands; clear hcc hff hbel)) | (go_at_call 92; ((with_reducible refine (KO.out _).mono ?_); rintro e w4 ⟨rfl, hbel⟩; obtain ⟨hcc, hff⟩ := bcell hbel; have hsz := hbel.size; (try simp at hsz); have hF : (w4.cell? ⟨w.heap.size, 0, none⟩ = some (.int .u64 0) ∧ w4.cell? ⟨w.heap.size, 1, none⟩ = some (.int .i64 0) ∧ w4.frozen? ⟨w.heap.size, 0, none⟩ = false ∧ w4.frozen? ⟨w.heap.size, 1, none⟩ = false ∧ w.heap.size < w4.heap.size) ∧ Below w.heap.size w w4 := (by ((repeat' apply And.intro) <;> first | (simp [go_sem, *]; done) | omega | (repeat' (first | with_reducible exact Below.refl _ _ | with_reducible assumption | ((with_reducible refine Below.drew ?_)) | ((with_reducible refine below_drewN ?_ _)) | ((with_reducible refine Below.alloc ?_ ?_ _); rotate_left; focus (first | omega | (simp; done) | (simp; omega))) | ((with_reducible refine Below.setCell ?_ ?_ _); rotate_left; focus (first | omega | (simp; done) | (simp; omega))) | ((with_reducible refine Below.trans ?_ (Below.mono (by with_reducible assumption) ?_)); rotate_left; focus (first | omega | (simp; done) | (simp; omega))))))); go_split_ands; clear hcc hff hbel)))
        refine bodyPost_ret (v := .agg #[.int .u64 (ovV q 1048576), .int .i64 (ovE q 1048576)]) (by simp [results, Tryd.results54, go_sem, *]) rfl ⟨rfl, (by repeat' (first | with_reducible exact Below.refl _ _ | with_reducible assumption | ((with_reducible refine Below.drew ?_)) | ((with_reducible refine below_drewN ?_ _)) | ((with_reducible refine Below.alloc ?_ ?_ _); rotate_left; focus (first | omega | (simp; done) | (simp; omega))) | ((with_reducible refine Below.setCell ?_ ?_ _); rotate_left; focus (first | omega | (simp; done) | (simp; omega))) | ((with_reducible refine Below.trans ?_ (Below.mono (by with_reducible assumption) ?_)); rotate_left; focus (first | omega | (simp; done) | (simp; omega)))))⟩
      · have d2 : decide ((1000000000 : Int) < h) = true := by simp; omega
        have hc : ¬ (n ≤ 1000000000 ∧ cm h = true) := fun e => by have := (cm_iff h).1 e.2; omega
        rw [if_neg hc, if_neg hc]
        clear hc
        go_enter Tryd.func54, Tryd.ntmps54
        go_wp2
        refine bodyPost_ret (v := .agg #[.int .u64 (0), .int .i64 (1)]) (by simp [results, Tryd.results54, go_sem, *]) rfl ⟨rfl, (by repeat' (first | with_reducible exact Below.refl _ _ | with_reducible assumption | ((with_reducible refine Below.drew ?_)) | ((with_reducible refine below_drewN ?_ _)) | ((with_reducible refine Below.alloc ?_ ?_ _); rotate_left; focus (first | omega | (simp; done) | (simp; omega))) | ((with_reducible refine Below.setCell ?_ ?_ _); rotate_left; focus (first | omega | (simp; done) | (simp; omega))) | ((with_reducible refine Below.trans ?_ (Below.mono (by with_reducible assumption) ?_)); rotate_left; focus (first | omega | (simp; done) | (simp; omega)))))⟩
    · have d1 : decide (h < 1) = true := by simp; omega
      have hc : ¬ (n ≤ 1000000000 ∧ cm h = true) := fun e => by have := (cm_iff h).1 e.2; omega
      rw [if_neg hc, if_neg hc]
      clear hc
      go_enter Tryd.func54, Tryd.ntmps54
      go_wp2
      refine bodyPost_ret (v := .agg #[.int .u64 (0), .int .i64 (1)]) (by simp [results, Tryd.results54, go_sem, *]) rfl ⟨rfl, (by repeat' (first | with_reducible exact Below.refl _ _ | with_reducible assumption | ((with_reducible refine Below.drew ?_)) | ((with_reducible refine below_drewN ?_ _)) | ((with_reducible refine Below.alloc ?_ ?_ _); rotate_left; focus (first | omega | (simp; done) | (simp; omega))) | ((with_reducible refine Below.setCell ?_ ?_ _); rotate_left; focus (first | omega | (simp; done) | (simp; omega))) | ((with_reducible refine Below.trans ?_ (Below.mono (by with_reducible assumption) ?_)); rotate_left; focus (first | omega | (simp; done) | (simp; omega)))))⟩
  · have d0 : decide ((1000000000 : Int) < n) = true := by simp; omega
    have hc : ¬ (n ≤ 1000000000 ∧ cm h = true) := fun e => h0 e.1
    rw [if_neg hc, if_neg hc]
    clear hc
    go_enter Tryd.func54, Tryd.ntmps54
    go_wp2
    refine bodyPost_ret (v := .agg #[.int .u64 (0), .int .i64 (1)]) (by simp [results, Tryd.results54, go_sem, *]) rfl ⟨rfl, (by repeat' (first | with_reducible exact Below.refl _ _ | with_reducible assumption | ((with_reducible refine Below.drew ?_)) | ((with_reducible refine below_drewN ?_ _)) | ((with_reducible refine Below.alloc ?_ ?_ _); rotate_left; focus (first | omega | (simp; done) | (simp; omega))) | ((with_reducible refine Below.setCell ?_ ?_ _); rotate_left; focus (first | omega | (simp; done) | (simp; omega))) | ((with_reducible refine Below.trans ?_ (Below.mono (by with_reducible assumption) ?_)); rotate_left; focus (first | omega | (simp; done) | (simp; omega)))))⟩
end Go.Proofs.YtdiniaokkdcihaaDoor
