import Derived.Test.YtfdbghcnadanoaaRatio3
namespace Go.Proofs.Ytfdbghcnadanoaa
set_option linter.unusedVariables false
set_option linter.unusedSimpArgs false
open Go.RowKit Fg Reg

theorem cl_between (n d : Int) : cl n d = n / d ∨ cl n d = n / d + 1 := by unfold cl; split <;> simp
theorem hi_zero {x : Int} (h : Wd x) : hi x = 0 ↔ x ≤ 18446744073709551615 := by unfold Wd at h; unfold hi; omega

theorem ratioDivides_law (a b c : Int) (wa : (Lit.int .u64 a).wf = true) (wb : (Lit.int .u64 b).wf = true) (wc : (Lit.int .u64 c).wf = true) (w : World) :
    Calls Try.prog 10 #[.int .u64 a, .int .u64 b, .int .u64 c] w fun e w' => e = .returned (.bool true) ∧ Below w.heap.size w w' := by
  have ha := in_wf wa
  have hb := in_wf wb
  have hc := in_wf wc
  have hP := wd_mul ha hb
  by_cases h0 : c = 0
  · subst h0
    exact ratioDivides_out0 a b 0 0 0 (a * b) (down_none a b ha hb) (up_none a b ha hb) (refmul_c a b ha hb) (reffloor_none (a * b)) (refceil_none (a * b)) w
  · have hc1 : 1 ≤ c := by unfold In at hc; omega
    have hD := wd_quo hP (show 0 < c by omega)
    have k1 := down_c a b c ha hb hc hc1
    have k2 := up_c a b c ha hb hc hc1
    have k4 := reffloor_c (a * b) c hP hc hc1
    have k5 := refceil_c (a * b) c hP hc hc1
    by_cases hd : hi (a * b / c) = 0
    · have hd' := (hi_zero hD).1 hd
      have hU : Wd (cl (a * b) c) := by
        have := cl_between (a * b) c
        unfold Wd at *; omega
      rw [nv_ok hd, ne_ok hd] at k1 k4
      by_cases hu : hi (cl (a * b) c) = 0
      · have hu' := (hi_zero hU).1 hu
        rw [nv_ok hu, ne_ok hu] at k2 k5
        have el : lo (a * b / c) = a * b / c := low_of_wd hD hd
        have eu : lo (cl (a * b) c) = cl (a * b) c := low_of_wd hU hu
        have iD : In (a * b / c) := ⟨hD.1, hd'⟩
        rw [el] at k1 k4
        rw [eu] at k2 k5
        refine ratioDivides_in a b c _ _ (a * b) (hi (a * b / c * c)) (lo (a * b / c * c)) (hi (a * b)) (lo (a * b)) iD ?_ k1 k2 (refmul_c a b ha hb) k4 k5 (mul_c _ c iD hc) (mul_c a b ha hb) w
        have e2 := Int.mul_ediv_add_emod (a * b) c
        rw [Int.mul_comm c] at e2
        by_cases hr : a * b % c = 0
        · left
          have e : cl (a * b) c = a * b / c := if_pos hr
          have e3 : a * b / c * c = a * b := by omega
          rw [e3]; exact ⟨e, rfl, rfl⟩
        · right
          have e : cl (a * b) c = a * b / c + 1 := if_neg hr
          refine ⟨e, by omega, ?_⟩
          rw [Bool.eq_false_iff]
          intro hh
          simp only [Bool.and_eq_true, beq_iff_eq] at hh
          have v1 := val_wd (wd_mul iD hc)
          have v2 := val_wd hP
          rw [hh.1, hh.2, v2] at v1
          omega
      · rw [nv_no hu, ne_no hu] at k2 k5
        exact ratioDivides_out2 a b c _ _ (a * b) k1 k2 (refmul_c a b ha hb) k4 k5 w
    · have hu : ¬ hi (cl (a * b) c) = 0 := by
        have h1 := cl_between (a * b) c
        have hd' : ¬ (a * b / c ≤ 18446744073709551615) := fun h => hd ((hi_zero hD).2 h)
        have h2 := wd_mul ha hb
        have h3 : a * b ≤ 340282366920938463426481119284349108225 := by
          have := Int.mul_le_mul ha.2 hb.2 hb.1 (by decide)
          simpa using this
        have h4 := Int.ediv_le_self c h2.1
        unfold hi
        generalize cl (a * b) c = U at *
        generalize a * b / c = D at *
        omega
      rw [nv_no hd, ne_no hd] at k1 k4
      rw [nv_no hu, ne_no hu] at k2 k5
      exact ratioDivides_out1 a b c 0 0 (a * b) k1 k2 (refmul_c a b ha hb) k4 k5 w

set_option maxRecDepth 100000 in
set_option maxHeartbeats 4000000 in
theorem ratioWides_core (a0 a1 d x y g f N : Int)
    (k1 : ∀ w, Calls Try.prog 35 #[.agg #[.int .u64 a0, .int .u64 a1], .int .u64 d] w fun ee w' => ee = .returned (.tuple #[.int .u64 (x), .int .i64 (g)]) ∧ Below w.heap.size w w')
    (k2 : ∀ w, Calls Try.prog 36 #[.agg #[.int .u64 a0, .int .u64 a1], .int .u64 d] w fun ee w' => ee = .returned (.tuple #[.int .u64 (y), .int .i64 (f)]) ∧ Below w.heap.size w w')
    (k3 : ∀ w, Calls Try.prog 37 #[.int .u64 a0, .int .u64 a1] w fun ee w' => ee = .returned (.agg #[.int .u64 (d0 N), .int .u64 (d1 N), .int .u64 (d2 N), .int .u64 (d3 N)]) ∧ Below w.heap.size w w')
    (k4 : ∀ w, Calls Try.prog 33 #[.agg #[.int .u64 (d0 N), .int .u64 (d1 N), .int .u64 (d2 N), .int .u64 (d3 N)], .int .u64 d] w fun ee w' => ee = .returned (.agg #[.int .u64 (x), .int .i64 (g)]) ∧ Below w.heap.size w w')
    (k5 : ∀ w, Calls Try.prog 34 #[.agg #[.int .u64 (d0 N), .int .u64 (d1 N), .int .u64 (d2 N), .int .u64 (d3 N)], .int .u64 d] w fun ee w' => ee = .returned (.agg #[.int .u64 (y), .int .i64 (f)]) ∧ Below w.heap.size w w')
    (w : World) : Calls Try.prog 11 #[.agg #[.int .u64 a0, .int .u64 a1], .int .u64 d] w fun e w' => e = .returned (.bool true) ∧ Below w.heap.size w w' := by
  have K1 := Lib.hid k1
  have K2 := Lib.hid k2
  have K3 := Lib.hid k3
  have K4 := Lib.hid k4
  have K5 := Lib.hid k5
  clear k1 k2 k3 k4 k5
  go_enter Try.func11, Try.ntmps11
  go_wp2_with (first
    | (go_at_call 35; ((with_reducible refine (K1.out _).mono ?_); rintro e w1 ⟨rfl, hbel⟩; obtain ⟨hcc, hff⟩ := bcell hbel; have hsz := hbel.size; (try simp at hsz); have hF : (w1.cell? ⟨w.heap.size, 0, none⟩ = some (.int .u64 a0) ∧ w1.cell? ⟨w.heap.size, 1, none⟩ = some (.int .u64 a1) ∧ w.heap.size < w1.heap.size) ∧ Below w.heap.size w w1 := (by ((repeat' apply And.intro) <;> first | (simp [go_sem, *]; done) | omega | (repeat' (first | with_reducible exact Below.refl _ _ | with_reducible assumption | ((with_reducible refine Below.drew ?_)) | ((with_reducible refine below_drewN ?_ _)) | ((with_reducible refine Below.alloc ?_ ?_ _); rotate_left; focus (first | omega | (simp; done) | (simp; omega))) | ((with_reducible refine Below.setCell ?_ ?_ _); rotate_left; focus (first | omega | (simp; done) | (simp; omega))) | ((with_reducible refine Below.trans ?_ (Below.mono (by with_reducible assumption) ?_)); rotate_left; focus (first | omega | (simp; done) | (simp; omega))))))); go_split_ands; clear hcc hff hbel))
    | (go_at_call 36; ((with_reducible refine (K2.out _).mono ?_); rintro e w2 ⟨rfl, hbel⟩; obtain ⟨hcc, hff⟩ := bcell hbel; have hsz := hbel.size; (try simp at hsz); have hF : (w2.cell? ⟨w.heap.size, 0, none⟩ = some (.int .u64 a0) ∧ w2.cell? ⟨w.heap.size, 1, none⟩ = some (.int .u64 a1) ∧ w.heap.size < w2.heap.size) ∧ Below w.heap.size w w2 := (by ((repeat' apply And.intro) <;> first | (simp [go_sem, *]; done) | omega | (repeat' (first | with_reducible exact Below.refl _ _ | with_reducible assumption | ((with_reducible refine Below.drew ?_)) | ((with_reducible refine below_drewN ?_ _)) | ((with_reducible refine Below.alloc ?_ ?_ _); rotate_left; focus (first | omega | (simp; done) | (simp; omega))) | ((with_reducible refine Below.setCell ?_ ?_ _); rotate_left; focus (first | omega | (simp; done) | (simp; omega))) | ((with_reducible refine Below.trans ?_ (Below.mono (by with_reducible assumption) ?_)); rotate_left; focus (first | omega | (simp; done) | (simp; omega))))))); go_split_ands; clear hcc hff hbel))
    | (go_at_call 33; ((with_reducible refine (K4.out _).mono ?_); rintro e w4 ⟨rfl, hbel⟩; obtain ⟨hcc, hff⟩ := bcell hbel; have hsz := hbel.size; (try simp at hsz); have hF : (w4.cell? ⟨w.heap.size, 0, none⟩ = some (.int .u64 a0) ∧ w4.cell? ⟨w.heap.size, 1, none⟩ = some (.int .u64 a1) ∧ w.heap.size < w4.heap.size) ∧ Below w.heap.size w w4 := (by ((repeat' apply And.intro) <;> first | (simp [go_sem, *]; done) | omega | (repeat' (first | with_reducible exact Below.refl _ _ | with_reducible assumption | ((with_reducible refine Below.drew ?_)) | ((with_reducible refine below_drewN ?_ _)) | ((with_reducible refine Below.alloc ?_ ?_ _); rotate_left; focus (first | omega | (simp; done) | (simp; omega))) | ((with_reducible refine Below.setCell ?_ ?_ _); rotate_left; focus (first | omega | (simp; done) | (simp; omega))) | ((with_reducible refine Below.trans ?_ (Below.mono (by with_reducible assumption) ?_)); rotate_left; focus (first | omega | (simp; done) | (simp; omega))))))); go_split_ands; clear hcc hff hbel))
    | (go_at_call 34; ((with_reducible refine (K5.out _).mono ?_); rintro e w5 ⟨rfl, hbel⟩; obtain ⟨hcc, hff⟩ := bcell hbel; have hsz := hbel.size; (try simp at hsz); have hF : (w5.cell? ⟨w.heap.size, 0, none⟩ = some (.int .u64 a0) ∧ w5.cell? ⟨w.heap.size, 1, none⟩ = some (.int .u64 a1) ∧ w.heap.size < w5.heap.size) ∧ (w5.cell? ⟨w4.heap.size, 0, none⟩ = some (.int .u64 x) ∧ w5.cell? ⟨w4.heap.size, 1, none⟩ = some (.int .i64 g) ∧ w4.heap.size < w5.heap.size) ∧ Below w.heap.size w w5 := (by ((repeat' apply And.intro) <;> first | (simp [go_sem, *]; done) | omega | (repeat' (first | with_reducible exact Below.refl _ _ | with_reducible assumption | ((with_reducible refine Below.drew ?_)) | ((with_reducible refine below_drewN ?_ _)) | ((with_reducible refine Below.alloc ?_ ?_ _); rotate_left; focus (first | omega | (simp; done) | (simp; omega))) | ((with_reducible refine Below.setCell ?_ ?_ _); rotate_left; focus (first | omega | (simp; done) | (simp; omega))) | ((with_reducible refine Below.trans ?_ (Below.mono (by with_reducible assumption) ?_)); rotate_left; focus (first | omega | (simp; done) | (simp; omega))))))); go_split_ands; clear hcc hff hbel))
    | (go_at_call 37; first | ((with_reducible refine (K3.out _).mono ?_); rintro e w3 ⟨rfl, hbel⟩; obtain ⟨hcc, hff⟩ := bcell hbel; have hsz := hbel.size; (try simp at hsz); have hF : (w3.cell? ⟨w.heap.size, 0, none⟩ = some (.int .u64 a0) ∧ w3.cell? ⟨w.heap.size, 1, none⟩ = some (.int .u64 a1) ∧ w.heap.size < w3.heap.size) ∧ (w3.cell? ⟨w4.heap.size, 0, none⟩ = some (.int .u64 x) ∧ w3.cell? ⟨w4.heap.size, 1, none⟩ = some (.int .i64 g) ∧ w4.heap.size < w3.heap.size) ∧ Below w.heap.size w w3 := (by ((repeat' apply And.intro) <;> first | (simp [go_sem, *]; done) | omega | (repeat' (first | with_reducible exact Below.refl _ _ | with_reducible assumption | ((with_reducible refine Below.drew ?_)) | ((with_reducible refine below_drewN ?_ _)) | ((with_reducible refine Below.alloc ?_ ?_ _); rotate_left; focus (first | omega | (simp; done) | (simp; omega))) | ((with_reducible refine Below.setCell ?_ ?_ _); rotate_left; focus (first | omega | (simp; done) | (simp; omega))) | ((with_reducible refine Below.trans ?_ (Below.mono (by with_reducible assumption) ?_)); rotate_left; focus (first | omega | (simp; done) | (simp; omega))))))); go_split_ands; clear hcc hff hbel) | ((with_reducible refine (K3.out _).mono ?_); rintro e w3 ⟨rfl, hbel⟩; obtain ⟨hcc, hff⟩ := bcell hbel; have hsz := hbel.size; (try simp at hsz); have hF : (w3.cell? ⟨w.heap.size, 0, none⟩ = some (.int .u64 a0) ∧ w3.cell? ⟨w.heap.size, 1, none⟩ = some (.int .u64 a1) ∧ w.heap.size < w3.heap.size) ∧ Below w.heap.size w w3 := (by ((repeat' apply And.intro) <;> first | (simp [go_sem, *]; done) | omega | (repeat' (first | with_reducible exact Below.refl _ _ | with_reducible assumption | ((with_reducible refine Below.drew ?_)) | ((with_reducible refine below_drewN ?_ _)) | ((with_reducible refine Below.alloc ?_ ?_ _); rotate_left; focus (first | omega | (simp; done) | (simp; omega))) | ((with_reducible refine Below.setCell ?_ ?_ _); rotate_left; focus (first | omega | (simp; done) | (simp; omega))) | ((with_reducible refine Below.trans ?_ (Below.mono (by with_reducible assumption) ?_)); rotate_left; focus (first | omega | (simp; done) | (simp; omega))))))); go_split_ands; clear hcc hff hbel))
    | (go_at_call 30; ((with_reducible refine (third_c _).mono ?_); rintro e w8 ⟨rfl, hbel⟩; obtain ⟨hcc, hff⟩ := bcell hbel; have hsz := hbel.size; (try simp at hsz); have hF : Below w.heap.size w w8 := (by ((repeat' apply And.intro) <;> first | (simp [go_sem, *]; done) | omega | (repeat' (first | with_reducible exact Below.refl _ _ | with_reducible assumption | ((with_reducible refine Below.drew ?_)) | ((with_reducible refine below_drewN ?_ _)) | ((with_reducible refine Below.alloc ?_ ?_ _); rotate_left; focus (first | omega | (simp; done) | (simp; omega))) | ((with_reducible refine Below.setCell ?_ ?_ _); rotate_left; focus (first | omega | (simp; done) | (simp; omega))) | ((with_reducible refine Below.trans ?_ (Below.mono (by with_reducible assumption) ?_)); rotate_left; focus (first | omega | (simp; done) | (simp; omega))))))); go_split_ands; clear hcc hff hbel)))
  (go_ret; refine ⟨?_, ?_⟩; (focus (exact rfl)); ((repeat' (first | with_reducible exact Below.refl _ _ | with_reducible assumption | ((with_reducible refine Below.drew ?_)) | ((with_reducible refine below_drewN ?_ _)) | ((with_reducible refine Below.alloc ?_ ?_ _); rotate_left; focus (first | omega | (simp; done) | (simp; omega))) | ((with_reducible refine Below.setCell ?_ ?_ _); rotate_left; focus (first | omega | (simp; done) | (simp; omega))) | ((with_reducible refine Below.trans ?_ (Below.mono (by with_reducible assumption) ?_)); rotate_left; focus (first | omega | (simp; done) | (simp; omega))))); done))

theorem ratioWides_law (a0 a1 d : Int) (wa0 : (Lit.int .u64 a0).wf = true) (wa1 : (Lit.int .u64 a1).wf = true) (wd : (Lit.int .u64 d).wf = true) (w : World) :
    Calls Try.prog 11 #[.agg #[.int .u64 a0, .int .u64 a1], .int .u64 d] w fun e w' => e = .returned (.bool true) ∧ Below w.heap.size w w' := by
  have ha0 := in_wf wa0
  have ha1 := in_wf wa1
  have hd := in_wf wd
  have hN : Wd (val a0 a1) := val_in ha0 ha1
  by_cases h0 : d = 0
  · subst h0
    exact ratioWides_core a0 a1 0 0 0 1 1 (val a0 a1) (floor_none a0 a1) (ceil_none a0 a1) (reftwo_c a0 a1 ha0 ha1) (reffloor_none _) (refceil_none _) w
  · have h1 : 1 ≤ d := by unfold In at hd; omega
    exact ratioWides_core a0 a1 d _ _ _ _ (val a0 a1) (floor_c a0 a1 d ha0 ha1 hd h1) (ceil_c a0 a1 d ha0 ha1 hd h1) (reftwo_c a0 a1 ha0 ha1) (reffloor_c _ d hN hd h1) (refceil_c _ d hN hd h1) w

set_option maxRecDepth 100000 in
set_option maxHeartbeats 4000000 in
theorem ratioCompares_core (a b c d P R k : Int) (lt gt : Bool)
    (hk : (lt = false ∧ gt = false ∧ k = 0) ∨ (lt = true ∧ gt = false ∧ k = -1) ∨ (lt = false ∧ gt = true ∧ k = 1))
    (k1 : ∀ w, Calls Try.prog 23 #[.int .u64 a, .int .u64 b] w fun ee w' => ee = .returned (.agg #[.int .u64 (d0 P), .int .u64 (d1 P), .int .u64 (d2 P), .int .u64 (d3 P)]) ∧ Below w.heap.size w w')
    (k2 : ∀ w, Calls Try.prog 23 #[.int .u64 c, .int .u64 d] w fun ee w' => ee = .returned (.agg #[.int .u64 (d0 R), .int .u64 (d1 R), .int .u64 (d2 R), .int .u64 (d3 R)]) ∧ Below w.heap.size w w')
    (k3 : ∀ w, Calls Try.prog 18 #[.agg #[.int .u64 (d0 P), .int .u64 (d1 P), .int .u64 (d2 P), .int .u64 (d3 P)], .agg #[.int .u64 (d0 R), .int .u64 (d1 R), .int .u64 (d2 R), .int .u64 (d3 R)]] w fun ee w' => ee = .returned (.bool lt) ∧ Below w.heap.size w w')
    (k4 : ∀ w, Calls Try.prog 18 #[.agg #[.int .u64 (d0 R), .int .u64 (d1 R), .int .u64 (d2 R), .int .u64 (d3 R)], .agg #[.int .u64 (d0 P), .int .u64 (d1 P), .int .u64 (d2 P), .int .u64 (d3 P)]] w fun ee w' => ee = .returned (.bool gt) ∧ Below w.heap.size w w')
    (k5 : ∀ w, Calls Try.prog 29 #[.int .u64 a, .int .u64 b, .int .u64 c, .int .u64 d] w fun ee w' => ee = .returned (.int .i64 k) ∧ Below w.heap.size w w')
    (k6 : ∀ w, Calls Try.prog 29 #[.int .u64 c, .int .u64 d, .int .u64 a, .int .u64 b] w fun ee w' => ee = .returned (.int .i64 (-k)) ∧ Below w.heap.size w w')
    (k7 : ∀ w, Calls Try.prog 29 #[.int .u64 b, .int .u64 a, .int .u64 d, .int .u64 c] w fun ee w' => ee = .returned (.int .i64 k) ∧ Below w.heap.size w w')
    (w : World) : Calls Try.prog 9 #[.agg #[.int .u64 a, .int .u64 b], .agg #[.int .u64 c, .int .u64 d]] w fun e w' => e = .returned (.bool true) ∧ Below w.heap.size w w' := by
  rcases hk with ⟨rfl, rfl, rfl⟩ | ⟨rfl, rfl, rfl⟩ | ⟨rfl, rfl, rfl⟩
  all_goals
    have K1 := Lib.hid k1
    have K2 := Lib.hid k2
    have K3 := Lib.hid k3
    have K4 := Lib.hid k4
    have K5 := Lib.hid k5
    have K6 := Lib.hid k6
    have K7 := Lib.hid k7
    clear k1 k2 k3 k4 k5 k6 k7
    go_enter Try.func9, Try.ntmps9
    go_wp2_with (first
      | (go_at_call_of 23 (Value.int IntKind.u64 a); ((with_reducible refine (K1.out _).mono ?_); rintro e w1 ⟨rfl, hbel⟩; obtain ⟨hcc, hff⟩ := bcell hbel; have hsz := hbel.size; (try simp at hsz); have hF : Below w.heap.size w w1 := (by ((repeat' apply And.intro) <;> first | (simp [go_sem, *]; done) | omega | (repeat' (first | with_reducible exact Below.refl _ _ | with_reducible assumption | ((with_reducible refine Below.drew ?_)) | ((with_reducible refine below_drewN ?_ _)) | ((with_reducible refine Below.alloc ?_ ?_ _); rotate_left; focus (first | omega | (simp; done) | (simp; omega))) | ((with_reducible refine Below.setCell ?_ ?_ _); rotate_left; focus (first | omega | (simp; done) | (simp; omega))) | ((with_reducible refine Below.trans ?_ (Below.mono (by with_reducible assumption) ?_)); rotate_left; focus (first | omega | (simp; done) | (simp; omega))))))); go_split_ands; clear hcc hff hbel))
      | (go_at_call 23; ((with_reducible refine (K2.out _).mono ?_); rintro e w2 ⟨rfl, hbel⟩; obtain ⟨hcc, hff⟩ := bcell hbel; have hsz := hbel.size; (try simp at hsz); have hF : (w2.cell? ⟨w1.heap.size, 0, none⟩ = some (.int .u64 (d0 P)) ∧ w2.cell? ⟨w1.heap.size, 1, none⟩ = some (.int .u64 (d1 P)) ∧ w2.cell? ⟨w1.heap.size, 2, none⟩ = some (.int .u64 (d2 P)) ∧ w2.cell? ⟨w1.heap.size, 3, none⟩ = some (.int .u64 (d3 P)) ∧ w1.heap.size < w2.heap.size) ∧ Below w.heap.size w w2 := (by ((repeat' apply And.intro) <;> first | (simp [go_sem, *]; done) | omega | (repeat' (first | with_reducible exact Below.refl _ _ | with_reducible assumption | ((with_reducible refine Below.drew ?_)) | ((with_reducible refine below_drewN ?_ _)) | ((with_reducible refine Below.alloc ?_ ?_ _); rotate_left; focus (first | omega | (simp; done) | (simp; omega))) | ((with_reducible refine Below.setCell ?_ ?_ _); rotate_left; focus (first | omega | (simp; done) | (simp; omega))) | ((with_reducible refine Below.trans ?_ (Below.mono (by with_reducible assumption) ?_)); rotate_left; focus (first | omega | (simp; done) | (simp; omega))))))); go_split_ands; clear hcc hff hbel))
      | (go_at_call_of 18 (Value.agg #[Value.int IntKind.u64 (d0 P), Value.int IntKind.u64 (d1 P), Value.int IntKind.u64 (d2 P), Value.int IntKind.u64 (d3 P)]); ((with_reducible refine (K3.out _).mono ?_); rintro e w3 ⟨rfl, hbel⟩; obtain ⟨hcc, hff⟩ := bcell hbel; have hsz := hbel.size; (try simp at hsz); have hF : (w3.cell? ⟨w1.heap.size, 0, none⟩ = some (.int .u64 (d0 P)) ∧ w3.cell? ⟨w1.heap.size, 1, none⟩ = some (.int .u64 (d1 P)) ∧ w3.cell? ⟨w1.heap.size, 2, none⟩ = some (.int .u64 (d2 P)) ∧ w3.cell? ⟨w1.heap.size, 3, none⟩ = some (.int .u64 (d3 P)) ∧ w1.heap.size < w3.heap.size) ∧ (w3.cell? ⟨w2.heap.size, 0, none⟩ = some (.int .u64 (d0 R)) ∧ w3.cell? ⟨w2.heap.size, 1, none⟩ = some (.int .u64 (d1 R)) ∧ w3.cell? ⟨w2.heap.size, 2, none⟩ = some (.int .u64 (d2 R)) ∧ w3.cell? ⟨w2.heap.size, 3, none⟩ = some (.int .u64 (d3 R)) ∧ w2.heap.size < w3.heap.size) ∧ Below w.heap.size w w3 := (by ((repeat' apply And.intro) <;> first | (simp [go_sem, *]; done) | omega | (repeat' (first | with_reducible exact Below.refl _ _ | with_reducible assumption | ((with_reducible refine Below.drew ?_)) | ((with_reducible refine below_drewN ?_ _)) | ((with_reducible refine Below.alloc ?_ ?_ _); rotate_left; focus (first | omega | (simp; done) | (simp; omega))) | ((with_reducible refine Below.setCell ?_ ?_ _); rotate_left; focus (first | omega | (simp; done) | (simp; omega))) | ((with_reducible refine Below.trans ?_ (Below.mono (by with_reducible assumption) ?_)); rotate_left; focus (first | omega | (simp; done) | (simp; omega))))))); go_split_ands; clear hcc hff hbel))
      | (go_at_call 18; ((with_reducible refine (K4.out _).mono ?_); rintro e w4 ⟨rfl, hbel⟩; obtain ⟨hcc, hff⟩ := bcell hbel; have hsz := hbel.size; (try simp at hsz); have hF : Below w.heap.size w w4 := (by ((repeat' apply And.intro) <;> first | (simp [go_sem, *]; done) | omega | (repeat' (first | with_reducible exact Below.refl _ _ | with_reducible assumption | ((with_reducible refine Below.drew ?_)) | ((with_reducible refine below_drewN ?_ _)) | ((with_reducible refine Below.alloc ?_ ?_ _); rotate_left; focus (first | omega | (simp; done) | (simp; omega))) | ((with_reducible refine Below.setCell ?_ ?_ _); rotate_left; focus (first | omega | (simp; done) | (simp; omega))) | ((with_reducible refine Below.trans ?_ (Below.mono (by with_reducible assumption) ?_)); rotate_left; focus (first | omega | (simp; done) | (simp; omega))))))); go_split_ands; clear hcc hff hbel))
      | (go_at_call 29; first | ((with_reducible refine (K5.out _).mono ?_); rintro e w5 ⟨rfl, hbel⟩; obtain ⟨hcc, hff⟩ := bcell hbel; have hsz := hbel.size; (try simp at hsz); have hF : Below w.heap.size w w5 := (by ((repeat' apply And.intro) <;> first | (simp [go_sem, *]; done) | omega | (repeat' (first | with_reducible exact Below.refl _ _ | with_reducible assumption | ((with_reducible refine Below.drew ?_)) | ((with_reducible refine below_drewN ?_ _)) | ((with_reducible refine Below.alloc ?_ ?_ _); rotate_left; focus (first | omega | (simp; done) | (simp; omega))) | ((with_reducible refine Below.setCell ?_ ?_ _); rotate_left; focus (first | omega | (simp; done) | (simp; omega))) | ((with_reducible refine Below.trans ?_ (Below.mono (by with_reducible assumption) ?_)); rotate_left; focus (first | omega | (simp; done) | (simp; omega))))))); go_split_ands; clear hcc hff hbel) | ((with_reducible refine (K6.out _).mono ?_); rintro e w6 ⟨rfl, hbel⟩; obtain ⟨hcc, hff⟩ := bcell hbel; have hsz := hbel.size; (try simp at hsz); have hF : Below w.heap.size w w6 := (by ((repeat' apply And.intro) <;> first | (simp [go_sem, *]; done) | omega | (repeat' (first | with_reducible exact Below.refl _ _ | with_reducible assumption | ((with_reducible refine Below.drew ?_)) | ((with_reducible refine below_drewN ?_ _)) | ((with_reducible refine Below.alloc ?_ ?_ _); rotate_left; focus (first | omega | (simp; done) | (simp; omega))) | ((with_reducible refine Below.setCell ?_ ?_ _); rotate_left; focus (first | omega | (simp; done) | (simp; omega))) | ((with_reducible refine Below.trans ?_ (Below.mono (by with_reducible assumption) ?_)); rotate_left; focus (first | omega | (simp; done) | (simp; omega))))))); go_split_ands; clear hcc hff hbel) | ((with_reducible refine (K7.out _).mono ?_); rintro e w7 ⟨rfl, hbel⟩; obtain ⟨hcc, hff⟩ := bcell hbel; have hsz := hbel.size; (try simp at hsz); have hF : Below w.heap.size w w7 := (by ((repeat' apply And.intro) <;> first | (simp [go_sem, *]; done) | omega | (repeat' (first | with_reducible exact Below.refl _ _ | with_reducible assumption | ((with_reducible refine Below.drew ?_)) | ((with_reducible refine below_drewN ?_ _)) | ((with_reducible refine Below.alloc ?_ ?_ _); rotate_left; focus (first | omega | (simp; done) | (simp; omega))) | ((with_reducible refine Below.setCell ?_ ?_ _); rotate_left; focus (first | omega | (simp; done) | (simp; omega))) | ((with_reducible refine Below.trans ?_ (Below.mono (by with_reducible assumption) ?_)); rotate_left; focus (first | omega | (simp; done) | (simp; omega))))))); go_split_ands; clear hcc hff hbel))
      | (go_at_call 30; ((with_reducible refine (third_c _).mono ?_); rintro e w8 ⟨rfl, hbel⟩; obtain ⟨hcc, hff⟩ := bcell hbel; have hsz := hbel.size; (try simp at hsz); have hF : Below w.heap.size w w8 := (by ((repeat' apply And.intro) <;> first | (simp [go_sem, *]; done) | omega | (repeat' (first | with_reducible exact Below.refl _ _ | with_reducible assumption | ((with_reducible refine Below.drew ?_)) | ((with_reducible refine below_drewN ?_ _)) | ((with_reducible refine Below.alloc ?_ ?_ _); rotate_left; focus (first | omega | (simp; done) | (simp; omega))) | ((with_reducible refine Below.setCell ?_ ?_ _); rotate_left; focus (first | omega | (simp; done) | (simp; omega))) | ((with_reducible refine Below.trans ?_ (Below.mono (by with_reducible assumption) ?_)); rotate_left; focus (first | omega | (simp; done) | (simp; omega))))))); go_split_ands; clear hcc hff hbel)))
    (go_ret; refine ⟨?_, ?_⟩; (focus (exact rfl)); ((repeat' (first | with_reducible exact Below.refl _ _ | with_reducible assumption | ((with_reducible refine Below.drew ?_)) | ((with_reducible refine below_drewN ?_ _)) | ((with_reducible refine Below.alloc ?_ ?_ _); rotate_left; focus (first | omega | (simp; done) | (simp; omega))) | ((with_reducible refine Below.setCell ?_ ?_ _); rotate_left; focus (first | omega | (simp; done) | (simp; omega))) | ((with_reducible refine Below.trans ?_ (Below.mono (by with_reducible assumption) ?_)); rotate_left; focus (first | omega | (simp; done) | (simp; omega))))); done))
end Go.Proofs.Ytfdbghcnadanoaa
