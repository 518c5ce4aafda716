import Derived.Test.YtfplniooncdjdaaBe8A1
import Derived.Test.YtfplniooncdjdaaBe8A2
import Derived.Test.YtfplniooncdjdaaBe8A3
import Derived.Test.YtfplniooncdjdaaBe8A4
import Derived.Test.YtfplniooncdjdaaBe8B1
import Derived.Test.YtfplniooncdjdaaBe8B2
import Derived.Test.YtfplniooncdjdaaBe8C1
import Derived.Test.YtfplniooncdjdaaBe8C2
namespace Go.Proofs.Ytfplniooncdjdaa
set_option linter.unusedVariables false
set_option linter.unusedSimpArgs false
set_option maxRecDepth 100000
open Go.RowKit Fg Reg

theorem apart_eq (m v n u : Int) : apart m v n u = if v * n < u * m then (u * m - v * n) * 65536 else (v * n - u * m) * 65536 := by
  unfold apart dist
  rw [Int.mul_right_comm v 65536 n, Int.mul_right_comm u 65536 m]
  generalize v * n = A
  generalize u * m = B
  split <;> split <;> omega
theorem not_zero {Z : Int} (hZ : Wd Z) (h : Z ≠ 0) : (hi Z == 0 && lo Z == 0) = false := by
  cases hh : (hi Z == 0 && lo Z == 0) with
  | false => rfl
  | true =>
    exfalso
    simp only [Bool.and_eq_true, beq_iff_eq] at hh
    have := val_wd hZ
    rw [hh.1, hh.2] at this
    unfold val at this; omega
theorem val00 : val 0 0 = 0 := by decide
theorem wd0 : Wd 0 := by unfold Wd; omega
theorem momay_in {m n lmax q : Int} (h1 : smay m = true) (h2 : smay n = true) : momay m n lmax q = (smay q && decide (1 ≤ lmax) && decide (lmax ≤ 16384)) := by unfold momay; rw [h1, h2]; rfl
theorem bt_Am4 (m v n u lmax q z0 z1 X Y M : Int) (l : Bool)
    (hz : (z0 == 0 && z1 == 0) = false)
    (k1 : ∀ w, Calls Try.prog 23 #[.agg #[.int .u64 m, .int .u64 v], .agg #[.int .u64 n, .int .u64 u]] w fun ee w' => ee = .returned (.tuple #[.agg #[.int .u64 z0, .int .u64 z1], .int .i64 0]) ∧ Below w.heap.size w w')
    (k2 : ∀ w, Calls Try.prog 23 #[.agg #[.int .u64 n, .int .u64 u], .agg #[.int .u64 m, .int .u64 v]] w fun ee w' => ee = .returned (.tuple #[.agg #[.int .u64 0, .int .u64 0], .int .i64 0]) ∧ Below w.heap.size w w')
    (k3 : ∀ w, Calls Try.prog 14 #[.agg #[.int .u64 m, .int .u64 v], .agg #[.int .u64 n, .int .u64 u]] w fun ee w' => ee = .returned (.tuple #[.agg #[.int .u64 z0, .int .u64 z1], .int .i64 0]) ∧ Below w.heap.size w w')
    (k4 : ∀ w, Calls Try.prog 26 #[.agg #[.int .u64 z0, .int .u64 z1]] w fun ee w' => ee = .returned (.agg #[.int .u64 (d0 X), .int .u64 (d1 X), .int .u64 (d2 X), .int .u64 (d3 X)]) ∧ Below w.heap.size w w')
    (k5 : ∀ w, Calls Try.prog 27 #[.int .u64 m, .int .u64 v, .int .u64 n, .int .u64 u] w fun ee w' => ee = .returned (.agg #[.int .u64 (d0 X), .int .u64 (d1 X), .int .u64 (d2 X), .int .u64 (d3 X)]) ∧ Below w.heap.size w w')
    (k6 : ∀ w, Calls Try.prog 26 #[.agg #[.int .u64 0, .int .u64 0]] w fun ee w' => ee = .returned (.agg #[.int .u64 (d0 Y), .int .u64 (d1 Y), .int .u64 (d2 Y), .int .u64 (d3 Y)]) ∧ Below w.heap.size w w')
    (k7 : ∀ w, Calls Try.prog 27 #[.int .u64 n, .int .u64 u, .int .u64 m, .int .u64 v] w fun ee w' => ee = .returned (.agg #[.int .u64 (d0 Y), .int .u64 (d1 Y), .int .u64 (d2 Y), .int .u64 (d3 Y)]) ∧ Below w.heap.size w w')
    (k8 : ∀ w, Calls Try.prog 17 #[.int .u64 q] w fun ee w' => ee = .returned (.bool true) ∧ Below w.heap.size w w')
    (k9 : ∀ w, Calls Try.prog 24 #[.agg #[.int .u64 m, .int .u64 v], .agg #[.int .u64 n, .int .u64 u], .int .i64 lmax, .int .u64 q] w fun ee w' => ee = .returned (.bool (!l)) ∧ Below w.heap.size w w')
    (k10 : ∀ w, Calls Try.prog 25 #[] w fun ee w' => ee = .returned (.bool true) ∧ Below w.heap.size w w')
    (k11 : ∀ w, Calls Try.prog 20 #[.int .u64 m, .int .u64 n, .int .i64 lmax, .int .u64 q] w fun ee w' => ee = .returned (.agg #[.int .u64 (d0 M), .int .u64 (d1 M), .int .u64 (d2 M), .int .u64 (d3 M)]) ∧ Below w.heap.size w w')
    (k12 : ∀ w, Calls Try.prog 21 #[.agg #[.int .u64 (d0 M), .int .u64 (d1 M), .int .u64 (d2 M), .int .u64 (d3 M)], .agg #[.int .u64 (d0 X), .int .u64 (d1 X), .int .u64 (d2 X), .int .u64 (d3 X)]] w fun ee w' => ee = .returned (.bool l) ∧ Below w.heap.size w w')
    (eX : ∀ w, (Op.equalIn 10000 51 (.agg #[.int .u64 (d0 X), .int .u64 (d1 X), .int .u64 (d2 X), .int .u64 (d3 X)]) (.agg #[.int .u64 (d0 X), .int .u64 (d1 X), .int .u64 (d2 X), .int .u64 (d3 X)])).run Try.prog w = .ok true w)
    (eY : ∀ w, (Op.equalIn 10000 51 (.agg #[.int .u64 (d0 Y), .int .u64 (d1 Y), .int .u64 (d2 Y), .int .u64 (d3 Y)]) (.agg #[.int .u64 (d0 Y), .int .u64 (d1 Y), .int .u64 (d2 Y), .int .u64 (d3 Y)])).run Try.prog w = .ok true w)
    (g1 : decide (1 ≤ lmax) = true)
    (g2 : decide (lmax ≤ 16384) = true)
    (w : World) : Calls Try.prog 5 #[.agg #[.int .u64 m, .int .u64 v], .agg #[.int .u64 n, .int .u64 u], .agg #[.int .i64 lmax, .int .u64 q]] w fun ee w' => ee = .returned (.bool true) ∧ Below w.heap.size w w' := by
  by_cases h : z0 = 0
  · subst h
    have h1 : ¬ z1 = 0 := by intro e; subst e; simp at hz
    exact bt_Am4b m v n u lmax q z1 X Y M l h1 k1 k2 k3 k4 k5 k6 k7 k8 k9 k10 k11 k12 eX eY g1 g2 w
  · exact bt_Am4a m v n u lmax q z0 z1 X Y M l h k1 k2 k3 k4 k5 k6 k7 k8 k9 k10 k11 k12 eX eY g1 g2 w
theorem bt_A (m v n u lmax q : Int) (hm : In m) (hv0 : In v) (hn : In n) (hu0 : In u) (hq : In q) (ha : apmay m v n u = true) (hc : u * m < v * n) (w : World) :
    Calls Try.prog 5 #[.agg #[.int .u64 m, .int .u64 v], .agg #[.int .u64 n, .int .u64 u], .agg #[.int .i64 lmax, .int .u64 q]] w fun ee w' => ee = .returned (.bool true) ∧ Below w.heap.size w w' := by
  have ha2 : apmay n u m v = true := by rw [apmay_comm]; exact ha
  obtain ⟨⟨h1, -⟩, h2, -⟩ := apmay_bounds ha
  have k1 := ahd_c m v n u hm hv0 hn hu0 ha
  have k2 := ahd_c n u m v hn hu0 hm hv0 ha2
  have k3 := fap_c m v n u hm hv0 hn hu0 ha
  have k5 := rah_c m v n u hm hv0 hn hu0 ha
  have k7 := rah_c n u m v hn hu0 hm hv0 ha2
  have k8 := rsl_c q
  have k9 := hld_c m v n u q lmax hm hv0 hn hu0 hq
  have hZ := apart_wd hm hv0 hn hu0 ha
  have hap := apart_eq m v n u
  have eX : ahead m v n u = apart m v n u := by unfold ahead; rw [if_neg (by omega)]
  have eY : ahead n u m v = 0 := by unfold ahead; rw [if_pos (by omega)]
  have hne : apart m v n u ≠ 0 := by rw [hap, if_neg (by omega)]; omega
  rw [eX] at k1 k5
  rw [eY] at k2 k7
  unfold holdv at k9
  rw [ha, Bool.true_and, eX] at k9
  have kz := lr9_c _ _ (hi_in (apart m v n u)) (lo_in (apart m v n u))
  rw [val_wd hZ] at kz
  have k0 := lr9_c 0 0 (by unfold In; omega) (by unfold In; omega)
  rw [val00] at k0
  have hnz := not_zero hZ hne
  rw [hi_z, lo_z] at k2
  have hmo := momay_in (lmax := lmax) (q := q) h1 h2
  cases h3 : smay q with
  | false =>
    rw [h3] at k8
    have h4 : momay m n lmax q = false := by rw [hmo, h3]; rfl
    rw [h4, Bool.false_and] at k9
    exact bt_Am1 m v n u lmax q (hi (apart m v n u)) (lo (apart m v n u)) (apart m v n u) 0 0 false hnz k1 k2 k3 kz k5 k0 k7 k8 k9 btwo_c (fun w => by rw [eqDig hZ hZ w]; simp) (fun w => by rw [eqDig wd0 wd0 w]; simp)  w
  | true =>
    rw [h3] at k8
    by_cases b1 : 1 ≤ lmax
    · by_cases b2 : lmax ≤ 16384
      · have h4 : momay m n lmax q = true := by rw [hmo, h3, decide_eq_true b1, decide_eq_true b2]; rfl
        rw [h4, Bool.true_and] at k9
        have hM := most_wd h4
        have kr := rmo_c m n lmax q hm hn hq h4
        have kl := refless_d _ _ hM hZ
        have el : decide ((apart m v n u) ≤ mostap m n lmax q) = !decide (mostap m n lmax q < (apart m v n u)) := by
          by_cases h : (apart m v n u) ≤ mostap m n lmax q
          · rw [decide_eq_true h, decide_eq_false (by omega)]; rfl
          · rw [decide_eq_false h, decide_eq_true (by omega)]; rfl
        rw [el] at k9
        exact bt_Am4 m v n u lmax q (hi (apart m v n u)) (lo (apart m v n u)) (apart m v n u) 0 (mostap m n lmax q) (decide (mostap m n lmax q < (apart m v n u))) hnz k1 k2 k3 kz k5 k0 k7 k8 k9 btwo_c kr kl (fun w => by rw [eqDig hZ hZ w]; simp) (fun w => by rw [eqDig wd0 wd0 w]; simp) (decide_eq_true b1) (decide_eq_true b2) w
      · have h4 : momay m n lmax q = false := by rw [hmo, h3, decide_eq_false b2]; simp
        rw [h4, Bool.false_and] at k9
        exact bt_Am3 m v n u lmax q (hi (apart m v n u)) (lo (apart m v n u)) (apart m v n u) 0 0 false hnz k1 k2 k3 kz k5 k0 k7 k8 k9 btwo_c (fun w => by rw [eqDig hZ hZ w]; simp) (fun w => by rw [eqDig wd0 wd0 w]; simp) (decide_eq_true b1) (decide_eq_false b2) w
    · have h4 : momay m n lmax q = false := by rw [hmo, h3, decide_eq_false b1]; simp
      rw [h4, Bool.false_and] at k9
      exact bt_Am2 m v n u lmax q (hi (apart m v n u)) (lo (apart m v n u)) (apart m v n u) 0 0 false hnz k1 k2 k3 kz k5 k0 k7 k8 k9 btwo_c (fun w => by rw [eqDig hZ hZ w]; simp) (fun w => by rw [eqDig wd0 wd0 w]; simp) (decide_eq_false b1) w
theorem bt_B (m v n u lmax q : Int) (hm : In m) (hv0 : In v) (hn : In n) (hu0 : In u) (hq : In q) (ha : apmay m v n u = true) (hc : v * n < u * m) (w : World) :
    Calls Try.prog 5 #[.agg #[.int .u64 m, .int .u64 v], .agg #[.int .u64 n, .int .u64 u], .agg #[.int .i64 lmax, .int .u64 q]] w fun ee w' => ee = .returned (.bool true) ∧ Below w.heap.size w w' := by
  have ha2 : apmay n u m v = true := by rw [apmay_comm]; exact ha
  obtain ⟨⟨h1, -⟩, h2, -⟩ := apmay_bounds ha
  have k1 := ahd_c m v n u hm hv0 hn hu0 ha
  have k2 := ahd_c n u m v hn hu0 hm hv0 ha2
  have k3 := fap_c m v n u hm hv0 hn hu0 ha
  have k5 := rah_c m v n u hm hv0 hn hu0 ha
  have k7 := rah_c n u m v hn hu0 hm hv0 ha2
  have k8 := rsl_c q
  have k9 := hld_c m v n u q lmax hm hv0 hn hu0 hq
  have hZ := apart_wd hm hv0 hn hu0 ha
  have hap := apart_eq m v n u
  have eX : ahead m v n u = 0 := by unfold ahead; rw [if_pos (by omega)]
  have eY : ahead n u m v = apart m v n u := by unfold ahead; rw [if_neg (by omega), apart_comm n u]
  have hne : apart m v n u ≠ 0 := by rw [hap, if_pos (by omega)]; omega
  rw [eX] at k1 k5
  rw [eY] at k2 k7
  unfold holdv at k9
  rw [ha, Bool.true_and, eX] at k9
  have kz := lr9_c _ _ (hi_in (apart m v n u)) (lo_in (apart m v n u))
  rw [val_wd hZ] at kz
  have k0 := lr9_c 0 0 (by unfold In; omega) (by unfold In; omega)
  rw [val00] at k0
  have hnz := not_zero hZ hne
  rw [hi_z, lo_z] at k1
  have hmo := momay_in (lmax := lmax) (q := q) h1 h2
  cases h3 : smay q with
  | false =>
    rw [h3] at k8
    have h4 : momay m n lmax q = false := by rw [hmo, h3]; rfl
    rw [h4, Bool.false_and] at k9
    exact bt_Bm1 m v n u lmax q (hi (apart m v n u)) (lo (apart m v n u)) 0 (apart m v n u) 0 false hnz k1 k2 k3 k0 k5 kz k7 k8 k9 btwo_c (fun w => by rw [eqDig wd0 wd0 w]; simp) (fun w => by rw [eqDig hZ hZ w]; simp)  w
  | true =>
    rw [h3] at k8
    by_cases b1 : 1 ≤ lmax
    · by_cases b2 : lmax ≤ 16384
      · have h4 : momay m n lmax q = true := by rw [hmo, h3, decide_eq_true b1, decide_eq_true b2]; rfl
        rw [h4, Bool.true_and] at k9
        have hM := most_wd h4
        have kr := rmo_c m n lmax q hm hn hq h4
        have kl := refless_d _ _ hM wd0
        have el : decide (0 ≤ mostap m n lmax q) = !decide (mostap m n lmax q < 0) := by
          by_cases h : 0 ≤ mostap m n lmax q
          · rw [decide_eq_true h, decide_eq_false (by omega)]; rfl
          · rw [decide_eq_false h, decide_eq_true (by omega)]; rfl
        rw [el] at k9
        exact bt_Bm4 m v n u lmax q (hi (apart m v n u)) (lo (apart m v n u)) 0 (apart m v n u) (mostap m n lmax q) (decide (mostap m n lmax q < 0)) hnz k1 k2 k3 k0 k5 kz k7 k8 k9 btwo_c kr kl (fun w => by rw [eqDig wd0 wd0 w]; simp) (fun w => by rw [eqDig hZ hZ w]; simp) (decide_eq_true b1) (decide_eq_true b2) w
      · have h4 : momay m n lmax q = false := by rw [hmo, h3, decide_eq_false b2]; simp
        rw [h4, Bool.false_and] at k9
        exact bt_Bm3 m v n u lmax q (hi (apart m v n u)) (lo (apart m v n u)) 0 (apart m v n u) 0 false hnz k1 k2 k3 k0 k5 kz k7 k8 k9 btwo_c (fun w => by rw [eqDig wd0 wd0 w]; simp) (fun w => by rw [eqDig hZ hZ w]; simp) (decide_eq_true b1) (decide_eq_false b2) w
    · have h4 : momay m n lmax q = false := by rw [hmo, h3, decide_eq_false b1]; simp
      rw [h4, Bool.false_and] at k9
      exact bt_Bm2 m v n u lmax q (hi (apart m v n u)) (lo (apart m v n u)) 0 (apart m v n u) 0 false hnz k1 k2 k3 k0 k5 kz k7 k8 k9 btwo_c (fun w => by rw [eqDig wd0 wd0 w]; simp) (fun w => by rw [eqDig hZ hZ w]; simp) (decide_eq_false b1) w
theorem bt_C (m v n u lmax q : Int) (hm : In m) (hv0 : In v) (hn : In n) (hu0 : In u) (hq : In q) (ha : apmay m v n u = true) (hc : v * n = u * m) (w : World) :
    Calls Try.prog 5 #[.agg #[.int .u64 m, .int .u64 v], .agg #[.int .u64 n, .int .u64 u], .agg #[.int .i64 lmax, .int .u64 q]] w fun ee w' => ee = .returned (.bool true) ∧ Below w.heap.size w w' := by
  have ha2 : apmay n u m v = true := by rw [apmay_comm]; exact ha
  obtain ⟨⟨h1, -⟩, h2, -⟩ := apmay_bounds ha
  have k1 := ahd_c m v n u hm hv0 hn hu0 ha
  have k2 := ahd_c n u m v hn hu0 hm hv0 ha2
  have k3 := fap_c m v n u hm hv0 hn hu0 ha
  have k5 := rah_c m v n u hm hv0 hn hu0 ha
  have k7 := rah_c n u m v hn hu0 hm hv0 ha2
  have k8 := rsl_c q
  have k9 := hld_c m v n u q lmax hm hv0 hn hu0 hq
  have hZ := apart_wd hm hv0 hn hu0 ha
  have hap := apart_eq m v n u
  have eZ : apart m v n u = 0 := by rw [hap, if_neg (by omega)]; omega
  have eX : ahead m v n u = 0 := by unfold ahead; rw [if_neg (by omega), eZ]
  have eY : ahead n u m v = 0 := by unfold ahead; rw [if_neg (by omega), apart_comm n u, eZ]
  rw [eX] at k1 k5
  rw [eY] at k2 k7
  rw [eZ] at k3
  unfold holdv at k9
  rw [ha, Bool.true_and, eX] at k9
  have kz := lr9_c _ _ (hi_in (apart m v n u)) (lo_in (apart m v n u))
  rw [val_wd hZ] at kz
  have k0 := lr9_c 0 0 (by unfold In; omega) (by unfold In; omega)
  rw [val00] at k0
  rw [hi_z, lo_z] at k1
  rw [hi_z, lo_z] at k2
  rw [hi_z, lo_z] at k3
  have hmo := momay_in (lmax := lmax) (q := q) h1 h2
  cases h3 : smay q with
  | false =>
    rw [h3] at k8
    have h4 : momay m n lmax q = false := by rw [hmo, h3]; rfl
    rw [h4, Bool.false_and] at k9
    exact bt_Cm1 m v n u lmax q 0 0 0 0 0 false k1 k2 k3 k0 k5 k0 k7 k8 k9 btwo_c (fun w => by rw [eqDig wd0 wd0 w]; simp) (fun w => by rw [eqDig wd0 wd0 w]; simp)  w
  | true =>
    rw [h3] at k8
    by_cases b1 : 1 ≤ lmax
    · by_cases b2 : lmax ≤ 16384
      · have h4 : momay m n lmax q = true := by rw [hmo, h3, decide_eq_true b1, decide_eq_true b2]; rfl
        rw [h4, Bool.true_and] at k9
        have hM := most_wd h4
        have kr := rmo_c m n lmax q hm hn hq h4
        have kl := refless_d _ _ hM wd0
        have el : decide (0 ≤ mostap m n lmax q) = !decide (mostap m n lmax q < 0) := by
          by_cases h : 0 ≤ mostap m n lmax q
          · rw [decide_eq_true h, decide_eq_false (by omega)]; rfl
          · rw [decide_eq_false h, decide_eq_true (by omega)]; rfl
        rw [el] at k9
        exact bt_Cm4 m v n u lmax q 0 0 0 0 (mostap m n lmax q) (decide (mostap m n lmax q < 0)) k1 k2 k3 k0 k5 k0 k7 k8 k9 btwo_c kr kl (fun w => by rw [eqDig wd0 wd0 w]; simp) (fun w => by rw [eqDig wd0 wd0 w]; simp) (decide_eq_true b1) (decide_eq_true b2) w
      · have h4 : momay m n lmax q = false := by rw [hmo, h3, decide_eq_false b2]; simp
        rw [h4, Bool.false_and] at k9
        exact bt_Cm3 m v n u lmax q 0 0 0 0 0 false k1 k2 k3 k0 k5 k0 k7 k8 k9 btwo_c (fun w => by rw [eqDig wd0 wd0 w]; simp) (fun w => by rw [eqDig wd0 wd0 w]; simp) (decide_eq_true b1) (decide_eq_false b2) w
    · have h4 : momay m n lmax q = false := by rw [hmo, h3, decide_eq_false b1]; simp
      rw [h4, Bool.false_and] at k9
      exact bt_Cm2 m v n u lmax q 0 0 0 0 0 false k1 k2 k3 k0 k5 k0 k7 k8 k9 btwo_c (fun w => by rw [eqDig wd0 wd0 w]; simp) (fun w => by rw [eqDig wd0 wd0 w]; simp) (decide_eq_false b1) w
theorem behindTells_law (m v n u lmax q : Int) (w0 : (Lit.int .u64 m).wf = true) (w1 : (Lit.int .u64 v).wf = true) (w2 : (Lit.int .u64 n).wf = true) (w3 : (Lit.int .u64 u).wf = true) (w4 : (Lit.int .i64 lmax).wf = true) (w5 : (Lit.int .u64 q).wf = true) (w : World) :
    Calls Try.prog 5 #[.agg #[.int .u64 m, .int .u64 v], .agg #[.int .u64 n, .int .u64 u], .agg #[.int .i64 lmax, .int .u64 q]] w fun e w' => e = .returned (.bool true) ∧ Below w.heap.size w w' := by
  cases ha : apmay m v n u with
  | false => exact bt_bad m v n u lmax q ha w
  | true =>
    rcases Int.lt_trichotomy (v * n) (u * m) with h | h | h
    · exact bt_B m v n u lmax q (in_wf w0) (in_wf w1) (in_wf w2) (in_wf w3) (in_wf w5) ha h w
    · exact bt_C m v n u lmax q (in_wf w0) (in_wf w1) (in_wf w2) (in_wf w3) (in_wf w5) ha h w
    · exact bt_A m v n u lmax q (in_wf w0) (in_wf w1) (in_wf w2) (in_wf w3) (in_wf w5) ha h w
end Go.Proofs.Ytfplniooncdjdaa
