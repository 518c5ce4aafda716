import Derived.Test.YtfplniooncdjdaaFair6a
import Derived.Test.YtfplniooncdjdaaFair6b
import Derived.Test.YtfplniooncdjdaaFair6c
import Derived.Test.YtfplniooncdjdaaFair6d
namespace Go.Proofs.Ytfplniooncdjdaa
set_option linter.unusedVariables false
set_option linter.unusedSimpArgs false
set_option maxRecDepth 100000
open Go.RowKit Fg Reg

theorem momay_comm (m n lmax q : Int) : momay m n lmax q = momay n m lmax q := by unfold momay; rw [Bool.and_comm (smay m)]
theorem mostap_comm (m n lmax q : Int) : mostap m n lmax q = mostap n m lmax q := by unfold mostap; rw [Int.mul_comm m n]
theorem fairv_comm (m v n u lmax q : Int) : fairv n u m v lmax q = fairv m v n u lmax q := by
  unfold fairv; rw [apmay_comm n u, momay_comm n m, apart_comm n u, mostap_comm n m]
theorem fairTells_law (m v n u lmax q : Int) (w0 : (Lit.int .u64 m).wf = true) (w1 : (Lit.int .u64 v).wf = true) (w2 : (Lit.int .u64 n).wf = true) (w3 : (Lit.int .u64 u).wf = true) (w4 : (Lit.int .i64 lmax).wf = true) (w5 : (Lit.int .u64 q).wf = true) (w : World) :
    Calls Try.prog 4 #[.agg #[.int .u64 m, .int .u64 v], .agg #[.int .u64 n, .int .u64 u], .agg #[.int .i64 lmax, .int .u64 q]] w fun e w' => e = .returned (.bool true) ∧ Below w.heap.size w w' := by
  have hm := in_wf w0
  have hv0 := in_wf w1
  have hn := in_wf w2
  have hu0 := in_wf w3
  have hq := in_wf w5
  have K3 := ffa_c m v n u q lmax hm hv0 hn hu0 hq
  have K5 := ffa_c n u m v q lmax hn hu0 hm hv0 hq
  rw [fairv_comm] at K5
  have R1 := rsl_c m
  have R2 := rsl_c n
  have R3 := rsl_c q
  cases h1 : smay m with
  | false =>
    rw [h1] at R1
    have ha : apmay m v n u = false := by simp [apmay, h1]
    have hmo : momay m n lmax q = false := by simp [momay, h1]
    have ha2 : apmay n u m v = false := by rw [apmay_comm]; exact ha
    have hf : fairv m v n u lmax q = false := by simp [fairv, ha, hmo]
    rw [hf] at K3 K5
    have k1 := fap_bad m v n u ha
    have k4 := fap_bad n u m v ha2
    have k2 := fmo_bad m v n u q lmax hmo
    exact ft_r1 m v n u q lmax 0 0 0 0 0 0 false k1 k2 K3 k4 K5 R1 ftwo_c  w
  | true =>
    rw [h1] at R1
    cases h2 : smay n with
    | false =>
      rw [h2] at R2
      have ha : apmay m v n u = false := by simp [apmay, h1, h2]
      have hmo : momay m n lmax q = false := by simp [momay, h1, h2]
      have ha2 : apmay n u m v = false := by rw [apmay_comm]; exact ha
      have hf : fairv m v n u lmax q = false := by simp [fairv, ha, hmo]
      rw [hf] at K3 K5
      have k1 := fap_bad m v n u ha
      have k4 := fap_bad n u m v ha2
      have k2 := fmo_bad m v n u q lmax hmo
      exact ft_r2 m v n u q lmax 0 0 0 0 0 0 false k1 k2 K3 k4 K5 R1 R2 ftwo_c  w
    | true =>
      rw [h2] at R2
      by_cases hv : v ≤ 1099511627776
      · by_cases hu : u ≤ 1099511627776
        · skip
          cases h3 : smay q with
          | false =>
            rw [h3] at R3
            have ha : apmay m v n u = true := by simp [apmay, h1, h2, hv, hu]
            have hmo : momay m n lmax q = false := by simp [momay, h1, h2, h3]
            have ha2 : apmay n u m v = true := by rw [apmay_comm]; exact ha
            have hX := apart_wd hm hv0 hn hu0 ha
            have hf : fairv m v n u lmax q = false := by simp [fairv, ha, hmo]
            rw [hf] at K3 K5
            have k1 := fap_c m v n u hm hv0 hn hu0 ha
            have k4 := fap_c n u m v hn hu0 hm hv0 ha2
            rw [apart_comm n u] at k4
            have kx := lref_c _ _ (hi_in (apart m v n u)) (lo_in (apart m v n u))
            rw [val_wd hX] at kx
            have k2 := fmo_bad m v n u q lmax hmo
            exact ft_r5m1 m v n u q lmax _ _ 0 0 (apart m v n u) 0 false k1 k2 K3 k4 K5 R1 R2 R3 ftwo_c kx (rap_c m v n u hm hv0 hn hu0 ha) (fun w => by rw [eqDig hX hX w]; simp) (decide_eq_true hv) (decide_eq_true hu) w
          | true =>
            rw [h3] at R3
            by_cases b1 : 1 ≤ lmax
            · by_cases b2 : lmax ≤ 16384
              · skip
                have ha : apmay m v n u = true := by simp [apmay, h1, h2, hv, hu]
                have hmo : momay m n lmax q = true := by simp [momay, h1, h2, h3, b1, b2]
                have ha2 : apmay n u m v = true := by rw [apmay_comm]; exact ha
                have hX := apart_wd hm hv0 hn hu0 ha
                have hY := most_wd hmo
                have hf : fairv m v n u lmax q = !decide (mostap m n lmax q < apart m v n u) := by
                  unfold fairv
                  rw [ha, hmo, Bool.true_and, Bool.true_and]
                  by_cases h : apart m v n u ≤ mostap m n lmax q
                  · rw [decide_eq_true h, decide_eq_false (by omega)]; rfl
                  · rw [decide_eq_false h, decide_eq_true (by omega)]; rfl
                rw [hf] at K3 K5
                have k1 := fap_c m v n u hm hv0 hn hu0 ha
                have k4 := fap_c n u m v hn hu0 hm hv0 ha2
                rw [apart_comm n u] at k4
                have kx := lref_c _ _ (hi_in (apart m v n u)) (lo_in (apart m v n u))
                rw [val_wd hX] at kx
                have k2 := fmo_c m v n u q lmax hq hmo
                have ky := lref_c _ _ (hi_in (mostap m n lmax q)) (lo_in (mostap m n lmax q))
                rw [val_wd hY] at ky
                exact ft_r5m4 m v n u q lmax _ _ _ _ (apart m v n u) (mostap m n lmax q) (decide (mostap m n lmax q < apart m v n u)) k1 k2 K3 k4 K5 R1 R2 R3 ftwo_c kx (rap_c m v n u hm hv0 hn hu0 ha) ky (rmo_c m n lmax q hm hn hq hmo) (refless_d _ _ hY hX) (fun w => by rw [eqDig hX hX w]; simp) (fun w => by rw [eqDig hY hY w]; simp) (decide_eq_true hv) (decide_eq_true hu) (decide_eq_true b1) (decide_eq_true b2) w
              · skip
                have ha : apmay m v n u = true := by simp [apmay, h1, h2, hv, hu]
                have hmo : momay m n lmax q = false := by simp [momay, h1, h2, h3, b1, b2]
                have ha2 : apmay n u m v = true := by rw [apmay_comm]; exact ha
                have hX := apart_wd hm hv0 hn hu0 ha
                have hf : fairv m v n u lmax q = false := by simp [fairv, ha, hmo]
                rw [hf] at K3 K5
                have k1 := fap_c m v n u hm hv0 hn hu0 ha
                have k4 := fap_c n u m v hn hu0 hm hv0 ha2
                rw [apart_comm n u] at k4
                have kx := lref_c _ _ (hi_in (apart m v n u)) (lo_in (apart m v n u))
                rw [val_wd hX] at kx
                have k2 := fmo_bad m v n u q lmax hmo
                exact ft_r5m3 m v n u q lmax _ _ 0 0 (apart m v n u) 0 false k1 k2 K3 k4 K5 R1 R2 R3 ftwo_c kx (rap_c m v n u hm hv0 hn hu0 ha) (fun w => by rw [eqDig hX hX w]; simp) (decide_eq_true hv) (decide_eq_true hu) (decide_eq_true b1) (decide_eq_false b2) w
            · skip
              have ha : apmay m v n u = true := by simp [apmay, h1, h2, hv, hu]
              have hmo : momay m n lmax q = false := by simp [momay, h1, h2, h3, b1]
              have ha2 : apmay n u m v = true := by rw [apmay_comm]; exact ha
              have hX := apart_wd hm hv0 hn hu0 ha
              have hf : fairv m v n u lmax q = false := by simp [fairv, ha, hmo]
              rw [hf] at K3 K5
              have k1 := fap_c m v n u hm hv0 hn hu0 ha
              have k4 := fap_c n u m v hn hu0 hm hv0 ha2
              rw [apart_comm n u] at k4
              have kx := lref_c _ _ (hi_in (apart m v n u)) (lo_in (apart m v n u))
              rw [val_wd hX] at kx
              have k2 := fmo_bad m v n u q lmax hmo
              exact ft_r5m2 m v n u q lmax _ _ 0 0 (apart m v n u) 0 false k1 k2 K3 k4 K5 R1 R2 R3 ftwo_c kx (rap_c m v n u hm hv0 hn hu0 ha) (fun w => by rw [eqDig hX hX w]; simp) (decide_eq_true hv) (decide_eq_true hu) (decide_eq_false b1) w
        · skip
          cases h3 : smay q with
          | false =>
            rw [h3] at R3
            have ha : apmay m v n u = false := by simp [apmay, h1, h2, hv, hu]
            have hmo : momay m n lmax q = false := by simp [momay, h1, h2, h3]
            have ha2 : apmay n u m v = false := by rw [apmay_comm]; exact ha
            have hf : fairv m v n u lmax q = false := by simp [fairv, ha, hmo]
            rw [hf] at K3 K5
            have k1 := fap_bad m v n u ha
            have k4 := fap_bad n u m v ha2
            have k2 := fmo_bad m v n u q lmax hmo
            exact ft_r4m1 m v n u q lmax 0 0 0 0 0 0 false k1 k2 K3 k4 K5 R1 R2 R3 ftwo_c (decide_eq_true hv) (decide_eq_false hu) w
          | true =>
            rw [h3] at R3
            by_cases b1 : 1 ≤ lmax
            · by_cases b2 : lmax ≤ 16384
              · skip
                have ha : apmay m v n u = false := by simp [apmay, h1, h2, hv, hu]
                have hmo : momay m n lmax q = true := by simp [momay, h1, h2, h3, b1, b2]
                have ha2 : apmay n u m v = false := by rw [apmay_comm]; exact ha
                have hY := most_wd hmo
                have hf : fairv m v n u lmax q = false := by simp [fairv, ha, hmo]
                rw [hf] at K3 K5
                have k1 := fap_bad m v n u ha
                have k4 := fap_bad n u m v ha2
                have k2 := fmo_c m v n u q lmax hq hmo
                have ky := lref_c _ _ (hi_in (mostap m n lmax q)) (lo_in (mostap m n lmax q))
                rw [val_wd hY] at ky
                exact ft_r4m4 m v n u q lmax 0 0 _ _ 0 (mostap m n lmax q) false k1 k2 K3 k4 K5 R1 R2 R3 ftwo_c ky (rmo_c m n lmax q hm hn hq hmo) (fun w => by rw [eqDig hY hY w]; simp) (decide_eq_true hv) (decide_eq_false hu) (decide_eq_true b1) (decide_eq_true b2) w
              · skip
                have ha : apmay m v n u = false := by simp [apmay, h1, h2, hv, hu]
                have hmo : momay m n lmax q = false := by simp [momay, h1, h2, h3, b1, b2]
                have ha2 : apmay n u m v = false := by rw [apmay_comm]; exact ha
                have hf : fairv m v n u lmax q = false := by simp [fairv, ha, hmo]
                rw [hf] at K3 K5
                have k1 := fap_bad m v n u ha
                have k4 := fap_bad n u m v ha2
                have k2 := fmo_bad m v n u q lmax hmo
                exact ft_r4m3 m v n u q lmax 0 0 0 0 0 0 false k1 k2 K3 k4 K5 R1 R2 R3 ftwo_c (decide_eq_true hv) (decide_eq_false hu) (decide_eq_true b1) (decide_eq_false b2) w
            · skip
              have ha : apmay m v n u = false := by simp [apmay, h1, h2, hv, hu]
              have hmo : momay m n lmax q = false := by simp [momay, h1, h2, h3, b1]
              have ha2 : apmay n u m v = false := by rw [apmay_comm]; exact ha
              have hf : fairv m v n u lmax q = false := by simp [fairv, ha, hmo]
              rw [hf] at K3 K5
              have k1 := fap_bad m v n u ha
              have k4 := fap_bad n u m v ha2
              have k2 := fmo_bad m v n u q lmax hmo
              exact ft_r4m2 m v n u q lmax 0 0 0 0 0 0 false k1 k2 K3 k4 K5 R1 R2 R3 ftwo_c (decide_eq_true hv) (decide_eq_false hu) (decide_eq_false b1) w
      · skip
        cases h3 : smay q with
        | false =>
          rw [h3] at R3
          have ha : apmay m v n u = false := by simp [apmay, h1, h2, hv]
          have hmo : momay m n lmax q = false := by simp [momay, h1, h2, h3]
          have ha2 : apmay n u m v = false := by rw [apmay_comm]; exact ha
          have hf : fairv m v n u lmax q = false := by simp [fairv, ha, hmo]
          rw [hf] at K3 K5
          have k1 := fap_bad m v n u ha
          have k4 := fap_bad n u m v ha2
          have k2 := fmo_bad m v n u q lmax hmo
          exact ft_r3m1 m v n u q lmax 0 0 0 0 0 0 false k1 k2 K3 k4 K5 R1 R2 R3 ftwo_c (decide_eq_false hv) w
        | true =>
          rw [h3] at R3
          by_cases b1 : 1 ≤ lmax
          · by_cases b2 : lmax ≤ 16384
            · skip
              have ha : apmay m v n u = false := by simp [apmay, h1, h2, hv]
              have hmo : momay m n lmax q = true := by simp [momay, h1, h2, h3, b1, b2]
              have ha2 : apmay n u m v = false := by rw [apmay_comm]; exact ha
              have hY := most_wd hmo
              have hf : fairv m v n u lmax q = false := by simp [fairv, ha, hmo]
              rw [hf] at K3 K5
              have k1 := fap_bad m v n u ha
              have k4 := fap_bad n u m v ha2
              have k2 := fmo_c m v n u q lmax hq hmo
              have ky := lref_c _ _ (hi_in (mostap m n lmax q)) (lo_in (mostap m n lmax q))
              rw [val_wd hY] at ky
              exact ft_r3m4 m v n u q lmax 0 0 _ _ 0 (mostap m n lmax q) false k1 k2 K3 k4 K5 R1 R2 R3 ftwo_c ky (rmo_c m n lmax q hm hn hq hmo) (fun w => by rw [eqDig hY hY w]; simp) (decide_eq_false hv) (decide_eq_true b1) (decide_eq_true b2) w
            · skip
              have ha : apmay m v n u = false := by simp [apmay, h1, h2, hv]
              have hmo : momay m n lmax q = false := by simp [momay, h1, h2, h3, b1, b2]
              have ha2 : apmay n u m v = false := by rw [apmay_comm]; exact ha
              have hf : fairv m v n u lmax q = false := by simp [fairv, ha, hmo]
              rw [hf] at K3 K5
              have k1 := fap_bad m v n u ha
              have k4 := fap_bad n u m v ha2
              have k2 := fmo_bad m v n u q lmax hmo
              exact ft_r3m3 m v n u q lmax 0 0 0 0 0 0 false k1 k2 K3 k4 K5 R1 R2 R3 ftwo_c (decide_eq_false hv) (decide_eq_true b1) (decide_eq_false b2) w
          · skip
            have ha : apmay m v n u = false := by simp [apmay, h1, h2, hv]
            have hmo : momay m n lmax q = false := by simp [momay, h1, h2, h3, b1]
            have ha2 : apmay n u m v = false := by rw [apmay_comm]; exact ha
            have hf : fairv m v n u lmax q = false := by simp [fairv, ha, hmo]
            rw [hf] at K3 K5
            have k1 := fap_bad m v n u ha
            have k4 := fap_bad n u m v ha2
            have k2 := fmo_bad m v n u q lmax hmo
            exact ft_r3m2 m v n u q lmax 0 0 0 0 0 0 false k1 k2 K3 k4 K5 R1 R2 R3 ftwo_c (decide_eq_false hv) (decide_eq_false b1) w
end Go.Proofs.Ytfplniooncdjdaa
