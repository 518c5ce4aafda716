import Derived.Test.YtjicnbdlffpbbaaBase
namespace Go.Proofs.Ytjicnbdlffpbbaa
set_option linter.unusedVariables false
set_option linter.unusedSimpArgs false
set_option maxRecDepth 100000
open Go.RowKit Fg Reg

theorem refof_c (x : Int) (hx : In x) (w : World) : Calls Try.prog 55 #[.int .u64 x] w fun e w' => e = .returned (.agg #[.int .u64 (d0 x), .int .u64 (d1 x), .int .u64 (d2 x), .int .u64 (d3 x)]) ∧ Below w.heap.size w w' := by
  have b1 : 0 ≤ x ∧ x ≤ 18446744073709551615 := hx
  go_enter Try.func55, Try.ntmps55
  go_wp2
  refine bodyPost_ret (v := .agg #[.int .u64 (d0 x), .int .u64 (d1 x), .int .u64 (d2 x), .int .u64 (d3 x)]) ?_ rfl ⟨rfl, (by repeat' (first | with_reducible exact Below.refl _ _ | with_reducible assumption | ((with_reducible refine Below.drew ?_)) | ((with_reducible refine below_drewN ?_ _)) | ((with_reducible refine Below.alloc ?_ ?_ _); rotate_left; focus (first | omega | (simp; done) | (simp; omega))) | ((with_reducible refine Below.setCell ?_ ?_ _); rotate_left; focus (first | omega | (simp; done) | (simp; omega))) | ((with_reducible refine Below.trans ?_ (Below.mono (by with_reducible assumption) ?_)); rotate_left; focus (first | omega | (simp; done) | (simp; omega)))))⟩
  simp [results, Try.results55, go_sem]
  unfold d0 d1 d2 d3
  omega

theorem reftwo_c (a b : Int) (ha : In a) (hb : In b) (w : World) : Calls Try.prog 66 #[.int .u64 a, .int .u64 b] w fun e w' => e = .returned (.agg #[.int .u64 (d0 (val a b)), .int .u64 (d1 (val a b)), .int .u64 (d2 (val a b)), .int .u64 (d3 (val a b))]) ∧ Below w.heap.size w w' := by
  have b1 : 0 ≤ a ∧ a ≤ 18446744073709551615 := ha
  have b2 : 0 ≤ b ∧ b ≤ 18446744073709551615 := hb
  go_enter Try.func66, Try.ntmps66
  go_wp2
  refine bodyPost_ret (v := .agg #[.int .u64 (d0 (val a b)), .int .u64 (d1 (val a b)), .int .u64 (d2 (val a b)), .int .u64 (d3 (val a b))]) ?_ rfl ⟨rfl, (by repeat' (first | with_reducible exact Below.refl _ _ | with_reducible assumption | ((with_reducible refine Below.drew ?_)) | ((with_reducible refine below_drewN ?_ _)) | ((with_reducible refine Below.alloc ?_ ?_ _); rotate_left; focus (first | omega | (simp; done) | (simp; omega))) | ((with_reducible refine Below.setCell ?_ ?_ _); rotate_left; focus (first | omega | (simp; done) | (simp; omega))) | ((with_reducible refine Below.trans ?_ (Below.mono (by with_reducible assumption) ?_)); rotate_left; focus (first | omega | (simp; done) | (simp; omega)))))⟩
  simp [results, Try.results66, go_sem]
  unfold d0 d1 d2 d3 val
  omega

theorem refhi_c (x : Int) (w : World) : Calls Try.prog 93 #[.agg #[.int .u64 (d0 x), .int .u64 (d1 x), .int .u64 (d2 x), .int .u64 (d3 x)]] w fun e w' => e = .returned (.int .u64 (hi x)) ∧ Below w.heap.size w w' := by
  have b1 := d2_in x
  have b2 := d3_in x
  go_enter Try.func93, Try.ntmps93
  go_wp2
  go_ret
  refine ⟨ret_int ?_, (by repeat' (first | with_reducible exact Below.refl _ _ | with_reducible assumption | ((with_reducible refine Below.drew ?_)) | ((with_reducible refine below_drewN ?_ _)) | ((with_reducible refine Below.alloc ?_ ?_ _); rotate_left; focus (first | omega | (simp; done) | (simp; omega))) | ((with_reducible refine Below.setCell ?_ ?_ _); rotate_left; focus (first | omega | (simp; done) | (simp; omega))) | ((with_reducible refine Below.trans ?_ (Below.mono (by with_reducible assumption) ?_)); rotate_left; focus (first | omega | (simp; done) | (simp; omega)))))⟩
  unfold d2 d3 hi; omega

theorem reflo_c (x : Int) (w : World) : Calls Try.prog 91 #[.agg #[.int .u64 (d0 x), .int .u64 (d1 x), .int .u64 (d2 x), .int .u64 (d3 x)]] w fun e w' => e = .returned (.int .u64 (lo x)) ∧ Below w.heap.size w w' := by
  have b1 := d0_in x
  have b2 := d1_in x
  go_enter Try.func91, Try.ntmps91
  go_wp2
  go_ret
  refine ⟨ret_int ?_, (by repeat' (first | with_reducible exact Below.refl _ _ | with_reducible assumption | ((with_reducible refine Below.drew ?_)) | ((with_reducible refine below_drewN ?_ _)) | ((with_reducible refine Below.alloc ?_ ?_ _); rotate_left; focus (first | omega | (simp; done) | (simp; omega))) | ((with_reducible refine Below.setCell ?_ ?_ _); rotate_left; focus (first | omega | (simp; done) | (simp; omega))) | ((with_reducible refine Below.trans ?_ (Below.mono (by with_reducible assumption) ?_)); rotate_left; focus (first | omega | (simp; done) | (simp; omega)))))⟩
  unfold d0 d1 lo; omega

set_option maxHeartbeats 1000000 in
theorem refadd_c (x0 x1 x2 x3 y0 y1 y2 y3 : Int) (h0 : Dg x0) (h1 : Dg x1) (h2 : Dg x2) (h3 : Dg x3) (g0 : Dg y0) (g1 : Dg y1) (g2 : Dg y2) (g3 : Dg y3) (w : World) : Calls Try.prog 82 #[.agg #[.int .u64 x0, .int .u64 x1, .int .u64 x2, .int .u64 x3], .agg #[.int .u64 y0, .int .u64 y1, .int .u64 y2, .int .u64 y3]] w fun e w' =>
    e = .returned (.tuple #[.agg #[.int .u64 (d0 (num4 x0 x1 x2 x3 + num4 y0 y1 y2 y3)), .int .u64 (d1 (num4 x0 x1 x2 x3 + num4 y0 y1 y2 y3)), .int .u64 (d2 (num4 x0 x1 x2 x3 + num4 y0 y1 y2 y3)), .int .u64 (d3 (num4 x0 x1 x2 x3 + num4 y0 y1 y2 y3))], .int .u64 ((num4 x0 x1 x2 x3 + num4 y0 y1 y2 y3) / 340282366920938463463374607431768211456)]) ∧ Below w.heap.size w w' := by
  unfold Dg at *
  go_enter Try.func82, Try.ntmps82
  go_wp2_with fail
  refine wp_loop_rounds 5 ?_
  iterate 4
    rw [rounds_succ]
    go_wp2_with fail
    go_quiet (fail)
    go_wp2_with fail
  rw [rounds_succ]
  go_wp2
  refine bodyPost_ret (v := .tuple #[.agg #[.int .u64 (d0 (num4 x0 x1 x2 x3 + num4 y0 y1 y2 y3)), .int .u64 (d1 (num4 x0 x1 x2 x3 + num4 y0 y1 y2 y3)), .int .u64 (d2 (num4 x0 x1 x2 x3 + num4 y0 y1 y2 y3)), .int .u64 (d3 (num4 x0 x1 x2 x3 + num4 y0 y1 y2 y3))], .int .u64 ((num4 x0 x1 x2 x3 + num4 y0 y1 y2 y3) / 340282366920938463463374607431768211456)]) ?_ rfl ⟨rfl, (by repeat' (first | with_reducible exact Below.refl _ _ | with_reducible assumption | ((with_reducible refine Below.drew ?_)) | ((with_reducible refine below_drewN ?_ _)) | ((with_reducible refine Below.alloc ?_ ?_ _); rotate_left; focus (first | omega | (simp; done) | (simp; omega))) | ((with_reducible refine Below.setCell ?_ ?_ _); rotate_left; focus (first | omega | (simp; done) | (simp; omega))) | ((with_reducible refine Below.trans ?_ (Below.mono (by with_reducible assumption) ?_)); rotate_left; focus (first | omega | (simp; done) | (simp; omega)))))⟩
  simp [results, Try.results82, go_sem]
  unfold d0 d1 d2 d3 num4
  omega

set_option maxHeartbeats 2000000 in
theorem refless_c (x0 x1 x2 x3 y0 y1 y2 y3 : Int) (h0 : Dg x0) (h1 : Dg x1) (h2 : Dg x2) (h3 : Dg x3) (g0 : Dg y0) (g1 : Dg y1) (g2 : Dg y2) (g3 : Dg y3) (w : World) : Calls Try.prog 44 #[.agg #[.int .u64 x0, .int .u64 x1, .int .u64 x2, .int .u64 x3], .agg #[.int .u64 y0, .int .u64 y1, .int .u64 y2, .int .u64 y3]] w fun e w' => e = .returned (.bool (decide (num4 x0 x1 x2 x3 < num4 y0 y1 y2 y3))) ∧ Below w.heap.size w w' := by
  unfold Dg at *
  by_cases e3 : x3 = y3
  · subst e3
    by_cases e2 : x2 = y2
    · subst e2
      by_cases e1 : x1 = y1
      · subst e1
        by_cases e0 : x0 = y0
        · subst e0
          have e : decide (num4 x0 x1 x2 x3 < num4 x0 x1 x2 x3) = false := by simp
          rw [e]
          clear e
          go_enter Try.func44, Try.ntmps44
          go_wp2_with fail
          refine wp_loop_rounds 5 ?_
          rw [rounds_succ]
          go_wp2_with fail
          go_quiet (fail)
          go_wp2_with fail
          rw [rounds_succ]
          go_wp2_with fail
          go_quiet (fail)
          go_wp2_with fail
          rw [rounds_succ]
          go_wp2_with fail
          go_quiet (fail)
          go_wp2_with fail
          rw [rounds_succ]
          go_wp2_with fail
          go_quiet (fail)
          go_wp2_with fail
          rw [rounds_succ]
          go_wp2_with fail
          go_ret
          exact ⟨rfl, (by repeat' (first | with_reducible exact Below.refl _ _ | with_reducible assumption | ((with_reducible refine Below.drew ?_)) | ((with_reducible refine below_drewN ?_ _)) | ((with_reducible refine Below.alloc ?_ ?_ _); rotate_left; focus (first | omega | (simp; done) | (simp; omega))) | ((with_reducible refine Below.setCell ?_ ?_ _); rotate_left; focus (first | omega | (simp; done) | (simp; omega))) | ((with_reducible refine Below.trans ?_ (Below.mono (by with_reducible assumption) ?_)); rotate_left; focus (first | omega | (simp; done) | (simp; omega)))))⟩
        · have e : decide (num4 x0 x1 x2 x3 < num4 y0 x1 x2 x3) = decide (x0 < y0) := by unfold num4; rw [decide_eq_decide]; omega
          rw [e]
          clear e
          have e' : (x0 == y0) = false := by simpa using e0
          go_enter Try.func44, Try.ntmps44
          go_wp2_with fail
          refine wp_loop_rounds 4 ?_
          rw [rounds_succ]
          go_wp2_with fail
          go_quiet (fail)
          go_wp2_with fail
          rw [rounds_succ]
          go_wp2_with fail
          go_quiet (fail)
          go_wp2_with fail
          rw [rounds_succ]
          go_wp2_with fail
          go_quiet (fail)
          go_wp2_with fail
          rw [rounds_succ]
          go_wp2_with fail
          go_quiet (fail)
          go_wp2_with fail
          go_quiet (fail)
          go_wp2_with fail
          go_ret
          exact ⟨rfl, (by repeat' (first | with_reducible exact Below.refl _ _ | with_reducible assumption | ((with_reducible refine Below.drew ?_)) | ((with_reducible refine below_drewN ?_ _)) | ((with_reducible refine Below.alloc ?_ ?_ _); rotate_left; focus (first | omega | (simp; done) | (simp; omega))) | ((with_reducible refine Below.setCell ?_ ?_ _); rotate_left; focus (first | omega | (simp; done) | (simp; omega))) | ((with_reducible refine Below.trans ?_ (Below.mono (by with_reducible assumption) ?_)); rotate_left; focus (first | omega | (simp; done) | (simp; omega)))))⟩
      · have e : decide (num4 x0 x1 x2 x3 < num4 y0 y1 x2 x3) = decide (x1 < y1) := by unfold num4; rw [decide_eq_decide]; omega
        rw [e]
        clear e
        have e' : (x1 == y1) = false := by simpa using e1
        go_enter Try.func44, Try.ntmps44
        go_wp2_with fail
        refine wp_loop_rounds 3 ?_
        rw [rounds_succ]
        go_wp2_with fail
        go_quiet (fail)
        go_wp2_with fail
        rw [rounds_succ]
        go_wp2_with fail
        go_quiet (fail)
        go_wp2_with fail
        rw [rounds_succ]
        go_wp2_with fail
        go_quiet (fail)
        go_wp2_with fail
        go_quiet (fail)
        go_wp2_with fail
        go_ret
        exact ⟨rfl, (by repeat' (first | with_reducible exact Below.refl _ _ | with_reducible assumption | ((with_reducible refine Below.drew ?_)) | ((with_reducible refine below_drewN ?_ _)) | ((with_reducible refine Below.alloc ?_ ?_ _); rotate_left; focus (first | omega | (simp; done) | (simp; omega))) | ((with_reducible refine Below.setCell ?_ ?_ _); rotate_left; focus (first | omega | (simp; done) | (simp; omega))) | ((with_reducible refine Below.trans ?_ (Below.mono (by with_reducible assumption) ?_)); rotate_left; focus (first | omega | (simp; done) | (simp; omega)))))⟩
    · have e : decide (num4 x0 x1 x2 x3 < num4 y0 y1 y2 x3) = decide (x2 < y2) := by unfold num4; rw [decide_eq_decide]; omega
      rw [e]
      clear e
      have e' : (x2 == y2) = false := by simpa using e2
      go_enter Try.func44, Try.ntmps44
      go_wp2_with fail
      refine wp_loop_rounds 2 ?_
      rw [rounds_succ]
      go_wp2_with fail
      go_quiet (fail)
      go_wp2_with fail
      rw [rounds_succ]
      go_wp2_with fail
      go_quiet (fail)
      go_wp2_with fail
      go_quiet (fail)
      go_wp2_with fail
      go_ret
      exact ⟨rfl, (by repeat' (first | with_reducible exact Below.refl _ _ | with_reducible assumption | ((with_reducible refine Below.drew ?_)) | ((with_reducible refine below_drewN ?_ _)) | ((with_reducible refine Below.alloc ?_ ?_ _); rotate_left; focus (first | omega | (simp; done) | (simp; omega))) | ((with_reducible refine Below.setCell ?_ ?_ _); rotate_left; focus (first | omega | (simp; done) | (simp; omega))) | ((with_reducible refine Below.trans ?_ (Below.mono (by with_reducible assumption) ?_)); rotate_left; focus (first | omega | (simp; done) | (simp; omega)))))⟩
  · have e : decide (num4 x0 x1 x2 x3 < num4 y0 y1 y2 y3) = decide (x3 < y3) := by unfold num4; rw [decide_eq_decide]; omega
    rw [e]
    clear e
    have e' : (x3 == y3) = false := by simpa using e3
    go_enter Try.func44, Try.ntmps44
    go_wp2_with fail
    refine wp_loop_rounds 1 ?_
    rw [rounds_succ]
    go_wp2_with fail
    go_quiet (fail)
    go_wp2_with fail
    go_quiet (fail)
    go_wp2_with fail
    go_ret
    exact ⟨rfl, (by repeat' (first | with_reducible exact Below.refl _ _ | with_reducible assumption | ((with_reducible refine Below.drew ?_)) | ((with_reducible refine below_drewN ?_ _)) | ((with_reducible refine Below.alloc ?_ ?_ _); rotate_left; focus (first | omega | (simp; done) | (simp; omega))) | ((with_reducible refine Below.setCell ?_ ?_ _); rotate_left; focus (first | omega | (simp; done) | (simp; omega))) | ((with_reducible refine Below.trans ?_ (Below.mono (by with_reducible assumption) ?_)); rotate_left; focus (first | omega | (simp; done) | (simp; omega)))))⟩
end Go.Proofs.Ytjicnbdlffpbbaa
