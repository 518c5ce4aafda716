import Derived.Test.YtjicnbdlffpbbaaRef1
namespace Go.Proofs.Ytjicnbdlffpbbaa
set_option linter.unusedVariables false
set_option linter.unusedSimpArgs false
set_option maxRecDepth 100000
open Go.RowKit Fg Reg

theorem refplus_c (x0 x1 x2 x3 y0 y1 y2 y3 : Int) (h0 : Dg x0) (h1 : Dg x1) (h2 : Dg x2) (h3 : Dg x3) (g0 : Dg y0) (g1 : Dg y1) (g2 : Dg y2) (g3 : Dg y3) (w : World) : Calls Try.prog 41 #[.agg #[.int .u64 x0, .int .u64 x1, .int .u64 x2, .int .u64 x3], .agg #[.int .u64 y0, .int .u64 y1, .int .u64 y2, .int .u64 y3]] w fun e w' => e = .returned (.agg #[.int .u64 (d0 (num4 x0 x1 x2 x3 + num4 y0 y1 y2 y3)), .int .u64 (d1 (num4 x0 x1 x2 x3 + num4 y0 y1 y2 y3)), .int .u64 (d2 (num4 x0 x1 x2 x3 + num4 y0 y1 y2 y3)), .int .u64 (d3 (num4 x0 x1 x2 x3 + num4 y0 y1 y2 y3))]) ∧ Below w.heap.size w w' := by
  go_enter Try.func41, Try.ntmps41
  go_wp2_with (go_at_call 82; refine (refadd_c _ _ _ _ _ _ _ _ h0 h1 h2 h3 g0 g1 g2 g3 _).mono ?_; rintro e w' ⟨rfl, hbel⟩; obtain ⟨hcc, hff⟩ := bcell hbel; have hsz := hbel.size; (try simp at hsz); have hF : (w'.cell? ⟨w.heap.size + 1 + 1, 0, none⟩ = some (.int .u64 0) ∧ w'.cell? ⟨w.heap.size + 1 + 1, 1, none⟩ = some (.int .u64 0) ∧ w'.cell? ⟨w.heap.size + 1 + 1, 2, none⟩ = some (.int .u64 0) ∧ w'.cell? ⟨w.heap.size + 1 + 1, 3, none⟩ = some (.int .u64 0) ∧ w'.frozen? ⟨w.heap.size + 1 + 1, 0, none⟩ = false ∧ w'.frozen? ⟨w.heap.size + 1 + 1, 1, none⟩ = false ∧ w'.frozen? ⟨w.heap.size + 1 + 1, 2, none⟩ = false ∧ w'.frozen? ⟨w.heap.size + 1 + 1, 3, none⟩ = false ∧ w.heap.size + 1 + 1 < w'.heap.size) := (by ((repeat' apply And.intro) <;> first | (simp [go_sem, *]; done) | omega | (repeat' (first | with_reducible exact Below.refl _ _ | with_reducible assumption | ((with_reducible refine Below.drew ?_)) | ((with_reducible refine below_drewN ?_ _)) | ((with_reducible refine Below.alloc ?_ ?_ _); rotate_left; focus (first | omega | (simp; done) | (simp; omega))) | ((with_reducible refine Below.setCell ?_ ?_ _); rotate_left; focus (first | omega | (simp; done) | (simp; omega))) | ((with_reducible refine Below.trans ?_ (Below.mono (by with_reducible assumption) ?_)); rotate_left; focus (first | omega | (simp; done) | (simp; omega))))))); go_split_ands)
  refine bodyPost_ret (v := .agg #[.int .u64 (d0 (num4 x0 x1 x2 x3 + num4 y0 y1 y2 y3)), .int .u64 (d1 (num4 x0 x1 x2 x3 + num4 y0 y1 y2 y3)), .int .u64 (d2 (num4 x0 x1 x2 x3 + num4 y0 y1 y2 y3)), .int .u64 (d3 (num4 x0 x1 x2 x3 + num4 y0 y1 y2 y3))]) ?_ rfl ⟨rfl, (by repeat' (first | with_reducible exact Below.refl _ _ | with_reducible assumption | ((with_reducible refine Below.drew ?_)) | ((with_reducible refine below_drewN ?_ _)) | ((with_reducible refine Below.alloc ?_ ?_ _); rotate_left; focus (first | omega | (simp; done) | (simp; omega))) | ((with_reducible refine Below.setCell ?_ ?_ _); rotate_left; focus (first | omega | (simp; done) | (simp; omega))) | ((with_reducible refine Below.trans ?_ (Below.mono (by with_reducible assumption) ?_)); rotate_left; focus (first | omega | (simp; done) | (simp; omega)))))⟩
  simp [results, Try.results41, go_sem, *]

set_option maxHeartbeats 1000000 in
theorem refminus_c (x0 x1 x2 x3 y0 y1 y2 y3 : Int) (h0 : Dg x0) (h1 : Dg x1) (h2 : Dg x2) (h3 : Dg x3) (g0 : Dg y0) (g1 : Dg y1) (g2 : Dg y2) (g3 : Dg y3) (w : World) : Calls Try.prog 92 #[.agg #[.int .u64 x0, .int .u64 x1, .int .u64 x2, .int .u64 x3], .agg #[.int .u64 y0, .int .u64 y1, .int .u64 y2, .int .u64 y3]] w fun e w' => e = .returned (.agg #[.int .u64 (d0 (num4 x0 x1 x2 x3 - num4 y0 y1 y2 y3)), .int .u64 (d1 (num4 x0 x1 x2 x3 - num4 y0 y1 y2 y3)), .int .u64 (d2 (num4 x0 x1 x2 x3 - num4 y0 y1 y2 y3)), .int .u64 (d3 (num4 x0 x1 x2 x3 - num4 y0 y1 y2 y3))]) ∧ Below w.heap.size w w' := by
  unfold Dg at *
  go_enter Try.func92, Try.ntmps92
  go_wp2_with fail
  refine wp_loop_rounds 5 ?_
  iterate 4
    rw [rounds_succ]
    go_wp2_with fail
    go_quiet (fail)
    go_wp2_with fail
  rw [rounds_succ]
  go_wp2
  refine bodyPost_ret (v := .agg #[.int .u64 (d0 (num4 x0 x1 x2 x3 - num4 y0 y1 y2 y3)), .int .u64 (d1 (num4 x0 x1 x2 x3 - num4 y0 y1 y2 y3)), .int .u64 (d2 (num4 x0 x1 x2 x3 - num4 y0 y1 y2 y3)), .int .u64 (d3 (num4 x0 x1 x2 x3 - num4 y0 y1 y2 y3))]) ?_ rfl ⟨rfl, (by repeat' (first | with_reducible exact Below.refl _ _ | with_reducible assumption | ((with_reducible refine Below.drew ?_)) | ((with_reducible refine below_drewN ?_ _)) | ((with_reducible refine Below.alloc ?_ ?_ _); rotate_left; focus (first | omega | (simp; done) | (simp; omega))) | ((with_reducible refine Below.setCell ?_ ?_ _); rotate_left; focus (first | omega | (simp; done) | (simp; omega))) | ((with_reducible refine Below.trans ?_ (Below.mono (by with_reducible assumption) ?_)); rotate_left; focus (first | omega | (simp; done) | (simp; omega)))))⟩
  simp [results, Try.results92, go_sem]
  unfold d0 d1 d2 d3 num4
  omega
end Go.Proofs.Ytjicnbdlffpbbaa
