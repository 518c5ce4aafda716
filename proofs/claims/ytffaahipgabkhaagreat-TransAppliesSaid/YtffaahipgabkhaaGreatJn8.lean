/- Joined texts. -/
import Derived.Test.YtffaahipgabkhaaGreatJn0
import Derived.Test.YtffaahipgabkhaaGreatJn1
import Derived.Test.YtffaahipgabkhaaGreatJn2
set_option linter.unusedVariables false
set_option linter.unusedSimpArgs false
set_option maxRecDepth 100000
set_option maxHeartbeats 16000000
section
namespace Go.Proofs.YtffaahipgabkhaaGreat
open Go.RowKit Fg Reg
end Go.Proofs.YtffaahipgabkhaaGreat
namespace Go.Proofs.YtffaahipgabkhaaGreat
open Go.RowKit Fg Reg
theorem refof_c (x : Int) (hx : In x) (w : World) : Calls Tryz.prog 122 #[.int .u64 x] w fun e w' => e = .returned (.agg #[.int .u64 (d0 x), .int .u64 (d1 x), .int .u64 (d2 x), .int .u64 (d3 x)]) ∧ Below w.heap.size w w' := by
 have b1 : 0 ≤ x ∧ x ≤ 18446744073709551615 := hx
 go_enter Tryz.func122, Tryz.ntmps122
 go_wp2
 refine bodyPost_ret (v := .agg #[.int .u64 (d0 x), .int .u64 (d1 x), .int .u64 (d2 x), .int .u64 (d3 x)]) ?_ rfl ⟨rfl, blb⟩
 simp [results, Tryz.results122, go_sem]
 unfold d0 d1 d2 d3
 omega
theorem reftwo_c (a b : Int) (ha : In a) (hb : In b) (w : World) : Calls Tryz.prog 134 #[.int .u64 a, .int .u64 b] w fun e w' => e = .returned (.agg #[.int .u64 (d0 (val a b)), .int .u64 (d1 (val a b)), .int .u64 (d2 (val a b)), .int .u64 (d3 (val a b))]) ∧ Below w.heap.size w w' := by
 have b1 : 0 ≤ a ∧ a ≤ 18446744073709551615 := ha
 have b2 : 0 ≤ b ∧ b ≤ 18446744073709551615 := hb
 go_enter Tryz.func134, Tryz.ntmps134
 go_wp2
 refine bodyPost_ret (v := .agg #[.int .u64 (d0 (val a b)), .int .u64 (d1 (val a b)), .int .u64 (d2 (val a b)), .int .u64 (d3 (val a b))]) ?_ rfl ⟨rfl, blb⟩
 simp [results, Tryz.results134, go_sem]
 unfold d0 d1 d2 d3 val
 omega
theorem refhi_c (x : Int) (w : World) : Calls Tryz.prog 133 #[.agg #[.int .u64 (d0 x), .int .u64 (d1 x), .int .u64 (d2 x), .int .u64 (d3 x)]] w fun e w' => e = .returned (.int .u64 (hi x)) ∧ Below w.heap.size w w' := by
 have b1 := d2_in x
 have b2 := d3_in x
 go_enter Tryz.func133, Tryz.ntmps133
 go_wp2
 go_ret
 refine ⟨ret_int ?_, blb⟩
 unfold d2 d3 hi; omega
theorem reflo_c (x : Int) (w : World) : Calls Tryz.prog 132 #[.agg #[.int .u64 (d0 x), .int .u64 (d1 x), .int .u64 (d2 x), .int .u64 (d3 x)]] w fun e w' => e = .returned (.int .u64 (lo x)) ∧ Below w.heap.size w w' := by
 have b1 := d0_in x
 have b2 := d1_in x
 go_enter Tryz.func132, Tryz.ntmps132
 go_wp2
 go_ret
 refine ⟨ret_int ?_, blb⟩
 unfold d0 d1 lo; omega
theorem refadd_c (x0 x1 x2 x3 y0 y1 y2 y3 : Int) (h0 : Dg x0) (h1 : Dg x1) (h2 : Dg x2) (h3 : Dg x3) (g0 : Dg y0) (g1 : Dg y1) (g2 : Dg y2) (g3 : Dg y3) (w : World) : Calls Tryz.prog 135 #[.agg #[.int .u64 x0, .int .u64 x1, .int .u64 x2, .int .u64 x3], .agg #[.int .u64 y0, .int .u64 y1, .int .u64 y2, .int .u64 y3]] w fun e w' =>
  e = .returned (.tuple #[.agg #[.int .u64 (d0 (num4 x0 x1 x2 x3 + num4 y0 y1 y2 y3)), .int .u64 (d1 (num4 x0 x1 x2 x3 + num4 y0 y1 y2 y3)), .int .u64 (d2 (num4 x0 x1 x2 x3 + num4 y0 y1 y2 y3)), .int .u64 (d3 (num4 x0 x1 x2 x3 + num4 y0 y1 y2 y3))], .int .u64 ((num4 x0 x1 x2 x3 + num4 y0 y1 y2 y3) / 340282366920938463463374607431768211456)]) ∧ Below w.heap.size w w' := by
 unfold Dg at *
 go_enter Tryz.func135, Tryz.ntmps135
 go_wp2_with fail
 refine wp_loop_rounds 5 ?_
 iterate 4
  rw [rounds_succ]
  go_wp2_with fail
  go_quiet (fail)
  go_wp2_with fail
 rw [rounds_succ]
 go_wp2
 refine bodyPost_ret (v := .tuple #[.agg #[.int .u64 (d0 (num4 x0 x1 x2 x3 + num4 y0 y1 y2 y3)), .int .u64 (d1 (num4 x0 x1 x2 x3 + num4 y0 y1 y2 y3)), .int .u64 (d2 (num4 x0 x1 x2 x3 + num4 y0 y1 y2 y3)), .int .u64 (d3 (num4 x0 x1 x2 x3 + num4 y0 y1 y2 y3))], .int .u64 ((num4 x0 x1 x2 x3 + num4 y0 y1 y2 y3) / 340282366920938463463374607431768211456)]) ?_ rfl ⟨rfl, blb⟩
 simp [results, Tryz.results135, go_sem]
 unfold d0 d1 d2 d3 num4
 omega
theorem refless_c (x0 x1 x2 x3 y0 y1 y2 y3 : Int) (h0 : Dg x0) (h1 : Dg x1) (h2 : Dg x2) (h3 : Dg x3) (g0 : Dg y0) (g1 : Dg y1) (g2 : Dg y2) (g3 : Dg y3) (w : World) : Calls Tryz.prog 117 #[.agg #[.int .u64 x0, .int .u64 x1, .int .u64 x2, .int .u64 x3], .agg #[.int .u64 y0, .int .u64 y1, .int .u64 y2, .int .u64 y3]] w fun e w' => e = .returned (.bool (decide (num4 x0 x1 x2 x3 < num4 y0 y1 y2 y3))) ∧ Below w.heap.size w w' := by
 unfold Dg at *
 by_cases e3 : x3 = y3
 ·subst e3
  by_cases e2 : x2 = y2
  ·subst e2
   by_cases e1 : x1 = y1
   ·subst e1
    by_cases e0 : x0 = y0
    ·subst e0
     have e : decide (num4 x0 x1 x2 x3 < num4 x0 x1 x2 x3) = false := by simp
     rw [e]
     clear e
     go_enter Tryz.func117, Tryz.ntmps117
     go_wp2_with fail
     refine wp_loop_rounds 5 ?_
     rw [rounds_succ]
     go_wp2_with fail
     go_quiet (fail)
     go_wp2_with fail
     rw [rounds_succ]
     go_wp2_with fail
     go_quiet (fail)
     go_wp2_with fail
     rw [rounds_succ]
     go_wp2_with fail
     go_quiet (fail)
     go_wp2_with fail
     rw [rounds_succ]
     go_wp2_with fail
     go_quiet (fail)
     go_wp2_with fail
     rw [rounds_succ]
     go_wp2_with fail
     go_ret
     exact ⟨rfl, blb⟩
    ·have e : decide (num4 x0 x1 x2 x3 < num4 y0 x1 x2 x3) = decide (x0 < y0) := by unfold num4; rw [decide_eq_decide]; omega
     rw [e]
     clear e
     have e' : (x0 == y0) = false := by simpa using e0
     go_enter Tryz.func117, Tryz.ntmps117
     go_wp2_with fail
     refine wp_loop_rounds 4 ?_
     rw [rounds_succ]
     go_wp2_with fail
     go_quiet (fail)
     go_wp2_with fail
     rw [rounds_succ]
     go_wp2_with fail
     go_quiet (fail)
     go_wp2_with fail
     rw [rounds_succ]
     go_wp2_with fail
     go_quiet (fail)
     go_wp2_with fail
     rw [rounds_succ]
     go_wp2_with fail
     go_quiet (fail)
     go_wp2_with fail
     go_quiet (fail)
     go_wp2_with fail
     go_ret
     exact ⟨rfl, blb⟩
   ·have e : decide (num4 x0 x1 x2 x3 < num4 y0 y1 x2 x3) = decide (x1 < y1) := by unfold num4; rw [decide_eq_decide]; omega
    rw [e]
    clear e
    have e' : (x1 == y1) = false := by simpa using e1
    go_enter Tryz.func117, Tryz.ntmps117
    go_wp2_with fail
    refine wp_loop_rounds 3 ?_
    rw [rounds_succ]
    go_wp2_with fail
    go_quiet (fail)
    go_wp2_with fail
    rw [rounds_succ]
    go_wp2_with fail
    go_quiet (fail)
    go_wp2_with fail
    rw [rounds_succ]
    go_wp2_with fail
    go_quiet (fail)
    go_wp2_with fail
    go_quiet (fail)
    go_wp2_with fail
    go_ret
    exact ⟨rfl, blb⟩
  ·have e : decide (num4 x0 x1 x2 x3 < num4 y0 y1 y2 x3) = decide (x2 < y2) := by unfold num4; rw [decide_eq_decide]; omega
   rw [e]
   clear e
   have e' : (x2 == y2) = false := by simpa using e2
   go_enter Tryz.func117, Tryz.ntmps117
   go_wp2_with fail
   refine wp_loop_rounds 2 ?_
   rw [rounds_succ]
   go_wp2_with fail
   go_quiet (fail)
   go_wp2_with fail
   rw [rounds_succ]
   go_wp2_with fail
   go_quiet (fail)
   go_wp2_with fail
   go_quiet (fail)
   go_wp2_with fail
   go_ret
   exact ⟨rfl, blb⟩
 ·have e : decide (num4 x0 x1 x2 x3 < num4 y0 y1 y2 y3) = decide (x3 < y3) := by unfold num4; rw [decide_eq_decide]; omega
  rw [e]
  clear e
  have e' : (x3 == y3) = false := by simpa using e3
  go_enter Tryz.func117, Tryz.ntmps117
  go_wp2_with fail
  refine wp_loop_rounds 1 ?_
  rw [rounds_succ]
  go_wp2_with fail
  go_quiet (fail)
  go_wp2_with fail
  go_quiet (fail)
  go_wp2_with fail
  go_ret
  exact ⟨rfl, blb⟩
end Go.Proofs.YtffaahipgabkhaaGreat
namespace Go.Proofs.YtffaahipgabkhaaGreat
open Go.RowKit Fg Reg
theorem refplus_c (x0 x1 x2 x3 y0 y1 y2 y3 : Int) (h0 : Dg x0) (h1 : Dg x1) (h2 : Dg x2) (h3 : Dg x3) (g0 : Dg y0) (g1 : Dg y1) (g2 : Dg y2) (g3 : Dg y3) (w : World) : Calls Tryz.prog 120 #[.agg #[.int .u64 x0, .int .u64 x1, .int .u64 x2, .int .u64 x3], .agg #[.int .u64 y0, .int .u64 y1, .int .u64 y2, .int .u64 y3]] w fun e w' => e = .returned (.agg #[.int .u64 (d0 (num4 x0 x1 x2 x3 + num4 y0 y1 y2 y3)), .int .u64 (d1 (num4 x0 x1 x2 x3 + num4 y0 y1 y2 y3)), .int .u64 (d2 (num4 x0 x1 x2 x3 + num4 y0 y1 y2 y3)), .int .u64 (d3 (num4 x0 x1 x2 x3 + num4 y0 y1 y2 y3))]) ∧ Below w.heap.size w w' := by
 go_enter Tryz.func120, Tryz.ntmps120
 go_wp2_with (go_at_call 135; refine (refadd_c _ _ _ _ _ _ _ _ h0 h1 h2 h3 g0 g1 g2 g3 _).mono ?_; rintro e w' ⟨rfl, hbel⟩; obtain ⟨hcc, hff⟩ := bcell hbel; have hsz := hbel.size; (try simp at hsz); have hF : (w'.cell? ⟨w.heap.size + 1 + 1, 0, none⟩ = some (.int .u64 0) ∧ w'.cell? ⟨w.heap.size + 1 + 1, 1, none⟩ = some (.int .u64 0) ∧ w'.cell? ⟨w.heap.size + 1 + 1, 2, none⟩ = some (.int .u64 0) ∧ w'.cell? ⟨w.heap.size + 1 + 1, 3, none⟩ = some (.int .u64 0) ∧ w'.frozen? ⟨w.heap.size + 1 + 1, 0, none⟩ = false ∧ w'.frozen? ⟨w.heap.size + 1 + 1, 1, none⟩ = false ∧ w'.frozen? ⟨w.heap.size + 1 + 1, 2, none⟩ = false ∧ w'.frozen? ⟨w.heap.size + 1 + 1, 3, none⟩ = false ∧ w.heap.size + 1 + 1 < w'.heap.size) := (by exact kpb); go_split_ands)
 refine bodyPost_ret (v := .agg #[.int .u64 (d0 (num4 x0 x1 x2 x3 + num4 y0 y1 y2 y3)), .int .u64 (d1 (num4 x0 x1 x2 x3 + num4 y0 y1 y2 y3)), .int .u64 (d2 (num4 x0 x1 x2 x3 + num4 y0 y1 y2 y3)), .int .u64 (d3 (num4 x0 x1 x2 x3 + num4 y0 y1 y2 y3))]) ?_ rfl ⟨rfl, blb⟩
 simp [results, Tryz.results120, go_sem, *]
end Go.Proofs.YtffaahipgabkhaaGreat
namespace Go.Proofs.YtffaahipgabkhaaGreat
open Go.RowKit Fg Reg
theorem refplus_d (x y : Int) (hx : Wd x) (hy : Wd y) (w : World) : Calls Tryz.prog 120 #[.agg #[.int .u64 (d0 x), .int .u64 (d1 x), .int .u64 (d2 x), .int .u64 (d3 x)], .agg #[.int .u64 (d0 y), .int .u64 (d1 y), .int .u64 (d2 y), .int .u64 (d3 y)]] w fun e w' => e = .returned (.agg #[.int .u64 (d0 (x + y)), .int .u64 (d1 (x + y)), .int .u64 (d2 (x + y)), .int .u64 (d3 (x + y))]) ∧ Below w.heap.size w w' := by
 have h := refplus_c (d0 x) (d1 x) (d2 x) (d3 x) (d0 y) (d1 y) (d2 y) (d3 y) (d0_in x) (d1_in x) (d2_in x) (d3_in x) (d0_in y) (d1_in y) (d2_in y) (d3_in y) w
 rwa [num4_wd hx, num4_wd hy] at h
theorem refless_d (x y : Int) (hx : Wd x) (hy : Wd y) (w : World) : Calls Tryz.prog 117 #[.agg #[.int .u64 (d0 x), .int .u64 (d1 x), .int .u64 (d2 x), .int .u64 (d3 x)], .agg #[.int .u64 (d0 y), .int .u64 (d1 y), .int .u64 (d2 y), .int .u64 (d3 y)]] w fun e w' => e = .returned (.bool (decide (x < y))) ∧ Below w.heap.size w w' := by
 have h := refless_c (d0 x) (d1 x) (d2 x) (d3 x) (d0 y) (d1 y) (d2 y) (d3 y) (d0_in x) (d1_in x) (d2_in x) (d3_in x) (d0_in y) (d1_in y) (d2_in y) (d3_in y) w
 rwa [num4_wd hx, num4_wd hy] at h
end Go.Proofs.YtffaahipgabkhaaGreat
namespace Go.Proofs.YtffaahipgabkhaaGreat
open Go.RowKit Fg Reg
end Go.Proofs.YtffaahipgabkhaaGreat
namespace Go.Proofs.YtffaahipgabkhaaGreat
open Go.RowKit Fg Reg
end Go.Proofs.YtffaahipgabkhaaGreat
namespace Go.Proofs.YtffaahipgabkhaaGreat
open Go.RowKit Fg Reg
theorem low_hi {a : Int} (ha : In a) : d1 a = a / 4294967296 ∧ d2 a = 0 ∧ d3 a = 0 := by unfold In at ha; unfold d1 d2 d3; omega
set_option maxRecDepth 100000 in
theorem refmul_c (a b : Int) (ha : In a) (hb : In b) (w : World) : Calls Tryz.prog 118 #[.int .u64 a, .int .u64 b] w fun e w' => e = .returned (.agg #[.int .u64 (d0 (a * b)), .int .u64 (d1 (a * b)), .int .u64 (d2 (a * b)), .int .u64 (d3 (a * b))]) ∧ Below w.heap.size w w' := by
 go_enter Tryz.func118, Tryz.ntmps118
 go_wp2_with (first
  | (go_at_call_of 122 (Value.int IntKind.u64 a); refine (refof_c a ha _).mono ?_; rintro e wA ⟨rfl, hbelA⟩; obtain ⟨hccA, hffA⟩ := bcell hbelA; have hszA := hbelA.size; (try simp at hszA); have hF : (wA.cell? ⟨w.heap.size, 0, none⟩ = some (.int .u64 0) ∧ wA.cell? ⟨w.heap.size, 1, none⟩ = some (.int .u64 0) ∧ wA.cell? ⟨w.heap.size, 2, none⟩ = some (.int .u64 0) ∧ wA.cell? ⟨w.heap.size, 3, none⟩ = some (.int .u64 0) ∧ wA.frozen? ⟨w.heap.size, 0, none⟩ = false ∧ wA.frozen? ⟨w.heap.size, 1, none⟩ = false ∧ wA.frozen? ⟨w.heap.size, 2, none⟩ = false ∧ wA.frozen? ⟨w.heap.size, 3, none⟩ = false ∧ w.heap.size < wA.heap.size) := (by exact kpb); go_split_ands)
  | (go_at_call_of 122 (Value.int IntKind.u64 b); refine (refof_c b hb _).mono ?_; rintro e wB ⟨rfl, hbelB⟩; obtain ⟨hccB, hffB⟩ := bcell hbelB; have hszB := hbelB.size; (try simp at hszB); have n3 : w.heap.size < wB.heap.size := (by omega); have n2 : wA.heap.size < wB.heap.size := (by omega); have hF : (wB.cell? ⟨w.heap.size, 0, none⟩ = some (.int .u64 0) ∧ wB.cell? ⟨w.heap.size, 1, none⟩ = some (.int .u64 0) ∧ wB.cell? ⟨w.heap.size, 2, none⟩ = some (.int .u64 0) ∧ wB.cell? ⟨w.heap.size, 3, none⟩ = some (.int .u64 0) ∧ wB.frozen? ⟨w.heap.size, 0, none⟩ = false ∧ wB.frozen? ⟨w.heap.size, 1, none⟩ = false ∧ wB.frozen? ⟨w.heap.size, 2, none⟩ = false ∧ wB.frozen? ⟨w.heap.size, 3, none⟩ = false ∧ w.heap.size < wB.heap.size) ∧ (wB.cell? ⟨wA.heap.size, 0, none⟩ = some (.int .u64 (d0 a)) ∧ wB.cell? ⟨wA.heap.size, 1, none⟩ = some (.int .u64 (d1 a)) ∧ wB.cell? ⟨wA.heap.size, 2, none⟩ = some (.int .u64 (d2 a)) ∧ wB.cell? ⟨wA.heap.size, 3, none⟩ = some (.int .u64 (d3 a)) ∧ wA.heap.size < wB.heap.size) := (by exact kpb); go_split_ands))
 go_loopw [17] (fun i wr => ∃ k : Nat, k ≤ 2 ∧ i = .int .i64 k ∧ (wr.cell? ⟨w.heap.size, 0, none⟩ = some (.int .u64 0) ∧ wr.cell? ⟨w.heap.size, 1, none⟩ = some (.int .u64 0) ∧ wr.cell? ⟨w.heap.size, 2, none⟩ = some (.int .u64 0) ∧ wr.cell? ⟨w.heap.size, 3, none⟩ = some (.int .u64 0) ∧ wr.frozen? ⟨w.heap.size, 0, none⟩ = false ∧ wr.frozen? ⟨w.heap.size, 1, none⟩ = false ∧ wr.frozen? ⟨w.heap.size, 2, none⟩ = false ∧ wr.frozen? ⟨w.heap.size, 3, none⟩ = false ∧ w.heap.size < wr.heap.size) ∧ (wr.cell? ⟨wA.heap.size, 0, none⟩ = some (.int .u64 (d0 a)) ∧ wr.cell? ⟨wA.heap.size, 1, none⟩ = some (.int .u64 (d1 a)) ∧ wr.cell? ⟨wA.heap.size, 2, none⟩ = some (.int .u64 (d2 a)) ∧ wr.cell? ⟨wA.heap.size, 3, none⟩ = some (.int .u64 (d3 a)) ∧ wA.heap.size < wr.heap.size) ∧ (wr.cell? ⟨wB.heap.size, 0, none⟩ = some (.int .u64 (d0 b)) ∧ wr.cell? ⟨wB.heap.size, 1, none⟩ = some (.int .u64 (d1 b)) ∧ wr.cell? ⟨wB.heap.size, 2, none⟩ = some (.int .u64 (d2 b)) ∧ wr.cell? ⟨wB.heap.size, 3, none⟩ = some (.int .u64 (d3 b)) ∧ wB.heap.size < wr.heap.size) ∧ (wr.cell? ⟨wB.heap.size + 1, 0, none⟩ = some (.int .u64 (d0 (mpart a b (2 * k)))) ∧ wr.cell? ⟨wB.heap.size + 1, 1, none⟩ = some (.int .u64 (d1 (mpart a b (2 * k)))) ∧ wr.cell? ⟨wB.heap.size + 1, 2, none⟩ = some (.int .u64 (d2 (mpart a b (2 * k)))) ∧ wr.cell? ⟨wB.heap.size + 1, 3, none⟩ = some (.int .u64 (d3 (mpart a b (2 * k)))) ∧ wr.frozen? ⟨wB.heap.size + 1, 0, none⟩ = false ∧ wr.frozen? ⟨wB.heap.size + 1, 1, none⟩ = false ∧ wr.frozen? ⟨wB.heap.size + 1, 2, none⟩ = false ∧ wr.frozen? ⟨wB.heap.size + 1, 3, none⟩ = false ∧ wB.heap.size + 1 < wr.heap.size) ∧ Below w.heap.size w wr) (fun i _ => 2 - (intOf i).toNat)
 case atStart =>
  have z0 : d0 (mpart a b 0) = 0 := rfl
  have z1 : d1 (mpart a b 0) = 0 := rfl
  have z2 : d2 (mpart a b 0) = 0 := rfl
  have z3 : d3 (mpart a b 0) = 0 := rfl
  refine ⟨0, by omega, rfl, ?_⟩
  simp only [Nat.mul_zero, z0, z1, z2, z3]
  exact kpb
 case round =>
  obtain ⟨k, hk, rfl, h1, h2, h3, h4, h5⟩ := hrel
  obtain ⟨wo, rfl⟩ : ∃ wo : World, wo = wr := ⟨_, rfl⟩
  rcases (by omega : k = 0 ∨ k = 1 ∨ k = 2) with rfl | rfl | rfl
  ·(rw [show ((0 : Nat) : Int) = 0 from rfl])
   go_wp2_with fail
   go_loopw [20] (fun i wr => ∃ k : Nat, k ≤ 2 ∧ i = .int .i64 k ∧ (wr.cell? ⟨w.heap.size, 0, none⟩ = some (.int .u64 0) ∧ wr.cell? ⟨w.heap.size, 1, none⟩ = some (.int .u64 0) ∧ wr.cell? ⟨w.heap.size, 2, none⟩ = some (.int .u64 0) ∧ wr.cell? ⟨w.heap.size, 3, none⟩ = some (.int .u64 0) ∧ wr.frozen? ⟨w.heap.size, 0, none⟩ = false ∧ wr.frozen? ⟨w.heap.size, 1, none⟩ = false ∧ wr.frozen? ⟨w.heap.size, 2, none⟩ = false ∧ wr.frozen? ⟨w.heap.size, 3, none⟩ = false ∧ w.heap.size < wr.heap.size) ∧ (wr.cell? ⟨wA.heap.size, 0, none⟩ = some (.int .u64 (d0 a)) ∧ wr.cell? ⟨wA.heap.size, 1, none⟩ = some (.int .u64 (d1 a)) ∧ wr.cell? ⟨wA.heap.size, 2, none⟩ = some (.int .u64 (d2 a)) ∧ wr.cell? ⟨wA.heap.size, 3, none⟩ = some (.int .u64 (d3 a)) ∧ wA.heap.size < wr.heap.size) ∧ (wr.cell? ⟨wB.heap.size, 0, none⟩ = some (.int .u64 (d0 b)) ∧ wr.cell? ⟨wB.heap.size, 1, none⟩ = some (.int .u64 (d1 b)) ∧ wr.cell? ⟨wB.heap.size, 2, none⟩ = some (.int .u64 (d2 b)) ∧ wr.cell? ⟨wB.heap.size, 3, none⟩ = some (.int .u64 (d3 b)) ∧ wB.heap.size < wr.heap.size) ∧ (wr.cell? ⟨wB.heap.size + 1, 0, none⟩ = some (.int .u64 (d0 (mpart a b (0 + k)))) ∧ wr.cell? ⟨wB.heap.size + 1, 1, none⟩ = some (.int .u64 (d1 (mpart a b (0 + k)))) ∧ wr.cell? ⟨wB.heap.size + 1, 2, none⟩ = some (.int .u64 (d2 (mpart a b (0 + k)))) ∧ wr.cell? ⟨wB.heap.size + 1, 3, none⟩ = some (.int .u64 (d3 (mpart a b (0 + k)))) ∧ wr.frozen? ⟨wB.heap.size + 1, 0, none⟩ = false ∧ wr.frozen? ⟨wB.heap.size + 1, 1, none⟩ = false ∧ wr.frozen? ⟨wB.heap.size + 1, 2, none⟩ = false ∧ wr.frozen? ⟨wB.heap.size + 1, 3, none⟩ = false ∧ wB.heap.size + 1 < wr.heap.size) ∧ Below w.heap.size w wr) (fun i _ => 2 - (intOf i).toNat)
   case atStart => exact ⟨0, by omega, rfl, h1, h2, h3, h4, h5⟩
   case round =>
    clear h1 h2 h3 h4 h5
    obtain ⟨k, hk, rfl, h1, h2, h3, h4, h5⟩ := hrel
    obtain ⟨wo, rfl⟩ : ∃ wo : World, wo = wr := ⟨_, rfl⟩
    rcases (by omega : k = 0 ∨ k = 1 ∨ k = 2) with rfl | rfl | rfl
    ·have g1 := mpart_in ha hb 0
     have g1' : Wd (mpart a b 0) := g1
     have e2 := half_mul (d0_in a) (d0_in b)
     obtain ⟨p, hp⟩ : ∃ p, p = d0 a * d0 b := ⟨_, rfl⟩
     rw [← hp] at e2
     have y0 : Dg (p % 4294967296) := by unfold Dg; omega
     have y1 : Dg (p / 4294967296) := by unfold Dg; omega
     have yz : Dg 0 := by unfold Dg; omega
     have ac : num4 (d0 (mpart a b 0)) (d1 (mpart a b 0)) (d2 (mpart a b 0)) (d3 (mpart a b 0)) + num4 (p % 4294967296) (p / 4294967296) 0 0 = mpart a b 1 := by
      rw [num4_wd g1']
      have e3 : mpart a b 1 = mpart a b 0 + p * 1 := by
       rw [hp]
       have l1 := low_hi ha
       have l2 := low_hi hb
       simp only [mpart, l1.1, l2.1, d0]
       try omega
      rw [e3]; unfold num4; omega
     have Hac := Lib.hid ac; clear ac g1 g1'
     have Hp := Lib.hid hp; clear hp
     rw [show ((0 : Nat) : Int) = 0 from rfl]
     have ew : IntKind.u64.wrap (d0 a * d0 b) = p := by rw [← Hp.out, wrap_u64]; omega
     go_wp2_with fail
     obtain ⟨Cl, HCl⟩ := zH (α := List Value → World → Prop) ((fun ps w' => (w'.cell? ⟨w.heap.size, 0, none⟩ = some (.int .u64 0) ∧ w'.cell? ⟨w.heap.size, 1, none⟩ = some (.int .u64 0) ∧ w'.cell? ⟨w.heap.size, 2, none⟩ = some (.int .u64 0) ∧ w'.cell? ⟨w.heap.size, 3, none⟩ = some (.int .u64 0) ∧ w'.frozen? ⟨w.heap.size, 0, none⟩ = false ∧ w'.frozen? ⟨w.heap.size, 1, none⟩ = false ∧ w'.frozen? ⟨w.heap.size, 2, none⟩ = false ∧ w'.frozen? ⟨w.heap.size, 3, none⟩ = false ∧ w.heap.size < w'.heap.size) ∧ (w'.cell? ⟨wA.heap.size, 0, none⟩ = some (.int .u64 (d0 a)) ∧ w'.cell? ⟨wA.heap.size, 1, none⟩ = some (.int .u64 (d1 a)) ∧ w'.cell? ⟨wA.heap.size, 2, none⟩ = some (.int .u64 (d2 a)) ∧ w'.cell? ⟨wA.heap.size, 3, none⟩ = some (.int .u64 (d3 a)) ∧ wA.heap.size < w'.heap.size) ∧ (w'.cell? ⟨wB.heap.size, 0, none⟩ = some (.int .u64 (d0 b)) ∧ w'.cell? ⟨wB.heap.size, 1, none⟩ = some (.int .u64 (d1 b)) ∧ w'.cell? ⟨wB.heap.size, 2, none⟩ = some (.int .u64 (d2 b)) ∧ w'.cell? ⟨wB.heap.size, 3, none⟩ = some (.int .u64 (d3 b)) ∧ wB.heap.size < w'.heap.size) ∧ (w'.cell? ⟨wB.heap.size + 1, 0, none⟩ = some (.int .u64 (d0 (mpart a b 0))) ∧ w'.cell? ⟨wB.heap.size + 1, 1, none⟩ = some (.int .u64 (d1 (mpart a b 0))) ∧ w'.cell? ⟨wB.heap.size + 1, 2, none⟩ = some (.int .u64 (d2 (mpart a b 0))) ∧ w'.cell? ⟨wB.heap.size + 1, 3, none⟩ = some (.int .u64 (d3 (mpart a b 0))) ∧ w'.frozen? ⟨wB.heap.size + 1, 0, none⟩ = false ∧ w'.frozen? ⟨wB.heap.size + 1, 1, none⟩ = false ∧ w'.frozen? ⟨wB.heap.size + 1, 2, none⟩ = false ∧ w'.frozen? ⟨wB.heap.size + 1, 3, none⟩ = false ∧ wB.heap.size + 1 < w'.heap.size) ∧ Below w.heap.size w w')); refine wp_region_eff [] Cl (by kernel_rfl) (by kernel_rfl) (by simp only [HCl.out, zD, zE]; exact kpb) ?_
     (repeat ((first | (refine wE_skip (by rfl) ?_) | (refine wE_open (by rfl) (by rfl) ?_; apply Exists.intro; refine ⟨fun vs wq hw => ?_, ?_⟩; (focus (simp only [HCl.out, zD, zE] at hw; go_split_ands; go_simp <;> exact ebb))) | (refine wE_seal (by rfl) (by rfl) (by kernel_rfl) ?_; apply Exists.intro; refine ⟨fun wq hw => ?_, ?_⟩; (focus (simp only [HCl.out, zD, zE] at hw; go_split_ands; go_simp <;> (try go_bits) <;> exact rfl))) | (refine wE_eff (by rfl) (by rfl) (fun wq hw => ?_) (fun u hu => ?_); (focus (simp only [HCl.out, zD, zE] at hw; go_split_ands; go_simp; simp only [HCl.out, zD, zE]; skip; exact kpb)); clear hu)); simp only [Act.put, Nat.reduceAdd, zA, zB, zC, zD, zE]))
     refine wE_nil ?_; intro w' hw; simp only [HCl.out, zD, zE] at hw; clear HCl
     clear h1 h2 h3 h4 h5
     obtain ⟨h1, h2, h3, h4, h5⟩ := hw
     go_wp2_with (go_at_call 120; (refine (refplus_c _ _ _ _ _ _ _ _ (d0_in _) (d1_in _) (d2_in _) (d3_in _) y0 y1 yz yz _).mono ?_); rw [Hac.out]; rintro e w2 ⟨rfl, hbel⟩; obtain ⟨hcc, hff⟩ := bcell hbel; have hsz := hbel.size; (try simp at hsz); have hF : (w2.cell? ⟨w.heap.size, 0, none⟩ = some (.int .u64 0) ∧ w2.cell? ⟨w.heap.size, 1, none⟩ = some (.int .u64 0) ∧ w2.cell? ⟨w.heap.size, 2, none⟩ = some (.int .u64 0) ∧ w2.cell? ⟨w.heap.size, 3, none⟩ = some (.int .u64 0) ∧ w2.frozen? ⟨w.heap.size, 0, none⟩ = false ∧ w2.frozen? ⟨w.heap.size, 1, none⟩ = false ∧ w2.frozen? ⟨w.heap.size, 2, none⟩ = false ∧ w2.frozen? ⟨w.heap.size, 3, none⟩ = false ∧ w.heap.size < w2.heap.size) ∧ (w2.cell? ⟨wA.heap.size, 0, none⟩ = some (.int .u64 (d0 a)) ∧ w2.cell? ⟨wA.heap.size, 1, none⟩ = some (.int .u64 (d1 a)) ∧ w2.cell? ⟨wA.heap.size, 2, none⟩ = some (.int .u64 (d2 a)) ∧ w2.cell? ⟨wA.heap.size, 3, none⟩ = some (.int .u64 (d3 a)) ∧ wA.heap.size < w2.heap.size) ∧ (w2.cell? ⟨wB.heap.size, 0, none⟩ = some (.int .u64 (d0 b)) ∧ w2.cell? ⟨wB.heap.size, 1, none⟩ = some (.int .u64 (d1 b)) ∧ w2.cell? ⟨wB.heap.size, 2, none⟩ = some (.int .u64 (d2 b)) ∧ w2.cell? ⟨wB.heap.size, 3, none⟩ = some (.int .u64 (d3 b)) ∧ wB.heap.size < w2.heap.size) ∧ (w2.cell? ⟨wB.heap.size + 1, 0, none⟩ = some (.int .u64 (d0 (mpart a b 0))) ∧ w2.cell? ⟨wB.heap.size + 1, 1, none⟩ = some (.int .u64 (d1 (mpart a b 0))) ∧ w2.cell? ⟨wB.heap.size + 1, 2, none⟩ = some (.int .u64 (d2 (mpart a b 0))) ∧ w2.cell? ⟨wB.heap.size + 1, 3, none⟩ = some (.int .u64 (d3 (mpart a b 0))) ∧ w2.frozen? ⟨wB.heap.size + 1, 0, none⟩ = false ∧ w2.frozen? ⟨wB.heap.size + 1, 1, none⟩ = false ∧ w2.frozen? ⟨wB.heap.size + 1, 2, none⟩ = false ∧ w2.frozen? ⟨wB.heap.size + 1, 3, none⟩ = false ∧ wB.heap.size + 1 < w2.heap.size) := (by exact kpb); go_split_ands)
     go_roundw
     case rel =>
      refine ⟨1, by omega, by go_num, ?_⟩
      exact kpb
     case measure => simp [intOf]
    ·have g1 := mpart_in ha hb 1
     have g1' : Wd (mpart a b 1) := g1
     have e2 := half_mul (d0_in a) (d1_in b)
     obtain ⟨p, hp⟩ : ∃ p, p = d0 a * d1 b := ⟨_, rfl⟩
     rw [← hp] at e2
     have y0 : Dg (p % 4294967296) := by unfold Dg; omega
     have y1 : Dg (p / 4294967296) := by unfold Dg; omega
     have yz : Dg 0 := by unfold Dg; omega
     have ac : num4 (d0 (mpart a b 1)) (d1 (mpart a b 1)) (d2 (mpart a b 1)) (d3 (mpart a b 1)) + num4 0 (p % 4294967296) (p / 4294967296) 0 = mpart a b 2 := by
      rw [num4_wd g1']
      have e3 : mpart a b 2 = mpart a b 1 + p * 4294967296 := by
       rw [hp]
       have l1 := low_hi ha
       have l2 := low_hi hb
       simp only [mpart, l1.1, l2.1, d0]
       try omega
      rw [e3]; unfold num4; omega
     have Hac := Lib.hid ac; clear ac g1 g1'
     have Hp := Lib.hid hp; clear hp
     rw [show ((1 : Nat) : Int) = 1 from rfl]
     have ew : IntKind.u64.wrap (d0 a * d1 b) = p := by rw [← Hp.out, wrap_u64]; omega
     go_wp2_with fail
     obtain ⟨Cl, HCl⟩ := zH (α := List Value → World → Prop) ((fun ps w' => (w'.cell? ⟨w.heap.size, 0, none⟩ = some (.int .u64 0) ∧ w'.cell? ⟨w.heap.size, 1, none⟩ = some (.int .u64 0) ∧ w'.cell? ⟨w.heap.size, 2, none⟩ = some (.int .u64 0) ∧ w'.cell? ⟨w.heap.size, 3, none⟩ = some (.int .u64 0) ∧ w'.frozen? ⟨w.heap.size, 0, none⟩ = false ∧ w'.frozen? ⟨w.heap.size, 1, none⟩ = false ∧ w'.frozen? ⟨w.heap.size, 2, none⟩ = false ∧ w'.frozen? ⟨w.heap.size, 3, none⟩ = false ∧ w.heap.size < w'.heap.size) ∧ (w'.cell? ⟨wA.heap.size, 0, none⟩ = some (.int .u64 (d0 a)) ∧ w'.cell? ⟨wA.heap.size, 1, none⟩ = some (.int .u64 (d1 a)) ∧ w'.cell? ⟨wA.heap.size, 2, none⟩ = some (.int .u64 (d2 a)) ∧ w'.cell? ⟨wA.heap.size, 3, none⟩ = some (.int .u64 (d3 a)) ∧ wA.heap.size < w'.heap.size) ∧ (w'.cell? ⟨wB.heap.size, 0, none⟩ = some (.int .u64 (d0 b)) ∧ w'.cell? ⟨wB.heap.size, 1, none⟩ = some (.int .u64 (d1 b)) ∧ w'.cell? ⟨wB.heap.size, 2, none⟩ = some (.int .u64 (d2 b)) ∧ w'.cell? ⟨wB.heap.size, 3, none⟩ = some (.int .u64 (d3 b)) ∧ wB.heap.size < w'.heap.size) ∧ (w'.cell? ⟨wB.heap.size + 1, 0, none⟩ = some (.int .u64 (d0 (mpart a b 1))) ∧ w'.cell? ⟨wB.heap.size + 1, 1, none⟩ = some (.int .u64 (d1 (mpart a b 1))) ∧ w'.cell? ⟨wB.heap.size + 1, 2, none⟩ = some (.int .u64 (d2 (mpart a b 1))) ∧ w'.cell? ⟨wB.heap.size + 1, 3, none⟩ = some (.int .u64 (d3 (mpart a b 1))) ∧ w'.frozen? ⟨wB.heap.size + 1, 0, none⟩ = false ∧ w'.frozen? ⟨wB.heap.size + 1, 1, none⟩ = false ∧ w'.frozen? ⟨wB.heap.size + 1, 2, none⟩ = false ∧ w'.frozen? ⟨wB.heap.size + 1, 3, none⟩ = false ∧ wB.heap.size + 1 < w'.heap.size) ∧ Below w.heap.size w w')); refine wp_region_eff [] Cl (by kernel_rfl) (by kernel_rfl) (by simp only [HCl.out, zD, zE]; exact kpb) ?_
     (repeat ((first | (refine wE_skip (by rfl) ?_) | (refine wE_open (by rfl) (by rfl) ?_; apply Exists.intro; refine ⟨fun vs wq hw => ?_, ?_⟩; (focus (simp only [HCl.out, zD, zE] at hw; go_split_ands; go_simp <;> exact ebb))) | (refine wE_seal (by rfl) (by rfl) (by kernel_rfl) ?_; apply Exists.intro; refine ⟨fun wq hw => ?_, ?_⟩; (focus (simp only [HCl.out, zD, zE] at hw; go_split_ands; go_simp <;> (try go_bits) <;> exact rfl))) | (refine wE_eff (by rfl) (by rfl) (fun wq hw => ?_) (fun u hu => ?_); (focus (simp only [HCl.out, zD, zE] at hw; go_split_ands; go_simp; simp only [HCl.out, zD, zE]; skip; exact kpb)); clear hu)); simp only [Act.put, Nat.reduceAdd, zA, zB, zC, zD, zE]))
     refine wE_nil ?_; intro w' hw; simp only [HCl.out, zD, zE] at hw; clear HCl
     clear h1 h2 h3 h4 h5
     obtain ⟨h1, h2, h3, h4, h5⟩ := hw
     go_wp2_with (go_at_call 120; (refine (refplus_c _ _ _ _ _ _ _ _ (d0_in _) (d1_in _) (d2_in _) (d3_in _) yz y0 y1 yz _).mono ?_); rw [Hac.out]; rintro e w2 ⟨rfl, hbel⟩; obtain ⟨hcc, hff⟩ := bcell hbel; have hsz := hbel.size; (try simp at hsz); have hF : (w2.cell? ⟨w.heap.size, 0, none⟩ = some (.int .u64 0) ∧ w2.cell? ⟨w.heap.size, 1, none⟩ = some (.int .u64 0) ∧ w2.cell? ⟨w.heap.size, 2, none⟩ = some (.int .u64 0) ∧ w2.cell? ⟨w.heap.size, 3, none⟩ = some (.int .u64 0) ∧ w2.frozen? ⟨w.heap.size, 0, none⟩ = false ∧ w2.frozen? ⟨w.heap.size, 1, none⟩ = false ∧ w2.frozen? ⟨w.heap.size, 2, none⟩ = false ∧ w2.frozen? ⟨w.heap.size, 3, none⟩ = false ∧ w.heap.size < w2.heap.size) ∧ (w2.cell? ⟨wA.heap.size, 0, none⟩ = some (.int .u64 (d0 a)) ∧ w2.cell? ⟨wA.heap.size, 1, none⟩ = some (.int .u64 (d1 a)) ∧ w2.cell? ⟨wA.heap.size, 2, none⟩ = some (.int .u64 (d2 a)) ∧ w2.cell? ⟨wA.heap.size, 3, none⟩ = some (.int .u64 (d3 a)) ∧ wA.heap.size < w2.heap.size) ∧ (w2.cell? ⟨wB.heap.size, 0, none⟩ = some (.int .u64 (d0 b)) ∧ w2.cell? ⟨wB.heap.size, 1, none⟩ = some (.int .u64 (d1 b)) ∧ w2.cell? ⟨wB.heap.size, 2, none⟩ = some (.int .u64 (d2 b)) ∧ w2.cell? ⟨wB.heap.size, 3, none⟩ = some (.int .u64 (d3 b)) ∧ wB.heap.size < w2.heap.size) ∧ (w2.cell? ⟨wB.heap.size + 1, 0, none⟩ = some (.int .u64 (d0 (mpart a b 1))) ∧ w2.cell? ⟨wB.heap.size + 1, 1, none⟩ = some (.int .u64 (d1 (mpart a b 1))) ∧ w2.cell? ⟨wB.heap.size + 1, 2, none⟩ = some (.int .u64 (d2 (mpart a b 1))) ∧ w2.cell? ⟨wB.heap.size + 1, 3, none⟩ = some (.int .u64 (d3 (mpart a b 1))) ∧ w2.frozen? ⟨wB.heap.size + 1, 0, none⟩ = false ∧ w2.frozen? ⟨wB.heap.size + 1, 1, none⟩ = false ∧ w2.frozen? ⟨wB.heap.size + 1, 2, none⟩ = false ∧ w2.frozen? ⟨wB.heap.size + 1, 3, none⟩ = false ∧ wB.heap.size + 1 < w2.heap.size) := (by exact kpb); go_split_ands)
     go_roundw
     case rel =>
      refine ⟨2, by omega, by go_num, ?_⟩
      exact kpb
     case measure => simp [intOf]
    ·go_wp2
     go_roundw
     case rel => exact ⟨1, by omega, by go_num, h1, h2, h3, h4, h5⟩
     case measure => simp [intOf]
  ·(rw [show ((1 : Nat) : Int) = 1 from rfl])
   go_wp2_with fail
   go_loopw [20] (fun i wr => ∃ k : Nat, k ≤ 2 ∧ i = .int .i64 k ∧ (wr.cell? ⟨w.heap.size, 0, none⟩ = some (.int .u64 0) ∧ wr.cell? ⟨w.heap.size, 1, none⟩ = some (.int .u64 0) ∧ wr.cell? ⟨w.heap.size, 2, none⟩ = some (.int .u64 0) ∧ wr.cell? ⟨w.heap.size, 3, none⟩ = some (.int .u64 0) ∧ wr.frozen? ⟨w.heap.size, 0, none⟩ = false ∧ wr.frozen? ⟨w.heap.size, 1, none⟩ = false ∧ wr.frozen? ⟨w.heap.size, 2, none⟩ = false ∧ wr.frozen? ⟨w.heap.size, 3, none⟩ = false ∧ w.heap.size < wr.heap.size) ∧ (wr.cell? ⟨wA.heap.size, 0, none⟩ = some (.int .u64 (d0 a)) ∧ wr.cell? ⟨wA.heap.size, 1, none⟩ = some (.int .u64 (d1 a)) ∧ wr.cell? ⟨wA.heap.size, 2, none⟩ = some (.int .u64 (d2 a)) ∧ wr.cell? ⟨wA.heap.size, 3, none⟩ = some (.int .u64 (d3 a)) ∧ wA.heap.size < wr.heap.size) ∧ (wr.cell? ⟨wB.heap.size, 0, none⟩ = some (.int .u64 (d0 b)) ∧ wr.cell? ⟨wB.heap.size, 1, none⟩ = some (.int .u64 (d1 b)) ∧ wr.cell? ⟨wB.heap.size, 2, none⟩ = some (.int .u64 (d2 b)) ∧ wr.cell? ⟨wB.heap.size, 3, none⟩ = some (.int .u64 (d3 b)) ∧ wB.heap.size < wr.heap.size) ∧ (wr.cell? ⟨wB.heap.size + 1, 0, none⟩ = some (.int .u64 (d0 (mpart a b (2 + k)))) ∧ wr.cell? ⟨wB.heap.size + 1, 1, none⟩ = some (.int .u64 (d1 (mpart a b (2 + k)))) ∧ wr.cell? ⟨wB.heap.size + 1, 2, none⟩ = some (.int .u64 (d2 (mpart a b (2 + k)))) ∧ wr.cell? ⟨wB.heap.size + 1, 3, none⟩ = some (.int .u64 (d3 (mpart a b (2 + k)))) ∧ wr.frozen? ⟨wB.heap.size + 1, 0, none⟩ = false ∧ wr.frozen? ⟨wB.heap.size + 1, 1, none⟩ = false ∧ wr.frozen? ⟨wB.heap.size + 1, 2, none⟩ = false ∧ wr.frozen? ⟨wB.heap.size + 1, 3, none⟩ = false ∧ wB.heap.size + 1 < wr.heap.size) ∧ Below w.heap.size w wr) (fun i _ => 2 - (intOf i).toNat)
   case atStart => exact ⟨0, by omega, rfl, h1, h2, h3, h4, h5⟩
   case round =>
    clear h1 h2 h3 h4 h5
    obtain ⟨k, hk, rfl, h1, h2, h3, h4, h5⟩ := hrel
    obtain ⟨wo, rfl⟩ : ∃ wo : World, wo = wr := ⟨_, rfl⟩
    rcases (by omega : k = 0 ∨ k = 1 ∨ k = 2) with rfl | rfl | rfl
    ·have g1 := mpart_in ha hb 2
     have g1' : Wd (mpart a b 2) := g1
     have e2 := half_mul (d1_in a) (d0_in b)
     obtain ⟨p, hp⟩ : ∃ p, p = d1 a * d0 b := ⟨_, rfl⟩
     rw [← hp] at e2
     have y0 : Dg (p % 4294967296) := by unfold Dg; omega
     have y1 : Dg (p / 4294967296) := by unfold Dg; omega
     have yz : Dg 0 := by unfold Dg; omega
     have ac : num4 (d0 (mpart a b 2)) (d1 (mpart a b 2)) (d2 (mpart a b 2)) (d3 (mpart a b 2)) + num4 0 (p % 4294967296) (p / 4294967296) 0 = mpart a b 3 := by
      rw [num4_wd g1']
      have e3 : mpart a b 3 = mpart a b 2 + p * 4294967296 := by
       rw [hp]
       have l1 := low_hi ha
       have l2 := low_hi hb
       simp only [mpart, l1.1, l2.1, d0]
       try omega
      rw [e3]; unfold num4; omega
     have Hac := Lib.hid ac; clear ac g1 g1'
     have Hp := Lib.hid hp; clear hp
     rw [show ((0 : Nat) : Int) = 0 from rfl]
     have ew : IntKind.u64.wrap (d1 a * d0 b) = p := by rw [← Hp.out, wrap_u64]; omega
     go_wp2_with fail
     obtain ⟨Cl, HCl⟩ := zH (α := List Value → World → Prop) ((fun ps w' => (w'.cell? ⟨w.heap.size, 0, none⟩ = some (.int .u64 0) ∧ w'.cell? ⟨w.heap.size, 1, none⟩ = some (.int .u64 0) ∧ w'.cell? ⟨w.heap.size, 2, none⟩ = some (.int .u64 0) ∧ w'.cell? ⟨w.heap.size, 3, none⟩ = some (.int .u64 0) ∧ w'.frozen? ⟨w.heap.size, 0, none⟩ = false ∧ w'.frozen? ⟨w.heap.size, 1, none⟩ = false ∧ w'.frozen? ⟨w.heap.size, 2, none⟩ = false ∧ w'.frozen? ⟨w.heap.size, 3, none⟩ = false ∧ w.heap.size < w'.heap.size) ∧ (w'.cell? ⟨wA.heap.size, 0, none⟩ = some (.int .u64 (d0 a)) ∧ w'.cell? ⟨wA.heap.size, 1, none⟩ = some (.int .u64 (d1 a)) ∧ w'.cell? ⟨wA.heap.size, 2, none⟩ = some (.int .u64 (d2 a)) ∧ w'.cell? ⟨wA.heap.size, 3, none⟩ = some (.int .u64 (d3 a)) ∧ wA.heap.size < w'.heap.size) ∧ (w'.cell? ⟨wB.heap.size, 0, none⟩ = some (.int .u64 (d0 b)) ∧ w'.cell? ⟨wB.heap.size, 1, none⟩ = some (.int .u64 (d1 b)) ∧ w'.cell? ⟨wB.heap.size, 2, none⟩ = some (.int .u64 (d2 b)) ∧ w'.cell? ⟨wB.heap.size, 3, none⟩ = some (.int .u64 (d3 b)) ∧ wB.heap.size < w'.heap.size) ∧ (w'.cell? ⟨wB.heap.size + 1, 0, none⟩ = some (.int .u64 (d0 (mpart a b 2))) ∧ w'.cell? ⟨wB.heap.size + 1, 1, none⟩ = some (.int .u64 (d1 (mpart a b 2))) ∧ w'.cell? ⟨wB.heap.size + 1, 2, none⟩ = some (.int .u64 (d2 (mpart a b 2))) ∧ w'.cell? ⟨wB.heap.size + 1, 3, none⟩ = some (.int .u64 (d3 (mpart a b 2))) ∧ w'.frozen? ⟨wB.heap.size + 1, 0, none⟩ = false ∧ w'.frozen? ⟨wB.heap.size + 1, 1, none⟩ = false ∧ w'.frozen? ⟨wB.heap.size + 1, 2, none⟩ = false ∧ w'.frozen? ⟨wB.heap.size + 1, 3, none⟩ = false ∧ wB.heap.size + 1 < w'.heap.size) ∧ Below w.heap.size w w')); refine wp_region_eff [] Cl (by kernel_rfl) (by kernel_rfl) (by simp only [HCl.out, zD, zE]; exact kpb) ?_
     (repeat ((first | (refine wE_skip (by rfl) ?_) | (refine wE_open (by rfl) (by rfl) ?_; apply Exists.intro; refine ⟨fun vs wq hw => ?_, ?_⟩; (focus (simp only [HCl.out, zD, zE] at hw; go_split_ands; go_simp <;> exact ebb))) | (refine wE_seal (by rfl) (by rfl) (by kernel_rfl) ?_; apply Exists.intro; refine ⟨fun wq hw => ?_, ?_⟩; (focus (simp only [HCl.out, zD, zE] at hw; go_split_ands; go_simp <;> (try go_bits) <;> exact rfl))) | (refine wE_eff (by rfl) (by rfl) (fun wq hw => ?_) (fun u hu => ?_); (focus (simp only [HCl.out, zD, zE] at hw; go_split_ands; go_simp; simp only [HCl.out, zD, zE]; skip; exact kpb)); clear hu)); simp only [Act.put, Nat.reduceAdd, zA, zB, zC, zD, zE]))
     refine wE_nil ?_; intro w' hw; simp only [HCl.out, zD, zE] at hw; clear HCl
     clear h1 h2 h3 h4 h5
     obtain ⟨h1, h2, h3, h4, h5⟩ := hw
     go_wp2_with (go_at_call 120; (refine (refplus_c _ _ _ _ _ _ _ _ (d0_in _) (d1_in _) (d2_in _) (d3_in _) yz y0 y1 yz _).mono ?_); rw [Hac.out]; rintro e w2 ⟨rfl, hbel⟩; obtain ⟨hcc, hff⟩ := bcell hbel; have hsz := hbel.size; (try simp at hsz); have hF : (w2.cell? ⟨w.heap.size, 0, none⟩ = some (.int .u64 0) ∧ w2.cell? ⟨w.heap.size, 1, none⟩ = some (.int .u64 0) ∧ w2.cell? ⟨w.heap.size, 2, none⟩ = some (.int .u64 0) ∧ w2.cell? ⟨w.heap.size, 3, none⟩ = some (.int .u64 0) ∧ w2.frozen? ⟨w.heap.size, 0, none⟩ = false ∧ w2.frozen? ⟨w.heap.size, 1, none⟩ = false ∧ w2.frozen? ⟨w.heap.size, 2, none⟩ = false ∧ w2.frozen? ⟨w.heap.size, 3, none⟩ = false ∧ w.heap.size < w2.heap.size) ∧ (w2.cell? ⟨wA.heap.size, 0, none⟩ = some (.int .u64 (d0 a)) ∧ w2.cell? ⟨wA.heap.size, 1, none⟩ = some (.int .u64 (d1 a)) ∧ w2.cell? ⟨wA.heap.size, 2, none⟩ = some (.int .u64 (d2 a)) ∧ w2.cell? ⟨wA.heap.size, 3, none⟩ = some (.int .u64 (d3 a)) ∧ wA.heap.size < w2.heap.size) ∧ (w2.cell? ⟨wB.heap.size, 0, none⟩ = some (.int .u64 (d0 b)) ∧ w2.cell? ⟨wB.heap.size, 1, none⟩ = some (.int .u64 (d1 b)) ∧ w2.cell? ⟨wB.heap.size, 2, none⟩ = some (.int .u64 (d2 b)) ∧ w2.cell? ⟨wB.heap.size, 3, none⟩ = some (.int .u64 (d3 b)) ∧ wB.heap.size < w2.heap.size) ∧ (w2.cell? ⟨wB.heap.size + 1, 0, none⟩ = some (.int .u64 (d0 (mpart a b 2))) ∧ w2.cell? ⟨wB.heap.size + 1, 1, none⟩ = some (.int .u64 (d1 (mpart a b 2))) ∧ w2.cell? ⟨wB.heap.size + 1, 2, none⟩ = some (.int .u64 (d2 (mpart a b 2))) ∧ w2.cell? ⟨wB.heap.size + 1, 3, none⟩ = some (.int .u64 (d3 (mpart a b 2))) ∧ w2.frozen? ⟨wB.heap.size + 1, 0, none⟩ = false ∧ w2.frozen? ⟨wB.heap.size + 1, 1, none⟩ = false ∧ w2.frozen? ⟨wB.heap.size + 1, 2, none⟩ = false ∧ w2.frozen? ⟨wB.heap.size + 1, 3, none⟩ = false ∧ wB.heap.size + 1 < w2.heap.size) := (by exact kpb); go_split_ands)
     go_roundw
     case rel =>
      refine ⟨1, by omega, by go_num, ?_⟩
      exact kpb
     case measure => simp [intOf]
    ·have g1 := mpart_in ha hb 3
     have g1' : Wd (mpart a b 3) := g1
     have e2 := half_mul (d1_in a) (d1_in b)
     obtain ⟨p, hp⟩ : ∃ p, p = d1 a * d1 b := ⟨_, rfl⟩
     rw [← hp] at e2
     have y0 : Dg (p % 4294967296) := by unfold Dg; omega
     have y1 : Dg (p / 4294967296) := by unfold Dg; omega
     have yz : Dg 0 := by unfold Dg; omega
     have ac : num4 (d0 (mpart a b 3)) (d1 (mpart a b 3)) (d2 (mpart a b 3)) (d3 (mpart a b 3)) + num4 0 0 (p % 4294967296) (p / 4294967296) = mpart a b 4 := by
      rw [num4_wd g1']
      have e3 : mpart a b 4 = mpart a b 3 + p * 18446744073709551616 := by
       rw [hp]
       have l1 := low_hi ha
       have l2 := low_hi hb
       simp only [mpart, l1.1, l2.1, d0]
       try omega
      rw [e3]; unfold num4; omega
     have Hac := Lib.hid ac; clear ac g1 g1'
     have Hp := Lib.hid hp; clear hp
     rw [show ((1 : Nat) : Int) = 1 from rfl]
     have ew : IntKind.u64.wrap (d1 a * d1 b) = p := by rw [← Hp.out, wrap_u64]; omega
     go_wp2_with fail
     obtain ⟨Cl, HCl⟩ := zH (α := List Value → World → Prop) ((fun ps w' => (w'.cell? ⟨w.heap.size, 0, none⟩ = some (.int .u64 0) ∧ w'.cell? ⟨w.heap.size, 1, none⟩ = some (.int .u64 0) ∧ w'.cell? ⟨w.heap.size, 2, none⟩ = some (.int .u64 0) ∧ w'.cell? ⟨w.heap.size, 3, none⟩ = some (.int .u64 0) ∧ w'.frozen? ⟨w.heap.size, 0, none⟩ = false ∧ w'.frozen? ⟨w.heap.size, 1, none⟩ = false ∧ w'.frozen? ⟨w.heap.size, 2, none⟩ = false ∧ w'.frozen? ⟨w.heap.size, 3, none⟩ = false ∧ w.heap.size < w'.heap.size) ∧ (w'.cell? ⟨wA.heap.size, 0, none⟩ = some (.int .u64 (d0 a)) ∧ w'.cell? ⟨wA.heap.size, 1, none⟩ = some (.int .u64 (d1 a)) ∧ w'.cell? ⟨wA.heap.size, 2, none⟩ = some (.int .u64 (d2 a)) ∧ w'.cell? ⟨wA.heap.size, 3, none⟩ = some (.int .u64 (d3 a)) ∧ wA.heap.size < w'.heap.size) ∧ (w'.cell? ⟨wB.heap.size, 0, none⟩ = some (.int .u64 (d0 b)) ∧ w'.cell? ⟨wB.heap.size, 1, none⟩ = some (.int .u64 (d1 b)) ∧ w'.cell? ⟨wB.heap.size, 2, none⟩ = some (.int .u64 (d2 b)) ∧ w'.cell? ⟨wB.heap.size, 3, none⟩ = some (.int .u64 (d3 b)) ∧ wB.heap.size < w'.heap.size) ∧ (w'.cell? ⟨wB.heap.size + 1, 0, none⟩ = some (.int .u64 (d0 (mpart a b 3))) ∧ w'.cell? ⟨wB.heap.size + 1, 1, none⟩ = some (.int .u64 (d1 (mpart a b 3))) ∧ w'.cell? ⟨wB.heap.size + 1, 2, none⟩ = some (.int .u64 (d2 (mpart a b 3))) ∧ w'.cell? ⟨wB.heap.size + 1, 3, none⟩ = some (.int .u64 (d3 (mpart a b 3))) ∧ w'.frozen? ⟨wB.heap.size + 1, 0, none⟩ = false ∧ w'.frozen? ⟨wB.heap.size + 1, 1, none⟩ = false ∧ w'.frozen? ⟨wB.heap.size + 1, 2, none⟩ = false ∧ w'.frozen? ⟨wB.heap.size + 1, 3, none⟩ = false ∧ wB.heap.size + 1 < w'.heap.size) ∧ Below w.heap.size w w')); refine wp_region_eff [] Cl (by kernel_rfl) (by kernel_rfl) (by simp only [HCl.out, zD, zE]; exact kpb) ?_
     (repeat ((first | (refine wE_skip (by rfl) ?_) | (refine wE_open (by rfl) (by rfl) ?_; apply Exists.intro; refine ⟨fun vs wq hw => ?_, ?_⟩; (focus (simp only [HCl.out, zD, zE] at hw; go_split_ands; go_simp <;> exact ebb))) | (refine wE_seal (by rfl) (by rfl) (by kernel_rfl) ?_; apply Exists.intro; refine ⟨fun wq hw => ?_, ?_⟩; (focus (simp only [HCl.out, zD, zE] at hw; go_split_ands; go_simp <;> (try go_bits) <;> exact rfl))) | (refine wE_eff (by rfl) (by rfl) (fun wq hw => ?_) (fun u hu => ?_); (focus (simp only [HCl.out, zD, zE] at hw; go_split_ands; go_simp; simp only [HCl.out, zD, zE]; skip; exact kpb)); clear hu)); simp only [Act.put, Nat.reduceAdd, zA, zB, zC, zD, zE]))
     refine wE_nil ?_; intro w' hw; simp only [HCl.out, zD, zE] at hw; clear HCl
     clear h1 h2 h3 h4 h5
     obtain ⟨h1, h2, h3, h4, h5⟩ := hw
     go_wp2_with (go_at_call 120; (refine (refplus_c _ _ _ _ _ _ _ _ (d0_in _) (d1_in _) (d2_in _) (d3_in _) yz yz y0 y1 _).mono ?_); rw [Hac.out]; rintro e w2 ⟨rfl, hbel⟩; obtain ⟨hcc, hff⟩ := bcell hbel; have hsz := hbel.size; (try simp at hsz); have hF : (w2.cell? ⟨w.heap.size, 0, none⟩ = some (.int .u64 0) ∧ w2.cell? ⟨w.heap.size, 1, none⟩ = some (.int .u64 0) ∧ w2.cell? ⟨w.heap.size, 2, none⟩ = some (.int .u64 0) ∧ w2.cell? ⟨w.heap.size, 3, none⟩ = some (.int .u64 0) ∧ w2.frozen? ⟨w.heap.size, 0, none⟩ = false ∧ w2.frozen? ⟨w.heap.size, 1, none⟩ = false ∧ w2.frozen? ⟨w.heap.size, 2, none⟩ = false ∧ w2.frozen? ⟨w.heap.size, 3, none⟩ = false ∧ w.heap.size < w2.heap.size) ∧ (w2.cell? ⟨wA.heap.size, 0, none⟩ = some (.int .u64 (d0 a)) ∧ w2.cell? ⟨wA.heap.size, 1, none⟩ = some (.int .u64 (d1 a)) ∧ w2.cell? ⟨wA.heap.size, 2, none⟩ = some (.int .u64 (d2 a)) ∧ w2.cell? ⟨wA.heap.size, 3, none⟩ = some (.int .u64 (d3 a)) ∧ wA.heap.size < w2.heap.size) ∧ (w2.cell? ⟨wB.heap.size, 0, none⟩ = some (.int .u64 (d0 b)) ∧ w2.cell? ⟨wB.heap.size, 1, none⟩ = some (.int .u64 (d1 b)) ∧ w2.cell? ⟨wB.heap.size, 2, none⟩ = some (.int .u64 (d2 b)) ∧ w2.cell? ⟨wB.heap.size, 3, none⟩ = some (.int .u64 (d3 b)) ∧ wB.heap.size < w2.heap.size) ∧ (w2.cell? ⟨wB.heap.size + 1, 0, none⟩ = some (.int .u64 (d0 (mpart a b 3))) ∧ w2.cell? ⟨wB.heap.size + 1, 1, none⟩ = some (.int .u64 (d1 (mpart a b 3))) ∧ w2.cell? ⟨wB.heap.size + 1, 2, none⟩ = some (.int .u64 (d2 (mpart a b 3))) ∧ w2.cell? ⟨wB.heap.size + 1, 3, none⟩ = some (.int .u64 (d3 (mpart a b 3))) ∧ w2.frozen? ⟨wB.heap.size + 1, 0, none⟩ = false ∧ w2.frozen? ⟨wB.heap.size + 1, 1, none⟩ = false ∧ w2.frozen? ⟨wB.heap.size + 1, 2, none⟩ = false ∧ w2.frozen? ⟨wB.heap.size + 1, 3, none⟩ = false ∧ wB.heap.size + 1 < w2.heap.size) := (by exact kpb); go_split_ands)
     go_roundw
     case rel =>
      refine ⟨2, by omega, by go_num, ?_⟩
      exact kpb
     case measure => simp [intOf]
    ·go_wp2
     go_roundw
     case rel => exact ⟨2, by omega, by go_num, h1, h2, h3, h4, h5⟩
     case measure => simp [intOf]
  ·go_wp2
   rw [show 2 * 2 = 4 from rfl, mpart_last] at *
   refine bodyPost_ret (v := .agg #[.int .u64 (d0 (a * b)), .int .u64 (d1 (a * b)), .int .u64 (d2 (a * b)), .int .u64 (d3 (a * b))]) (by simp [results, Tryz.results118, go_sem, *]) rfl ⟨rfl, blb⟩
end Go.Proofs.YtffaahipgabkhaaGreat
end
