import Derived.Test.YtgioijhocenbeaaSpec8
import Derived.Test.YtgioijhocenbeaaSpec9
namespace Go.Proofs.Ytgioijhocenbeaa
set_option linter.unusedVariables false
set_option linter.unusedSimpArgs false
set_option maxRecDepth 100000
open Go.RowKit Fg Reg

set_option maxHeartbeats 1000000 in
theorem specKinds_law (i p : Int) (lf : Bool) (a1 a2 a3 b1 b2 b3 c1 c2 c3 q y : Int) (w1 : (Lit.int .i64 i).wf = true) (w2 : (Lit.int .i64 p).wf = true) (w3 : (Lit.int .u64 a1).wf = true) (w4 : (Lit.int .u64 a2).wf = true) (w5 : (Lit.int .u64 a3).wf = true) (w6 : (Lit.int .u64 b1).wf = true) (w7 : (Lit.int .u64 b2).wf = true) (w8 : (Lit.int .u64 b3).wf = true) (w9 : (Lit.int .u64 c1).wf = true) (w10 : (Lit.int .u64 c2).wf = true) (w11 : (Lit.int .u64 c3).wf = true) (w12 : (Lit.int .i64 q).wf = true) (w13 : (Lit.int .i64 y).wf = true) (w : World) :
    Calls Try.prog 4 #[.agg #[.int .i64 i, .int .i64 p, .bool lf, .int .u64 a1, .int .u64 a2, .int .u64 a3, .int .u64 b1, .int .u64 b2, .int .u64 b3, .int .u64 c1, .int .u64 c2, .int .u64 c3, .int .i64 q, .int .i64 y]] w fun e w' => e = .returned (.bool true) ∧ Below w.heap.size w w' := by
  have A1 := sin_wf w3
  have A2 := sin_wf w4
  have A3 := sin_wf w5
  have B1 := sin_wf w6
  have B2 := sin_wf w7
  have B3 := sin_wf w8
  have C1 := sin_wf w9
  have C2 := sin_wf w10
  have C3 := sin_wf w11
  have R := right_v i p lf a1 a2 a3 b1 b2 b3 c1 c2 c3 q y A1 A2 A3 B1 B2 B3 C1 C2 C3
  have g1 := kind_range a1 a2 a3
  have g2 := kind_range b1 b2 b3
  have hV : wv i p lf a1 a2 a3 b1 b2 b3 c1 c2 c3 q y = ww i p lf (kind a1 a2 a3) (kind b1 b2 b3) (kind c1 c2 c3) q y := wr_ww i p lf _ _ _ q y g1.1 g2.1
  rw [hV] at R
  by_cases h0 : ww i p lf (kind a1 a2 a3) (kind b1 b2 b3) (kind c1 c2 c3) q y = 0
  · rw [h0] at R
    have kr := real_c i p lf a1 a2 a3 b1 b2 b3 c1 c2 c3 q y _ (has_c a1 a2 a3 _ (skof_c a1 a2 a3 A1 A2 A3))
    have ks := shares_c i p lf a1 a2 a3 b1 b2 b3 c1 c2 c3 q y _ (has_c b1 b2 b3 _ (skof_c b1 b2 b3 B1 B2 B3))
    have kc := capped_c i p lf a1 a2 a3 b1 b2 b3 c1 c2 c3 q y _ (has_c c1 c2 c3 _ (skof_c c1 c2 c3 C1 C2 C3))
    clear A1 A2 A3 B1 B2 B3 C1 C2 C3 w1 w2 w3 w4 w5 w6 w7 w8 w9 w10 w11 w12 w13 hV
    generalize kind a1 a2 a3 = k1 at *
    generalize kind b1 b2 b3 = k2 at *
    generalize kind c1 c2 c3 = k3 at *
    have F : decide (0 < q) = lf ∧ decide (0 < y) = lf ∧ (lf = false ∨ 1 < k1 ∨ 1 < k2) ∧ (¬ 1 < k1 ∨ lf = true) ∧ (¬ 1 < k3 ∨ 1 < k2) := by
      clear R kr ks kc
      unfold ww at h0
      split at h0
      · simp at h0
      · split at h0
        · simp at h0
        · split at h0
          · simp at h0
          · cases lf
            · rw [if_neg (by simp)] at h0
              split at h0
              · simp at h0
              · simp; omega
            · rw [if_pos rfl] at h0
              split at h0
              · simp at h0
              · simp; omega
    obtain ⟨f1, f2, f3, f4, f5⟩ := F
    exact specKinds_in i p lf a1 a2 a3 b1 b2 b3 c1 c2 c3 q y _ _ _ f1 f2 (by simpa using f3) (by simpa using f4) (by simpa using f5) R kr ks kc w
  · exact specKinds_no i p lf a1 a2 a3 b1 b2 b3 c1 c2 c3 q y _ (by simpa using h0) R w
end Go.Proofs.Ytgioijhocenbeaa
