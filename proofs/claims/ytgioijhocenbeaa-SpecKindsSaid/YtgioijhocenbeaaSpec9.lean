import Derived.Test.YtgioijhocenbeaaSpec7
namespace Go.Proofs.Ytgioijhocenbeaa
set_option linter.unusedVariables false
set_option linter.unusedSimpArgs false
set_option maxRecDepth 100000
open Go.RowKit Fg Reg

theorem sin_wf {x : Int} (w : (Lit.int .u64 x).wf = true) : In x := by
  have := bounds_u64 w
  unfold In; omega
theorem sh_of (lf : Bool) (k1 k2 k3 q y : Int) (h2 : ¬ k2 = 0) (h1 : ¬ k1 = 0) (r1 : 0 ≤ k1) (r2 : 0 ≤ k2) :
    (sh lf (decide (1 < k1)) (decide (1 < k2)) (decide (1 < k3)) q y = false) ↔ ((1 < k3 ∧ k2 = 1) ∨ (lf = true ∧ (q < 1 ∨ 64 < q ∨ y < 1 ∨ 1048576 < y ∨ (k1 = 1 ∧ k2 = 1))) ∨ (lf = false ∧ (¬ q = 0 ∨ ¬ y = 0 ∨ ¬ k1 = 1))) := by
  unfold sh
  cases lf
  · split
    · simp_all; omega
    · simp_all; omega
  · split
    · simp_all; omega
    · simp_all; omega
theorem wr_ww (i p : Int) (lf : Bool) (k1 k2 k3 q y : Int) (r1 : 0 ≤ k1) (r2 : 0 ≤ k2) :
    wr i p (cr k1 k2 k3) (sh lf (decide (1 < k1)) (decide (1 < k2)) (decide (1 < k3)) q y) = ww i p lf k1 k2 k3 q y := by
  unfold wr ww
  by_cases hw : i < 1 ∨ 65536 < i ∨ p < 0 ∨ 65536 < p ∨ i = p
  · rw [if_pos hw, if_pos (by unfold who; simp; omega)]
  · rw [if_neg hw, if_neg (by unfold who; simp; omega)]
    by_cases hc : k1 = 0 ∨ k2 = 0 ∨ k3 = 0 ∨ k2 = 4 ∨ k3 = 4
    · rw [if_pos hc, if_pos (by unfold cr; simp; omega)]
    · rw [if_neg hc, if_neg (by unfold cr; simp; omega)]
      have hs := sh_of lf k1 k2 k3 q y (by omega) (by omega) r1 r2
      by_cases h3 : 1 < k3 ∧ k2 = 1
      · rw [if_pos h3, if_pos (hs.2 (.inl h3))]
      · rw [if_neg h3]
        cases lf
        · rw [if_neg (show ¬ (false = true) by simp)]
          by_cases h4 : ¬ q = 0 ∨ ¬ y = 0 ∨ ¬ k1 = 1
          · rw [if_pos h4, if_pos (hs.2 (.inr (.inr ⟨rfl, h4⟩)))]
          · rw [if_neg h4, if_neg (fun h => by rcases hs.1 h with h | h | h; exact h3 h; exact absurd h.1 (by simp); exact h4 h.2)]
        · rw [if_pos (show true = true from rfl)]
          by_cases h4 : q < 1 ∨ 64 < q ∨ y < 1 ∨ 1048576 < y ∨ (k1 = 1 ∧ k2 = 1)
          · rw [if_pos h4, if_pos (hs.2 (.inr (.inl ⟨rfl, h4⟩)))]
          · rw [if_neg h4, if_neg (fun h => by rcases hs.1 h with h | h | h; exact h3 h; exact h4 h.2; exact absurd h.1 (by simp))]

/-- What Right answers to a class. -/
def wv (i p : Int) (lf : Bool) (a1 a2 a3 b1 b2 b3 c1 c2 c3 q y : Int) : Int := wr i p (cr (kind a1 a2 a3) (kind b1 b2 b3) (kind c1 c2 c3)) (sh lf (decide (1 < kind a1 a2 a3)) (decide (1 < kind b1 b2 b3)) (decide (1 < kind c1 c2 c3)) q y)

theorem right_v (i p : Int) (lf : Bool) (a1 a2 a3 b1 b2 b3 c1 c2 c3 q y : Int) (A1 : In a1) (A2 : In a2) (A3 : In a3) (B1 : In b1) (B2 : In b2) (B3 : In b3) (C1 : In c1) (C2 : In c2) (C3 : In c3) (w : World) :
    Calls Try.prog 5 #[.agg #[.int .i64 i, .int .i64 p, .bool lf, .int .u64 a1, .int .u64 a2, .int .u64 a3, .int .u64 b1, .int .u64 b2, .int .u64 b3, .int .u64 c1, .int .u64 c2, .int .u64 c3, .int .i64 q, .int .i64 y]] w fun ee w' => ee = .returned (.int .i64 (wv i p lf a1 a2 a3 b1 b2 b3 c1 c2 c3 q y)) ∧ Below w.heap.size w w' :=
  right_c i p lf a1 a2 a3 b1 b2 b3 c1 c2 c3 q y _ _
    (crt_c i p lf a1 a2 a3 b1 b2 b3 c1 c2 c3 q y _ _ _ (skof_c a1 a2 a3 A1 A2 A3) (skof_c b1 b2 b3 B1 B2 B3) (skof_c c1 c2 c3 C1 C2 C3))
    (shape_c i p lf a1 a2 a3 b1 b2 b3 c1 c2 c3 q y _ _ _
      (real_c i p lf a1 a2 a3 b1 b2 b3 c1 c2 c3 q y _ (has_c a1 a2 a3 _ (skof_c a1 a2 a3 A1 A2 A3)))
      (shares_c i p lf a1 a2 a3 b1 b2 b3 c1 c2 c3 q y _ (has_c b1 b2 b3 _ (skof_c b1 b2 b3 B1 B2 B3)))
      (capped_c i p lf a1 a2 a3 b1 b2 b3 c1 c2 c3 q y _ (has_c c1 c2 c3 _ (skof_c c1 c2 c3 C1 C2 C3)))) w

set_option maxHeartbeats 1000000 in
theorem specRight_law (i p : Int) (lf : Bool) (a1 a2 a3 b1 b2 b3 c1 c2 c3 q y : Int) (w1 : (Lit.int .i64 i).wf = true) (w2 : (Lit.int .i64 p).wf = true) (w3 : (Lit.int .u64 a1).wf = true) (w4 : (Lit.int .u64 a2).wf = true) (w5 : (Lit.int .u64 a3).wf = true) (w6 : (Lit.int .u64 b1).wf = true) (w7 : (Lit.int .u64 b2).wf = true) (w8 : (Lit.int .u64 b3).wf = true) (w9 : (Lit.int .u64 c1).wf = true) (w10 : (Lit.int .u64 c2).wf = true) (w11 : (Lit.int .u64 c3).wf = true) (w12 : (Lit.int .i64 q).wf = true) (w13 : (Lit.int .i64 y).wf = true) (w : World) :
    Calls Try.prog 3 #[.agg #[.int .i64 i, .int .i64 p, .bool lf, .int .u64 a1, .int .u64 a2, .int .u64 a3, .int .u64 b1, .int .u64 b2, .int .u64 b3, .int .u64 c1, .int .u64 c2, .int .u64 c3, .int .i64 q, .int .i64 y]] w fun e w' => e = .returned (.bool true) ∧ Below w.heap.size w w' := by
  have A1 := sin_wf w3
  have A2 := sin_wf w4
  have A3 := sin_wf w5
  have B1 := sin_wf w6
  have B2 := sin_wf w7
  have B3 := sin_wf w8
  have C1 := sin_wf w9
  have C2 := sin_wf w10
  have C3 := sin_wf w11
  have R := right_v i p lf a1 a2 a3 b1 b2 b3 c1 c2 c3 q y A1 A2 A3 B1 B2 B3 C1 C2 C3
  have g1 := kind_range a1 a2 a3
  have g2 := kind_range b1 b2 b3
  have hV : wv i p lf a1 a2 a3 b1 b2 b3 c1 c2 c3 q y = ww i p lf (kind a1 a2 a3) (kind b1 b2 b3) (kind c1 c2 c3) q y := wr_ww i p lf _ _ _ q y g1.1 g2.1
  rw [hV] at R
  exact specRight_in i p lf a1 a2 a3 b1 b2 b3 c1 c2 c3 q y _ _ _ _ _ _ _ rfl rfl rfl R
    (wrong_c i p lf a1 a2 a3 b1 b2 b3 c1 c2 c3 q y _ _ _ (srof_c a1 a2 a3 A1 A2 A3) (srof_c b1 b2 b3 B1 B2 B3) (srof_c c1 c2 c3 C1 C2 C3))
    (real_c i p lf a1 a2 a3 b1 b2 b3 c1 c2 c3 q y _ (has_c a1 a2 a3 _ (skof_c a1 a2 a3 A1 A2 A3)))
    (shares_c i p lf a1 a2 a3 b1 b2 b3 c1 c2 c3 q y _ (has_c b1 b2 b3 _ (skof_c b1 b2 b3 B1 B2 B3)))
    (capped_c i p lf a1 a2 a3 b1 b2 b3 c1 c2 c3 q y _ (has_c c1 c2 c3 _ (skof_c c1 c2 c3 C1 C2 C3)))
    (srof_c a1 a2 a3 A1 A2 A3) (srof_c b1 b2 b3 B1 B2 B3) (srof_c c1 c2 c3 C1 C2 C3) w

end Go.Proofs.Ytgioijhocenbeaa
