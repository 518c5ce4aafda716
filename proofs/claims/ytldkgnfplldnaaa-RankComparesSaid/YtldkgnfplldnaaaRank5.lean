import Derived.Test.YtldkgnfplldnaaaRank3
import Derived.Test.YtldkgnfplldnaaaRank4
namespace Go.Proofs.Ytldkgnfplldnaaa
set_option linter.unusedVariables false
set_option linter.unusedSimpArgs false
open Go.RowKit Fg Reg

theorem rankCompares_law (a0 a1 b0 b1 now : Int) (wa0 : (Lit.int .u64 a0).wf = true) (wa1 : (Lit.int .i64 a1).wf = true) (wb0 : (Lit.int .u64 b0).wf = true) (wb1 : (Lit.int .i64 b1).wf = true) (wn : (Lit.int .u64 now).wf = true) (w : World) :
    Calls Try.prog 8 #[.agg #[.int .u64 (a0), .int .i64 (a1)], .agg #[.int .u64 (b0), .int .i64 (b1)], .int .u64 now] w fun e w' => e = .returned (.bool true) ∧ Below w.heap.size w w' := by
  have hd := kdue_cases a0 now
  have k5 := kdue_c 9223372036854775808 a1 now
  rw [show kdue 9223372036854775808 now = false by simp [kdue]] at k5
  have anti : ∀ x0 x1 y0 y1 : Int, kcmp y0 y1 x0 x1 = - kcmp x0 x1 y0 y1 := by
    intro x0 x1 y0 y1
    rcases kcmp_tri x0 x1 y0 y1 with ⟨rfl, rfl⟩ | h | h
    · rw [kcmp_self]; rfl
    · rw [kcmp_lt h, kcmp_gt h]; rfl
    · rw [kcmp_gt h, kcmp_lt h]
  have k6 := kcmp_c b0 b1 a0 a1
  rw [anti a0 a1 b0 b1] at k6
  have k3 := klst_c a0 a1 b0 b1
  rcases kcmp_tri a0 a1 b0 b1 with ⟨rfl, rfl⟩ | h | h
  · have k1 := kcmp_c a0 a1 a0 a1
    rw [kcmp_self] at k1
    have k2 := kah_c a0 a1 a0 a1
    rw [show kah a0 a1 a0 a1 = false by simp [kah]] at k2
    rw [show km0 a0 a1 a0 a1 = a0 by simp [km0], show km1 a0 a1 a0 a1 = a1 by simp [km1]] at k3
    exact rankCompares_eq a0 a1 now _ hd k1 k2 k3 (kdue_c a0 a1 now) k5 w
  · have k2 := kah_c a0 a1 b0 b1
    have k7 := kah_c b0 b1 a0 a1
    rw [show kah a0 a1 b0 b1 = true by unfold kah; rw [decide_eq_true_eq]; exact h] at k2
    rw [show kah b0 b1 a0 a1 = false by unfold kah; rw [decide_eq_false_iff_not]; omega] at k7
    have e : ¬ kcmp b0 b1 a0 a1 < 0 := by rw [kcmp_gt h]; decide
    rw [show km0 a0 a1 b0 b1 = a0 by unfold km0; rw [if_neg e], show km1 a0 a1 b0 b1 = a1 by unfold km1; rw [if_neg e]] at k3
    exact rankCompares_ne a0 a1 b0 b1 a0 a1 now _ true false _ hd (.inl ⟨rfl, rfl, kcmp_lt h, rfl, rfl⟩) (kcmp_c a0 a1 b0 b1) k6 k2 k7 k3 (kdue_c a0 a1 now) k5 w
  · have k2 := kah_c a0 a1 b0 b1
    have k7 := kah_c b0 b1 a0 a1
    rw [show kah a0 a1 b0 b1 = false by unfold kah; rw [decide_eq_false_iff_not]; omega] at k2
    rw [show kah b0 b1 a0 a1 = true by unfold kah; rw [decide_eq_true_eq]; exact h] at k7
    have e : kcmp b0 b1 a0 a1 < 0 := by rw [kcmp_lt h]; decide
    rw [show km0 a0 a1 b0 b1 = b0 by unfold km0; rw [if_pos e], show km1 a0 a1 b0 b1 = b1 by unfold km1; rw [if_pos e]] at k3
    exact rankCompares_ne a0 a1 b0 b1 b0 b1 now _ false true _ hd (.inr ⟨rfl, rfl, kcmp_gt h, rfl, rfl⟩) (kcmp_c a0 a1 b0 b1) k6 k2 k7 k3 (kdue_c a0 a1 now) k5 w
end Go.Proofs.Ytldkgnfplldnaaa
