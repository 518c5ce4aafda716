import Derived.Test.YtfdbghcnadanoaaLaw3
namespace Go.Proofs.Ytfdbghcnadanoaa
set_option linter.unusedVariables false
set_option linter.unusedSimpArgs false
open Go.RowKit Fg Reg

theorem wideAdds_law (a0 a1 b0 b1 : Int) (wa0 : (Lit.int .u64 a0).wf = true) (wa1 : (Lit.int .u64 a1).wf = true) (wb0 : (Lit.int .u64 b0).wf = true) (wb1 : (Lit.int .u64 b1).wf = true) (w : World) : Calls Try.prog 3 #[.agg #[.int .u64 a0, .int .u64 a1], .agg #[.int .u64 b0, .int .u64 b1]] w fun e w' => e = .returned (.bool true) ∧ Below w.heap.size w w' := by
  have ha0 := in_wf wa0
  have ha1 := in_wf wa1
  have hb0 := in_wf wb0
  have hb1 := in_wf wb1
  have hA : Wd (val a0 a1) := val_in ha0 ha1
  have hB : Wd (val b0 b1) := val_in hb0 hb1
  have iA := And.intro (hi_val ha0 ha1) (lo_val (a := a0) ha1)
  refine wideAdds_core a0 a1 b0 b1 ha0 ha1 hb0 hb1 (val a0 a1 + val b0 b1) (val a0 a1 - val b0 b1) (val a0 a1) (val b0 b1) ((val a0 a1 + val b0 b1) / 340282366920938463463374607431768211456) rfl rfl
    (decide (340282366920938463463374607431768211455 < val a0 a1 + val b0 b1)) (decide (val a0 a1 < val b0 b1)) ?_ ?_ ?_ ?_ ?_ ?_ ?_ w
  · unfold Wd at hA hB
    generalize val a0 a1 = A at *
    generalize val b0 b1 = B at *
    by_cases h : 340282366920938463463374607431768211455 < A + B
    · simp only [h, decide_true, if_true]; omega
    · simp only [h, decide_false, Bool.false_eq_true, if_false]; omega
  · intro w; exact add_c a0 a1 b0 b1 ha0 ha1 hb0 hb1 w
  · intro w; exact refadd_d _ _ hA hB w
  · intro w
    have h := sub_c a0 a1 b0 b1 ha0 ha1 hb0 hb1 w
    have e : decide (cmp (val a0 a1) (val b0 b1) < 0) = decide (val a0 a1 < val b0 b1) := by
      rw [decide_eq_decide]; unfold cmp; split <;> (try split) <;> omega
    rwa [e] at h
  · intro w
    have h := sub_c (hi (val a0 a1 + val b0 b1)) (lo (val a0 a1 + val b0 b1)) b0 b1 (hi_in _) (lo_in _) hb0 hb1 w
    unfold Wd at hA hB
    have e1 : hi (val (hi (val a0 a1 + val b0 b1)) (lo (val a0 a1 + val b0 b1)) - val b0 b1) = a0 := by
      refine Eq.trans ?_ iA.1
      generalize val a0 a1 = A at *
      generalize val b0 b1 = B at *
      unfold hi lo val; omega
    have e2 : lo (val (hi (val a0 a1 + val b0 b1)) (lo (val a0 a1 + val b0 b1)) - val b0 b1) = a1 := by
      refine Eq.trans ?_ iA.2
      generalize val a0 a1 = A at *
      generalize val b0 b1 = B at *
      unfold hi lo val; omega
    have e3 : decide (cmp (val (hi (val a0 a1 + val b0 b1)) (lo (val a0 a1 + val b0 b1))) (val b0 b1) < 0) = decide (340282366920938463463374607431768211455 < val a0 a1 + val b0 b1) := by
      rw [decide_eq_decide]
      generalize val a0 a1 = A at *
      generalize val b0 b1 = B at *
      unfold cmp hi lo val
      split <;> (try split) <;> omega
    rwa [e1, e2, e3] at h
  · intro w; exact refminus_d _ _ hA hB w
  · intro w; exact refless_d _ _ hA hB w
end Go.Proofs.Ytfdbghcnadanoaa
