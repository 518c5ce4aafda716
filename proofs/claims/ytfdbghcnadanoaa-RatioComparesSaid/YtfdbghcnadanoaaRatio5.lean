import Derived.Test.YtfdbghcnadanoaaRatio4
namespace Go.Proofs.Ytfdbghcnadanoaa
set_option linter.unusedVariables false
set_option linter.unusedSimpArgs false
open Go.RowKit Fg Reg

theorem cmp_lt' {x y : Int} (h : x < y) : cmp x y = -1 := by unfold cmp; rw [if_neg (by omega), if_pos h]
theorem cmp_gt' {x y : Int} (h : y < x) : cmp x y = 1 := by unfold cmp; rw [if_neg (by omega), if_neg (by omega)]
theorem cmp_self' (x : Int) : cmp x x = 0 := by unfold cmp; rw [if_pos rfl]
theorem cmp_anti (x y : Int) : cmp y x = -cmp x y := by
  unfold cmp; split <;> split <;> (try split) <;> (try split) <;> omega
theorem cmp_cases (x y : Int) : (decide (x < y) = false ∧ decide (y < x) = false ∧ cmp x y = 0) ∨ (decide (x < y) = true ∧ decide (y < x) = false ∧ cmp x y = -1) ∨ (decide (x < y) = false ∧ decide (y < x) = true ∧ cmp x y = 1) := by
  rcases Int.lt_trichotomy x y with h | h | h
  · exact .inr (.inl ⟨by simpa using h, by simp; omega, cmp_lt' h⟩)
  · subst h; exact .inl ⟨by simp, by simp, cmp_self' x⟩
  · exact .inr (.inr ⟨by simp; omega, by simpa using h, cmp_gt' h⟩)

theorem ratioCompares_law (a b c d : Int) (wa : (Lit.int .u64 a).wf = true) (wb : (Lit.int .u64 b).wf = true) (wc : (Lit.int .u64 c).wf = true) (wd : (Lit.int .u64 d).wf = true) (w : World) :
    Calls Try.prog 9 #[.agg #[.int .u64 a, .int .u64 b], .agg #[.int .u64 c, .int .u64 d]] w fun e w' => e = .returned (.bool true) ∧ Below w.heap.size w w' := by
  have ha := in_wf wa
  have hb := in_wf wb
  have hc := in_wf wc
  have hd := in_wf wd
  refine ratioCompares_core a b c d (a * b) (c * d) _ _ _ (cmp_cases (a * b) (c * d)) (refmul_c a b ha hb) (refmul_c c d hc hd) (refless_d _ _ (wd_mul ha hb) (wd_mul hc hd)) (refless_d _ _ (wd_mul hc hd) (wd_mul ha hb)) (rcompare_c a b c d ha hb hc hd) ?_ ?_ w
  · intro w; have h := rcompare_c c d a b hc hd ha hb w; rwa [cmp_anti] at h
  · intro w; have h := rcompare_c b a d c hb ha hd hc w; rwa [Int.mul_comm b a, Int.mul_comm d c] at h
end Go.Proofs.Ytfdbghcnadanoaa
