import Derived.Test.YtfdbghcnadanoaaLaw5
namespace Go.Proofs.Ytfdbghcnadanoaa
set_option linter.unusedVariables false
set_option linter.unusedSimpArgs false
open Go.RowKit Fg Reg

theorem cmp_lt {x y : Int} (h : x < y) : cmp x y = -1 := by unfold cmp; rw [if_neg (by omega), if_pos h]
theorem cmp_gt {x y : Int} (h : y < x) : cmp x y = 1 := by unfold cmp; rw [if_neg (by omega), if_neg (by omega)]
theorem cmp_self (x : Int) : cmp x x = 0 := by unfold cmp; rw [if_pos rfl]
theorem cmp_le {x y : Int} : cmp x y ≤ 0 ↔ x ≤ y := by
  unfold cmp; split <;> (try split) <;> omega

theorem wideCompares_law (a0 a1 b0 b1 z0 z1 : Int) (wa0 : (Lit.int .u64 a0).wf = true) (wa1 : (Lit.int .u64 a1).wf = true) (wb0 : (Lit.int .u64 b0).wf = true) (wb1 : (Lit.int .u64 b1).wf = true) (wz0 : (Lit.int .u64 z0).wf = true) (wz1 : (Lit.int .u64 z1).wf = true) (w : World) :
    Calls Try.prog 4 #[.agg #[.int .u64 a0, .int .u64 a1], .agg #[.int .u64 b0, .int .u64 b1], .agg #[.int .u64 z0, .int .u64 z1]] w fun e w' => e = .returned (.bool true) ∧ Below w.heap.size w w' := by
  have ha0 := in_wf wa0
  have ha1 := in_wf wa1
  have hb0 := in_wf wb0
  have hb1 := in_wf wb1
  have hz0 := in_wf wz0
  have hz1 := in_wf wz1
  have hA : Wd (val a0 a1) := val_in ha0 ha1
  have hB : Wd (val b0 b1) := val_in hb0 hb1
  have hn : (a0 == b0 && a1 == b1) = true ↔ val a0 a1 = val b0 b1 := by
    constructor
    · intro h; simp at h; rw [h.1, h.2]
    · intro h; have := val_inj ha0 ha1 hb0 hb1 h; simp [this.1, this.2]
  refine wideCompares_core a0 a1 b0 b1 z0 z1 (val a0 a1) (val b0 b1) ha0 ha1 hb0 hb1 rfl rfl (cmp (val a0 a1) (val b0 b1)) (cmp (val b0 b1) (val z0 z1)) (cmp (val a0 a1) (val z0 z1)) (decide (val a0 a1 < val b0 b1)) (decide (val b0 b1 < val a0 a1)) ?_ ?_ ?_ ?_ ?_ ?_ ?_ ?_ w
  · rcases Int.lt_trichotomy (val a0 a1) (val b0 b1) with h | h | h
    · refine .inr (.inl ⟨by simpa using h, by simp; omega, cmp_lt h, ?_⟩)
      rw [Bool.eq_false_iff]; intro hh; have := hn.1 hh; omega
    · have := val_inj ha0 ha1 hb0 hb1 h
      refine .inl ⟨by simp; omega, by simp; omega, ?_, this.1, this.2⟩
      rw [h, cmp_self]
    · refine .inr (.inr ⟨by simp; omega, by simpa using h, cmp_gt h, ?_⟩)
      rw [Bool.eq_false_iff]; intro hh; have := hn.1 hh; omega
  · rcases Int.lt_or_le (val z0 z1) (val b0 b1) with h | h
    · right; rw [cmp_gt h]; decide
    · left; exact ⟨cmp_le.2 h, fun hh => cmp_le.2 (Int.le_trans (cmp_le.1 hh) h)⟩
  · intro w; exact compare_c a0 a1 b0 b1 ha0 ha1 hb0 hb1 w
  · intro w
    have h := compare_c b0 b1 a0 a1 hb0 hb1 ha0 ha1 w
    have e : cmp (val b0 b1) (val a0 a1) = - cmp (val a0 a1) (val b0 b1) := by
      unfold cmp; split <;> split <;> (try split) <;> (try split) <;> omega
    rwa [e] at h
  · intro w; exact compare_c b0 b1 z0 z1 hb0 hb1 hz0 hz1 w
  · intro w; exact compare_c a0 a1 z0 z1 ha0 ha1 hz0 hz1 w
  · intro w; exact refless_d _ _ hA hB w
  · intro w; exact refless_d _ _ hB hA w
end Go.Proofs.Ytfdbghcnadanoaa
