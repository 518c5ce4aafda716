/- Lines, as numbers. Nothing of the program is imported here. -/
import Derived.Test.YtjicnbdlffpbbaaMathCurve
namespace Go.Proofs.Ytjicnbdlffpbbaa
set_option linter.unusedVariables false
set_option linter.unusedSimpArgs false
set_option maxRecDepth 100000
namespace Fg
/-- A line at a tick, modulo 2^128. -/
def lat (X Y M x : Int) : Int := if x ≤ X then Y else (Y + M * (x - X)) % 340282366920938463463374607431768211456
/-- The least tick at which it is at least so much. -/
def lrch (X Y M W : Int) : Int := if W ≤ Y then 0 else ov (W - Y) M X
theorem lat_wd {X Y M x : Int} (hY : Wd Y) : Wd (lat X Y M x) := by
  unfold lat; split
  · exact hY
  · unfold Wd; omega
theorem dig_mod (S : Int) : d0 (S % 340282366920938463463374607431768211456) = d0 S ∧ d1 (S % 340282366920938463463374607431768211456) = d1 S ∧ d2 (S % 340282366920938463463374607431768211456) = d2 S ∧ d3 (S % 340282366920938463463374607431768211456) = d3 S := by
  unfold d0 d1 d2 d3; omega
theorem hi_mod (S : Int) : hi (S % 340282366920938463463374607431768211456) = hi S ∧ lo (S % 340282366920938463463374607431768211456) = lo S := by
  unfold hi lo; omega
/-- Of small lines there is no modulo. -/
structure Sml (Y M : Int) : Prop where
  y0 : 0 ≤ Y
  y1 : Y < 1267650600228229401496703205376
  m0 : 0 ≤ M
  m1 : M < 68719476736
theorem lat_small {X Y M x : Int} (h : Sml Y M) (hX : 0 ≤ X) (hx : In x) : lat X Y M x = if x ≤ X then Y else Y + M * (x - X) := by
  unfold lat
  split
  · rfl
  · have := mul_bd h.m0 (show M ≤ 68719476735 by have := h.m1; omega) (show 0 ≤ x - X by omega) (show x - X ≤ 18446744073709551615 by unfold In at hx; omega) (by omega)
    have := h.y0
    have := h.y1
    omega
theorem lrch_in {X Y M W : Int} (hX : In X) (hM : In M) (hW : 0 ≤ W) : 0 ≤ lrch X Y M W ∧ lrch X Y M W ≤ 9223372036854775808 := by
  unfold lrch
  split
  · omega
  · unfold ov
    rw [if_neg (by omega)]
    split
    · omega
    · have := clg_nn (n := W - Y) (by omega) (show 0 < M by unfold In at hM; omega)
      unfold In at hX
      split <;> omega
theorem lrch_spec {X Y M W : Int} (h : Sml Y M) (hX : In X) (hW : 0 ≤ W) :
    (lrch X Y M W = 9223372036854775808 → lat X Y M 4611686018427387904 < W) ∧
    (lrch X Y M W < 9223372036854775808 → W ≤ lat X Y M (lrch X Y M W) ∧ (0 < lrch X Y M W → lat X Y M (lrch X Y M W - 1) < W)) := by
  have m0 := h.m0
  have x0 := hX.1
  by_cases c : W ≤ Y
  · have e : lrch X Y M W = 0 := if_pos c
    rw [e]
    refine ⟨fun h => by omega, fun _ => ⟨?_, fun h => by omega⟩⟩
    unfold lat; rw [if_pos x0]; exact c
  · have e : lrch X Y M W = ov (W - Y) M X := if_neg c
    have e2 : ov (W - Y) M X = if M = 0 then 9223372036854775808 else if clg (W - Y) M + X < 9223372036854775808 then X + clg (W - Y) M else 9223372036854775808 := if_neg (by omega)
    rw [e, e2]
    by_cases c2 : M = 0
    · rw [if_pos c2]
      refine ⟨fun _ => ?_, fun h => by omega⟩
      rw [lat_small h x0 (by unfold In; omega), c2]
      split <;> omega
    · rw [if_neg c2]
      have s := clg_spec (n := W - Y) (show 0 < M by omega)
      have s1 := clg_pos (n := W - Y) (by omega) (show 0 < M by omega)
      by_cases c3 : clg (W - Y) M + X < 9223372036854775808
      · rw [if_pos c3]
        refine ⟨fun h => by omega, fun _ => ?_⟩
        rw [lat_small h x0 (by unfold In; omega), lat_small h x0 (by unfold In; omega), if_neg (by omega), show X + clg (W - Y) M - X = clg (W - Y) M by omega]
        refine ⟨by omega, fun _ => ?_⟩
        split
        · omega
        · rw [show X + clg (W - Y) M - 1 - X = clg (W - Y) M - 1 by omega]; omega
      · rw [if_neg c3]
        refine ⟨fun _ => ?_, fun h => by omega⟩
        rw [lat_small h x0 (by unfold In; omega)]
        split
        · omega
        · have := Int.mul_le_mul_of_nonneg_left (show 4611686018427387904 - X ≤ clg (W - Y) M - 1 by omega) m0
          omega

theorem lrch_gt {X Y M W : Int} (h : Y < W) : lrch X Y M W = if M = 0 then 9223372036854775808 else if clg (W - Y) M + X < 9223372036854775808 then X + clg (W - Y) M else 9223372036854775808 := by
  unfold lrch ov
  rw [if_neg (by omega), if_neg (by omega)]
theorem clg_shift {n m k : Int} (hm : m ≠ 0) : clg (n + m * k) m = clg n m + k := by
  unfold clg
  rw [Int.add_mul_emod_self_left, Int.add_mul_ediv_left _ _ hm]
  split <;> omega
theorem clg_mono {n n' m : Int} (hm : 0 < m) (h : n ≤ n') : clg n m ≤ clg n' m := by
  have s := clg_spec (n := n) hm
  have s' := clg_spec (n := n') hm
  rcases Int.lt_or_le (clg n' m) (clg n m) with h' | h'
  · have := Int.mul_le_mul_of_nonneg_left (show clg n' m ≤ clg n m - 1 by omega) (show 0 ≤ m by omega)
    omega
  · exact h'
/-- Of two lines of one slope the lower one is nowhere above the other one, and reaches nothing earlier. -/
theorem lower_at {Xa Ya Xb Yb M x0 x : Int} (ha : Sml Ya M) (hb : Sml Yb M) (hXa : In Xa) (hXb : In Xb) (h0 : In x0) (hx : In x) (a0 : Xa ≤ x0) (b0 : Xb ≤ x0) (a1 : Xa ≤ x) (b1 : Xb ≤ x)
    (h : lat Xa Ya M x0 ≤ lat Xb Yb M x0) : lat Xa Ya M x ≤ lat Xb Yb M x := by
  have full : ∀ {X Y z : Int}, Sml Y M → In X → In z → X ≤ z → lat X Y M z = Y + M * (z - X) := by
    intro X Y z hs hX hz hle
    rw [lat_small hs hX.1 hz]
    split
    · have : z = X := by omega
      rw [this, Int.sub_self, Int.mul_zero]; omega
    · rfl
  rw [full ha hXa h0 a0, full hb hXb h0 b0] at h
  rw [full ha hXa hx a1, full hb hXb hx b1]
  simp only [Int.mul_sub] at *
  omega
theorem lower_reach {Xa Ya Xb Yb M x0 W : Int} (ha : Sml Ya M) (hb : Sml Yb M) (hXa : In Xa) (hXb : In Xb) (h0 : In x0) (a0 : Xa ≤ x0) (b0 : Xb ≤ x0)
    (h : lat Xa Ya M x0 ≤ lat Xb Yb M x0) (wa : Ya < W) (wb : Yb < W) : lrch Xb Yb M W ≤ lrch Xa Ya M W := by
  have full : ∀ {X Y z : Int}, Sml Y M → In X → In z → X ≤ z → lat X Y M z = Y + M * (z - X) := by
    intro X Y z hs hX hz hle
    rw [lat_small hs hX.1 hz]
    split
    · have : z = X := by omega
      rw [this, Int.sub_self, Int.mul_zero]; omega
    · rfl
  rw [full ha hXa h0 a0, full hb hXb h0 b0] at h
  rw [lrch_gt wa, lrch_gt wb]
  have m0 := ha.m0
  by_cases c : M = 0
  · rw [if_pos c, if_pos c]; omega
  · rw [if_neg c, if_neg c]
    have key : clg (W - Yb) M + Xb ≤ clg (W - Ya) M + Xa := by
      rw [← clg_shift c, ← clg_shift c]
      refine clg_mono (by omega) ?_
      simp only [Int.mul_sub] at h
      omega
    by_cases c1 : clg (W - Yb) M + Xb < 9223372036854775808
    · rw [if_pos c1]
      split <;> omega
    · rw [if_neg c1, if_neg (by omega)]; omega
end Fg
end Go.Proofs.Ytjicnbdlffpbbaa
