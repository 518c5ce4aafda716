/- Runs of one line or two, as numbers. Nothing of the program is imported here. -/
import Derived.Test.YtjicnbdlffpbbaaMathLine
namespace Go.Proofs.Ytjicnbdlffpbbaa
set_option linter.unusedVariables false
set_option linter.unusedSimpArgs false
set_option maxRecDepth 100000
namespace Fg
/-- A run at a tick: the lesser one of its lines; the first one counts only if there are both. -/
def rn (b : Bool) (X1 Y1 M1 X2 Y2 M2 x : Int) : Int := if b = true ∧ lat X1 Y1 M1 x < lat X2 Y2 M2 x then lat X1 Y1 M1 x else lat X2 Y2 M2 x
/-- The tick at which it reaches so much. -/
def rr (b : Bool) (X1 Y1 M1 X2 Y2 M2 W : Int) : Int := if b = true ∧ lrch X2 Y2 M2 W < lrch X1 Y1 M1 W then lrch X1 Y1 M1 W else lrch X2 Y2 M2 W
theorem lat_mono {X Y M x y : Int} (h : Sml Y M) (hX : In X) (hx : In x) (hy : In y) (hle : x ≤ y) : lat X Y M x ≤ lat X Y M y := by
  rw [lat_small h hX.1 hx, lat_small h hX.1 hy]
  have m0 := h.m0
  split
  · split
    · omega
    · have := Int.mul_nonneg m0 (show 0 ≤ y - X by omega); omega
  · rw [if_neg (by omega)]
    have := Int.mul_le_mul_of_nonneg_left (show x - X ≤ y - X by omega) m0
    omega
theorem rn_wd {b : Bool} {X1 Y1 M1 X2 Y2 M2 x : Int} (h1 : Wd Y1) (h2 : Wd Y2) : Wd (rn b X1 Y1 M1 X2 Y2 M2 x) := by
  unfold rn; split <;> exact lat_wd ‹_›
/-- Behind Reach. -/
theorem rr_spec {b : Bool} {X1 Y1 M1 X2 Y2 M2 W x : Int} (s1 : Sml Y1 M1) (s2 : Sml Y2 M2) (hX1 : In X1) (hX2 : In X2) (hM1 : In M1) (hM2 : In M2) (hx : In x) (hW : 0 ≤ W)
    (hlt : rn b X1 Y1 M1 X2 Y2 M2 x < W) (hn : rr b X1 Y1 M1 X2 Y2 M2 W < 9223372036854775808) :
    x < rr b X1 Y1 M1 X2 Y2 M2 W ∧ W ≤ rn b X1 Y1 M1 X2 Y2 M2 (rr b X1 Y1 M1 X2 Y2 M2 W) ∧ rn b X1 Y1 M1 X2 Y2 M2 (rr b X1 Y1 M1 X2 Y2 M2 W - 1) < W := by
  have x0 := hx.1
  have p1 := lrch_spec (W := W) s1 hX1 hW
  have p2 := lrch_spec (W := W) s2 hX2 hW
  have g1 := lrch_in (Y := Y1) (W := W) hX1 hM1 hW
  have g2 := lrch_in (Y := Y2) (W := W) hX2 hM2 hW
  have mono1 := fun a c (ha : In a) (hc : In c) (h : a ≤ c) => lat_mono s1 hX1 ha hc h
  have mono2 := fun a c (ha : In a) (hc : In c) (h : a ≤ c) => lat_mono s2 hX2 ha hc h
  have inx : ∀ n : Int, 0 ≤ n → n ≤ 9223372036854775808 → In n := fun n h0 h1 => by unfold In; omega
  cases b with
  | false =>
    have e : ∀ z, rn false X1 Y1 M1 X2 Y2 M2 z = lat X2 Y2 M2 z := fun z => if_neg (by simp)
    have e2 : rr false X1 Y1 M1 X2 Y2 M2 W = lrch X2 Y2 M2 W := if_neg (by simp)
    rw [e2] at hn ⊢
    rw [e] at hlt
    rw [e, e]
    generalize lrch X2 Y2 M2 W = n at *
    have q := p2.2 hn
    have hxn : x < n := by
      rcases Int.lt_or_le x n with h | h
      · exact h
      · have := mono2 n x (inx n g2.1 g2.2) hx h; omega
    exact ⟨hxn, q.1, q.2 (by omega)⟩
  | true =>
    have e : ∀ z, rn true X1 Y1 M1 X2 Y2 M2 z = if lat X1 Y1 M1 z < lat X2 Y2 M2 z then lat X1 Y1 M1 z else lat X2 Y2 M2 z := fun z => by unfold rn; simp
    have e2 : rr true X1 Y1 M1 X2 Y2 M2 W = if lrch X2 Y2 M2 W < lrch X1 Y1 M1 W then lrch X1 Y1 M1 W else lrch X2 Y2 M2 W := by unfold rr; simp
    rw [e2] at hn ⊢
    rw [e] at hlt
    rw [e, e]
    generalize lrch X1 Y1 M1 W = n1 at *
    generalize lrch X2 Y2 M2 W = n2 at *
    have hn1 : n1 < 9223372036854775808 := by split at hn <;> omega
    have hn2 : n2 < 9223372036854775808 := by split at hn <;> omega
    have q1 := p1.2 hn1
    have q2 := p2.2 hn2
    have i1 := inx n1 g1.1 g1.2
    have i2 := inx n2 g2.1 g2.2
    have hx' : x < n1 ∨ x < n2 := by
      rcases Int.lt_or_le x n1 with h | h
      · exact .inl h
      · rcases Int.lt_or_le x n2 with h' | h'
        · exact .inr h'
        · have a1 := mono1 n1 x i1 hx h
          have a2 := mono2 n2 x i2 hx h'
          split at hlt <;> omega
    by_cases c : n2 < n1
    · rw [if_pos c]
      have a2 := mono2 n2 n1 i2 i1 (by omega)
      have r := q1.2 (by omega)
      refine ⟨by omega, ?_, ?_⟩
      · split <;> omega
      · split <;> omega
    · rw [if_neg c]
      have a1 := mono1 n1 n2 i1 i2 (by omega)
      have r := q2.2 (by omega)
      refine ⟨by omega, ?_, ?_⟩
      · split <;> omega
      · split <;> omega

/-! What a curve's run has. -/
theorem run_lin {X Y m t : Int} (h : Sml Y m) (hX : In X) (ht : 0 ≤ t) (hs : In (X + t)) : lat X Y m (X + t) = Y + m * t := by
  rw [lat_small h hX.1 hs]
  split
  · have : t = 0 := by omega
    rw [this, Int.mul_zero]; omega
  · rw [show X + t - X = t by omega]
theorem run_late {X Y m d t : Int} (h : Sml Y m) (hX : In (X + d)) (hs : In (X + t)) : lat (X + d) Y m (X + t) = if t ≤ d then Y else Y + m * (t - d) := by
  rw [lat_small h hX.1 hs]
  by_cases c : t ≤ d
  · rw [if_pos c, if_pos (by omega)]
  · rw [if_neg c, if_neg (by omega), show X + t - (X + d) = t - d by omega]
theorem run_two {X Y m1 m2 d t : Int} (s1 : Sml Y m1) (s2 : Sml (Y + (m1 - m2) * d) m2) (hX : In X) (ht : 0 ≤ t) (hd : 0 ≤ d) (hs : In (X + t)) (hm : m2 < m1) :
    rn true X Y m1 X (Y + (m1 - m2) * d) m2 (X + t) = Y + sv m1 d m2 t := by
  unfold rn sv
  rw [run_lin s1 hX ht hs, run_lin s2 hX ht hs]
  have h1 : ∀ a c : Int, a ≤ c → (m1 - m2) * a ≤ (m1 - m2) * c := fun a c h => Int.mul_le_mul_of_nonneg_left h (by omega)
  simp only [true_and]
  by_cases c : t ≤ d
  · have := h1 t d c
    simp only [Int.sub_mul, Int.mul_sub] at *
    rw [if_pos c]
    split <;> omega
  · have := h1 d t (by omega)
    simp only [Int.sub_mul, Int.mul_sub] at *
    rw [if_neg c]
    split <;> omega
end Fg
end Go.Proofs.Ytjicnbdlffpbbaa
