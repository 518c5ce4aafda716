import Derived.Test.YtdahjhokcjfioaaLineA
import Derived.Test.YtdahjhokcjfioaaMeetA
/- Runs of one line or two, as numbers. Nothing of the program is imported here. -/
namespace Go.Proofs.Ytdahjhokcjfioaa
set_option linter.unusedVariables false
set_option linter.unusedSimpArgs false
set_option maxRecDepth 100000
namespace Fg
/-- A run at a tick: the lesser one of its lines; the first one counts only if there are both. -/
def rn (b : Bool) (X1 Y1 M1 X2 Y2 M2 x : Int) : Int := if b = true ∧ lat X1 Y1 M1 x < lat X2 Y2 M2 x then lat X1 Y1 M1 x else lat X2 Y2 M2 x
/-- The tick at which it reaches so much. -/
def rr (b : Bool) (X1 Y1 M1 X2 Y2 M2 W : Int) : Int := if b = true ∧ lrch X2 Y2 M2 W < lrch X1 Y1 M1 W then lrch X1 Y1 M1 W else lrch X2 Y2 M2 W
theorem lat_mono {X Y M x y : Int} (h : Sml Y M) (hX : In X) (hx : In x) (hy : In y) (hle : x ≤ y) : lat X Y M x ≤ lat X Y M y := by
  rw [lat_small h hX.1 hx, lat_small h hX.1 hy]
  have m0 := h.m0
  split
  · split
    · omega
    · have := Int.mul_nonneg m0 (show 0 ≤ y - X by omega); omega
  · rw [if_neg (by omega)]
    have := Int.mul_le_mul_of_nonneg_left (show x - X ≤ y - X by omega) m0
    omega
theorem rn_wd {b : Bool} {X1 Y1 M1 X2 Y2 M2 x : Int} (h1 : Wd Y1) (h2 : Wd Y2) : Wd (rn b X1 Y1 M1 X2 Y2 M2 x) := by
  unfold rn; split <;> exact lat_wd ‹_›
/-- Behind Reach. -/
theorem rr_spec {b : Bool} {X1 Y1 M1 X2 Y2 M2 W x : Int} (s1 : Sml Y1 M1) (s2 : Sml Y2 M2) (hX1 : In X1) (hX2 : In X2) (hM1 : In M1) (hM2 : In M2) (hx : In x) (hW : 0 ≤ W)
    (hlt : rn b X1 Y1 M1 X2 Y2 M2 x < W) (hn : rr b X1 Y1 M1 X2 Y2 M2 W < 9223372036854775808) :
    x < rr b X1 Y1 M1 X2 Y2 M2 W ∧ W ≤ rn b X1 Y1 M1 X2 Y2 M2 (rr b X1 Y1 M1 X2 Y2 M2 W) ∧ rn b X1 Y1 M1 X2 Y2 M2 (rr b X1 Y1 M1 X2 Y2 M2 W - 1) < W := by
  have x0 := hx.1
  have p1 := lrch_spec (W := W) s1 hX1 hW
  have p2 := lrch_spec (W := W) s2 hX2 hW
  have g1 := lrch_in (Y := Y1) (W := W) hX1 hM1 hW
  have g2 := lrch_in (Y := Y2) (W := W) hX2 hM2 hW
  have mono1 := fun a c (ha : In a) (hc : In c) (h : a ≤ c) => lat_mono s1 hX1 ha hc h
  have mono2 := fun a c (ha : In a) (hc : In c) (h : a ≤ c) => lat_mono s2 hX2 ha hc h
  have inx : ∀ n : Int, 0 ≤ n → n ≤ 9223372036854775808 → In n := fun n h0 h1 => by unfold In; omega
  cases b with
  | false =>
    have e : ∀ z, rn false X1 Y1 M1 X2 Y2 M2 z = lat X2 Y2 M2 z := fun z => if_neg (by simp)
    have e2 : rr false X1 Y1 M1 X2 Y2 M2 W = lrch X2 Y2 M2 W := if_neg (by simp)
    rw [e2] at hn ⊢
    rw [e] at hlt
    rw [e, e]
    generalize lrch X2 Y2 M2 W = n at *
    have q := p2.2 hn
    have hxn : x < n := by
      rcases Int.lt_or_le x n with h | h
      · exact h
      · have := mono2 n x (inx n g2.1 g2.2) hx h; omega
    exact ⟨hxn, q.1, q.2 (by omega)⟩
  | true =>
    have e : ∀ z, rn true X1 Y1 M1 X2 Y2 M2 z = if lat X1 Y1 M1 z < lat X2 Y2 M2 z then lat X1 Y1 M1 z else lat X2 Y2 M2 z := fun z => by unfold rn; simp
    have e2 : rr true X1 Y1 M1 X2 Y2 M2 W = if lrch X2 Y2 M2 W < lrch X1 Y1 M1 W then lrch X1 Y1 M1 W else lrch X2 Y2 M2 W := by unfold rr; simp
    rw [e2] at hn ⊢
    rw [e] at hlt
    rw [e, e]
    generalize lrch X1 Y1 M1 W = n1 at *
    generalize lrch X2 Y2 M2 W = n2 at *
    have hn1 : n1 < 9223372036854775808 := by split at hn <;> omega
    have hn2 : n2 < 9223372036854775808 := by split at hn <;> omega
    have q1 := p1.2 hn1
    have q2 := p2.2 hn2
    have i1 := inx n1 g1.1 g1.2
    have i2 := inx n2 g2.1 g2.2
    have hx' : x < n1 ∨ x < n2 := by
      rcases Int.lt_or_le x n1 with h | h
      · exact .inl h
      · rcases Int.lt_or_le x n2 with h' | h'
        · exact .inr h'
        · have a1 := mono1 n1 x i1 hx h
          have a2 := mono2 n2 x i2 hx h'
          split at hlt <;> omega
    by_cases c : n2 < n1
    · rw [if_pos c]
      have a2 := mono2 n2 n1 i2 i1 (by omega)
      have r := q1.2 (by omega)
      refine ⟨by omega, ?_, ?_⟩
      · split <;> omega
      · split <;> omega
    · rw [if_neg c]
      have a1 := mono1 n1 n2 i1 i2 (by omega)
      have r := q2.2 (by omega)
      refine ⟨by omega, ?_, ?_⟩
      · split <;> omega
      · split <;> omega

/-! What a curve's run has. -/
theorem run_lin {X Y m t : Int} (h : Sml Y m) (hX : In X) (ht : 0 ≤ t) (hs : In (X + t)) : lat X Y m (X + t) = Y + m * t := by
  rw [lat_small h hX.1 hs]
  split
  · have : t = 0 := by omega
    rw [this, Int.mul_zero]; omega
  · rw [show X + t - X = t by omega]
theorem run_late {X Y m d t : Int} (h : Sml Y m) (hX : In (X + d)) (hs : In (X + t)) : lat (X + d) Y m (X + t) = if t ≤ d then Y else Y + m * (t - d) := by
  rw [lat_small h hX.1 hs]
  by_cases c : t ≤ d
  · rw [if_pos c, if_pos (by omega)]
  · rw [if_neg c, if_neg (by omega), show X + t - (X + d) = t - d by omega]
theorem run_two {X Y m1 m2 d t : Int} (s1 : Sml Y m1) (s2 : Sml (Y + (m1 - m2) * d) m2) (hX : In X) (ht : 0 ≤ t) (hd : 0 ≤ d) (hs : In (X + t)) (hm : m2 < m1) :
    rn true X Y m1 X (Y + (m1 - m2) * d) m2 (X + t) = Y + sv m1 d m2 t := by
  unfold rn sv
  rw [run_lin s1 hX ht hs, run_lin s2 hX ht hs]
  have h1 : ∀ a c : Int, a ≤ c → (m1 - m2) * a ≤ (m1 - m2) * c := fun a c h => Int.mul_le_mul_of_nonneg_left h (by omega)
  simp only [true_and]
  by_cases c : t ≤ d
  · have := h1 t d c
    simp only [Int.sub_mul, Int.mul_sub] at *
    rw [if_pos c]
    split <;> omega
  · have := h1 d t (by omega)
    simp only [Int.sub_mul, Int.mul_sub] at *
    rw [if_neg c]
    split <;> omega
end Fg
end Go.Proofs.Ytdahjhokcjfioaa

/- The meeting of two runs of the same slopes, as numbers. Nothing of the program is imported here. -/
namespace Go.Proofs.Ytdahjhokcjfioaa
set_option linter.unusedVariables false
set_option linter.unusedSimpArgs false
set_option maxRecDepth 100000
namespace Fg
/-- The line that is chosen where both have begun is the lesser one from there on. -/
theorem pick_at {Xa Ya Xb Yb M x : Int} (ha : Sml Ya M) (hb : Sml Yb M) (hXa : In Xa) (hXb : In Xb) (hx : In x) (a1 : Xa ≤ x) (b1 : Xb ≤ x) (c : Bool)
    (hc : decide (lat Xa Ya M (if Xa < Xb then Xb else Xa) ≤ lat Xb Yb M (if Xa < Xb then Xb else Xa)) = c) :
    lat (if c = true then Xa else Xb) (if c = true then Ya else Yb) M x = if lat Xb Yb M x < lat Xa Ya M x then lat Xb Yb M x else lat Xa Ya M x := by
  have h0 : In (if Xa < Xb then Xb else Xa) := by split <;> assumption
  have a0 : Xa ≤ (if Xa < Xb then Xb else Xa) := by split <;> omega
  have b0 : Xb ≤ (if Xa < Xb then Xb else Xa) := by split <;> omega
  cases c with
  | true =>
    have h := lower_at ha hb hXa hXb h0 hx a0 b0 a1 b1 (by simpa using hc)
    rw [if_pos rfl, if_pos rfl, if_neg (by omega)]
  | false =>
    have h1 : lat Xb Yb M (if Xa < Xb then Xb else Xa) ≤ lat Xa Ya M (if Xa < Xb then Xb else Xa) := by
      have : ¬ lat Xa Ya M (if Xa < Xb then Xb else Xa) ≤ lat Xb Yb M (if Xa < Xb then Xb else Xa) := by simpa using hc
      omega
    have h := lower_at hb ha hXb hXa h0 hx b0 a0 b1 a1 h1
    rw [if_neg (by simp), if_neg (by simp)]
    split <;> omega
theorem pick_reach {Xa Ya Xb Yb M W : Int} (ha : Sml Ya M) (hb : Sml Yb M) (hXa : In Xa) (hXb : In Xb) (wa : Ya < W) (wb : Yb < W) (c : Bool)
    (hc : decide (lat Xa Ya M (if Xa < Xb then Xb else Xa) ≤ lat Xb Yb M (if Xa < Xb then Xb else Xa)) = c) :
    lrch (if c = true then Xa else Xb) (if c = true then Ya else Yb) M W = if lrch Xa Ya M W < lrch Xb Yb M W then lrch Xb Yb M W else lrch Xa Ya M W := by
  have h0 : In (if Xa < Xb then Xb else Xa) := by split <;> assumption
  have a0 : Xa ≤ (if Xa < Xb then Xb else Xa) := by split <;> omega
  have b0 : Xb ≤ (if Xa < Xb then Xb else Xa) := by split <;> omega
  cases c with
  | true =>
    have h := lower_reach ha hb hXa hXb h0 a0 b0 (by simpa using hc) wa wb
    rw [if_pos rfl, if_pos rfl, if_neg (by omega)]
  | false =>
    have h1 : lat Xb Yb M (if Xa < Xb then Xb else Xa) ≤ lat Xa Ya M (if Xa < Xb then Xb else Xa) := by
      have : ¬ lat Xa Ya M (if Xa < Xb then Xb else Xa) ≤ lat Xb Yb M (if Xa < Xb then Xb else Xa) := by simpa using hc
      omega
    have h := lower_reach hb ha hXb hXa h0 b0 a0 h1 wb wa
    rw [if_neg (by simp), if_neg (by simp)]
    split <;> omega
/-- The meeting of two runs is, from all their lines' beginnings on, the lesser one of the two. -/
theorem meet_at {b : Bool} {X1 Y1 M1 X2 Y2 M2 U1 V1 U2 V2 P1 Q1 P2 Q2 x : Int}
    (h1 : b = true → lat P1 Q1 M1 x = if lat U1 V1 M1 x < lat X1 Y1 M1 x then lat U1 V1 M1 x else lat X1 Y1 M1 x)
    (h2 : lat P2 Q2 M2 x = if lat U2 V2 M2 x < lat X2 Y2 M2 x then lat U2 V2 M2 x else lat X2 Y2 M2 x) :
    rn b P1 Q1 M1 P2 Q2 M2 x = if rn b U1 V1 M1 U2 V2 M2 x < rn b X1 Y1 M1 X2 Y2 M2 x then rn b U1 V1 M1 U2 V2 M2 x else rn b X1 Y1 M1 X2 Y2 M2 x := by
  unfold rn
  cases b with
  | false => simpa using h2
  | true =>
    have h1 := h1 rfl
    simp only [true_and]
    generalize lat P1 Q1 M1 x = p1 at *
    generalize lat P2 Q2 M2 x = p2 at *
    generalize lat U1 V1 M1 x = u1 at *
    generalize lat U2 V2 M2 x = u2 at *
    generalize lat X1 Y1 M1 x = x1 at *
    generalize lat X2 Y2 M2 x = x2 at *
    omega
/-- It reaches amounts at the greater one of the ticks at which they do. -/
theorem meet_reach {b : Bool} {X1 Y1 M1 X2 Y2 M2 U1 V1 U2 V2 P1 Q1 P2 Q2 W : Int}
    (h1 : b = true → lrch P1 Q1 M1 W = if lrch X1 Y1 M1 W < lrch U1 V1 M1 W then lrch U1 V1 M1 W else lrch X1 Y1 M1 W)
    (h2 : lrch P2 Q2 M2 W = if lrch X2 Y2 M2 W < lrch U2 V2 M2 W then lrch U2 V2 M2 W else lrch X2 Y2 M2 W) :
    rr b P1 Q1 M1 P2 Q2 M2 W = if rr b X1 Y1 M1 X2 Y2 M2 W < rr b U1 V1 M1 U2 V2 M2 W then rr b U1 V1 M1 U2 V2 M2 W else rr b X1 Y1 M1 X2 Y2 M2 W := by
  unfold rr
  cases b with
  | false => simpa using h2
  | true =>
    have h1 := h1 rfl
    simp only [true_and]
    generalize lrch P1 Q1 M1 W = p1 at *
    generalize lrch P2 Q2 M2 W = p2 at *
    generalize lrch U1 V1 M1 W = u1 at *
    generalize lrch U2 V2 M2 W = u2 at *
    generalize lrch X1 Y1 M1 W = x1 at *
    generalize lrch X2 Y2 M2 W = x2 at *
    omega
theorem lat_ge {X Y M x : Int} (h : Sml Y M) (hX : In X) (hx : In x) : Y ≤ lat X Y M x := by
  rw [lat_small h hX.1 hx]
  split
  · omega
  · have := Int.mul_nonneg h.m0 (show 0 ≤ x - X by omega)
    omega
/-- Where a line is no less it has reached. -/
theorem reach_le {X Y M W x : Int} (h : Sml Y M) (hX : In X) (hx : In x) (hx2 : x < 9223372036854775808) (hle : X ≤ x) (hW : W ≤ lat X Y M x) : lrch X Y M W ≤ x := by
  have m0 := h.m0
  have x0 := hX.1
  rw [lat_small h x0 hx] at hW
  unfold lrch ov
  split
  · omega
  · rw [if_neg (by omega)]
    have hlt : ¬ x ≤ X := by
      intro hc; rw [if_pos hc] at hW; omega
    rw [if_neg hlt] at hW
    have hM : M ≠ 0 := by
      intro hc; rw [hc] at hW; omega
    rw [if_neg hM]
    have s := clg_spec (n := W - Y) (show 0 < M by omega)
    have hc : clg (W - Y) M ≤ x - X := by
      rcases Int.lt_or_le (x - X) (clg (W - Y) M) with h' | h'
      · have := Int.mul_le_mul_of_nonneg_left (show x - X ≤ clg (W - Y) M - 1 by omega) m0
        omega
      · exact h'
    rw [if_pos (by omega)]
    omega
theorem reach_gt {X Y M W : Int} (hX : In X) (hX2 : X < 9223372036854775808) (hM : 0 ≤ M) (hW : Y < W) : X < lrch X Y M W := by
  rw [lrch_gt hW]
  split
  · omega
  · have := clg_pos (n := W - Y) (by omega) (show 0 < M by omega)
    split <;> omega
/-- Two runs of one concave curve: the second lines lie the same amount above the first ones. -/
theorem meet3_reach {X Y U V M1 M2 D W : Int} (s1 : Sml Y M1) (s2 : Sml (Y + D) M2) (t1 : Sml V M1) (t2 : Sml (V + D) M2) (hX : In X) (hU : In U) (hU2 : U < 9223372036854775808) (hXU : X ≤ U) (hD : 0 ≤ D) (hY : Y < W) (hV : V < W)
    (c1 c2 : Bool) (e1 : decide (lat X Y M1 (if X < U then U else X) ≤ lat U V M1 (if X < U then U else X)) = c1) (e2 : decide (lat X (Y + D) M2 (if X < U then U else X) ≤ lat U (V + D) M2 (if X < U then U else X)) = c2) :
    rr true (if c1 = true then X else U) (if c1 = true then Y else V) M1 (if c2 = true then X else U) (if c2 = true then Y + D else V + D) M2 W =
      if rr true X Y M1 X (Y + D) M2 W < rr true U V M1 U (V + D) M2 W then rr true U V M1 U (V + D) M2 W else rr true X Y M1 X (Y + D) M2 W := by
  have h1 := pick_reach s1 t1 hX hU hY hV c1 e1
  have hm : (if X < U then U else X) = U := by split <;> omega
  have g := reach_gt (Y := V) hU hU2 s1.m0 hV
  rw [hm] at e2
  have lU : lat U (V + D) M2 U = V + D := by unfold lat; simp
  by_cases w1 : Y + D < W ∧ V + D < W
  · have h2 := pick_reach s2 t2 hX hU w1.1 w1.2 c2 (by rw [hm]; exact e2)
    exact meet_reach (fun _ => h1) h2
  · have key : lrch (if c2 = true then X else U) (if c2 = true then Y + D else V + D) M2 W ≤ U ∧ lrch U (V + D) M2 W ≤ U ∧ lrch X (Y + D) M2 W ≤ U ∨ (lrch (if c2 = true then X else U) (if c2 = true then Y + D else V + D) M2 W = lrch X (Y + D) M2 W ∧ lrch U (V + D) M2 W ≤ lrch X (Y + D) M2 W) ∨ (lrch (if c2 = true then X else U) (if c2 = true then Y + D else V + D) M2 W = lrch U (V + D) M2 W ∧ lrch X (Y + D) M2 W = 0) := by
      by_cases w2 : W ≤ V + D
      · have z : lrch U (V + D) M2 W = 0 := if_pos w2
        cases c2 with
        | true =>
          refine .inr (.inl ⟨by simp, ?_⟩)
          rw [z]
          unfold lrch
          split
          · omega
          · unfold ov; rw [if_neg (by omega)]
            split
            · omega
            · have := clg_pos (n := W - (Y + D)) (by omega) (show 0 < M2 by have := s2.m0; omega)
              have := hX.1
              split <;> omega
        | false =>
          refine .inl ⟨?_, by have := hU.1; omega, ?_⟩
          · simp only [Bool.false_eq_true, if_false]; have := hU.1; omega
          · have e3 : ¬ lat X (Y + D) M2 U ≤ lat U (V + D) M2 U := by simpa using e2
            exact reach_le s2 hX hU hU2 hXU (by omega)
      · have w3 : W ≤ Y + D := by omega
        have z : lrch X (Y + D) M2 W = 0 := if_pos w3
        cases c2 with
        | false => exact .inr (.inr ⟨by simp, z⟩)
        | true =>
          refine .inl ⟨?_, ?_, by have := hU.1; omega⟩
          · simp only [if_true]; have := hU.1; omega
          · have e3 : lat X (Y + D) M2 U ≤ lat U (V + D) M2 U := by simpa using e2
            refine reach_le t2 hU hU hU2 (Int.le_refl _) ?_
            have := lat_ge (x := U) s2 hX hU
            omega
    unfold rr
    simp only [true_and]
    rw [h1]
    have gX := lrch_in (Y := Y + D) (W := W) hX (show In M2 by have := s2.m0; have := s2.m1; unfold In; omega) (by have := s1.y0; omega)
    have gU := lrch_in (Y := V + D) (W := W) hU (show In M2 by have := s2.m0; have := s2.m1; unfold In; omega) (by have := s1.y0; omega)
    generalize lrch (if c2 = true then X else U) (if c2 = true then Y + D else V + D) M2 W = p2 at *
    generalize lrch X Y M1 W = x1 at *
    generalize lrch X (Y + D) M2 W = x2 at *
    generalize lrch U V M1 W = u1 at *
    generalize lrch U (V + D) M2 W = u2 at *
    rcases key with k | k | k <;> omega
end Fg
end Go.Proofs.Ytdahjhokcjfioaa

/- Runs as records: what Start and Ready make, what meetings make of them. Nothing of the program is imported here. -/
namespace Go.Proofs.Ytdahjhokcjfioaa
set_option linter.unusedVariables false
set_option linter.unusedSimpArgs false
set_option maxRecDepth 100000
namespace Fg
structure Rn where
  b : Bool
  x1 : Int
  y1 : Int
  m1 : Int
  x2 : Int
  y2 : Int
  m2 : Int
def Rn.at (r : Rn) (x : Int) : Int := rn r.b r.x1 r.y1 r.m1 r.x2 r.y2 r.m2 x
def Rn.rch (r : Rn) (W : Int) : Int := rr r.b r.x1 r.y1 r.m1 r.x2 r.y2 r.m2 W
structure Rn.ok (r : Rn) : Prop where
  i1 : In r.x1
  j1 : Wd r.y1
  l1 : In r.m1
  i2 : In r.x2
  j2 : Wd r.y2
  l2 : In r.m2
/-- A run whose lines are small. -/
structure Rn.sm (r : Rn) : Prop where
  i1 : In r.x1
  s1 : Sml r.y1 r.m1
  i2 : In r.x2
  s2 : Sml r.y2 r.m2
theorem wd_of_sml {Y M : Int} (h : Sml Y M) : Wd Y := by
  have := h.y0
  have := h.y1
  unfold Wd; omega
theorem in_of_sml {Y M : Int} (h : Sml Y M) : In M := by
  have := h.m0
  have := h.m1
  unfold In; omega
theorem Rn.sm.ok {r : Rn} (h : r.sm) : r.ok := ⟨h.i1, wd_of_sml h.s1, in_of_sml h.s1, h.i2, wd_of_sml h.s2, in_of_sml h.s2⟩
theorem Rn.ok.at_wd {r : Rn} (h : r.ok) (x : Int) : Wd (r.at x) := rn_wd h.j1 h.j2
/-- Is the first of two lines the lower one, where both have begun? -/
def lwr (Xa Ya Ma Xb Yb Mb : Int) : Bool := decide (lat Xa Ya Ma (if Xa < Xb then Xb else Xa) ≤ lat Xb Yb Mb (if Xa < Xb then Xb else Xa))
def slc (c : Bool) (x y : Int) : Int := if c = true then x else y
theorem slc_same (c : Bool) (x : Int) : slc c x x = x := by unfold slc; split <;> rfl
def Rn.c1 (r s : Rn) : Bool := lwr r.x1 r.y1 r.m1 s.x1 s.y1 s.m1
def Rn.c2 (r s : Rn) : Bool := lwr r.x2 r.y2 r.m2 s.x2 s.y2 s.m2
def Rn.meet (r s : Rn) : Rn :=
  ⟨r.b, slc r.b (slc (r.c1 s) r.x1 s.x1) 0, slc r.b (slc (r.c1 s) r.y1 s.y1) 0, slc r.b (slc (r.c1 s) r.m1 s.m1) 0, slc (r.c2 s) r.x2 s.x2, slc (r.c2 s) r.y2 s.y2, slc (r.c2 s) r.m2 s.m2⟩
theorem Rn.sm.meet {r s : Rn} (h : r.sm) (g : s.sm) : (r.meet s).sm := by
  have zS : Sml 0 0 := by constructor <;> omega
  have zI : In 0 := by unfold In; omega
  constructor
  · show In (slc _ _ _); unfold slc; split
    · split; exact h.i1; exact g.i1
    · exact zI
  · show Sml (slc _ _ _) (slc _ _ _); unfold slc; split
    · split; exact h.s1; exact g.s1
    · exact zS
  · show In (slc _ _ _); unfold slc; split; exact h.i2; exact g.i2
  · show Sml (slc _ _ _) (slc _ _ _); unfold slc; split; exact h.s2; exact g.s2
theorem Rn.ok.meet {r s : Rn} (h : r.ok) (g : s.ok) : (r.meet s).ok := by
  have zW : Wd 0 := by unfold Wd; omega
  have zI : In 0 := by unfold In; omega
  constructor
  · show In (slc _ _ _); unfold slc; split
    · split; exact h.i1; exact g.i1
    · exact zI
  · show Wd (slc _ _ _); unfold slc; split
    · split; exact h.j1; exact g.j1
    · exact zW
  · show In (slc _ _ _); unfold slc; split
    · split; exact h.l1; exact g.l1
    · exact zI
  · show In (slc _ _ _); unfold slc; split; exact h.i2; exact g.i2
  · show Wd (slc _ _ _); unfold slc; split; exact h.j2; exact g.j2
  · show In (slc _ _ _); unfold slc; split; exact h.l2; exact g.l2
/-- The run of a curve, late: with a convex curve's delay. -/
def srun (late : Bool) (m1 d m2 X Y : Int) : Rn :=
  if kind m1 d m2 = 3 then ⟨true, X, Y, m1, X, Y + (m1 - m2) * d, m2⟩
  else if kind m1 d m2 = 4 then ⟨false, 0, 0, 0, if late = true then X + d else X, Y, m2⟩
  else if kind m1 d m2 = 2 then ⟨false, 0, 0, 0, X, Y, m2⟩
  else ⟨false, 0, 0, 0, X, Y, 0⟩
theorem kind_of1 {m1 d m2 : Int} (h : kind m1 d m2 = 1) : m1 = 0 ∧ d = 0 ∧ m2 = 0 := by
  unfold kind at h; revert h; repeat' split
  all_goals omega
theorem kind_ok {m1 d m2 : Int} (h1 : In m1) (h2 : In d) (h3 : In m2) (h : kind m1 d m2 = 2 ∨ kind m1 d m2 = 3 ∨ kind m1 d m2 = 4) : Okc m1 d m2 := okc h1 h2 h3 (by omega)
theorem cut_bd {m1 d m2 : Int} (ok : Okc m1 d m2) (h : m2 < m1) : 0 ≤ (m1 - m2) * d ∧ (m1 - m2) * d ≤ 4294967295 * 1048576 :=
  mul_bd (by omega) (by have := ok.b1; have := ok.n3; omega) ok.n2 ok.b2 (by omega)
theorem srun_sm {late : Bool} {m1 d m2 X Y : Int} (h1 : In m1) (h2 : In d) (h3 : In m2) (hX : 0 ≤ X) (hX1 : X ≤ 9223372036854775808) (hY : 0 ≤ Y) (hY1 : Y < 1000000000000000000000000000000) : (srun late m1 d m2 X Y).sm := by
  have zI : In 0 := by unfold In; omega
  have zS : Sml 0 0 := by constructor <;> omega
  have xI : In X := by unfold In; omega
  unfold srun
  split
  · rename_i hk
    have ok := kind_ok h1 h2 h3 (.inr (.inl hk))
    have := cut_bd ok (kind_of3 hk)
    have := ok.n1
    have := ok.n3
    have := ok.b1
    have := ok.b3
    exact ⟨xI, by constructor <;> (dsimp only; omega), xI, by constructor <;> (dsimp only; omega)⟩
  · split
    · rename_i hk
      have ok := kind_ok h1 h2 h3 (.inr (.inr hk))
      have := ok.n2
      have := ok.b2
      have := ok.n3
      have := ok.b3
      exact ⟨zI, zS, by show In (if late = true then X + d else X); unfold In; split <;> omega, by constructor <;> (dsimp only; omega)⟩
    · split
      · rename_i hk
        have ok := kind_ok h1 h2 h3 (.inl hk)
        have := ok.n3
        have := ok.b3
        exact ⟨zI, zS, xI, by constructor <;> (dsimp only; omega)⟩
      · exact ⟨zI, zS, xI, by constructor <;> (dsimp only; omega)⟩
/-- From all their lines' beginnings on the meeting is the lesser one. -/
theorem Rn.at_meet {r s : Rn} (h : r.sm) (g : s.sm) (hb : s.b = r.b) (e1 : r.b = true → s.m1 = r.m1) (e2 : s.m2 = r.m2) {x : Int} (hx : In x) (a1 : r.b = true → r.x1 ≤ x) (a2 : r.x2 ≤ x) (b1 : r.b = true → s.x1 ≤ x) (b2 : s.x2 ≤ x) :
    (r.meet s).at x = if s.at x < r.at x then s.at x else r.at x := by
  obtain ⟨b, X1, Y1, M1, X2, Y2, M2⟩ := r
  obtain ⟨b', U1, V1, N1, U2, V2, N2⟩ := s
  obtain ⟨i1, s1, i2, s2⟩ := h
  obtain ⟨j1, t1, j2, t2⟩ := g
  dsimp only at *
  subst hb e2
  have p2 := pick_at s2 t2 i2 j2 hx a2 b2 _ rfl
  have key : b' = true → lat (slc b' (slc (lwr X1 Y1 M1 U1 V1 N1) X1 U1) 0) (slc b' (slc (lwr X1 Y1 M1 U1 V1 N1) Y1 V1) 0) M1 x = if lat U1 V1 M1 x < lat X1 Y1 M1 x then lat U1 V1 M1 x else lat X1 Y1 M1 x := by
    intro hb
    have e1' := e1 hb
    subst hb e1'
    exact pick_at s1 t1 i1 j1 hx (a1 rfl) (b1 rfl) _ rfl
  have m := meet_at (b := b') (x := x) key p2
  show rn b' _ _ (slc b' (slc (lwr X1 Y1 M1 U1 V1 N1) M1 N1) 0) _ _ (slc (lwr X2 Y2 N2 U2 V2 N2) N2 N2) x = _
  rw [slc_same]
  cases b' with
  | false => exact m
  | true =>
    have e1' := e1 rfl
    subst e1'
    rw [slc_same]
    exact m
theorem srun_b {l l' : Bool} {m1 d m2 X Y U V : Int} : (srun l m1 d m2 X Y).b = (srun l' m1 d m2 U V).b ∧ (srun l m1 d m2 X Y).m1 = (srun l' m1 d m2 U V).m1 ∧ (srun l m1 d m2 X Y).m2 = (srun l' m1 d m2 U V).m2 := by
  unfold srun
  split
  · exact ⟨rfl, rfl, rfl⟩
  · split
    · exact ⟨rfl, rfl, rfl⟩
    · split <;> exact ⟨rfl, rfl, rfl⟩
theorem srun_x {l : Bool} {m1 d m2 X Y : Int} (h1 : In m1) (h2 : In d) (h3 : In m2) (hX : 0 ≤ X) : (srun l m1 d m2 X Y).x1 ≤ X ∧ (srun l m1 d m2 X Y).x2 ≤ X + d := by
  have := h2.1
  unfold srun
  split
  · dsimp only; omega
  · split
    · dsimp only; split <;> omega
    · split <;> (dsimp only; omega)
/-- The meeting of two runs of one curve. -/
theorem srun_meet_at {l : Bool} {m1 d m2 X Y U V x : Int} (h1 : In m1) (h2 : In d) (h3 : In m2) (hX : 0 ≤ X) (hX1 : X ≤ 9223372036854775808) (hU : 0 ≤ U) (hU1 : U ≤ 9223372036854775808) (hY : 0 ≤ Y) (hY1 : Y < 1000000000000000000000000000000) (hV : 0 ≤ V) (hV1 : V < 1000000000000000000000000000000)
    (hx : In x) (a : X + d ≤ x) (b : U + d ≤ x) : ((srun l m1 d m2 X Y).meet (srun l m1 d m2 U V)).at x = if (srun l m1 d m2 U V).at x < (srun l m1 d m2 X Y).at x then (srun l m1 d m2 U V).at x else (srun l m1 d m2 X Y).at x := by
  have r := srun_sm (late := l) h1 h2 h3 hX hX1 hY hY1
  have s := srun_sm (late := l) h1 h2 h3 hU hU1 hV hV1
  have e := srun_b (l := l) (l' := l) (m1 := m1) (d := d) (m2 := m2) (X := U) (Y := V) (U := X) (V := Y)
  have rx := srun_x (l := l) (Y := Y) h1 h2 h3 hX
  have sx := srun_x (l := l) (Y := V) h1 h2 h3 hU
  have := h2.1
  exact Rn.at_meet r s e.1 (fun _ => e.2.1) e.2.2 hx (fun _ => by omega) (by omega) (fun _ => by omega) (by omega)
theorem srun_meet_rch {l : Bool} {m1 d m2 X Y U V W : Int} (h1 : In m1) (h2 : In d) (h3 : In m2) (hX : 0 ≤ X) (hXU : X ≤ U) (hU : 0 ≤ U) (hU1 : U < 9223372036854775808) (hY : 0 ≤ Y) (hY1 : Y < 1000000000000000000000000000000) (hV : 0 ≤ V) (hV1 : V < 1000000000000000000000000000000)
    (a : Y < W) (b : V < W) : ((srun l m1 d m2 X Y).meet (srun l m1 d m2 U V)).rch W = if (srun l m1 d m2 X Y).rch W < (srun l m1 d m2 U V).rch W then (srun l m1 d m2 U V).rch W else (srun l m1 d m2 X Y).rch W := by
  have r := srun_sm (late := l) h1 h2 h3 hX (show X ≤ 9223372036854775808 by omega) hY hY1
  have s := srun_sm (late := l) h1 h2 h3 hU (show U ≤ 9223372036854775808 by omega) hV hV1
  unfold Rn.meet Rn.rch Rn.c1 Rn.c2
  unfold srun at *
  by_cases k3 : kind m1 d m2 = 3
  · simp only [if_pos k3] at *
    have ok := kind_ok h1 h2 h3 (.inr (.inl k3))
    have hc := cut_bd ok (kind_of3 k3)
    simp only [slc_same]
    exact meet3_reach r.s1 r.s2 s.s1 s.s2 r.i1 s.i1 hU1 hXU hc.1 a b _ _ rfl rfl
  · simp only [if_neg k3] at *
    have one : ∀ {x1 y1 x2 y2 x y m : Int} {c : Bool}, Sml y1 m → Sml y2 m → In x1 → In x2 → y1 < W → y2 < W → rr false 0 0 0 (slc (lwr x1 y1 m x2 y2 m) x1 x2) (slc (lwr x1 y1 m x2 y2 m) y1 y2) m W = if rr false 0 0 0 x1 y1 m W < rr false 0 0 0 x2 y2 m W then rr false 0 0 0 x2 y2 m W else rr false 0 0 0 x1 y1 m W := by
      intro x1 y1 x2 y2 x y m c g1 g2 g3 g4 g5 g6
      exact meet_reach (b := false) (fun h => by cases h) (pick_reach g1 g2 g3 g4 g5 g6 _ rfl)
    by_cases k4 : kind m1 d m2 = 4
    · simp only [if_pos k4] at *
      simp only [slc_same]
      exact one (x := 0) (y := 0) (c := true) r.s2 s.s2 r.i2 s.i2 a b
    · simp only [if_neg k4] at *
      by_cases k2 : kind m1 d m2 = 2
      · simp only [if_pos k2] at *
        simp only [slc_same]
        exact one (x := 0) (y := 0) (c := true) r.s2 s.s2 r.i2 s.i2 a b
      · simp only [if_neg k2] at *
        simp only [slc_same]
        exact one (x := 0) (y := 0) (c := true) r.s2 s.s2 r.i2 s.i2 a b
theorem lat_full {X Y M z : Int} (hs : Sml Y M) (hX : In X) (hz : In z) (hle : X ≤ z) : lat X Y M z = Y + M * (z - X) := by
  rw [lat_small hs hX.1 hz]
  split
  · have : z = X := by omega
    rw [this, Int.sub_self, Int.mul_zero]; omega
  · rfl
/-- The meeting of two deadline runs rises by no more, above where that of the ready runs is, than the curve's service since. -/
theorem elig {m1 d m2 X U Y V t0 t1 : Int} (h1 : In m1) (h2 : In d) (h3 : In m2) (hk : ¬ kind m1 d m2 = 0) (hX : 0 ≤ X) (hXU : X ≤ U) (hU1 : U < 4611686018427387904) (hY : 0 ≤ Y) (hYV : Y ≤ V) (hV : V < 19807040628566084398385987584)
    (a0 : U ≤ t0) (a1 : t0 < 4611686018427387904) (b0 : 0 ≤ t1) (b1 : t1 < 4611686018427387904) :
    ((srun true m1 d m2 X Y).meet (srun true m1 d m2 U V)).at (t0 + t1) ≤ ((srun false m1 d m2 X Y).meet (srun false m1 d m2 U V)).at t0 + sv m1 d m2 t1 := by
  have ok := okc h1 h2 h3 hk
  have n1 := ok.n1
  have n2 := ok.n2
  have n3 := ok.n3
  have b1' := ok.b1
  have b2' := ok.b2
  have b3' := ok.b3
  have r := srun_sm (late := true) (X := X) h1 h2 h3 hX (by omega) hY (show Y < 1000000000000000000000000000000 by omega)
  have s := srun_sm (late := true) (X := U) h1 h2 h3 (by omega) (by omega) (show 0 ≤ V by omega) (show V < 1000000000000000000000000000000 by omega)
  have t0I : In t0 := by unfold In; omega
  have tsI : In (t0 + t1) := by unfold In; omega
  have m0 : ∀ {m : Int}, 0 ≤ m → 0 ≤ m * t1 := fun h => Int.mul_nonneg h b0
  have p1 := m0 n1
  have p2 := m0 n3
  have hr := kind_range m1 d m2
  unfold Rn.meet Rn.at Rn.c1 Rn.c2
  unfold srun at *
  by_cases k3 : kind m1 d m2 = 3
  · simp only [if_pos k3] at *
    have hlt := kind_of3 k3
    have hc := cut_bd ok hlt
    simp only [slc_same]
    have f0 := pick_at r.s1 s.s1 r.i1 s.i1 t0I (by dsimp only; omega) (by dsimp only; omega) _ rfl
    have f1 := pick_at r.s1 s.s1 r.i1 s.i1 tsI (by dsimp only; omega) (by dsimp only; omega) _ rfl
    have g0 := pick_at r.s2 s.s2 r.i2 s.i2 t0I (by dsimp only; omega) (by dsimp only; omega) _ rfl
    have g1 := pick_at r.s2 s.s2 r.i2 s.i2 tsI (by dsimp only; omega) (by dsimp only; omega) _ rfl
    dsimp only at f0 f1 g0 g1
    unfold rn
    simp only [show slc true = fun a b => a from by funext a b; rfl, true_and]
    show (if lat (slc _ X U) (slc _ Y V) m1 (t0 + t1) < lat (slc _ X U) (slc _ (Y + (m1 - m2) * d) (V + (m1 - m2) * d)) m2 (t0 + t1) then _ else _) ≤ _
    unfold slc lwr
    rw [f0, f1, g0, g1]
    rw [lat_full r.s1 r.i1 t0I (by dsimp only; omega), lat_full r.s1 r.i1 tsI (by dsimp only; omega), lat_full s.s1 s.i1 t0I (by dsimp only; omega), lat_full s.s1 s.i1 tsI (by dsimp only; omega),
      lat_full r.s2 r.i2 t0I (by dsimp only; omega), lat_full r.s2 r.i2 tsI (by dsimp only; omega), lat_full s.s2 s.i2 t0I (by dsimp only; omega), lat_full s.s2 s.i2 tsI (by dsimp only; omega)]
    have q1 := Int.mul_le_mul_of_nonneg_right (show m2 ≤ m1 by omega) (show 0 ≤ t0 - X by omega)
    have q2 := Int.mul_le_mul_of_nonneg_right (show m2 ≤ m1 by omega) (show 0 ≤ t0 - U by omega)
    have q3 := Int.mul_le_mul_of_nonneg_right (show m2 ≤ m1 by omega) b0
    have sv1 : sv m1 d m2 t1 = if m1 * t1 ≤ (m1 - m2) * d + m2 * t1 then m1 * t1 else (m1 - m2) * d + m2 * t1 := by
      unfold sv
      by_cases c : t1 ≤ d
      · have := Int.mul_le_mul_of_nonneg_left c (show 0 ≤ m1 - m2 by omega)
        simp only [Int.sub_mul] at *
        rw [if_pos c, if_pos (by omega)]
      · have := Int.mul_le_mul_of_nonneg_left (show d ≤ t1 by omega) (show 0 ≤ m1 - m2 by omega)
        simp only [Int.sub_mul, Int.mul_sub] at *
        rw [if_neg c]
        split <;> omega
    rw [sv1]
    simp only [Int.mul_sub, Int.mul_add] at *
    generalize (m1 - m2) * d = D at *
    generalize m1 * t0 = A1 at *
    generalize m1 * t1 = A2 at *
    generalize m1 * X = A3 at *
    generalize m1 * U = A4 at *
    generalize m2 * t0 = B1 at *
    generalize m2 * t1 = B2 at *
    generalize m2 * X = B3 at *
    generalize m2 * U = B4 at *
    clear f0 f1 g0 g1 r s
    omega
  · simp only [if_neg k3] at *
    by_cases k4 : kind m1 d m2 = 4
    · simp only [if_pos k4, if_true] at *
      have z := kind_of4 k4
      simp only [slc_same]
      have r0 : In X := by unfold In; omega
      have s0 : In U := by unfold In; omega
      have xd : In (X + d) := by unfold In; omega
      have ud : In (U + d) := by unfold In; omega
      have sY : Sml Y m2 := by constructor <;> omega
      have sV : Sml V m2 := by constructor <;> omega
      have same : lwr (X + d) Y m2 (U + d) V m2 = lwr X Y m2 U V m2 := by
        unfold lwr
        rw [show (if X + d < U + d then U + d else X + d) = U + d by split <;> omega, show (if X < U then U else X) = U by split <;> omega]
        rw [lat_full sY xd ud (by omega), lat_full sV ud ud (by omega), lat_full sY r0 s0 (by omega), lat_full sV s0 s0 (by omega)]
        congr 2
        · rw [show U + d - (X + d) = U - X by omega]
        · rw [show U + d - (U + d) = U - U by omega]
      rw [same]
      have one : ∀ x, (0 ≤ x ∧ x ≤ U) → ∀ y, 0 ≤ y → y ≤ V → lat (x + d) y m2 (t0 + t1) ≤ lat x y m2 t0 + sv m1 d m2 t1 := by
        intro x hx y hy hyV
        have sy : Sml y m2 := by constructor <;> omega
        have x1 : In x := by unfold In; omega
        have x2 : In (x + d) := by unfold In; omega
        rw [lat_full sy x1 t0I (by omega), lat_small sy x2.1 tsI]
        have e0 : sv m1 d m2 t1 = if t1 ≤ d then 0 else m2 * (t1 - d) := by rw [z]; unfold sv; simp
        rw [e0]
        have q := Int.mul_nonneg n3 (show 0 ≤ t0 - x by omega)
        by_cases c : t0 + t1 ≤ x + d
        · rw [if_pos c]
          split
          · omega
          · have := Int.mul_nonneg n3 (show 0 ≤ t1 - d by omega); omega
        · rw [if_neg c]
          split
          · have := Int.mul_le_mul_of_nonneg_left (show t0 + t1 - (x + d) ≤ t0 - x by omega) n3; omega
          · rw [show t0 + t1 - (x + d) = (t0 - x) + (t1 - d) by omega, Int.mul_add]; omega
      unfold rn
      simp only [Bool.false_eq_true, false_and, if_false]
      unfold slc
      split
      · exact one X ⟨hX, hXU⟩ Y hY hYV
      · exact one U ⟨by omega, by omega⟩ V (by omega) (by omega)
    · simp only [if_neg k4] at *
      have lin : ∀ {m : Int}, 0 ≤ m → m ≤ 4294967295 → sv m1 d m2 t1 = m * t1 → rn false (slc false (slc (lwr 0 0 0 0 0 0) 0 0) 0) (slc false (slc (lwr 0 0 0 0 0 0) 0 0) 0) (slc false (slc (lwr 0 0 0 0 0 0) 0 0) 0) (slc (lwr X Y m U V m) X U) (slc (lwr X Y m U V m) Y V) m (t0 + t1) ≤ rn false (slc false (slc (lwr 0 0 0 0 0 0) 0 0) 0) (slc false (slc (lwr 0 0 0 0 0 0) 0 0) 0) (slc false (slc (lwr 0 0 0 0 0 0) 0 0) 0) (slc (lwr X Y m U V m) X U) (slc (lwr X Y m U V m) Y V) m t0 + sv m1 d m2 t1 := by
        intro m hm hm2 e
        rw [e]
        have sY : Sml Y m := by constructor <;> omega
        have sV : Sml V m := by constructor <;> omega
        unfold rn
        simp only [Bool.false_eq_true, false_and, if_false]
        generalize lwr X Y m U V m = c
        unfold slc
        cases c
        · simp only [Bool.false_eq_true, if_false]
          rw [lat_full sV (by unfold In; omega) tsI (by omega), lat_full sV (by unfold In; omega) t0I (by omega), show t0 + t1 - U = (t0 - U) + t1 by omega, Int.mul_add]; omega
        · simp only [if_true]
          rw [lat_full sY (by unfold In; omega) tsI (by omega), lat_full sY (by unfold In; omega) t0I (by omega), show t0 + t1 - X = (t0 - X) + t1 by omega, Int.mul_add]; omega
      by_cases k2 : kind m1 d m2 = 2
      · simp only [if_pos k2] at *
        have z := kind_of12 (.inr k2)
        have e := lin n3 b3' (by unfold sv; rw [z.1, z.2]; split
                                 · rfl
                                 · simp)
        simpa only [slc_same] using e
      · simp only [if_neg k2] at *
        have k1 : kind m1 d m2 = 1 := by omega
        have z := kind_of12 (.inl k1)
        have hz : m2 = 0 := by
          have := kind_of1 k1; omega
        have e := lin (m := 0) (by omega) (by omega) (by unfold sv; rw [z.1, hz]; simp)
        simpa only [slc_same] using e
end Fg
end Go.Proofs.Ytdahjhokcjfioaa

namespace Go.Proofs.Ytdahjhokcjfioaa
set_option linter.unusedVariables false
set_option linter.unusedSimpArgs false
set_option maxRecDepth 100000
open Go.RowKit Fg Reg

theorem slice_11 (b : Nat) (W : World) : (Instr.sliceAt 192 (.pointer (some ⟨b, 0, none⟩)) (some (.int .i64 1)) (some (.int .i64 1)) none).run Try.prog W = .ok (.slice (some ⟨b, 4, none⟩) 0 1) W := by kernel_rfl
theorem slice_12 (b : Nat) (W : World) : (Instr.sliceAt 192 (.pointer (some ⟨b, 0, none⟩)) (some (.int .i64 1)) (some (.int .i64 2)) none).run Try.prog W = .ok (.slice (some ⟨b, 4, none⟩) 1 1) W := by kernel_rfl
theorem slice_01 (b : Nat) (W : World) : (Instr.sliceAt 192 (.pointer (some ⟨b, 0, none⟩)) none (some (.int .i64 1)) none).run Try.prog W = .ok (.slice (some ⟨b, 0, none⟩) 1 2) W := by kernel_rfl
theorem slice_02 (b : Nat) (W : World) : (Instr.sliceAt 192 (.pointer (some ⟨b, 0, none⟩)) none (some (.int .i64 2)) none).run Try.prog W = .ok (.slice (some ⟨b, 0, none⟩) 2 2) W := by kernel_rfl

set_option maxHeartbeats 4000000 in
set_option maxRecDepth 100000 in
theorem rat_1 (a b c d e f g h x u v : Int)
    (k1 : ∀ w, Calls Try.prog 104 #[.agg #[.int .u64 (e), .int .u64 (f), .int .u64 (g), .int .u64 (h)], .int .u64 x] w fun ee w' => ee = .returned (.agg #[.int .u64 u, .int .u64 v]) ∧ Below w.heap.size w w')
    (w : World) : Calls Try.prog 40 #[.agg #[.int .u64 (a), .int .u64 (b), .int .u64 (c), .int .u64 (d), .int .u64 (e), .int .u64 (f), .int .u64 (g), .int .u64 (h), .bool false], .int .u64 x] w fun ee w' => ee = .returned (.agg #[.int .u64 u, .int .u64 v]) ∧ Below w.heap.size w w' := by
  have K1 := Lib.hid k1
  clear k1
  have hs := slice_11
  go_enter Try.func40, Try.ntmps40
  go_wp2_with (first
    | (go_at_call 103; ((with_reducible refine (both_c _ _ _ _ _ _ _ _ _ _).mono ?_); rintro e w1 ⟨rfl, hbel⟩; obtain ⟨hcc, hff⟩ := bcell hbel; have hsz := hbel.size; (try simp at hsz); have hF : (w1.cell? ⟨w.heap.size, 0, none⟩ = some (.int .u64 (a)) ∧ w1.cell? ⟨w.heap.size, 1, none⟩ = some (.int .u64 (b)) ∧ w1.cell? ⟨w.heap.size, 2, none⟩ = some (.int .u64 (c)) ∧ w1.cell? ⟨w.heap.size, 3, none⟩ = some (.int .u64 (d)) ∧ w1.cell? ⟨w.heap.size, 4, none⟩ = some (.int .u64 (e)) ∧ w1.cell? ⟨w.heap.size, 5, none⟩ = some (.int .u64 (f)) ∧ w1.cell? ⟨w.heap.size, 6, none⟩ = some (.int .u64 (g)) ∧ w1.cell? ⟨w.heap.size, 7, none⟩ = some (.int .u64 (h)) ∧ w1.cell? ⟨w.heap.size, 8, none⟩ = some (.bool false) ∧ w.heap.size < w1.heap.size) ∧ (w1.cell? ⟨w.heap.size + 1, 0, none⟩ = some (.int .u64 (0)) ∧ w1.cell? ⟨w.heap.size + 1, 1, none⟩ = some (.int .u64 (0)) ∧ w1.frozen? ⟨w.heap.size + 1, 0, none⟩ = false ∧ w1.frozen? ⟨w.heap.size + 1, 1, none⟩ = false ∧ w.heap.size + 1 < w1.heap.size) ∧ Below w.heap.size w w1 := (by ((repeat' apply And.intro) <;> first | (simp [go_sem, *]; done) | omega | (repeat' (first | with_reducible exact Below.refl _ _ | with_reducible assumption | ((with_reducible refine Below.drew ?_)) | ((with_reducible refine below_drewN ?_ _)) | ((with_reducible refine Below.alloc ?_ ?_ _); rotate_left; focus (first | omega | (simp; done) | (simp; omega))) | ((with_reducible refine Below.setCell ?_ ?_ _); rotate_left; focus (first | omega | (simp; done) | (simp; omega))) | ((with_reducible refine Below.trans ?_ (Below.mono (by with_reducible assumption) ?_)); rotate_left; focus (first | omega | (simp; done) | (simp; omega))))))); go_split_ands; clear hcc hff hbel))
    | (go_at_call 104; ((with_reducible refine (K1.out _).mono ?_); rintro e w2 ⟨rfl, hbel⟩; obtain ⟨hcc, hff⟩ := bcell hbel; have hsz := hbel.size; (try simp at hsz); have hF : (w2.cell? ⟨w.heap.size, 0, none⟩ = some (.int .u64 (a)) ∧ w2.cell? ⟨w.heap.size, 1, none⟩ = some (.int .u64 (b)) ∧ w2.cell? ⟨w.heap.size, 2, none⟩ = some (.int .u64 (c)) ∧ w2.cell? ⟨w.heap.size, 3, none⟩ = some (.int .u64 (d)) ∧ w2.cell? ⟨w.heap.size, 4, none⟩ = some (.int .u64 (e)) ∧ w2.cell? ⟨w.heap.size, 5, none⟩ = some (.int .u64 (f)) ∧ w2.cell? ⟨w.heap.size, 6, none⟩ = some (.int .u64 (g)) ∧ w2.cell? ⟨w.heap.size, 7, none⟩ = some (.int .u64 (h)) ∧ w2.cell? ⟨w.heap.size, 8, none⟩ = some (.bool false) ∧ w.heap.size < w2.heap.size) ∧ (w2.cell? ⟨w.heap.size + 1, 0, none⟩ = some (.int .u64 (0)) ∧ w2.cell? ⟨w.heap.size + 1, 1, none⟩ = some (.int .u64 (0)) ∧ w2.frozen? ⟨w.heap.size + 1, 0, none⟩ = false ∧ w2.frozen? ⟨w.heap.size + 1, 1, none⟩ = false ∧ w.heap.size + 1 < w2.heap.size) ∧ (w2.cell? ⟨w1.heap.size, 0, none⟩ = some (.int .u64 (e)) ∧ w2.cell? ⟨w1.heap.size, 1, none⟩ = some (.int .u64 (f)) ∧ w2.cell? ⟨w1.heap.size, 2, none⟩ = some (.int .u64 (g)) ∧ w2.cell? ⟨w1.heap.size, 3, none⟩ = some (.int .u64 (h)) ∧ w2.cell? ⟨w1.heap.size, 4, none⟩ = some (.int .u64 (a)) ∧ w2.cell? ⟨w1.heap.size, 5, none⟩ = some (.int .u64 (b)) ∧ w2.cell? ⟨w1.heap.size, 6, none⟩ = some (.int .u64 (c)) ∧ w2.cell? ⟨w1.heap.size, 7, none⟩ = some (.int .u64 (d)) ∧ w1.heap.size < w2.heap.size) ∧ Below w.heap.size w w2 := (by ((repeat' apply And.intro) <;> first | (simp [go_sem, *]; done) | omega | (repeat' (first | with_reducible exact Below.refl _ _ | with_reducible assumption | ((with_reducible refine Below.drew ?_)) | ((with_reducible refine below_drewN ?_ _)) | ((with_reducible refine Below.alloc ?_ ?_ _); rotate_left; focus (first | omega | (simp; done) | (simp; omega))) | ((with_reducible refine Below.setCell ?_ ?_ _); rotate_left; focus (first | omega | (simp; done) | (simp; omega))) | ((with_reducible refine Below.trans ?_ (Below.mono (by with_reducible assumption) ?_)); rotate_left; focus (first | omega | (simp; done) | (simp; omega))))))); go_split_ands; clear hcc hff hbel))
    | (go_at_call 105; ((with_reducible refine (cnt_1 _ _ _ _ _ _ _ _ _).mono ?_); rintro e w3 ⟨rfl, hbel⟩; obtain ⟨hcc, hff⟩ := bcell hbel; have hsz := hbel.size; (try simp at hsz); have hF : (w3.cell? ⟨w.heap.size, 0, none⟩ = some (.int .u64 (a)) ∧ w3.cell? ⟨w.heap.size, 1, none⟩ = some (.int .u64 (b)) ∧ w3.cell? ⟨w.heap.size, 2, none⟩ = some (.int .u64 (c)) ∧ w3.cell? ⟨w.heap.size, 3, none⟩ = some (.int .u64 (d)) ∧ w3.cell? ⟨w.heap.size, 4, none⟩ = some (.int .u64 (e)) ∧ w3.cell? ⟨w.heap.size, 5, none⟩ = some (.int .u64 (f)) ∧ w3.cell? ⟨w.heap.size, 6, none⟩ = some (.int .u64 (g)) ∧ w3.cell? ⟨w.heap.size, 7, none⟩ = some (.int .u64 (h)) ∧ w3.cell? ⟨w.heap.size, 8, none⟩ = some (.bool false) ∧ w.heap.size < w3.heap.size) ∧ (w3.cell? ⟨w.heap.size + 1, 0, none⟩ = some (.int .u64 (0)) ∧ w3.cell? ⟨w.heap.size + 1, 1, none⟩ = some (.int .u64 (0)) ∧ w3.frozen? ⟨w.heap.size + 1, 0, none⟩ = false ∧ w3.frozen? ⟨w.heap.size + 1, 1, none⟩ = false ∧ w.heap.size + 1 < w3.heap.size) ∧ (w3.cell? ⟨w1.heap.size, 0, none⟩ = some (.int .u64 (e)) ∧ w3.cell? ⟨w1.heap.size, 1, none⟩ = some (.int .u64 (f)) ∧ w3.cell? ⟨w1.heap.size, 2, none⟩ = some (.int .u64 (g)) ∧ w3.cell? ⟨w1.heap.size, 3, none⟩ = some (.int .u64 (h)) ∧ w3.cell? ⟨w1.heap.size, 4, none⟩ = some (.int .u64 (a)) ∧ w3.cell? ⟨w1.heap.size, 5, none⟩ = some (.int .u64 (b)) ∧ w3.cell? ⟨w1.heap.size, 6, none⟩ = some (.int .u64 (c)) ∧ w3.cell? ⟨w1.heap.size, 7, none⟩ = some (.int .u64 (d)) ∧ w1.heap.size < w3.heap.size) ∧ (w3.cell? ⟨w2.heap.size, 0, none⟩ = some (.int .u64 (u)) ∧ w3.cell? ⟨w2.heap.size, 1, none⟩ = some (.int .u64 (v)) ∧ w3.frozen? ⟨w2.heap.size, 0, none⟩ = false ∧ w3.frozen? ⟨w2.heap.size, 1, none⟩ = false ∧ w2.heap.size < w3.heap.size) ∧ Below w.heap.size w w3 := (by ((repeat' apply And.intro) <;> first | (simp [go_sem, *]; done) | omega | (repeat' (first | with_reducible exact Below.refl _ _ | with_reducible assumption | ((with_reducible refine Below.drew ?_)) | ((with_reducible refine below_drewN ?_ _)) | ((with_reducible refine Below.alloc ?_ ?_ _); rotate_left; focus (first | omega | (simp; done) | (simp; omega))) | ((with_reducible refine Below.setCell ?_ ?_ _); rotate_left; focus (first | omega | (simp; done) | (simp; omega))) | ((with_reducible refine Below.trans ?_ (Below.mono (by with_reducible assumption) ?_)); rotate_left; focus (first | omega | (simp; done) | (simp; omega))))))); go_split_ands; clear hcc hff hbel)))
  refine wp_loop_rounds 1 ?_
  rw [rounds_succ]
  go_wp2
  refine bodyPost_ret (v := .agg #[.int .u64 u, .int .u64 v]) (by simp [results, Try.results40, go_sem, *]) rfl ⟨rfl, (by repeat' (first | with_reducible exact Below.refl _ _ | with_reducible assumption | ((with_reducible refine Below.drew ?_)) | ((with_reducible refine below_drewN ?_ _)) | ((with_reducible refine Below.alloc ?_ ?_ _); rotate_left; focus (first | omega | (simp; done) | (simp; omega))) | ((with_reducible refine Below.setCell ?_ ?_ _); rotate_left; focus (first | omega | (simp; done) | (simp; omega))) | ((with_reducible refine Below.trans ?_ (Below.mono (by with_reducible assumption) ?_)); rotate_left; focus (first | omega | (simp; done) | (simp; omega)))))⟩
set_option maxHeartbeats 8000000 in
set_option maxRecDepth 100000 in
theorem rat_2 (a b c d e f g h x u v p q y r s : Int) (hy : (y < 0 ∧ r = p ∧ s = q) ∨ (0 ≤ y ∧ r = u ∧ s = v))
    (k1 : ∀ w, Calls Try.prog 104 #[.agg #[.int .u64 (e), .int .u64 (f), .int .u64 (g), .int .u64 (h)], .int .u64 x] w fun ee w' => ee = .returned (.agg #[.int .u64 u, .int .u64 v]) ∧ Below w.heap.size w w')
    (k2 : ∀ w, Calls Try.prog 104 #[.agg #[.int .u64 (a), .int .u64 (b), .int .u64 (c), .int .u64 (d)], .int .u64 x] w fun ee w' => ee = .returned (.agg #[.int .u64 p, .int .u64 q]) ∧ Below w.heap.size w w')
    (k3 : ∀ w, Calls Try.prog 106 #[.agg #[.int .u64 p, .int .u64 q], .agg #[.int .u64 u, .int .u64 v]] w fun ee w' => ee = .returned (.int .i64 y) ∧ Below w.heap.size w w')
    (w : World) : Calls Try.prog 40 #[.agg #[.int .u64 (a), .int .u64 (b), .int .u64 (c), .int .u64 (d), .int .u64 (e), .int .u64 (f), .int .u64 (g), .int .u64 (h), .bool true], .int .u64 x] w fun ee w' => ee = .returned (.agg #[.int .u64 r, .int .u64 s]) ∧ Below w.heap.size w w' := by
  have K1 := Lib.hid k1
  have K2 := Lib.hid k2
  have K3 := Lib.hid k3
  clear k1 k2 k3
  have hs := slice_12
  rcases hy with ⟨hy, rfl, rfl⟩ | ⟨hy, rfl, rfl⟩
  · go_enter Try.func40, Try.ntmps40
    go_wp2_with (first
      | (go_at_call 103; ((with_reducible refine (both_c _ _ _ _ _ _ _ _ _ _).mono ?_); rintro e w1 ⟨rfl, hbel⟩; obtain ⟨hcc, hff⟩ := bcell hbel; have hsz := hbel.size; (try simp at hsz); have hF : (w1.cell? ⟨w.heap.size, 0, none⟩ = some (.int .u64 (a)) ∧ w1.cell? ⟨w.heap.size, 1, none⟩ = some (.int .u64 (b)) ∧ w1.cell? ⟨w.heap.size, 2, none⟩ = some (.int .u64 (c)) ∧ w1.cell? ⟨w.heap.size, 3, none⟩ = some (.int .u64 (d)) ∧ w1.cell? ⟨w.heap.size, 4, none⟩ = some (.int .u64 (e)) ∧ w1.cell? ⟨w.heap.size, 5, none⟩ = some (.int .u64 (f)) ∧ w1.cell? ⟨w.heap.size, 6, none⟩ = some (.int .u64 (g)) ∧ w1.cell? ⟨w.heap.size, 7, none⟩ = some (.int .u64 (h)) ∧ w1.cell? ⟨w.heap.size, 8, none⟩ = some (.bool true) ∧ w.heap.size < w1.heap.size) ∧ (w1.cell? ⟨w.heap.size + 1, 0, none⟩ = some (.int .u64 (0)) ∧ w1.cell? ⟨w.heap.size + 1, 1, none⟩ = some (.int .u64 (0)) ∧ w1.frozen? ⟨w.heap.size + 1, 0, none⟩ = false ∧ w1.frozen? ⟨w.heap.size + 1, 1, none⟩ = false ∧ w.heap.size + 1 < w1.heap.size) ∧ Below w.heap.size w w1 := (by ((repeat' apply And.intro) <;> first | (simp [go_sem, *]; done) | omega | (repeat' (first | with_reducible exact Below.refl _ _ | with_reducible assumption | ((with_reducible refine Below.drew ?_)) | ((with_reducible refine below_drewN ?_ _)) | ((with_reducible refine Below.alloc ?_ ?_ _); rotate_left; focus (first | omega | (simp; done) | (simp; omega))) | ((with_reducible refine Below.setCell ?_ ?_ _); rotate_left; focus (first | omega | (simp; done) | (simp; omega))) | ((with_reducible refine Below.trans ?_ (Below.mono (by with_reducible assumption) ?_)); rotate_left; focus (first | omega | (simp; done) | (simp; omega))))))); go_split_ands; clear hcc hff hbel))
      | (go_at_call 104; ((with_reducible refine (K1.out _).mono ?_); rintro e w2 ⟨rfl, hbel⟩; obtain ⟨hcc, hff⟩ := bcell hbel; have hsz := hbel.size; (try simp at hsz); have hF : (w2.cell? ⟨w.heap.size, 0, none⟩ = some (.int .u64 (a)) ∧ w2.cell? ⟨w.heap.size, 1, none⟩ = some (.int .u64 (b)) ∧ w2.cell? ⟨w.heap.size, 2, none⟩ = some (.int .u64 (c)) ∧ w2.cell? ⟨w.heap.size, 3, none⟩ = some (.int .u64 (d)) ∧ w2.cell? ⟨w.heap.size, 4, none⟩ = some (.int .u64 (e)) ∧ w2.cell? ⟨w.heap.size, 5, none⟩ = some (.int .u64 (f)) ∧ w2.cell? ⟨w.heap.size, 6, none⟩ = some (.int .u64 (g)) ∧ w2.cell? ⟨w.heap.size, 7, none⟩ = some (.int .u64 (h)) ∧ w2.cell? ⟨w.heap.size, 8, none⟩ = some (.bool true) ∧ w.heap.size < w2.heap.size) ∧ (w2.cell? ⟨w.heap.size + 1, 0, none⟩ = some (.int .u64 (0)) ∧ w2.cell? ⟨w.heap.size + 1, 1, none⟩ = some (.int .u64 (0)) ∧ w2.frozen? ⟨w.heap.size + 1, 0, none⟩ = false ∧ w2.frozen? ⟨w.heap.size + 1, 1, none⟩ = false ∧ w.heap.size + 1 < w2.heap.size) ∧ (w2.cell? ⟨w1.heap.size, 0, none⟩ = some (.int .u64 (e)) ∧ w2.cell? ⟨w1.heap.size, 1, none⟩ = some (.int .u64 (f)) ∧ w2.cell? ⟨w1.heap.size, 2, none⟩ = some (.int .u64 (g)) ∧ w2.cell? ⟨w1.heap.size, 3, none⟩ = some (.int .u64 (h)) ∧ w2.cell? ⟨w1.heap.size, 4, none⟩ = some (.int .u64 (a)) ∧ w2.cell? ⟨w1.heap.size, 5, none⟩ = some (.int .u64 (b)) ∧ w2.cell? ⟨w1.heap.size, 6, none⟩ = some (.int .u64 (c)) ∧ w2.cell? ⟨w1.heap.size, 7, none⟩ = some (.int .u64 (d)) ∧ w1.heap.size < w2.heap.size) ∧ Below w.heap.size w w2 := (by ((repeat' apply And.intro) <;> first | (simp [go_sem, *]; done) | omega | (repeat' (first | with_reducible exact Below.refl _ _ | with_reducible assumption | ((with_reducible refine Below.drew ?_)) | ((with_reducible refine below_drewN ?_ _)) | ((with_reducible refine Below.alloc ?_ ?_ _); rotate_left; focus (first | omega | (simp; done) | (simp; omega))) | ((with_reducible refine Below.setCell ?_ ?_ _); rotate_left; focus (first | omega | (simp; done) | (simp; omega))) | ((with_reducible refine Below.trans ?_ (Below.mono (by with_reducible assumption) ?_)); rotate_left; focus (first | omega | (simp; done) | (simp; omega))))))); go_split_ands; clear hcc hff hbel))
      | (go_at_call 105; ((with_reducible refine (cnt_2 _ _ _ _ _ _ _ _ _).mono ?_); rintro e w3 ⟨rfl, hbel⟩; obtain ⟨hcc, hff⟩ := bcell hbel; have hsz := hbel.size; (try simp at hsz); have hF : (w3.cell? ⟨w.heap.size, 0, none⟩ = some (.int .u64 (a)) ∧ w3.cell? ⟨w.heap.size, 1, none⟩ = some (.int .u64 (b)) ∧ w3.cell? ⟨w.heap.size, 2, none⟩ = some (.int .u64 (c)) ∧ w3.cell? ⟨w.heap.size, 3, none⟩ = some (.int .u64 (d)) ∧ w3.cell? ⟨w.heap.size, 4, none⟩ = some (.int .u64 (e)) ∧ w3.cell? ⟨w.heap.size, 5, none⟩ = some (.int .u64 (f)) ∧ w3.cell? ⟨w.heap.size, 6, none⟩ = some (.int .u64 (g)) ∧ w3.cell? ⟨w.heap.size, 7, none⟩ = some (.int .u64 (h)) ∧ w3.cell? ⟨w.heap.size, 8, none⟩ = some (.bool true) ∧ w.heap.size < w3.heap.size) ∧ (w3.cell? ⟨w.heap.size + 1, 0, none⟩ = some (.int .u64 (0)) ∧ w3.cell? ⟨w.heap.size + 1, 1, none⟩ = some (.int .u64 (0)) ∧ w3.frozen? ⟨w.heap.size + 1, 0, none⟩ = false ∧ w3.frozen? ⟨w.heap.size + 1, 1, none⟩ = false ∧ w.heap.size + 1 < w3.heap.size) ∧ (w3.cell? ⟨w1.heap.size, 0, none⟩ = some (.int .u64 (e)) ∧ w3.cell? ⟨w1.heap.size, 1, none⟩ = some (.int .u64 (f)) ∧ w3.cell? ⟨w1.heap.size, 2, none⟩ = some (.int .u64 (g)) ∧ w3.cell? ⟨w1.heap.size, 3, none⟩ = some (.int .u64 (h)) ∧ w3.cell? ⟨w1.heap.size, 4, none⟩ = some (.int .u64 (a)) ∧ w3.cell? ⟨w1.heap.size, 5, none⟩ = some (.int .u64 (b)) ∧ w3.cell? ⟨w1.heap.size, 6, none⟩ = some (.int .u64 (c)) ∧ w3.cell? ⟨w1.heap.size, 7, none⟩ = some (.int .u64 (d)) ∧ w1.heap.size < w3.heap.size) ∧ (w3.cell? ⟨w2.heap.size, 0, none⟩ = some (.int .u64 (u)) ∧ w3.cell? ⟨w2.heap.size, 1, none⟩ = some (.int .u64 (v)) ∧ w3.frozen? ⟨w2.heap.size, 0, none⟩ = false ∧ w3.frozen? ⟨w2.heap.size, 1, none⟩ = false ∧ w2.heap.size < w3.heap.size) ∧ Below w.heap.size w w3 := (by ((repeat' apply And.intro) <;> first | (simp [go_sem, *]; done) | omega | (repeat' (first | with_reducible exact Below.refl _ _ | with_reducible assumption | ((with_reducible refine Below.drew ?_)) | ((with_reducible refine below_drewN ?_ _)) | ((with_reducible refine Below.alloc ?_ ?_ _); rotate_left; focus (first | omega | (simp; done) | (simp; omega))) | ((with_reducible refine Below.setCell ?_ ?_ _); rotate_left; focus (first | omega | (simp; done) | (simp; omega))) | ((with_reducible refine Below.trans ?_ (Below.mono (by with_reducible assumption) ?_)); rotate_left; focus (first | omega | (simp; done) | (simp; omega))))))); go_split_ands; clear hcc hff hbel)))
    refine wp_loop_rounds 2 ?_
    rw [rounds_succ]
    go_wp2_with (first | (go_at_call 104; ((with_reducible refine (K2.out _).mono ?_); rintro e w4 ⟨rfl, hbel⟩; obtain ⟨hcc, hff⟩ := bcell hbel; have hsz := hbel.size; (try simp at hsz); have hF : w.heap.size < w4.heap.size ∧ (w4.cell? ⟨w.heap.size + 1, 0, none⟩ = some (.int .u64 (0)) ∧ w4.cell? ⟨w.heap.size + 1, 1, none⟩ = some (.int .u64 (0)) ∧ w4.frozen? ⟨w.heap.size + 1, 0, none⟩ = false ∧ w4.frozen? ⟨w.heap.size + 1, 1, none⟩ = false ∧ w.heap.size + 1 < w4.heap.size) ∧ (w4.cell? ⟨w2.heap.size, 0, none⟩ = some (.int .u64 (u)) ∧ w4.cell? ⟨w2.heap.size, 1, none⟩ = some (.int .u64 (v)) ∧ w4.frozen? ⟨w2.heap.size, 0, none⟩ = false ∧ w4.frozen? ⟨w2.heap.size, 1, none⟩ = false ∧ w2.heap.size < w4.heap.size) ∧ Below w.heap.size w w4 := (by ((repeat' apply And.intro) <;> first | (simp [go_sem, *]; done) | omega | (repeat' (first | with_reducible exact Below.refl _ _ | with_reducible assumption | ((with_reducible refine Below.drew ?_)) | ((with_reducible refine below_drewN ?_ _)) | ((with_reducible refine Below.alloc ?_ ?_ _); rotate_left; focus (first | omega | (simp; done) | (simp; omega))) | ((with_reducible refine Below.setCell ?_ ?_ _); rotate_left; focus (first | omega | (simp; done) | (simp; omega))) | ((with_reducible refine Below.trans ?_ (Below.mono (by with_reducible assumption) ?_)); rotate_left; focus (first | omega | (simp; done) | (simp; omega))))))); go_split_ands; clear hcc hff hbel)) | (go_at_call 106; ((with_reducible refine (K3.out _).mono ?_); rintro e w5 ⟨rfl, hbel⟩; obtain ⟨hcc, hff⟩ := bcell hbel; have hsz := hbel.size; (try simp at hsz); have hF : (w5.cell? ⟨w.heap.size + 1, 0, none⟩ = some (.int .u64 (0)) ∧ w5.cell? ⟨w.heap.size + 1, 1, none⟩ = some (.int .u64 (0)) ∧ w5.frozen? ⟨w.heap.size + 1, 0, none⟩ = false ∧ w5.frozen? ⟨w.heap.size + 1, 1, none⟩ = false ∧ w.heap.size + 1 < w5.heap.size) ∧ (w5.cell? ⟨w2.heap.size, 0, none⟩ = some (.int .u64 (u)) ∧ w5.cell? ⟨w2.heap.size, 1, none⟩ = some (.int .u64 (v)) ∧ w5.frozen? ⟨w2.heap.size, 0, none⟩ = false ∧ w5.frozen? ⟨w2.heap.size, 1, none⟩ = false ∧ w2.heap.size < w5.heap.size) ∧ (w5.cell? ⟨w4.heap.size, 0, none⟩ = some (.int .u64 (r)) ∧ w5.cell? ⟨w4.heap.size, 1, none⟩ = some (.int .u64 (s)) ∧ w4.heap.size < w5.heap.size) ∧ Below w.heap.size w w5 := (by ((repeat' apply And.intro) <;> first | (simp [go_sem, *]; done) | omega | (repeat' (first | with_reducible exact Below.refl _ _ | with_reducible assumption | ((with_reducible refine Below.drew ?_)) | ((with_reducible refine below_drewN ?_ _)) | ((with_reducible refine Below.alloc ?_ ?_ _); rotate_left; focus (first | omega | (simp; done) | (simp; omega))) | ((with_reducible refine Below.setCell ?_ ?_ _); rotate_left; focus (first | omega | (simp; done) | (simp; omega))) | ((with_reducible refine Below.trans ?_ (Below.mono (by with_reducible assumption) ?_)); rotate_left; focus (first | omega | (simp; done) | (simp; omega))))))); go_split_ands; clear hcc hff hbel)))
    rw [rounds_succ]
    go_wp2
    refine bodyPost_ret (v := .agg #[.int .u64 r, .int .u64 s]) (by simp [results, Try.results40, go_sem, *]) rfl ⟨rfl, (by repeat' (first | with_reducible exact Below.refl _ _ | with_reducible assumption | ((with_reducible refine Below.drew ?_)) | ((with_reducible refine below_drewN ?_ _)) | ((with_reducible refine Below.alloc ?_ ?_ _); rotate_left; focus (first | omega | (simp; done) | (simp; omega))) | ((with_reducible refine Below.setCell ?_ ?_ _); rotate_left; focus (first | omega | (simp; done) | (simp; omega))) | ((with_reducible refine Below.trans ?_ (Below.mono (by with_reducible assumption) ?_)); rotate_left; focus (first | omega | (simp; done) | (simp; omega)))))⟩
  · go_enter Try.func40, Try.ntmps40
    go_wp2_with (first
      | (go_at_call 103; ((with_reducible refine (both_c _ _ _ _ _ _ _ _ _ _).mono ?_); rintro e w1 ⟨rfl, hbel⟩; obtain ⟨hcc, hff⟩ := bcell hbel; have hsz := hbel.size; (try simp at hsz); have hF : (w1.cell? ⟨w.heap.size, 0, none⟩ = some (.int .u64 (a)) ∧ w1.cell? ⟨w.heap.size, 1, none⟩ = some (.int .u64 (b)) ∧ w1.cell? ⟨w.heap.size, 2, none⟩ = some (.int .u64 (c)) ∧ w1.cell? ⟨w.heap.size, 3, none⟩ = some (.int .u64 (d)) ∧ w1.cell? ⟨w.heap.size, 4, none⟩ = some (.int .u64 (e)) ∧ w1.cell? ⟨w.heap.size, 5, none⟩ = some (.int .u64 (f)) ∧ w1.cell? ⟨w.heap.size, 6, none⟩ = some (.int .u64 (g)) ∧ w1.cell? ⟨w.heap.size, 7, none⟩ = some (.int .u64 (h)) ∧ w1.cell? ⟨w.heap.size, 8, none⟩ = some (.bool true) ∧ w.heap.size < w1.heap.size) ∧ (w1.cell? ⟨w.heap.size + 1, 0, none⟩ = some (.int .u64 (0)) ∧ w1.cell? ⟨w.heap.size + 1, 1, none⟩ = some (.int .u64 (0)) ∧ w1.frozen? ⟨w.heap.size + 1, 0, none⟩ = false ∧ w1.frozen? ⟨w.heap.size + 1, 1, none⟩ = false ∧ w.heap.size + 1 < w1.heap.size) ∧ Below w.heap.size w w1 := (by ((repeat' apply And.intro) <;> first | (simp [go_sem, *]; done) | omega | (repeat' (first | with_reducible exact Below.refl _ _ | with_reducible assumption | ((with_reducible refine Below.drew ?_)) | ((with_reducible refine below_drewN ?_ _)) | ((with_reducible refine Below.alloc ?_ ?_ _); rotate_left; focus (first | omega | (simp; done) | (simp; omega))) | ((with_reducible refine Below.setCell ?_ ?_ _); rotate_left; focus (first | omega | (simp; done) | (simp; omega))) | ((with_reducible refine Below.trans ?_ (Below.mono (by with_reducible assumption) ?_)); rotate_left; focus (first | omega | (simp; done) | (simp; omega))))))); go_split_ands; clear hcc hff hbel))
      | (go_at_call 104; ((with_reducible refine (K1.out _).mono ?_); rintro e w2 ⟨rfl, hbel⟩; obtain ⟨hcc, hff⟩ := bcell hbel; have hsz := hbel.size; (try simp at hsz); have hF : (w2.cell? ⟨w.heap.size, 0, none⟩ = some (.int .u64 (a)) ∧ w2.cell? ⟨w.heap.size, 1, none⟩ = some (.int .u64 (b)) ∧ w2.cell? ⟨w.heap.size, 2, none⟩ = some (.int .u64 (c)) ∧ w2.cell? ⟨w.heap.size, 3, none⟩ = some (.int .u64 (d)) ∧ w2.cell? ⟨w.heap.size, 4, none⟩ = some (.int .u64 (e)) ∧ w2.cell? ⟨w.heap.size, 5, none⟩ = some (.int .u64 (f)) ∧ w2.cell? ⟨w.heap.size, 6, none⟩ = some (.int .u64 (g)) ∧ w2.cell? ⟨w.heap.size, 7, none⟩ = some (.int .u64 (h)) ∧ w2.cell? ⟨w.heap.size, 8, none⟩ = some (.bool true) ∧ w.heap.size < w2.heap.size) ∧ (w2.cell? ⟨w.heap.size + 1, 0, none⟩ = some (.int .u64 (0)) ∧ w2.cell? ⟨w.heap.size + 1, 1, none⟩ = some (.int .u64 (0)) ∧ w2.frozen? ⟨w.heap.size + 1, 0, none⟩ = false ∧ w2.frozen? ⟨w.heap.size + 1, 1, none⟩ = false ∧ w.heap.size + 1 < w2.heap.size) ∧ (w2.cell? ⟨w1.heap.size, 0, none⟩ = some (.int .u64 (e)) ∧ w2.cell? ⟨w1.heap.size, 1, none⟩ = some (.int .u64 (f)) ∧ w2.cell? ⟨w1.heap.size, 2, none⟩ = some (.int .u64 (g)) ∧ w2.cell? ⟨w1.heap.size, 3, none⟩ = some (.int .u64 (h)) ∧ w2.cell? ⟨w1.heap.size, 4, none⟩ = some (.int .u64 (a)) ∧ w2.cell? ⟨w1.heap.size, 5, none⟩ = some (.int .u64 (b)) ∧ w2.cell? ⟨w1.heap.size, 6, none⟩ = some (.int .u64 (c)) ∧ w2.cell? ⟨w1.heap.size, 7, none⟩ = some (.int .u64 (d)) ∧ w1.heap.size < w2.heap.size) ∧ Below w.heap.size w w2 := (by ((repeat' apply And.intro) <;> first | (simp [go_sem, *]; done) | omega | (repeat' (first | with_reducible exact Below.refl _ _ | with_reducible assumption | ((with_reducible refine Below.drew ?_)) | ((with_reducible refine below_drewN ?_ _)) | ((with_reducible refine Below.alloc ?_ ?_ _); rotate_left; focus (first | omega | (simp; done) | (simp; omega))) | ((with_reducible refine Below.setCell ?_ ?_ _); rotate_left; focus (first | omega | (simp; done) | (simp; omega))) | ((with_reducible refine Below.trans ?_ (Below.mono (by with_reducible assumption) ?_)); rotate_left; focus (first | omega | (simp; done) | (simp; omega))))))); go_split_ands; clear hcc hff hbel))
      | (go_at_call 105; ((with_reducible refine (cnt_2 _ _ _ _ _ _ _ _ _).mono ?_); rintro e w3 ⟨rfl, hbel⟩; obtain ⟨hcc, hff⟩ := bcell hbel; have hsz := hbel.size; (try simp at hsz); have hF : (w3.cell? ⟨w.heap.size, 0, none⟩ = some (.int .u64 (a)) ∧ w3.cell? ⟨w.heap.size, 1, none⟩ = some (.int .u64 (b)) ∧ w3.cell? ⟨w.heap.size, 2, none⟩ = some (.int .u64 (c)) ∧ w3.cell? ⟨w.heap.size, 3, none⟩ = some (.int .u64 (d)) ∧ w3.cell? ⟨w.heap.size, 4, none⟩ = some (.int .u64 (e)) ∧ w3.cell? ⟨w.heap.size, 5, none⟩ = some (.int .u64 (f)) ∧ w3.cell? ⟨w.heap.size, 6, none⟩ = some (.int .u64 (g)) ∧ w3.cell? ⟨w.heap.size, 7, none⟩ = some (.int .u64 (h)) ∧ w3.cell? ⟨w.heap.size, 8, none⟩ = some (.bool true) ∧ w.heap.size < w3.heap.size) ∧ (w3.cell? ⟨w.heap.size + 1, 0, none⟩ = some (.int .u64 (0)) ∧ w3.cell? ⟨w.heap.size + 1, 1, none⟩ = some (.int .u64 (0)) ∧ w3.frozen? ⟨w.heap.size + 1, 0, none⟩ = false ∧ w3.frozen? ⟨w.heap.size + 1, 1, none⟩ = false ∧ w.heap.size + 1 < w3.heap.size) ∧ (w3.cell? ⟨w1.heap.size, 0, none⟩ = some (.int .u64 (e)) ∧ w3.cell? ⟨w1.heap.size, 1, none⟩ = some (.int .u64 (f)) ∧ w3.cell? ⟨w1.heap.size, 2, none⟩ = some (.int .u64 (g)) ∧ w3.cell? ⟨w1.heap.size, 3, none⟩ = some (.int .u64 (h)) ∧ w3.cell? ⟨w1.heap.size, 4, none⟩ = some (.int .u64 (a)) ∧ w3.cell? ⟨w1.heap.size, 5, none⟩ = some (.int .u64 (b)) ∧ w3.cell? ⟨w1.heap.size, 6, none⟩ = some (.int .u64 (c)) ∧ w3.cell? ⟨w1.heap.size, 7, none⟩ = some (.int .u64 (d)) ∧ w1.heap.size < w3.heap.size) ∧ (w3.cell? ⟨w2.heap.size, 0, none⟩ = some (.int .u64 (r)) ∧ w3.cell? ⟨w2.heap.size, 1, none⟩ = some (.int .u64 (s)) ∧ w3.frozen? ⟨w2.heap.size, 0, none⟩ = false ∧ w3.frozen? ⟨w2.heap.size, 1, none⟩ = false ∧ w2.heap.size < w3.heap.size) ∧ Below w.heap.size w w3 := (by ((repeat' apply And.intro) <;> first | (simp [go_sem, *]; done) | omega | (repeat' (first | with_reducible exact Below.refl _ _ | with_reducible assumption | ((with_reducible refine Below.drew ?_)) | ((with_reducible refine below_drewN ?_ _)) | ((with_reducible refine Below.alloc ?_ ?_ _); rotate_left; focus (first | omega | (simp; done) | (simp; omega))) | ((with_reducible refine Below.setCell ?_ ?_ _); rotate_left; focus (first | omega | (simp; done) | (simp; omega))) | ((with_reducible refine Below.trans ?_ (Below.mono (by with_reducible assumption) ?_)); rotate_left; focus (first | omega | (simp; done) | (simp; omega))))))); go_split_ands; clear hcc hff hbel)))
    refine wp_loop_rounds 2 ?_
    rw [rounds_succ]
    go_wp2_with (first | (go_at_call 104; ((with_reducible refine (K2.out _).mono ?_); rintro e w4 ⟨rfl, hbel⟩; obtain ⟨hcc, hff⟩ := bcell hbel; have hsz := hbel.size; (try simp at hsz); have hF : w.heap.size < w4.heap.size ∧ (w4.cell? ⟨w.heap.size + 1, 0, none⟩ = some (.int .u64 (0)) ∧ w4.cell? ⟨w.heap.size + 1, 1, none⟩ = some (.int .u64 (0)) ∧ w4.frozen? ⟨w.heap.size + 1, 0, none⟩ = false ∧ w4.frozen? ⟨w.heap.size + 1, 1, none⟩ = false ∧ w.heap.size + 1 < w4.heap.size) ∧ (w4.cell? ⟨w2.heap.size, 0, none⟩ = some (.int .u64 (r)) ∧ w4.cell? ⟨w2.heap.size, 1, none⟩ = some (.int .u64 (s)) ∧ w4.frozen? ⟨w2.heap.size, 0, none⟩ = false ∧ w4.frozen? ⟨w2.heap.size, 1, none⟩ = false ∧ w2.heap.size < w4.heap.size) ∧ Below w.heap.size w w4 := (by ((repeat' apply And.intro) <;> first | (simp [go_sem, *]; done) | omega | (repeat' (first | with_reducible exact Below.refl _ _ | with_reducible assumption | ((with_reducible refine Below.drew ?_)) | ((with_reducible refine below_drewN ?_ _)) | ((with_reducible refine Below.alloc ?_ ?_ _); rotate_left; focus (first | omega | (simp; done) | (simp; omega))) | ((with_reducible refine Below.setCell ?_ ?_ _); rotate_left; focus (first | omega | (simp; done) | (simp; omega))) | ((with_reducible refine Below.trans ?_ (Below.mono (by with_reducible assumption) ?_)); rotate_left; focus (first | omega | (simp; done) | (simp; omega))))))); go_split_ands; clear hcc hff hbel)) | (go_at_call 106; ((with_reducible refine (K3.out _).mono ?_); rintro e w5 ⟨rfl, hbel⟩; obtain ⟨hcc, hff⟩ := bcell hbel; have hsz := hbel.size; (try simp at hsz); have hF : (w5.cell? ⟨w.heap.size + 1, 0, none⟩ = some (.int .u64 (0)) ∧ w5.cell? ⟨w.heap.size + 1, 1, none⟩ = some (.int .u64 (0)) ∧ w5.frozen? ⟨w.heap.size + 1, 0, none⟩ = false ∧ w5.frozen? ⟨w.heap.size + 1, 1, none⟩ = false ∧ w.heap.size + 1 < w5.heap.size) ∧ (w5.cell? ⟨w2.heap.size, 0, none⟩ = some (.int .u64 (r)) ∧ w5.cell? ⟨w2.heap.size, 1, none⟩ = some (.int .u64 (s)) ∧ w5.frozen? ⟨w2.heap.size, 0, none⟩ = false ∧ w5.frozen? ⟨w2.heap.size, 1, none⟩ = false ∧ w2.heap.size < w5.heap.size) ∧ (w5.cell? ⟨w4.heap.size, 0, none⟩ = some (.int .u64 (p)) ∧ w5.cell? ⟨w4.heap.size, 1, none⟩ = some (.int .u64 (q)) ∧ w4.heap.size < w5.heap.size) ∧ Below w.heap.size w w5 := (by ((repeat' apply And.intro) <;> first | (simp [go_sem, *]; done) | omega | (repeat' (first | with_reducible exact Below.refl _ _ | with_reducible assumption | ((with_reducible refine Below.drew ?_)) | ((with_reducible refine below_drewN ?_ _)) | ((with_reducible refine Below.alloc ?_ ?_ _); rotate_left; focus (first | omega | (simp; done) | (simp; omega))) | ((with_reducible refine Below.setCell ?_ ?_ _); rotate_left; focus (first | omega | (simp; done) | (simp; omega))) | ((with_reducible refine Below.trans ?_ (Below.mono (by with_reducible assumption) ?_)); rotate_left; focus (first | omega | (simp; done) | (simp; omega))))))); go_split_ands; clear hcc hff hbel)))
    rw [rounds_succ]
    go_wp2
    refine bodyPost_ret (v := .agg #[.int .u64 r, .int .u64 s]) (by simp [results, Try.results40, go_sem, *]) rfl ⟨rfl, (by repeat' (first | with_reducible exact Below.refl _ _ | with_reducible assumption | ((with_reducible refine Below.drew ?_)) | ((with_reducible refine below_drewN ?_ _)) | ((with_reducible refine Below.alloc ?_ ?_ _); rotate_left; focus (first | omega | (simp; done) | (simp; omega))) | ((with_reducible refine Below.setCell ?_ ?_ _); rotate_left; focus (first | omega | (simp; done) | (simp; omega))) | ((with_reducible refine Below.trans ?_ (Below.mono (by with_reducible assumption) ?_)); rotate_left; focus (first | omega | (simp; done) | (simp; omega)))))⟩
end Go.Proofs.Ytdahjhokcjfioaa

namespace Go.Proofs.Ytdahjhokcjfioaa
set_option linter.unusedVariables false
set_option linter.unusedSimpArgs false
set_option maxRecDepth 100000
open Go.RowKit Fg Reg

set_option maxHeartbeats 4000000 in
set_option maxRecDepth 100000 in
theorem rrc_1 (a b c d e f g h p q r : Int) (hr : 0 ≤ r)
    (k1 : ∀ w, Calls Try.prog 152 #[.agg #[.int .u64 (e), .int .u64 (f), .int .u64 (g), .int .u64 (h)], .agg #[.int .u64 p, .int .u64 q]] w fun ee w' => ee = .returned (.int .u64 r) ∧ Below w.heap.size w w')
    (w : World) : Calls Try.prog 109 #[.agg #[.int .u64 (a), .int .u64 (b), .int .u64 (c), .int .u64 (d), .int .u64 (e), .int .u64 (f), .int .u64 (g), .int .u64 (h), .bool false], .agg #[.int .u64 p, .int .u64 q]] w fun ee w' => ee = .returned (.int .u64 r) ∧ Below w.heap.size w w' := by
  have hm : (if 0 < r then r else 0) = r := by split <;> omega
  have K1 := Lib.hid k1
  clear k1
  have hs := slice_01
  go_enter Try.func109, Try.ntmps109
  go_wp2_with (first
    | (go_at_call 103; ((with_reducible refine (both_c _ _ _ _ _ _ _ _ _ _).mono ?_); rintro e w1 ⟨rfl, hbel⟩; obtain ⟨hcc, hff⟩ := bcell hbel; have hsz := hbel.size; (try simp at hsz); have hF : (w1.cell? ⟨w.heap.size, 0, none⟩ = some (.int .u64 (a)) ∧ w1.cell? ⟨w.heap.size, 1, none⟩ = some (.int .u64 (b)) ∧ w1.cell? ⟨w.heap.size, 2, none⟩ = some (.int .u64 (c)) ∧ w1.cell? ⟨w.heap.size, 3, none⟩ = some (.int .u64 (d)) ∧ w1.cell? ⟨w.heap.size, 4, none⟩ = some (.int .u64 (e)) ∧ w1.cell? ⟨w.heap.size, 5, none⟩ = some (.int .u64 (f)) ∧ w1.cell? ⟨w.heap.size, 6, none⟩ = some (.int .u64 (g)) ∧ w1.cell? ⟨w.heap.size, 7, none⟩ = some (.int .u64 (h)) ∧ w1.cell? ⟨w.heap.size, 8, none⟩ = some (.bool false) ∧ w.heap.size < w1.heap.size) ∧ (w1.cell? ⟨w.heap.size + 1, 0, none⟩ = some (.int .u64 (p)) ∧ w1.cell? ⟨w.heap.size + 1, 1, none⟩ = some (.int .u64 (q)) ∧ w.heap.size + 1 < w1.heap.size) ∧ Below w.heap.size w w1 := (by ((repeat' apply And.intro) <;> first | (simp [go_sem, *]; done) | omega | (repeat' (first | with_reducible exact Below.refl _ _ | with_reducible assumption | ((with_reducible refine Below.drew ?_)) | ((with_reducible refine below_drewN ?_ _)) | ((with_reducible refine Below.alloc ?_ ?_ _); rotate_left; focus (first | omega | (simp; done) | (simp; omega))) | ((with_reducible refine Below.setCell ?_ ?_ _); rotate_left; focus (first | omega | (simp; done) | (simp; omega))) | ((with_reducible refine Below.trans ?_ (Below.mono (by with_reducible assumption) ?_)); rotate_left; focus (first | omega | (simp; done) | (simp; omega))))))); go_split_ands; clear hcc hff hbel))
    | (go_at_call 105; ((with_reducible refine (cnt_1 _ _ _ _ _ _ _ _ _).mono ?_); rintro e w3 ⟨rfl, hbel⟩; obtain ⟨hcc, hff⟩ := bcell hbel; have hsz := hbel.size; (try simp at hsz); have hF : w.heap.size < w3.heap.size ∧ (w3.cell? ⟨w1.heap.size, 0, none⟩ = some (.int .u64 (e)) ∧ w3.cell? ⟨w1.heap.size, 1, none⟩ = some (.int .u64 (f)) ∧ w3.cell? ⟨w1.heap.size, 2, none⟩ = some (.int .u64 (g)) ∧ w3.cell? ⟨w1.heap.size, 3, none⟩ = some (.int .u64 (h)) ∧ w3.cell? ⟨w1.heap.size, 4, none⟩ = some (.int .u64 (a)) ∧ w3.cell? ⟨w1.heap.size, 5, none⟩ = some (.int .u64 (b)) ∧ w3.cell? ⟨w1.heap.size, 6, none⟩ = some (.int .u64 (c)) ∧ w3.cell? ⟨w1.heap.size, 7, none⟩ = some (.int .u64 (d)) ∧ w1.heap.size < w3.heap.size) ∧ (w3.cell? ⟨w.heap.size + 1, 0, none⟩ = some (.int .u64 (p)) ∧ w3.cell? ⟨w.heap.size + 1, 1, none⟩ = some (.int .u64 (q)) ∧ w.heap.size + 1 < w3.heap.size) ∧ Below w.heap.size w w3 := (by ((repeat' apply And.intro) <;> first | (simp [go_sem, *]; done) | omega | (repeat' (first | with_reducible exact Below.refl _ _ | with_reducible assumption | ((with_reducible refine Below.drew ?_)) | ((with_reducible refine below_drewN ?_ _)) | ((with_reducible refine Below.alloc ?_ ?_ _); rotate_left; focus (first | omega | (simp; done) | (simp; omega))) | ((with_reducible refine Below.setCell ?_ ?_ _); rotate_left; focus (first | omega | (simp; done) | (simp; omega))) | ((with_reducible refine Below.trans ?_ (Below.mono (by with_reducible assumption) ?_)); rotate_left; focus (first | omega | (simp; done) | (simp; omega))))))); go_split_ands; clear hcc hff hbel)))
  refine wp_loop_rounds 2 ?_
  rw [rounds_succ]
  go_wp2_with (go_at_call 152; ((with_reducible refine (K1.out _).mono ?_); rintro e w4 ⟨rfl, hbel⟩; obtain ⟨hcc, hff⟩ := bcell hbel; have hsz := hbel.size; (try simp at hsz); have hF : Below w.heap.size w w4 := (by ((repeat' apply And.intro) <;> first | (simp [go_sem, *]; done) | omega | (repeat' (first | with_reducible exact Below.refl _ _ | with_reducible assumption | ((with_reducible refine Below.drew ?_)) | ((with_reducible refine below_drewN ?_ _)) | ((with_reducible refine Below.alloc ?_ ?_ _); rotate_left; focus (first | omega | (simp; done) | (simp; omega))) | ((with_reducible refine Below.setCell ?_ ?_ _); rotate_left; focus (first | omega | (simp; done) | (simp; omega))) | ((with_reducible refine Below.trans ?_ (Below.mono (by with_reducible assumption) ?_)); rotate_left; focus (first | omega | (simp; done) | (simp; omega))))))); go_split_ands; clear hcc hff hbel))
  rw [rounds_succ]
  go_wp2
  (go_ret; refine ⟨?_, ?_⟩; (focus (exact rfl)); ((repeat' (first | with_reducible exact Below.refl _ _ | with_reducible assumption | ((with_reducible refine Below.drew ?_)) | ((with_reducible refine below_drewN ?_ _)) | ((with_reducible refine Below.alloc ?_ ?_ _); rotate_left; focus (first | omega | (simp; done) | (simp; omega))) | ((with_reducible refine Below.setCell ?_ ?_ _); rotate_left; focus (first | omega | (simp; done) | (simp; omega))) | ((with_reducible refine Below.trans ?_ (Below.mono (by with_reducible assumption) ?_)); rotate_left; focus (first | omega | (simp; done) | (simp; omega))))); done))
set_option maxHeartbeats 8000000 in
set_option maxRecDepth 100000 in
theorem rrc_2 (a b c d e f g h p q r s t : Int) (hr : 0 ≤ r) (ht : (if r < s then s else r) = t)
    (k1 : ∀ w, Calls Try.prog 152 #[.agg #[.int .u64 (e), .int .u64 (f), .int .u64 (g), .int .u64 (h)], .agg #[.int .u64 p, .int .u64 q]] w fun ee w' => ee = .returned (.int .u64 r) ∧ Below w.heap.size w w')
    (k2 : ∀ w, Calls Try.prog 152 #[.agg #[.int .u64 (a), .int .u64 (b), .int .u64 (c), .int .u64 (d)], .agg #[.int .u64 p, .int .u64 q]] w fun ee w' => ee = .returned (.int .u64 s) ∧ Below w.heap.size w w')
    (w : World) : Calls Try.prog 109 #[.agg #[.int .u64 (a), .int .u64 (b), .int .u64 (c), .int .u64 (d), .int .u64 (e), .int .u64 (f), .int .u64 (g), .int .u64 (h), .bool true], .agg #[.int .u64 p, .int .u64 q]] w fun ee w' => ee = .returned (.int .u64 t) ∧ Below w.heap.size w w' := by
  have hm : (if 0 < r then r else 0) = r := by split <;> omega
  have K1 := Lib.hid k1
  have K2 := Lib.hid k2
  clear k1 k2
  have hs := slice_02
  go_enter Try.func109, Try.ntmps109
  go_wp2_with (first
    | (go_at_call 103; ((with_reducible refine (both_c _ _ _ _ _ _ _ _ _ _).mono ?_); rintro e w1 ⟨rfl, hbel⟩; obtain ⟨hcc, hff⟩ := bcell hbel; have hsz := hbel.size; (try simp at hsz); have hF : (w1.cell? ⟨w.heap.size, 0, none⟩ = some (.int .u64 (a)) ∧ w1.cell? ⟨w.heap.size, 1, none⟩ = some (.int .u64 (b)) ∧ w1.cell? ⟨w.heap.size, 2, none⟩ = some (.int .u64 (c)) ∧ w1.cell? ⟨w.heap.size, 3, none⟩ = some (.int .u64 (d)) ∧ w1.cell? ⟨w.heap.size, 4, none⟩ = some (.int .u64 (e)) ∧ w1.cell? ⟨w.heap.size, 5, none⟩ = some (.int .u64 (f)) ∧ w1.cell? ⟨w.heap.size, 6, none⟩ = some (.int .u64 (g)) ∧ w1.cell? ⟨w.heap.size, 7, none⟩ = some (.int .u64 (h)) ∧ w1.cell? ⟨w.heap.size, 8, none⟩ = some (.bool true) ∧ w.heap.size < w1.heap.size) ∧ (w1.cell? ⟨w.heap.size + 1, 0, none⟩ = some (.int .u64 (p)) ∧ w1.cell? ⟨w.heap.size + 1, 1, none⟩ = some (.int .u64 (q)) ∧ w.heap.size + 1 < w1.heap.size) ∧ Below w.heap.size w w1 := (by ((repeat' apply And.intro) <;> first | (simp [go_sem, *]; done) | omega | (repeat' (first | with_reducible exact Below.refl _ _ | with_reducible assumption | ((with_reducible refine Below.drew ?_)) | ((with_reducible refine below_drewN ?_ _)) | ((with_reducible refine Below.alloc ?_ ?_ _); rotate_left; focus (first | omega | (simp; done) | (simp; omega))) | ((with_reducible refine Below.setCell ?_ ?_ _); rotate_left; focus (first | omega | (simp; done) | (simp; omega))) | ((with_reducible refine Below.trans ?_ (Below.mono (by with_reducible assumption) ?_)); rotate_left; focus (first | omega | (simp; done) | (simp; omega))))))); go_split_ands; clear hcc hff hbel))
    | (go_at_call 105; ((with_reducible refine (cnt_2 _ _ _ _ _ _ _ _ _).mono ?_); rintro e w3 ⟨rfl, hbel⟩; obtain ⟨hcc, hff⟩ := bcell hbel; have hsz := hbel.size; (try simp at hsz); have hF : w.heap.size < w3.heap.size ∧ (w3.cell? ⟨w1.heap.size, 0, none⟩ = some (.int .u64 (e)) ∧ w3.cell? ⟨w1.heap.size, 1, none⟩ = some (.int .u64 (f)) ∧ w3.cell? ⟨w1.heap.size, 2, none⟩ = some (.int .u64 (g)) ∧ w3.cell? ⟨w1.heap.size, 3, none⟩ = some (.int .u64 (h)) ∧ w3.cell? ⟨w1.heap.size, 4, none⟩ = some (.int .u64 (a)) ∧ w3.cell? ⟨w1.heap.size, 5, none⟩ = some (.int .u64 (b)) ∧ w3.cell? ⟨w1.heap.size, 6, none⟩ = some (.int .u64 (c)) ∧ w3.cell? ⟨w1.heap.size, 7, none⟩ = some (.int .u64 (d)) ∧ w1.heap.size < w3.heap.size) ∧ (w3.cell? ⟨w.heap.size + 1, 0, none⟩ = some (.int .u64 (p)) ∧ w3.cell? ⟨w.heap.size + 1, 1, none⟩ = some (.int .u64 (q)) ∧ w.heap.size + 1 < w3.heap.size) ∧ Below w.heap.size w w3 := (by ((repeat' apply And.intro) <;> first | (simp [go_sem, *]; done) | omega | (repeat' (first | with_reducible exact Below.refl _ _ | with_reducible assumption | ((with_reducible refine Below.drew ?_)) | ((with_reducible refine below_drewN ?_ _)) | ((with_reducible refine Below.alloc ?_ ?_ _); rotate_left; focus (first | omega | (simp; done) | (simp; omega))) | ((with_reducible refine Below.setCell ?_ ?_ _); rotate_left; focus (first | omega | (simp; done) | (simp; omega))) | ((with_reducible refine Below.trans ?_ (Below.mono (by with_reducible assumption) ?_)); rotate_left; focus (first | omega | (simp; done) | (simp; omega))))))); go_split_ands; clear hcc hff hbel)))
  refine wp_loop_rounds 3 ?_
  rw [rounds_succ]
  go_wp2_with (go_at_call 152; ((with_reducible refine (K1.out _).mono ?_); rintro e w4 ⟨rfl, hbel⟩; obtain ⟨hcc, hff⟩ := bcell hbel; have hsz := hbel.size; (try simp at hsz); have hF : w.heap.size < w4.heap.size ∧ (w4.cell? ⟨w1.heap.size, 0, none⟩ = some (.int .u64 (e)) ∧ w4.cell? ⟨w1.heap.size, 1, none⟩ = some (.int .u64 (f)) ∧ w4.cell? ⟨w1.heap.size, 2, none⟩ = some (.int .u64 (g)) ∧ w4.cell? ⟨w1.heap.size, 3, none⟩ = some (.int .u64 (h)) ∧ w4.cell? ⟨w1.heap.size, 4, none⟩ = some (.int .u64 (a)) ∧ w4.cell? ⟨w1.heap.size, 5, none⟩ = some (.int .u64 (b)) ∧ w4.cell? ⟨w1.heap.size, 6, none⟩ = some (.int .u64 (c)) ∧ w4.cell? ⟨w1.heap.size, 7, none⟩ = some (.int .u64 (d)) ∧ w1.heap.size < w4.heap.size) ∧ (w4.cell? ⟨w.heap.size + 1, 0, none⟩ = some (.int .u64 (p)) ∧ w4.cell? ⟨w.heap.size + 1, 1, none⟩ = some (.int .u64 (q)) ∧ w.heap.size + 1 < w4.heap.size) ∧ Below w.heap.size w w4 := (by ((repeat' apply And.intro) <;> first | (simp [go_sem, *]; done) | omega | (repeat' (first | with_reducible exact Below.refl _ _ | with_reducible assumption | ((with_reducible refine Below.drew ?_)) | ((with_reducible refine below_drewN ?_ _)) | ((with_reducible refine Below.alloc ?_ ?_ _); rotate_left; focus (first | omega | (simp; done) | (simp; omega))) | ((with_reducible refine Below.setCell ?_ ?_ _); rotate_left; focus (first | omega | (simp; done) | (simp; omega))) | ((with_reducible refine Below.trans ?_ (Below.mono (by with_reducible assumption) ?_)); rotate_left; focus (first | omega | (simp; done) | (simp; omega))))))); go_split_ands; clear hcc hff hbel))
  rw [rounds_succ]
  go_wp2_with (go_at_call 152; ((with_reducible refine (K2.out _).mono ?_); rintro e w5 ⟨rfl, hbel⟩; obtain ⟨hcc, hff⟩ := bcell hbel; have hsz := hbel.size; (try simp at hsz); have hF : Below w.heap.size w w5 := (by ((repeat' apply And.intro) <;> first | (simp [go_sem, *]; done) | omega | (repeat' (first | with_reducible exact Below.refl _ _ | with_reducible assumption | ((with_reducible refine Below.drew ?_)) | ((with_reducible refine below_drewN ?_ _)) | ((with_reducible refine Below.alloc ?_ ?_ _); rotate_left; focus (first | omega | (simp; done) | (simp; omega))) | ((with_reducible refine Below.setCell ?_ ?_ _); rotate_left; focus (first | omega | (simp; done) | (simp; omega))) | ((with_reducible refine Below.trans ?_ (Below.mono (by with_reducible assumption) ?_)); rotate_left; focus (first | omega | (simp; done) | (simp; omega))))))); go_split_ands; clear hcc hff hbel))
  rw [rounds_succ]
  go_wp2
  (go_ret; refine ⟨?_, ?_⟩; (focus (exact rfl)); ((repeat' (first | with_reducible exact Below.refl _ _ | with_reducible assumption | ((with_reducible refine Below.drew ?_)) | ((with_reducible refine below_drewN ?_ _)) | ((with_reducible refine Below.alloc ?_ ?_ _); rotate_left; focus (first | omega | (simp; done) | (simp; omega))) | ((with_reducible refine Below.setCell ?_ ?_ _); rotate_left; focus (first | omega | (simp; done) | (simp; omega))) | ((with_reducible refine Below.trans ?_ (Below.mono (by with_reducible assumption) ?_)); rotate_left; focus (first | omega | (simp; done) | (simp; omega))))); done))
end Go.Proofs.Ytdahjhokcjfioaa

namespace Go.Proofs.Ytdahjhokcjfioaa
set_option linter.unusedVariables false
set_option linter.unusedSimpArgs false
set_option maxRecDepth 100000
open Go.RowKit Fg Reg

theorem rat_run (b : Bool) (X1 Y1 M1 X2 Y2 M2 x : Int) (i1 : In X1) (j1 : Wd Y1) (l1 : In M1) (i2 : In X2) (j2 : Wd Y2) (l2 : In M2) (hx : In x) (w : World) :
    Calls Try.prog 40 #[.agg #[.int .u64 (X1), .int .u64 (hi Y1), .int .u64 (lo Y1), .int .u64 (M1), .int .u64 (X2), .int .u64 (hi Y2), .int .u64 (lo Y2), .int .u64 (M2), .bool b], .int .u64 x] w fun ee w' => ee = .returned (.agg #[.int .u64 (hi (rn b X1 Y1 M1 X2 Y2 M2 x)), .int .u64 (lo (rn b X1 Y1 M1 X2 Y2 M2 x))]) ∧ Below w.heap.size w w' := by
  cases b with
  | false =>
    rw [show rn false X1 Y1 M1 X2 Y2 M2 x = lat X2 Y2 M2 x from if_neg (by simp)]
    exact rat_1 _ _ _ _ _ _ _ _ x _ _ (lat_c X2 Y2 M2 x i2 j2 l2 hx) w
  | true =>
    have k := fun w => compare_c (hi (lat X1 Y1 M1 x)) (lo (lat X1 Y1 M1 x)) (hi (lat X2 Y2 M2 x)) (lo (lat X2 Y2 M2 x)) (hi_in _) (lo_in _) (hi_in _) (lo_in _) w
    rw [val_wd (lat_wd j1), val_wd (lat_wd j2)] at k
    refine rat_2 _ _ _ _ _ _ _ _ x _ _ _ _ _ _ _ ?_ (lat_c X2 Y2 M2 x i2 j2 l2 hx) (lat_c X1 Y1 M1 x i1 j1 l1 hx) k w
    rcases Int.lt_or_le (lat X1 Y1 M1 x) (lat X2 Y2 M2 x) with c | c
    · left
      rw [show rn true X1 Y1 M1 X2 Y2 M2 x = lat X1 Y1 M1 x from if_pos ⟨rfl, c⟩, cmp_lt' c]
      exact ⟨by decide, rfl, rfl⟩
    · right
      rw [show rn true X1 Y1 M1 X2 Y2 M2 x = lat X2 Y2 M2 x from if_neg (by omega)]
      refine ⟨?_, rfl, rfl⟩
      unfold cmp; split <;> (try split) <;> omega
theorem rrc_run (b : Bool) (X1 Y1 M1 X2 Y2 M2 W : Int) (i1 : In X1) (j1 : Wd Y1) (l1 : In M1) (i2 : In X2) (j2 : Wd Y2) (l2 : In M2) (hW : Wd W) (w : World) :
    Calls Try.prog 109 #[.agg #[.int .u64 (X1), .int .u64 (hi Y1), .int .u64 (lo Y1), .int .u64 (M1), .int .u64 (X2), .int .u64 (hi Y2), .int .u64 (lo Y2), .int .u64 (M2), .bool b], .agg #[.int .u64 (hi W), .int .u64 (lo W)]] w fun ee w' => ee = .returned (.int .u64 (rr b X1 Y1 M1 X2 Y2 M2 W)) ∧ Below w.heap.size w w' := by
  have g2 := lrch_in (Y := Y2) (W := W) i2 l2 hW.1
  cases b with
  | false =>
    rw [show rr false X1 Y1 M1 X2 Y2 M2 W = lrch X2 Y2 M2 W from if_neg (by simp)]
    exact rrc_1 _ _ _ _ _ _ _ _ _ _ _ g2.1 (lrch_c X2 Y2 M2 W i2 j2 l2 hW) w
  | true =>
    refine rrc_2 _ _ _ _ _ _ _ _ _ _ _ _ _ g2.1 ?_ (lrch_c X2 Y2 M2 W i2 j2 l2 hW) (lrch_c X1 Y1 M1 W i1 j1 l1 hW) w
    unfold rr; simp
end Go.Proofs.Ytdahjhokcjfioaa

namespace Go.Proofs.Ytdahjhokcjfioaa
set_option linter.unusedVariables false
set_option linter.unusedSimpArgs false
set_option maxRecDepth 100000
open Go.RowKit Fg Reg

/-- A run as a value. -/
def rvv (r : Rn) : Value := .agg #[.int .u64 r.x1, .int .u64 (hi r.y1), .int .u64 (lo r.y1), .int .u64 r.m1, .int .u64 r.x2, .int .u64 (hi r.y2), .int .u64 (lo r.y2), .int .u64 r.m2, .bool r.b]
theorem at_R {r : Rn} (h : r.ok) {x : Int} (hx : In x) (w : World) : Calls Try.prog 40 #[rvv r, .int .u64 x] w fun ee w' => ee = .returned (.agg #[.int .u64 (hi (r.at x)), .int .u64 (lo (r.at x))]) ∧ Below w.heap.size w w' :=
  rat_run r.b r.x1 r.y1 r.m1 r.x2 r.y2 r.m2 x h.i1 h.j1 h.l1 h.i2 h.j2 h.l2 hx w
theorem rch_R {r : Rn} (h : r.ok) {W : Int} (hW : Wd W) (w : World) : Calls Try.prog 109 #[rvv r, .agg #[.int .u64 (hi W), .int .u64 (lo W)]] w fun ee w' => ee = .returned (.int .u64 (r.rch W)) ∧ Below w.heap.size w w' :=
  rrc_run r.b r.x1 r.y1 r.m1 r.x2 r.y2 r.m2 W h.i1 h.j1 h.l1 h.i2 h.j2 h.l2 hW w
theorem meet_R {r s : Rn} (h : r.ok) (g : s.ok) (w : World) : Calls Try.prog 92 #[rvv r, rvv s] w fun ee w' => ee = .returned (rvv (r.meet s)) ∧ Below w.heap.size w w' := by
  have k := mee_c r.b s.b r.x1 r.y1 r.m1 r.x2 r.y2 r.m2 s.x1 s.y1 s.m1 s.x2 s.y2 s.m2 h.i1 h.j1 h.l1 h.i2 h.j2 h.l2 g.i1 g.j1 g.l1 g.i2 g.j2 g.l2 (r.c1 s) (r.c2 s) rfl rfl w
  have e : rvv (r.meet s) = .agg #[.int .u64 (sel r.b (sel (r.c1 s) r.x1 s.x1) 0), .int .u64 (sel r.b (hi (sel (r.c1 s) r.y1 s.y1)) 0), .int .u64 (sel r.b (lo (sel (r.c1 s) r.y1 s.y1)) 0), .int .u64 (sel r.b (sel (r.c1 s) r.m1 s.m1) 0), .int .u64 (sel (r.c2 s) r.x2 s.x2), .int .u64 (hi (sel (r.c2 s) r.y2 s.y2)), .int .u64 (lo (sel (r.c2 s) r.y2 s.y2)), .int .u64 (sel (r.c2 s) r.m2 s.m2), .bool r.b] := by
    unfold rvv Rn.meet
    cases hb : r.b <;> rfl
  rw [e]
  exact k
theorem ready_R {m1 d m2 X Y : Int} (h1 : In m1) (h2 : In d) (h3 : In m2) (hY : 0 ≤ Y) (hY1 : Y < 1000000000000000000000000000000) (w : World) :
    Calls Try.prog 94 #[.agg #[.int .u64 (m1), .int .u64 (d), .int .u64 (m2)], .int .u64 X, .agg #[.int .u64 (hi Y), .int .u64 (lo Y)]] w fun ee w' => ee = .returned (rvv (srun false m1 d m2 X Y)) ∧ Below w.heap.size w w' := by
  have kk := kof_c m1 d m2 h1 h2 h3
  have hr := kind_range m1 d m2
  rcases (by omega : kind m1 d m2 = 0 ∨ kind m1 d m2 = 1 ∨ kind m1 d m2 = 2 ∨ kind m1 d m2 = 3 ∨ kind m1 d m2 = 4) with k | k | k | k | k
  · rw [k] at kk
    rw [show srun false m1 d m2 X Y = ⟨false, 0, 0, 0, X, Y, 0⟩ by unfold srun; simp [k]]
    exact rdy_none m1 d m2 X (hi Y) (lo Y) 0 (by simp) kk w
  · rw [k] at kk
    rw [show srun false m1 d m2 X Y = ⟨false, 0, 0, 0, X, Y, 0⟩ by unfold srun; simp [k]]
    exact rdy_none m1 d m2 X (hi Y) (lo Y) 1 (by simp) kk w
  · rw [k] at kk
    rw [show srun false m1 d m2 X Y = ⟨false, 0, 0, 0, X, Y, m2⟩ by unfold srun; simp [k]]
    exact rdy_one m1 d m2 X (hi Y) (lo Y) 2 (by simp) kk w
  · rw [k] at kk
    rw [show srun false m1 d m2 X Y = ⟨true, X, Y, m1, X, Y + (m1 - m2) * d, m2⟩ by unfold srun; simp [k]]
    have ok := kind_ok h1 h2 h3 (.inr (.inl k))
    have hlt := kind_of3 k
    have hb := cut_bd ok hlt
    have n3 := ok.n3
    have b1 := ok.b1
    have hP : Wd ((m1 - m2) * d) := by unfold Wd; omega
    have hYw : Wd Y := by unfold Wd; omega
    exact rdy_two m1 d m2 X (hi Y) (lo Y) _ _ _ _ _ h1 h3 hlt kk (mul_c (m1 - m2) d (by unfold In; omega) h2) (fun w => by
      have k := add_c (hi Y) (lo Y) (hi ((m1 - m2) * d)) (lo ((m1 - m2) * d)) (hi_in _) (lo_in _) (hi_in _) (lo_in _) w
      rw [val_wd hYw, val_wd hP] at k
      exact k) w
  · rw [k] at kk
    rw [show srun false m1 d m2 X Y = ⟨false, 0, 0, 0, X, Y, m2⟩ by unfold srun; simp [k]]
    exact rdy_one m1 d m2 X (hi Y) (lo Y) 4 (by simp) kk w
theorem start_R {m1 d m2 X Y : Int} (h1 : In m1) (h2 : In d) (h3 : In m2) (hX : 0 ≤ X) (hX1 : X ≤ 9223372036854775808) (hY : 0 ≤ Y) (hY1 : Y < 1000000000000000000000000000000) (w : World) :
    Calls Try.prog 93 #[.agg #[.int .u64 (m1), .int .u64 (d), .int .u64 (m2)], .int .u64 X, .agg #[.int .u64 (hi Y), .int .u64 (lo Y)]] w fun ee w' => ee = .returned (rvv (srun true m1 d m2 X Y)) ∧ Below w.heap.size w w' := by
  have kk := kof_c m1 d m2 h1 h2 h3
  by_cases k : kind m1 d m2 = 4
  · rw [k] at kk
    have ok := kind_ok h1 h2 h3 (.inr (.inr k))
    have := ok.n2
    have := ok.b2
    have r := fun w => ready_R (X := X + d) h1 h2 h3 hY hY1 w
    rw [show srun false m1 d m2 (X + d) Y = srun true m1 d m2 X Y by unfold srun; simp [k]] at r
    exact sta_late m1 d m2 X (hi Y) (lo Y) (by unfold In; omega) h2 (by unfold In; omega) kk _ _ _ _ _ _ _ _ _ r w
  · have r := fun w => ready_R (X := X) h1 h2 h3 hY hY1 w
    rw [show srun false m1 d m2 X Y = srun true m1 d m2 X Y by unfold srun; simp [k]] at r
    exact sta_same m1 d m2 X (hi Y) (lo Y) _ (.agg #[]) ⟨_, rfl⟩ (by simpa using k) kk _ _ _ _ _ _ _ _ _ r w
end Go.Proofs.Ytdahjhokcjfioaa
