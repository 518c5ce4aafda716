/- A leaf's deadline run behind wakes (mathematics of RealLeast and RealSince): each of its lines is a wake's. -/
import Derived.Test.YtdahjhokcjfioaaRe1
namespace Go.Proofs.Ytdahjhokcjfioaa
set_option linter.unusedVariables false
set_option linter.unusedSimpArgs false
set_option maxRecDepth 100000
open Fg

theorem kind_any (c1 cd c2 : Int) : kind c1 cd c2 = 0 ∨ kind c1 cd c2 = 1 ∨ kind c1 cd c2 = 2 ∨ kind c1 cd c2 = 3 ∨ kind c1 cd c2 = 4 := by
  unfold kind
  repeat' split
  all_goals simp
/-- What a wake at X promises by T. -/
def vw (c1 cd c2 X Y T : Int) : Int := Y + (if X < T then srv c1 cd c2 (T - X) else 0)
theorem us_full {c1 cd c2 X Y T : Int} (h1 : In c1) (h2 : In cd) (h3 : In c2) (hk : ¬ kind c1 cd c2 = 0) (hX : 0 ≤ X) (hX1 : X ≤ 4611686018427387904) (hY : 0 ≤ Y) (hY1 : Y < 1000000000000000000000000000000) (hT : 0 ≤ T) (hT1 : T ≤ 9223372036854775808) :
    (srun true c1 cd c2 X Y).at T = vw c1 cd c2 X Y T := by
  have sm := srun_sm (late := true) (X := X) (Y := Y) h1 h2 h3 hX (by omega) hY hY1
  unfold vw
  rw [srv_ok hk]
  have hIX : In X := by unfold In; omega
  have c0 := h2.1
  have hIT : In (X + (T - X)) := by unfold In; omega
  rcases kind_any c1 cd c2 with k | k | k | k | k
  · exact absurd k hk
  · obtain ⟨rfl, rfl, rfl⟩ := kind_of1 k
    have e : srun true 0 0 0 X Y = ⟨false, 0, 0, 0, X, Y, 0⟩ := by unfold srun; rw [if_neg (by omega), if_neg (by omega), if_neg (by omega)]
    rw [e] at sm ⊢
    show rn false 0 0 0 X Y 0 T = _
    unfold rn
    rw [if_neg (by simp), lat_small sm.s2 hX (by unfold In; omega)]
    unfold sv
    dsimp only
    rw [Int.zero_mul, Int.zero_mul, Int.zero_mul]
    split <;> split <;> (try split) <;> omega
  · have e : srun true c1 cd c2 X Y = ⟨false, 0, 0, 0, X, Y, c2⟩ := by
      unfold srun; rw [if_neg (by omega), if_neg (by omega), if_pos k]
    rw [e] at sm ⊢
    have h12 := kind_of12 (.inr k)
    show rn false 0 0 0 X Y c2 T = _
    unfold rn
    rw [if_neg (by simp), lat_small sm.s2 hX (by unfold In; omega)]
    by_cases c : T ≤ X
    · rw [if_pos c, if_neg (by omega)]; show Y = _; omega
    · rw [if_neg c, if_pos (by omega)]
      unfold sv
      rw [h12.1, h12.2]
      split
      · rfl
      · rw [Int.mul_zero, Int.sub_zero, Int.zero_add]
  · have e : srun true c1 cd c2 X Y = ⟨true, X, Y, c1, X, Y + (c1 - c2) * cd, c2⟩ := by
      unfold srun; rw [if_pos k]
    rw [e] at sm ⊢
    have ho := kind_ok h1 h2 h3 (.inr (.inl k))
    by_cases c : T ≤ X
    · have hc := cut_bd ho (kind_of3 k)
      rw [if_neg (by omega)]
      show rn true X Y c1 X (Y + (c1 - c2) * cd) c2 T = _
      unfold rn
      rw [lat_small sm.s1 hX (by unfold In; omega), lat_small sm.s2 hX (by unfold In; omega), if_pos c, if_pos c]
      dsimp only
      split
      · omega
      · rename_i n
        simp only [true_and, Int.not_lt] at n
        omega
    · rw [if_pos (by omega)]
      have hl := run_two (d := cd) sm.s1 sm.s2 hIX (show 0 ≤ T - X by omega) ho.n2 hIT (kind_of3 k)
      rw [show X + (T - X) = T by omega] at hl
      exact hl
  · have e : srun true c1 cd c2 X Y = ⟨false, 0, 0, 0, X + cd, Y, c2⟩ := by rw [srun_4 k]; simp
    rw [e] at sm ⊢
    have ho := kind_ok h1 h2 h3 (.inr (.inr k))
    have z := kind_of4 k
    have b2 := ho.b2
    have hl := run_late (d := cd) (t := T - X) sm.s2 (show In (X + cd) by unfold In; omega) hIT
    rw [show X + (T - X) = T by omega] at hl
    show rn false 0 0 0 (X + cd) Y c2 T = _
    unfold rn
    rw [if_neg (by simp), hl]
    unfold sv
    dsimp only
    rw [z, Int.zero_mul, Int.zero_mul]
    split <;> split <;> omega

/-- The deadlines' run behind the wakes ws (ticks and what was picked then). -/
structure LI (c1 cd c2 now tot : Int) (r : Rn) (ws : List (Int × Int)) : Prop where
  sm : r.sm
  b : r.b = decide (kind c1 cd c2 = 3)
  m1 : r.b = true → r.m1 = c1
  m2 : r.m2 = (if kind c1 cd c2 = 1 then 0 else c2)
  x1 : r.b = true → r.x1 ≤ now
  x2 : r.x2 ≤ now + cd
  bd : ∀ p ∈ ws, 0 ≤ p.1 ∧ p.1 ≤ now ∧ 0 ≤ p.2 ∧ p.2 ≤ tot
  lo : ∀ p ∈ ws, ∀ T, now + cd ≤ T → T < 4611686018427387904 → r.at T ≤ vw c1 cd c2 p.1 (p.2 * 65536) T
  l1 : r.b = true → ∃ p ∈ ws, r.x1 = (srun true c1 cd c2 p.1 (p.2 * 65536)).x1 ∧ r.y1 = (srun true c1 cd c2 p.1 (p.2 * 65536)).y1
  l2 : ∃ p ∈ ws, r.x2 = (srun true c1 cd c2 p.1 (p.2 * 65536)).x2 ∧ r.y2 = (srun true c1 cd c2 p.1 (p.2 * 65536)).y2
theorem li_s {c1 cd c2 X Y : Int} (h2 : In cd) : (srun true c1 cd c2 X Y).b = decide (kind c1 cd c2 = 3) ∧ ((srun true c1 cd c2 X Y).b = true → (srun true c1 cd c2 X Y).m1 = c1) ∧ (¬ kind c1 cd c2 = 0 → (srun true c1 cd c2 X Y).m2 = (if kind c1 cd c2 = 1 then 0 else c2)) ∧ ((srun true c1 cd c2 X Y).b = true → (srun true c1 cd c2 X Y).x1 ≤ X) ∧ (srun true c1 cd c2 X Y).x2 ≤ X + cd ∧ ((srun true c1 cd c2 X Y).b = true → (srun true c1 cd c2 X Y).y1 = Y) ∧ ((srun true c1 cd c2 X Y).b = false → (srun true c1 cd c2 X Y).y2 = Y) := by
  have c0 := h2.1
  have cx : X ≤ X + cd := by omega
  unfold srun
  rcases kind_any c1 cd c2 with k | k | k | k | k
  · simp [k, cx, c0]
  · simp [k, cx, c0]
  · simp [k, cx, c0]
  · simp [k, cx, c0]
  · simp [k, cx, c0]
theorem li_first {c1 cd c2 now tot : Int} (h1 : In c1) (h2 : In cd) (h3 : In c2) (hk : ¬ kind c1 cd c2 = 0) (h0 : 0 ≤ now) (hn : now ≤ 4611686018427387904) (t0 : 0 ≤ tot) (ht : tot ≤ 18446744073709551615) :
    LI c1 cd c2 now tot (srun true c1 cd c2 now (tot * 65536)) [(now, tot)] := by
  obtain ⟨b, m1, m2, x1, x2, _, _⟩ := li_s (c1 := c1) (c2 := c2) (X := now) (Y := tot * 65536) h2
  have c0 := h2.1
  refine ⟨srun_sm h1 h2 h3 h0 (by omega) (by omega) (by omega), b, m1, m2 hk, x1, x2, ?_, ?_, fun _ => ⟨_, List.mem_cons_self .., rfl, rfl⟩, ⟨_, List.mem_cons_self .., rfl, rfl⟩⟩
  · intro p hp
    simp only [List.mem_cons, List.not_mem_nil, or_false] at hp
    subst hp
    exact ⟨h0, Int.le_refl _, t0, Int.le_refl _⟩
  · intro p hp T a c
    simp only [List.mem_cons, List.not_mem_nil, or_false] at hp
    subst hp
    rw [us_full h1 h2 h3 hk h0 hn (by omega) (by omega) (by omega) (by omega)]
    exact Int.le_refl _
theorem li_on {c1 cd c2 now tot now' tot' : Int} {r : Rn} {ws : List (Int × Int)} (h : LI c1 cd c2 now tot r ws) (hn : now ≤ now') (ht : tot ≤ tot') : LI c1 cd c2 now' tot' r ws := by
  obtain ⟨sm, b, m1, m2, x1, x2, bd, lo, l1, l2⟩ := h
  exact ⟨sm, b, m1, m2, fun e => Int.le_trans (x1 e) hn, by omega, fun p hp => by have := bd p hp; omega, fun p hp T a c => lo p hp T (by omega) c, l1, l2⟩
theorem li_wake {c1 cd c2 now tot : Int} {r : Rn} {ws : List (Int × Int)} (h1 : In c1) (h2 : In cd) (h3 : In c2) (hk : ¬ kind c1 cd c2 = 0) (h0 : 0 ≤ now) (hn : now ≤ 4611686018427387904) (t0 : 0 ≤ tot) (ht : tot ≤ 18446744073709551615) (h : LI c1 cd c2 now tot r ws) :
    LI c1 cd c2 now tot (r.meet (srun true c1 cd c2 now (tot * 65536))) (ws ++ [(now, tot)]) := by
  have sm := srun_sm (late := true) (X := now) (Y := tot * 65536) h1 h2 h3 h0 (by omega) (by omega) (by omega)
  have hat := fun T (a : 0 ≤ T) b => us_full h1 h2 h3 hk (X := now) (Y := tot * 65536) (T := T) h0 hn (by omega) (by omega) a b
  have c0 := h2.1
  have wl : (now, tot) ∈ ws ++ [(now, tot)] := List.mem_append.2 (.inr (List.mem_cons_self ..))
  have il : ∀ p, p ∈ ws → p ∈ ws ++ [(now, tot)] := fun p hp => List.mem_append.2 (.inl hp)
  obtain ⟨rsm, b, m1, m2, x1, x2, bd, lo, l1, l2⟩ := h
  obtain ⟨sb, s1, s2, sx1, sx2, _, _⟩ := li_s (c1 := c1) (c2 := c2) (X := now) (Y := tot * 65536) h2
  have s2 := s2 hk
  generalize hs : srun true c1 cd c2 now (tot * 65536) = s at sm hat sb s1 s2 sx1 sx2 ⊢
  have eb : s.b = r.b := by rw [sb, b]
  have em1 : r.b = true → s.m1 = r.m1 := fun e => by rw [s1 (by rw [eb, e]), m1 e]
  have em2 : s.m2 = r.m2 := by rw [s2, m2]
  have hmeet : ∀ T, now + cd ≤ T → T < 4611686018427387904 → (r.meet s).at T = if s.at T < r.at T then s.at T else r.at T := fun T a c =>
    Rn.at_meet rsm sm eb em1 em2 (show In T by unfold In; omega) (fun e => by have := x1 e; omega) (by omega) (fun e => by have := sx1 (by rw [eb, e]); omega) (by omega)
  refine ⟨rsm.meet sm, b, ?_, ?_, ?_, ?_, ?_, ?_, ?_, ?_⟩
  · intro e
    show slc r.b (slc _ _ _) 0 = _
    have e' : r.b = true := e
    rw [e', em1 e', slc_same]
    exact m1 e'
  · show slc _ _ _ = _
    rw [em2, slc_same, m2]
  · intro e
    have e' : r.b = true := e
    show slc r.b (slc _ _ _) 0 ≤ now
    rw [e']
    have := x1 e'
    have := sx1 (by rw [eb, e'])
    unfold slc; simp only [if_true]; split <;> omega
  · show slc _ _ _ ≤ now + cd
    unfold slc; split <;> omega
  · intro p hp
    rcases List.mem_append.1 hp with hp | hp
    · exact bd p hp
    · simp only [List.mem_cons, List.not_mem_nil, or_false] at hp
      subst hp
      exact ⟨h0, Int.le_refl _, t0, Int.le_refl _⟩
  · intro p hp T a c
    rw [hmeet T a c]
    rcases List.mem_append.1 hp with hp | hp
    · have := lo p hp T a c
      split <;> omega
    · simp only [List.mem_cons, List.not_mem_nil, or_false] at hp
      subst hp
      have := hat T (by omega) (by omega)
      dsimp only
      split <;> omega
  · intro e
    have e' : r.b = true := e
    obtain ⟨p, hp, u, v⟩ := l1 e'
    by_cases c : r.c1 s = true
    · refine ⟨p, il p hp, ?_, ?_⟩
      · rw [← u]; show slc r.b (slc (r.c1 s) _ _) 0 = _; rw [e', c]; rfl
      · rw [← v]; show slc r.b (slc (r.c1 s) _ _) 0 = _; rw [e', c]; rfl
    · refine ⟨_, wl, ?_, ?_⟩
      · show _ = (srun true c1 cd c2 now (tot * 65536)).x1; rw [hs]; show slc r.b (slc (r.c1 s) _ _) 0 = _; unfold slc; rw [if_pos e', if_neg c]
      · show _ = (srun true c1 cd c2 now (tot * 65536)).y1; rw [hs]; show slc r.b (slc (r.c1 s) _ _) 0 = _; unfold slc; rw [if_pos e', if_neg c]
  · obtain ⟨p, hp, u, v⟩ := l2
    by_cases c : r.c2 s = true
    · refine ⟨p, il p hp, ?_, ?_⟩
      · rw [← u]; show slc (r.c2 s) _ _ = _; rw [c]; rfl
      · rw [← v]; show slc (r.c2 s) _ _ = _; rw [c]; rfl
    · refine ⟨_, wl, ?_, ?_⟩
      · show _ = (srun true c1 cd c2 now (tot * 65536)).x2; rw [hs]; show slc (r.c2 s) _ _ = _; unfold slc; rw [if_neg c]
      · show _ = (srun true c1 cd c2 now (tot * 65536)).y2; rw [hs]; show slc (r.c2 s) _ _ = _; unfold slc; rw [if_neg c]
/-- Nowhere is it below all wakes. -/
theorem li_some {c1 cd c2 now tot : Int} {r : Rn} {ws : List (Int × Int)} (h1 : In c1) (h2 : In cd) (h3 : In c2) (hk : ¬ kind c1 cd c2 = 0) (hn : now ≤ 4611686018427387904) (ht : tot ≤ 18446744073709551615) (h : LI c1 cd c2 now tot r ws) {T : Int} (T0 : 0 ≤ T) (T1 : T ≤ 9223372036854775808) :
    ∃ p ∈ ws, vw c1 cd c2 p.1 (p.2 * 65536) T ≤ r.at T := by
  obtain ⟨sm, b, m1, m2, x1, x2, bd, lo, l1, l2⟩ := h
  have key : ∀ p ∈ ws, vw c1 cd c2 p.1 (p.2 * 65536) T = (srun true c1 cd c2 p.1 (p.2 * 65536)).at T ∧ (srun true c1 cd c2 p.1 (p.2 * 65536)).b = r.b ∧ (r.b = true → (srun true c1 cd c2 p.1 (p.2 * 65536)).m1 = r.m1) ∧ (srun true c1 cd c2 p.1 (p.2 * 65536)).m2 = r.m2 := by
    intro p hp
    obtain ⟨a0, a1, a2, a3⟩ := bd p hp
    obtain ⟨sb, s1, s2, _⟩ := li_s (c1 := c1) (c2 := c2) (X := p.1) (Y := p.2 * 65536) h2
    exact ⟨(us_full h1 h2 h3 hk a0 (by omega) (by omega) (by omega) T0 T1).symm, by rw [sb, b], fun e => by rw [s1 (by rw [sb, ← b, e]), m1 e], by rw [s2 hk, m2]⟩
  obtain ⟨q, hq, u2, v2⟩ := l2
  obtain ⟨kq, bq, _, mq⟩ := key q hq
  have fin : ∀ {b b' : Bool} {X1 Y1 M1 X2 Y2 M2 U1 V1 : Int}, b' = b → rn b' U1 V1 M1 X2 Y2 M2 T ≤ lat X2 Y2 M2 T := by
    intro b b' X1 Y1 M1 X2 Y2 M2 U1 V1 e
    unfold rn; split <;> omega
  by_cases c : r.b = true ∧ lat r.x1 r.y1 r.m1 T < lat r.x2 r.y2 r.m2 T
  · obtain ⟨p, hp, u1, v1⟩ := l1 c.1
    obtain ⟨kp, bp, np, mp⟩ := key p hp
    refine ⟨p, hp, ?_⟩
    rw [kp]
    have e : r.at T = lat r.x1 r.y1 r.m1 T := if_pos c
    rw [e, u1, v1, ← np c.1]
    generalize srun true c1 cd c2 p.1 (p.2 * 65536) = s at *
    show rn s.b s.x1 s.y1 s.m1 s.x2 s.y2 s.m2 T ≤ _
    unfold rn
    rw [bp, c.1]
    split
    · omega
    · rename_i n; simp only [true_and, Int.not_lt] at n; omega
  · refine ⟨q, hq, ?_⟩
    rw [kq]
    have e : r.at T = lat r.x2 r.y2 r.m2 T := if_neg c
    rw [e, u2, v2, ← mq]
    generalize srun true c1 cd c2 q.1 (q.2 * 65536) = s at *
    show rn s.b s.x1 s.y1 s.m1 s.x2 s.y2 s.m2 T ≤ _
    unfold rn; split <;> omega
/-- Before the tick at which a line reaches so much it has less. -/
theorem lr_before {X Y M W : Int} (h : Sml Y M) (hX : In X) (hX1 : X ≤ 9223372036854775807) (hW : Y < W) : 0 < lrch X Y M W ∧ lrch X Y M W ≤ 9223372036854775808 ∧ lat X Y M (lrch X Y M W - 1) < W := by
  have m0 := h.m0
  have x0 := hX.1
  have g := lrch_in (X := X) (Y := Y) (M := M) (W := W) hX (in_of_sml h) (by have := h.y0; omega)
  rw [lrch_gt hW] at g ⊢
  by_cases c : M = 0
  · rw [if_pos c]
    refine ⟨by omega, by omega, ?_⟩
    rw [lat_small h x0 (by unfold In; omega), c]
    split <;> omega
  · have s := clg_spec (n := W - Y) (d := M) (by omega)
    rw [if_neg c] at g ⊢
    have cl1 : 0 < clg (W - Y) M := by
      rcases Int.lt_or_le 0 (clg (W - Y) M) with h | h
      · exact h
      · have := Int.mul_le_mul_of_nonneg_left h m0
        omega
    by_cases c2 : clg (W - Y) M + X < 9223372036854775808
    · rw [if_pos c2]
      refine ⟨by omega, by omega, ?_⟩
      rw [lat_small h x0 (by unfold In; omega)]
      split
      · omega
      · rw [show X + clg (W - Y) M - 1 - X = clg (W - Y) M - 1 by omega]
        omega
    · rw [if_neg c2]
      refine ⟨by omega, by omega, ?_⟩
      rw [lat_small h x0 (by unfold In; omega)]
      split
      · omega
      · have := Int.mul_le_mul_of_nonneg_left (show 9223372036854775808 - 1 - X ≤ clg (W - Y) M - 1 by omega) m0
        omega
/-- RealSince: before the deadline one of the wakes promises less than what is there then. -/
theorem li_since {c1 cd c2 now tot W : Int} {r : Rn} {ws : List (Int × Int)} (h1 : In c1) (h2 : In cd) (h3 : In c2) (hk : ¬ kind c1 cd c2 = 0) (hn : now ≤ 4611686018427387904) (ht : tot ≤ 18446744073709551615) (h : LI c1 cd c2 now tot r ws) (hW : tot * 65536 < W) :
    0 < r.rch W ∧ r.rch W ≤ 9223372036854775808 ∧ ∃ p ∈ ws, vw c1 cd c2 p.1 (p.2 * 65536) (r.rch W - 1) < W := by
  have cdb : cd ≤ 1048576 := by
    rcases Int.lt_or_le 1048576 cd with h | h
    · exact absurd (show kind c1 cd c2 = 0 by unfold kind; rw [if_pos (.inr (.inr h))]) hk
    · exact h
  have l := fun T (a : 0 ≤ T) b => li_some h1 h2 h3 hk hn ht h (T := T) a b
  obtain ⟨sm, b, m1, m2, x1, x2, bd, lo, l1, l2⟩ := h
  have key : 0 < r.rch W ∧ r.rch W ≤ 9223372036854775808 ∧ r.at (r.rch W - 1) < W := by
    have g1 := lrch_in (Y := r.y1) (W := W) sm.i1 sm.ok.l1 (by
      obtain ⟨q, hq, _⟩ := l2
      have := bd q hq
      omega)
    by_cases c : r.b = true ∧ lrch r.x2 r.y2 r.m2 W < lrch r.x1 r.y1 r.m1 W
    · have e : r.rch W = lrch r.x1 r.y1 r.m1 W := if_pos c
      rw [e]
      obtain ⟨p, hp, u1, v1⟩ := l1 c.1
      have a := bd p hp
      obtain ⟨sb, _, _, _, _, sy, _⟩ := li_s (c1 := c1) (c2 := c2) (X := p.1) (Y := p.2 * 65536) h2
      have y := sy (by rw [sb, ← b, c.1])
      have z := lr_before (W := W) sm.s1 sm.i1 (by have := x1 c.1; omega) (by omega)
      refine ⟨z.1, z.2.1, ?_⟩
      have : r.at (lrch r.x1 r.y1 r.m1 W - 1) ≤ lat r.x1 r.y1 r.m1 (lrch r.x1 r.y1 r.m1 W - 1) := by
        unfold Rn.at rn
        rw [c.1]
        split
        · omega
        · rename_i n; simp only [true_and, Int.not_lt] at n; omega
      omega
    · have e : r.rch W = lrch r.x2 r.y2 r.m2 W := if_neg c
      rw [e]
      have yw : r.y2 < W := by
        cases hb : r.b with
        | true =>
          rw [hb] at c
          simp only [true_and, Int.not_lt] at c
          obtain ⟨p, hp, u1, v1⟩ := l1 hb
          have a := bd p hp
          obtain ⟨sb, _, _, _, _, sy, _⟩ := li_s (c1 := c1) (c2 := c2) (X := p.1) (Y := p.2 * 65536) h2
          have y := sy (by rw [sb, ← b, hb])
          have z := lr_before (W := W) sm.s1 sm.i1 (by have := x1 hb; omega) (by omega)
          rcases Int.lt_or_le r.y2 W with t | t
          · exact t
          · have : lrch r.x2 r.y2 r.m2 W = 0 := if_pos t
            omega
        | false =>
          obtain ⟨q, hq, u2, v2⟩ := l2
          have a := bd q hq
          obtain ⟨sb, _, _, _, _, _, sy⟩ := li_s (c1 := c1) (c2 := c2) (X := q.1) (Y := q.2 * 65536) h2
          have y := sy (by rw [sb, ← b, hb])
          omega
      have z := lr_before (W := W) sm.s2 sm.i2 (by omega) yw
      refine ⟨z.1, z.2.1, ?_⟩
      have : r.at (lrch r.x2 r.y2 r.m2 W - 1) ≤ lat r.x2 r.y2 r.m2 (lrch r.x2 r.y2 r.m2 W - 1) := by
        unfold Rn.at rn
        split <;> omega
      omega
  obtain ⟨a, b, c⟩ := key
  obtain ⟨p, hp, q⟩ := l (r.rch W - 1) (by omega) (by omega)
  exact ⟨a, b, p, hp, by omega⟩
/-- RealLeast: from the last wake's delay on it is the least of all wakes. -/
theorem li_least {c1 cd c2 now tot T v : Int} {r : Rn} {ws : List (Int × Int)} (h1 : In c1) (h2 : In cd) (h3 : In c2) (hk : ¬ kind c1 cd c2 = 0) (hn : now ≤ 4611686018427387904) (h0 : 0 ≤ now) (ht : tot ≤ 18446744073709551615) (h : LI c1 cd c2 now tot r ws) (a : now + cd ≤ T) (c : T < 4611686018427387904)
    (hv : ∃ p ∈ ws, v = vw c1 cd c2 p.1 (p.2 * 65536) T) (hle : ∀ p ∈ ws, v ≤ vw c1 cd c2 p.1 (p.2 * 65536) T) : r.at T = v := by
  have c0 := h2.1
  obtain ⟨p, hp, e⟩ := hv
  obtain ⟨q, hq, f⟩ := li_some h1 h2 h3 hk hn ht h (T := T) (by omega) (by omega)
  have := h.lo p hp T a c
  have := hle q hq
  omega
end Go.Proofs.Ytdahjhokcjfioaa
