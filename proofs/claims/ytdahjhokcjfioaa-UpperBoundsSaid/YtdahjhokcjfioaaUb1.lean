/- A limit behind wakes and picks (mathematics of UpperBounds). -/
import Derived.Test.YtdahjhokcjfioaaRunA
namespace Go.Proofs.Ytdahjhokcjfioaa
set_option linter.unusedVariables false
set_option linter.unusedSimpArgs false
set_option maxRecDepth 100000
namespace Fg

structure UI (c1 cd c2 now tot : Int) (r : Rn) (ws : List (Int × Int)) : Prop where
  sm : r.sm
  b : r.b = decide (kind c1 cd c2 = 3)
  m1 : r.b = true → r.m1 = c1
  m2 : r.m2 = c2
  x1 : r.b = true → r.x1 ≤ now
  x2 : r.x2 ≤ now
  bd : ∀ p ∈ ws, 0 ≤ p.1 ∧ p.1 ≤ now ∧ 0 ≤ p.2 ∧ p.2 ≤ tot
  ub : ∀ p ∈ ws, ∀ T, now ≤ T → T < 4611686018427387904 → r.at T ≤ p.2 * 65536 + srv c1 cd c2 (T - p.1)
theorem us_at {c1 cd c2 X Y T : Int} (h1 : In c1) (h2 : In cd) (h3 : In c2) (hk : kind c1 cd c2 = 2 ∨ kind c1 cd c2 = 3) (hX : 0 ≤ X) (hX1 : X ≤ 4611686018427387904) (hY : 0 ≤ Y) (hY1 : Y < 1000000000000000000000000000000) (hT : X ≤ T) (hT1 : T < 4611686018427387904) :
    (srun true c1 cd c2 X Y).at T = Y + srv c1 cd c2 (T - X) := by
  have sm := srun_sm (late := true) (X := X) (Y := Y) h1 h2 h3 hX (by omega) hY hY1
  have hIX : In X := by unfold In; omega
  have hIT : In (X + (T - X)) := by unfold In; omega
  rw [srv_ok (by omega)]
  rcases hk with hk | hk
  · have e : srun true c1 cd c2 X Y = ⟨false, 0, 0, 0, X, Y, c2⟩ := by
      unfold srun; rw [if_neg (by omega), if_neg (by omega), if_pos hk]
    rw [e] at sm ⊢
    have h12 := kind_of12 (.inr hk)
    have hl := run_lin (m := c2) sm.s2 hIX (show 0 ≤ T - X by omega) hIT
    rw [show X + (T - X) = T by omega] at hl
    show rn false 0 0 0 X Y c2 T = _
    unfold rn
    rw [if_neg (by simp), hl]
    unfold sv
    rw [h12.1, h12.2]
    split
    · rfl
    · rw [Int.mul_zero, Int.sub_zero, Int.zero_add]
  · have e : srun true c1 cd c2 X Y = ⟨true, X, Y, c1, X, Y + (c1 - c2) * cd, c2⟩ := by
      unfold srun; rw [if_pos hk]
    rw [e] at sm ⊢
    have ho := kind_ok h1 h2 h3 (.inr (.inl hk))
    have hl := run_two (d := cd) sm.s1 sm.s2 hIX (show 0 ≤ T - X by omega) ho.n2 hIT (kind_of3 hk)
    rw [show X + (T - X) = T by omega] at hl
    exact hl
theorem ui_first {c1 cd c2 : Int} (h1 : In c1) (h2 : In cd) (h3 : In c2) (hk : kind c1 cd c2 = 2 ∨ kind c1 cd c2 = 3) : UI c1 cd c2 0 0 (srun true c1 cd c2 0 (0 * 65536)) [(0, 0)] := by
  have sm := srun_sm (late := true) (X := 0) (Y := 0 * 65536) h1 h2 h3 (Int.le_refl 0) (by omega) (by omega) (by omega)
  have hat := fun T (a : 0 ≤ T) b => us_at h1 h2 h3 hk (X := 0) (Y := 0 * 65536) (T := T) (Int.le_refl 0) (by omega) (by omega) (by omega) a b
  refine ⟨sm, ?_, ?_, ?_, ?_, ?_, ?_, ?_⟩
  · unfold srun; rcases hk with hk | hk <;> simp [hk]
  · unfold srun; rcases hk with hk | hk <;> simp [hk]
  · unfold srun; rcases hk with hk | hk <;> simp [hk]
  · unfold srun; rcases hk with hk | hk <;> simp [hk]
  · unfold srun; rcases hk with hk | hk <;> simp [hk]
  · intro p hp
    simp only [List.mem_cons, List.not_mem_nil, or_false] at hp
    subst hp
    exact ⟨Int.le_refl 0, Int.le_refl 0, Int.le_refl 0, Int.le_refl 0⟩
  · intro p hp T a b
    simp only [List.mem_cons, List.not_mem_nil, or_false] at hp
    subst hp
    rw [hat T a b]
    exact Int.le_refl _
theorem ui_on {c1 cd c2 now tot now' tot' : Int} {r : Rn} {ws : List (Int × Int)} (h : UI c1 cd c2 now tot r ws) (hn : now ≤ now') (ht : tot ≤ tot') : UI c1 cd c2 now' tot' r ws := by
  obtain ⟨sm, b, m1, m2, x1, x2, bd, ub⟩ := h
  exact ⟨sm, b, m1, m2, fun e => Int.le_trans (x1 e) hn, Int.le_trans x2 hn, fun p hp => by have := bd p hp; omega, fun p hp T a c => ub p hp T (by omega) c⟩
theorem ui_wake {c1 cd c2 now tot : Int} {r : Rn} {ws : List (Int × Int)} (h1 : In c1) (h2 : In cd) (h3 : In c2) (hk : kind c1 cd c2 = 2 ∨ kind c1 cd c2 = 3) (h0 : 0 ≤ now) (hn : now ≤ 4611686018427387904) (t0 : 0 ≤ tot) (ht : tot ≤ 18446744073709551615) (h : UI c1 cd c2 now tot r ws) :
    UI c1 cd c2 now tot (r.meet (srun true c1 cd c2 now (tot * 65536))) (ws ++ [(now, tot)]) := by
  have sm := srun_sm (late := true) (X := now) (Y := tot * 65536) h1 h2 h3 h0 (by omega) (by omega) (by omega)
  have hat := fun T (a : now ≤ T) b => us_at h1 h2 h3 hk (X := now) (Y := tot * 65536) (T := T) h0 hn (by omega) (by omega) a b
  obtain ⟨rsm, b, m1, m2, x1, x2, bd, ub⟩ := h
  have sb : (srun true c1 cd c2 now (tot * 65536)).b = decide (kind c1 cd c2 = 3) := by unfold srun; rcases hk with hk | hk <;> simp [hk]
  have s1 : (srun true c1 cd c2 now (tot * 65536)).b = true → (srun true c1 cd c2 now (tot * 65536)).m1 = c1 := by unfold srun; rcases hk with hk | hk <;> simp [hk]
  have s2 : (srun true c1 cd c2 now (tot * 65536)).m2 = c2 := by unfold srun; rcases hk with hk | hk <;> simp [hk]
  have sx1 : (srun true c1 cd c2 now (tot * 65536)).b = true → (srun true c1 cd c2 now (tot * 65536)).x1 ≤ now := by unfold srun; rcases hk with hk | hk <;> simp [hk]
  have sx2 : (srun true c1 cd c2 now (tot * 65536)).x2 ≤ now := by unfold srun; rcases hk with hk | hk <;> simp [hk]
  generalize srun true c1 cd c2 now (tot * 65536) = s at *
  have eb : s.b = r.b := by rw [sb, b]
  have em1 : r.b = true → s.m1 = r.m1 := fun e => by rw [s1 (by rw [eb, e]), m1 e]
  have em2 : s.m2 = r.m2 := by rw [s2, m2]
  have hmeet : ∀ T, now ≤ T → T < 4611686018427387904 → (r.meet s).at T = if s.at T < r.at T then s.at T else r.at T := fun T a c =>
    Rn.at_meet rsm sm eb em1 em2 (show In T by unfold In; omega) (fun e => by have := x1 e; omega) (by omega) (fun e => by have := sx1 (by rw [eb, e]); omega) (by omega)
  refine ⟨rsm.meet sm, b, ?_, ?_, ?_, ?_, ?_, ?_⟩
  · intro e
    show slc r.b (slc _ _ _) 0 = _
    have e' : r.b = true := e
    rw [e', em1 e', slc_same]
    exact m1 e'
  · show slc _ _ _ = _
    rw [em2, slc_same, m2]
  · intro e
    have e' : r.b = true := e
    show slc r.b (slc _ _ _) 0 ≤ now
    rw [e']
    have := x1 e'
    have := sx1 (by rw [eb, e'])
    unfold slc; simp only [if_true]; split <;> omega
  · show slc _ _ _ ≤ now
    unfold slc; split <;> omega
  · intro p hp
    rcases List.mem_append.1 hp with hp | hp
    · exact bd p hp
    · simp only [List.mem_cons, List.not_mem_nil, or_false] at hp
      subst hp
      exact ⟨h0, Int.le_refl _, t0, Int.le_refl _⟩
  · intro p hp T a c
    rw [hmeet T a c]
    rcases List.mem_append.1 hp with hp | hp
    · have := ub p hp T a c
      split <;> omega
    · simp only [List.mem_cons, List.not_mem_nil, or_false] at hp
      subst hp
      have := hat T a c
      dsimp only
      split <;> omega
theorem ui_pick {c1 cd c2 now tot l lmax : Int} {r : Rn} {ws : List (Int × Int)} (hr : r.ok) (h0 : 0 ≤ now) (hn : now < 4611686018427387904) (t0 : 0 ≤ tot) (h : UI c1 cd c2 now tot r ws) (hf : r.rch (tot * 65536) ≤ now) (hl : 1 ≤ l) (hl2 : l ≤ lmax) (p : Int × Int) (hp : p ∈ ws) :
    tot + l - p.2 ≤ srv c1 cd c2 (now - p.1) / 65536 + lmax := by
  have hat : tot * 65536 ≤ r.at now := by
    rcases Int.lt_or_le (r.at now) (tot * 65536) with hlt | hge
    · exfalso
      have hs := rr_spec (W := tot * 65536) (x := now) h.sm.s1 h.sm.s2 h.sm.i1 h.sm.i2 hr.l1 hr.l2 (show In now by unfold In; omega) (by omega) hlt (show r.rch (tot * 65536) < _ by omega)
      have h1 : now < r.rch (tot * 65536) := hs.1
      omega
    · exact hge
  have := h.ub p hp now (Int.le_refl _) hn
  omega
end Fg
end Go.Proofs.Ytdahjhokcjfioaa
