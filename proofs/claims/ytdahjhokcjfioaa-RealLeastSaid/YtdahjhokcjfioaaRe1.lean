/- A leaf's two runs behind wakes (mathematics of RealEligible): ready is never later than the deadline. -/
import Derived.Test.YtdahjhokcjfioaaLf5
namespace Go.Proofs.Ytdahjhokcjfioaa
set_option linter.unusedVariables false
set_option linter.unusedSimpArgs false
set_option maxRecDepth 100000
open Fg

theorem lr_x {X X' Y M W : Int} (h : X ≤ X') : lrch X Y M W ≤ lrch X' Y M W := by
  by_cases c : W ≤ Y
  · rw [show lrch X Y M W = 0 from if_pos c, show lrch X' Y M W = 0 from if_pos c]; exact Int.le_refl _
  · rw [lrch_gt (show Y < W by omega), lrch_gt (show Y < W by omega)]
    split
    · omega
    · split <;> split <;> omega
theorem lr_w {X Y M W W' : Int} (hX : In X) (hM : In M) (hW : 0 ≤ W) (h : W ≤ W') : lrch X Y M W ≤ lrch X Y M W' := by
  have g := lrch_in (X := X) (Y := Y) (M := M) (W := W') hX hM (by omega)
  by_cases c : W ≤ Y
  · rw [show lrch X Y M W = 0 from if_pos c]; exact g.1
  · rw [lrch_gt (show Y < W by omega), lrch_gt (show Y < W' by omega)]
    split
    · omega
    · have := clg_mono (n := W - Y) (n' := W' - Y) (m := M) (by unfold In at hM; omega) (by omega)
      split <;> split <;> omega
theorem rch_mono {r : Rn} (h : r.ok) {W W' : Int} (hW : 0 ≤ W) (hle : W ≤ W') : r.rch W ≤ r.rch W' := by
  have a := lr_w (Y := r.y1) h.i1 h.l1 hW hle
  have b := lr_w (Y := r.y2) h.i2 h.l2 hW hle
  unfold Rn.rch rr
  split <;> split <;> rename_i x y
  · omega
  · rw [x.1] at y
    simp only [true_and, Int.not_lt] at y
    omega
  · omega
  · omega
theorem rch_le {r : Rn} (h : r.ok) {W : Int} (hW : 0 ≤ W) : 0 ≤ r.rch W ∧ r.rch W ≤ 9223372036854775808 := by
  have a := lrch_in (Y := r.y1) h.i1 h.l1 hW
  have b := lrch_in (Y := r.y2) h.i2 h.l2 hW
  unfold Rn.rch rr
  split <;> omega
theorem srun_same {c1 cd c2 X Y : Int} (h : kind c1 cd c2 ≠ 4) : srun true c1 cd c2 X Y = srun false c1 cd c2 X Y := by
  unfold srun
  split
  · rfl
  · first | (rw [if_neg h, if_neg h]; done) | (rw [if_neg h]; done) | simp only [if_neg h]
theorem srun_4 {l : Bool} {c1 cd c2 X Y : Int} (h : kind c1 cd c2 = 4) : srun l c1 cd c2 X Y = ⟨false, 0, 0, 0, if l = true then X + cd else X, Y, c2⟩ := by
  unfold srun
  rw [if_neg (by omega), if_pos h]

/-- The deadlines' run D and the ready run R behind wakes; tot is what has been picked. -/
structure EI (c1 cd c2 tot : Int) (D R : Rn) : Prop where
  ds : D.sm
  rs : R.sm
  eq : kind c1 cd c2 ≠ 4 → D = R
  k4 : kind c1 cd c2 = 4 → D.b = false ∧ R.b = false ∧ D.m2 = c2 ∧ R.m2 = c2 ∧ D.y2 ≤ tot * 65536 ∧ R.y2 ≤ tot * 65536 ∧ ∀ W, tot * 65536 < W → lrch R.x2 R.y2 c2 W ≤ lrch D.x2 D.y2 c2 W
theorem ei_first {c1 cd c2 now tot : Int} (h1 : In c1) (h2 : In cd) (h3 : In c2) (h0 : 0 ≤ now) (hn : now ≤ 9223372036854775808) (t0 : 0 ≤ tot) (ht : tot ≤ 18446744073709551615) :
    EI c1 cd c2 tot (srun true c1 cd c2 now (tot * 65536)) (srun false c1 cd c2 now (tot * 65536)) := by
  refine ⟨srun_sm h1 h2 h3 h0 hn (by omega) (by omega), srun_sm h1 h2 h3 h0 hn (by omega) (by omega), srun_same, fun k => ?_⟩
  rw [srun_4 k, srun_4 k]
  have := h2.1
  refine ⟨rfl, rfl, rfl, rfl, Int.le_refl _, Int.le_refl _, fun W _ => lr_x ?_⟩
  simp
  omega
theorem ei_on {c1 cd c2 tot tot' : Int} {D R : Rn} (h : EI c1 cd c2 tot D R) (ht : tot ≤ tot') : EI c1 cd c2 tot' D R := by
  obtain ⟨ds, rs, eq, k4⟩ := h
  refine ⟨ds, rs, eq, fun k => ?_⟩
  obtain ⟨a, b, c, d, e, f, g⟩ := k4 k
  exact ⟨a, b, c, d, by omega, by omega, fun W hW => g W (by omega)⟩
theorem ei_wake {c1 cd c2 now tot : Int} {D R : Rn} (h1 : In c1) (h2 : In cd) (h3 : In c2) (h0 : 0 ≤ now) (hn : now ≤ 9223372036854775808) (t0 : 0 ≤ tot) (ht : tot ≤ 18446744073709551615) (h : EI c1 cd c2 tot D R) :
    EI c1 cd c2 tot (D.meet (srun true c1 cd c2 now (tot * 65536))) (R.meet (srun false c1 cd c2 now (tot * 65536))) := by
  obtain ⟨ds, rs, eq, k4⟩ := h
  obtain ⟨sd, sr, seq, sk4⟩ := ei_first h1 h2 h3 h0 hn t0 ht
  generalize srun true c1 cd c2 now (tot * 65536) = S at *
  generalize srun false c1 cd c2 now (tot * 65536) = Q at *
  refine ⟨ds.meet sd, rs.meet sr, fun k => by rw [eq k, seq k], fun k => ?_⟩
  obtain ⟨a, b, c, d, e, f, g⟩ := k4 k
  obtain ⟨a', b', c', d', e', f', g'⟩ := sk4 k
  have dS := ds.s2
  have rS := rs.s2
  have sS := sd.s2
  have qS := sr.s2
  rw [c] at dS
  rw [d] at rS
  rw [c'] at sS
  rw [d'] at qS
  refine ⟨a, b, ?_, ?_, ?_, ?_, fun W hW => ?_⟩
  · show slc _ _ _ = _; rw [c, c', slc_same]
  · show slc _ _ _ = _; rw [d, d', slc_same]
  · show slc _ _ _ ≤ _; unfold slc; split <;> assumption
  · show slc _ _ _ ≤ _; unfold slc; split <;> assumption
  · have p := pick_reach dS sS ds.i2 sd.i2 (W := W) (by omega) (by omega) _ rfl
    have q := pick_reach rS qS rs.i2 sr.i2 (W := W) (by omega) (by omega) _ rfl
    have g := g W hW
    have g' := g' W hW
    show lrch (slc (lwr R.x2 R.y2 R.m2 Q.x2 Q.y2 Q.m2) R.x2 Q.x2) (slc (lwr R.x2 R.y2 R.m2 Q.x2 Q.y2 Q.m2) R.y2 Q.y2) c2 W ≤ lrch (slc (lwr D.x2 D.y2 D.m2 S.x2 S.y2 S.m2) D.x2 S.x2) (slc (lwr D.x2 D.y2 D.m2 S.x2 S.y2 S.m2) D.y2 S.y2) c2 W
    rw [c, d, c', d']
    unfold slc lwr
    rw [p, q]
    split <;> split <;> omega
/-- Ready is never later than the deadline, and the deadline never later than Never. -/
theorem ei_elig {c1 cd c2 tot head : Int} {D R : Rn} (h : EI c1 cd c2 tot D R) (t0 : 0 ≤ tot) (hh : 0 < head) :
    R.rch (tot * 65536) ≤ D.rch ((tot + head) * 65536) ∧ D.rch ((tot + head) * 65536) ≤ 9223372036854775808 := by
  obtain ⟨ds, rs, eq, k4⟩ := h
  have m := rch_mono rs.ok (W := tot * 65536) (W' := (tot + head) * 65536) (by omega) (by omega)
  refine ⟨?_, (rch_le ds.ok (by omega)).2⟩
  by_cases k : kind c1 cd c2 = 4
  · obtain ⟨a, b, c, d, e, f, g⟩ := k4 k
    have g := g ((tot + head) * 65536) (by omega)
    have u : R.rch ((tot + head) * 65536) = lrch R.x2 R.y2 c2 ((tot + head) * 65536) := by unfold Rn.rch rr; rw [b, d]; simp
    have v : D.rch ((tot + head) * 65536) = lrch D.x2 D.y2 c2 ((tot + head) * 65536) := by unfold Rn.rch rr; rw [a, c]; simp
    omega
  · rw [eq k]; exact m
/-- The same for what real.Passed lays. -/
theorem ei_tick {c1 cd c2 tot head : Int} {D R : Rn} (h : EI c1 cd c2 tot D R) (t0 : 0 ≤ tot) (ht : tot ≤ 9223372036854775807) (hh : 0 < head) (hh1 : head ≤ 16384) :
    tE R tot head ≤ tD D tot head ∧ tD D tot head ≤ 9223372036854775808 := by
  have e := ei_elig h t0 hh
  have u : uw (tot + head) = tot + head := by unfold uw; omega
  unfold tE tD
  rw [if_pos hh, if_pos hh, u]
  exact e
end Go.Proofs.Ytdahjhokcjfioaa
