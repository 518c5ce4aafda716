/- choosePivotOrdered at uint64. -/
import Derived.Test.YtpabidiggehmnaaSu15
namespace Go.Proofs.Ytpabidiggehmnaa
set_option linter.unusedVariables false
set_option linter.unusedSimpArgs false
set_option maxRecDepth 100000
open Go.RowKit Fg Reg Go.Sort
attribute [local irreducible] Reg.wE Holds

/-- The number of a hint. -/
def hintn : Hint → Int
  | .unknown => 0
  | .increasing => 1
  | .decreasing => 2
theorem tdiv4 (l : Nat) : Int.tdiv (l : Int) 4 = ((l / 4 : Nat) : Int) := by
  rw [Int.tdiv_eq_ediv_of_nonneg (by omega)]; omega
theorem mea_rng (d : Array Int) (a s : Nat) (ha : 1 ≤ a) (hb : a + 1 < d.size) : (medianAdjacent ltInt d a s).1 < d.size ∧ (medianAdjacent ltInt d a s).2 ≤ s + 3 := by
  unfold medianAdjacent
  exact med_rng d (a - 1) a (a + 1) s (by omega) (by omega) hb
theorem bel_q {w z z' : World} (h : Below w.heap.size w z) (o : Only (fun k => k = w.heap.size) z z') : Below w.heap.size w z' :=
  o.below h h.size (fun k hk => by omega)
set_option maxHeartbeats 4000000 in
theorem chp_c (blk off cap a b : Nat) (d : Array Int) (w : World) (hH : Holds (Value.int .u64) (w) blk off (d)) (hl : blk < w.heap.size) (hab : a + 12 < b) (hb : b ≤ d.size) (hsz : d.size ≤ 100000) :
    Calls Try.prog 72 #[.slice (some ⟨blk, off, none⟩) d.size cap, .int .i64 a, .int .i64 b] w fun e w' => e = .returned (.tuple #[.int .i64 ((choosePivot ltInt d a b).1 : Nat), .int .i64 (hintn (choosePivot ltInt d a b).2)]) ∧ Below w.heap.size w w' := by
  have W0 : IntKind.i64.wrap ((b : Int) - a) = ((b - a : Nat) : Int) := by rw [IntKind.wrap_i64]; omega
  have W1 := tdiv4 (b - a)
  have hq : ¬ blk = w.heap.size := by omega
  have d8 : decide ((8 : Int) ≤ ((b - a : Nat) : Int)) = true := by simp; omega
  have hI : a + (b - a) / 4 * 1 + 1 < d.size ∧ 1 ≤ a + (b - a) / 4 * 1 := by omega
  have hJ : a + (b - a) / 4 * 2 + 1 < d.size ∧ 1 ≤ a + (b - a) / 4 * 2 := by omega
  have hK : a + (b - a) / 4 * 3 + 1 < d.size ∧ 1 ≤ a + (b - a) / 4 * 3 := by omega
  have eI : (a : Int) + ((b - a : Nat) : Int) / 4 = ((a + (b - a) / 4 * 1 : Nat) : Int) := by omega
  have eJ : (a : Int) + ((b - a : Nat) : Int) / 4 * 2 = ((a + (b - a) / 4 * 2 : Nat) : Int) := by omega
  have eK : (a : Int) + ((b - a : Nat) : Int) / 4 * 3 = ((a + (b - a) / 4 * 3 : Nat) : Int) := by omega
  have hHU : Holds (Value.int .u64) ((w.alloc (.cells #[.int .i64 0] 3))) blk off (d) := hu_below hH hl (Below.alloc (Below.refl _ _) (Nat.le_refl _) _)
  have hlz : blk < (w.alloc (.cells #[.int .i64 0] 3)).heap.size := by simp; omega
  have hbel : Below w.heap.size w (w.alloc (.cells #[.int .i64 0] 3)) := Below.alloc (Below.refl _ _) (Nat.le_refl _) _
  have v0 : (w.alloc (.cells #[.int .i64 0] 3)).cell? ⟨w.heap.size, 0, none⟩ = some (.int .i64 ((0 : Nat) : Int)) := by simp [go_sem]
  have v1 : (w.alloc (.cells #[.int .i64 0] 3)).frozen? ⟨w.heap.size, 0, none⟩ = false := by simp [go_sem]
  have v2 : w.heap.size < (w.alloc (.cells #[.int .i64 0] 3)).heap.size := by simp
  by_cases h50 : 50 ≤ b - a
  · have d50 : decide ((50 : Int) ≤ ((b - a : Nat) : Int)) = true := by simp; omega
    have hcp : choosePivot ltInt d a b = ((median ltInt d (medianAdjacent ltInt d (a + (b - a) / 4 * 1) 0).1 (medianAdjacent ltInt d (a + (b - a) / 4 * 2) (medianAdjacent ltInt d (a + (b - a) / 4 * 1) 0).2).1 (medianAdjacent ltInt d (a + (b - a) / 4 * 3) (medianAdjacent ltInt d (a + (b - a) / 4 * 2) (medianAdjacent ltInt d (a + (b - a) / 4 * 1) 0).2).2).1 (medianAdjacent ltInt d (a + (b - a) / 4 * 3) (medianAdjacent ltInt d (a + (b - a) / 4 * 2) (medianAdjacent ltInt d (a + (b - a) / 4 * 1) 0).2).2).2).1, if (median ltInt d (medianAdjacent ltInt d (a + (b - a) / 4 * 1) 0).1 (medianAdjacent ltInt d (a + (b - a) / 4 * 2) (medianAdjacent ltInt d (a + (b - a) / 4 * 1) 0).2).1 (medianAdjacent ltInt d (a + (b - a) / 4 * 3) (medianAdjacent ltInt d (a + (b - a) / 4 * 2) (medianAdjacent ltInt d (a + (b - a) / 4 * 1) 0).2).2).1 (medianAdjacent ltInt d (a + (b - a) / 4 * 3) (medianAdjacent ltInt d (a + (b - a) / 4 * 2) (medianAdjacent ltInt d (a + (b - a) / 4 * 1) 0).2).2).2).2 = 0 then Hint.increasing else if (median ltInt d (medianAdjacent ltInt d (a + (b - a) / 4 * 1) 0).1 (medianAdjacent ltInt d (a + (b - a) / 4 * 2) (medianAdjacent ltInt d (a + (b - a) / 4 * 1) 0).2).1 (medianAdjacent ltInt d (a + (b - a) / 4 * 3) (medianAdjacent ltInt d (a + (b - a) / 4 * 2) (medianAdjacent ltInt d (a + (b - a) / 4 * 1) 0).2).2).1 (medianAdjacent ltInt d (a + (b - a) / 4 * 3) (medianAdjacent ltInt d (a + (b - a) / 4 * 2) (medianAdjacent ltInt d (a + (b - a) / 4 * 1) 0).2).2).2).2 = 12 then Hint.decreasing else Hint.unknown) := by
      unfold choosePivot
      dsimp only
      rw [if_pos (show b - a ≥ 8 by omega), if_pos (show b - a ≥ 50 from h50)]
    rw [hcp]
    clear hcp
    generalize a + (b - a) / 4 * 1 = I at *
    generalize a + (b - a) / 4 * 2 = J at *
    generalize a + (b - a) / 4 * 3 = K at *
    have g1 := mea_rng d I 0 hI.2 hI.1
    have K1 := Lib.hid (fun z h hz h0 h1 h2 => mea_c blk off cap I 0 w.heap.size d z h hz hq hI.2 hI.1 hsz (by omega) h0 h1 h2)
    generalize medianAdjacent ltInt d I 0 = r1 at *
    obtain ⟨R1, S1⟩ := r1
    dsimp only at *
    have g2 := mea_rng d J S1 hJ.2 hJ.1
    have K2 := Lib.hid (fun z h hz h0 h1 h2 => mea_c blk off cap J S1 w.heap.size d z h hz hq hJ.2 hJ.1 hsz (by omega) h0 h1 h2)
    generalize medianAdjacent ltInt d J S1 = r2 at *
    obtain ⟨R2, S2⟩ := r2
    dsimp only at *
    have g3 := mea_rng d K S2 hK.2 hK.1
    have K3 := Lib.hid (fun z h hz h0 h1 h2 => mea_c blk off cap K S2 w.heap.size d z h hz hq hK.2 hK.1 hsz (by omega) h0 h1 h2)
    generalize medianAdjacent ltInt d K S2 = r3 at *
    obtain ⟨R3, S3⟩ := r3
    dsimp only at *
    have KM := Lib.hid (fun z h hz h0 h1 h2 => med_c blk off cap R1 R2 R3 S3 w.heap.size d z h hz hq g1.1 g2.1 g3.1 hsz (by omega) h0 h1 h2)
    generalize median ltInt d R1 R2 R3 S3 = r4 at *
    obtain ⟨R4, S4⟩ := r4
    dsimp only at *
    clear hI hJ hK g1 g2 g3 hH h50
    go_enter Try.func72, Try.ntmps72
    by_cases hs0 : S4 = 0
    · subst hs0
      go_wp2_with (first | (go_at_call 84; (with_reducible refine (K1.out _ hHU hlz v0 v1 v2).mono ?_); clear v0 v1 v2; rintro e w3 ⟨rfl, ⟨v0, v1, v2⟩, o3⟩; replace hHU := hu_only hHU hlz o3 hq; replace hlz := Nat.lt_of_lt_of_le hlz o3.size; replace hbel := bel_q hbel o3; clear o3) | (go_at_call 84; (with_reducible refine (K2.out _ hHU hlz v0 v1 v2).mono ?_); clear v0 v1 v2; rintro e w4 ⟨rfl, ⟨v0, v1, v2⟩, o3⟩; replace hHU := hu_only hHU hlz o3 hq; replace hlz := Nat.lt_of_lt_of_le hlz o3.size; replace hbel := bel_q hbel o3; clear o3) | (go_at_call 84; (with_reducible refine (K3.out _ hHU hlz v0 v1 v2).mono ?_); clear v0 v1 v2; rintro e w5 ⟨rfl, ⟨v0, v1, v2⟩, o3⟩; replace hHU := hu_only hHU hlz o3 hq; replace hlz := Nat.lt_of_lt_of_le hlz o3.size; replace hbel := bel_q hbel o3; clear o3) | (go_at_call 85; (with_reducible refine (KM.out _ hHU hlz v0 v1 v2).mono ?_); clear v0 v1 v2; rintro e w9 ⟨rfl, ⟨v0, v1, v2⟩, o3⟩; replace hbel := bel_q hbel o3; clear o3 hHU hlz))
      go_ret2
      exact ⟨rfl, hbel⟩
    · by_cases hs1 : S4 = 12
      · subst hs1
        rw [if_neg hs0, if_pos rfl]
        go_wp2_with (first | (go_at_call 84; (with_reducible refine (K1.out _ hHU hlz v0 v1 v2).mono ?_); clear v0 v1 v2; rintro e w3 ⟨rfl, ⟨v0, v1, v2⟩, o3⟩; replace hHU := hu_only hHU hlz o3 hq; replace hlz := Nat.lt_of_lt_of_le hlz o3.size; replace hbel := bel_q hbel o3; clear o3) | (go_at_call 84; (with_reducible refine (K2.out _ hHU hlz v0 v1 v2).mono ?_); clear v0 v1 v2; rintro e w4 ⟨rfl, ⟨v0, v1, v2⟩, o3⟩; replace hHU := hu_only hHU hlz o3 hq; replace hlz := Nat.lt_of_lt_of_le hlz o3.size; replace hbel := bel_q hbel o3; clear o3) | (go_at_call 84; (with_reducible refine (K3.out _ hHU hlz v0 v1 v2).mono ?_); clear v0 v1 v2; rintro e w5 ⟨rfl, ⟨v0, v1, v2⟩, o3⟩; replace hHU := hu_only hHU hlz o3 hq; replace hlz := Nat.lt_of_lt_of_le hlz o3.size; replace hbel := bel_q hbel o3; clear o3) | (go_at_call 85; (with_reducible refine (KM.out _ hHU hlz v0 v1 v2).mono ?_); clear v0 v1 v2; rintro e w9 ⟨rfl, ⟨v0, v1, v2⟩, o3⟩; replace hbel := bel_q hbel o3; clear o3 hHU hlz))
        go_ret2
        exact ⟨rfl, hbel⟩
      · have t0 : decide ((S4 : Int) = 0) = false := by simp; omega
        have t1 : decide ((S4 : Int) = 12) = false := by simp; omega
        have t2 : ((S4 : Int) == 0) = false := by simp; omega
        have t3 : ((S4 : Int) == 12) = false := by simp; omega
        rw [if_neg hs0, if_neg hs1]
        go_wp2_with (first | (go_at_call 84; (with_reducible refine (K1.out _ hHU hlz v0 v1 v2).mono ?_); clear v0 v1 v2; rintro e w3 ⟨rfl, ⟨v0, v1, v2⟩, o3⟩; replace hHU := hu_only hHU hlz o3 hq; replace hlz := Nat.lt_of_lt_of_le hlz o3.size; replace hbel := bel_q hbel o3; clear o3) | (go_at_call 84; (with_reducible refine (K2.out _ hHU hlz v0 v1 v2).mono ?_); clear v0 v1 v2; rintro e w4 ⟨rfl, ⟨v0, v1, v2⟩, o3⟩; replace hHU := hu_only hHU hlz o3 hq; replace hlz := Nat.lt_of_lt_of_le hlz o3.size; replace hbel := bel_q hbel o3; clear o3) | (go_at_call 84; (with_reducible refine (K3.out _ hHU hlz v0 v1 v2).mono ?_); clear v0 v1 v2; rintro e w5 ⟨rfl, ⟨v0, v1, v2⟩, o3⟩; replace hHU := hu_only hHU hlz o3 hq; replace hlz := Nat.lt_of_lt_of_le hlz o3.size; replace hbel := bel_q hbel o3; clear o3) | (go_at_call 85; (with_reducible refine (KM.out _ hHU hlz v0 v1 v2).mono ?_); clear v0 v1 v2; rintro e w9 ⟨rfl, ⟨v0, v1, v2⟩, o3⟩; replace hbel := bel_q hbel o3; clear o3 hHU hlz))
        go_ret2
        exact ⟨rfl, hbel⟩
  · have d50 : decide ((50 : Int) ≤ ((b - a : Nat) : Int)) = false := by simp; omega
    have hcp : choosePivot ltInt d a b = ((median ltInt d (a + (b - a) / 4 * 1) (a + (b - a) / 4 * 2) (a + (b - a) / 4 * 3) 0).1, if (median ltInt d (a + (b - a) / 4 * 1) (a + (b - a) / 4 * 2) (a + (b - a) / 4 * 3) 0).2 = 0 then Hint.increasing else if (median ltInt d (a + (b - a) / 4 * 1) (a + (b - a) / 4 * 2) (a + (b - a) / 4 * 3) 0).2 = 12 then Hint.decreasing else Hint.unknown) := by
      unfold choosePivot
      dsimp only
      rw [if_pos (show b - a ≥ 8 by omega), if_neg (show ¬ b - a ≥ 50 from h50)]
    rw [hcp]
    clear hcp
    generalize a + (b - a) / 4 * 1 = I at *
    generalize a + (b - a) / 4 * 2 = J at *
    generalize a + (b - a) / 4 * 3 = K at *
    have KM := Lib.hid (fun z h hz h0 h1 h2 => med_c blk off cap I J K 0 w.heap.size d z h hz hq (by omega) (by omega) (by omega) hsz (by omega) h0 h1 h2)
    generalize median ltInt d I J K 0 = r4 at *
    obtain ⟨R4, S4⟩ := r4
    dsimp only at *
    clear hI hJ hK hH h50
    go_enter Try.func72, Try.ntmps72
    by_cases hs0 : S4 = 0
    · subst hs0
      go_wp2_with (first | (go_at_call 85; (with_reducible refine (KM.out _ hHU hlz v0 v1 v2).mono ?_); clear v0 v1 v2; rintro e w9 ⟨rfl, ⟨v0, v1, v2⟩, o3⟩; replace hbel := bel_q hbel o3; clear o3 hHU hlz))
      go_ret2
      exact ⟨rfl, hbel⟩
    · by_cases hs1 : S4 = 12
      · subst hs1
        rw [if_neg hs0, if_pos rfl]
        go_wp2_with (first | (go_at_call 85; (with_reducible refine (KM.out _ hHU hlz v0 v1 v2).mono ?_); clear v0 v1 v2; rintro e w9 ⟨rfl, ⟨v0, v1, v2⟩, o3⟩; replace hbel := bel_q hbel o3; clear o3 hHU hlz))
        go_ret2
        exact ⟨rfl, hbel⟩
      · have t0 : decide ((S4 : Int) = 0) = false := by simp; omega
        have t1 : decide ((S4 : Int) = 12) = false := by simp; omega
        have t2 : ((S4 : Int) == 0) = false := by simp; omega
        have t3 : ((S4 : Int) == 12) = false := by simp; omega
        rw [if_neg hs0, if_neg hs1]
        go_wp2_with (first | (go_at_call 85; (with_reducible refine (KM.out _ hHU hlz v0 v1 v2).mono ?_); clear v0 v1 v2; rintro e w9 ⟨rfl, ⟨v0, v1, v2⟩, o3⟩; replace hbel := bel_q hbel o3; clear o3 hHU hlz))
        go_ret2
        exact ⟨rfl, hbel⟩
end Go.Proofs.Ytpabidiggehmnaa
