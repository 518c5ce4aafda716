/- Joined texts. -/
import Derived.Test.YtffaahipgabkhaaGreatQ29
section
namespace Go.Proofs.YtffaahipgabkhaaGreat
set_option linter.unusedVariables false
set_option linter.unusedSimpArgs false
set_option maxRecDepth 100000
open Go.RowKit Fg Reg Go.Sort
attribute [local irreducible] Reg.wE Holds
theorem insInner_stop (lt : Int → Int → Bool) (a j : Nat) (d : Array Int) (h : (j + 1 > a && lt d[j + 1]! d[j]!) = false) : insInner lt a (j + 1) d = d := by
  rw [insInner, if_neg (by simp [h])]
theorem insInner_go (lt : Int → Int → Bool) (a j : Nat) (d : Array Int) (h : (j + 1 > a && lt d[j + 1]! d[j]!) = true) : insInner lt a (j + 1) d = insInner lt a j (swp d (j + 1) j) := by
  rw [insInner, if_pos h]
theorem insInner_low (lt : Int → Int → Bool) (a : Nat) (d : Array Int) : insInner lt a a d = d := by
  cases a with
  | zero => rfl
  | succ j => exact insInner_stop lt (j + 1) j d (by simp)
theorem insOuter_go (lt : Int → Int → Bool) (a b i : Nat) (d : Array Int) (h : i < b) : insOuter lt a b i d = insOuter lt a b (i + 1) (insInner lt a i d) := by
  rw [insOuter, if_pos h]
theorem insOuter_end (lt : Int → Int → Bool) (a b : Nat) (d : Array Int) : insOuter lt a b b d = d := by
  rw [insOuter, if_neg (by omega)]
set_option maxHeartbeats 2000000 in
theorem ins64_c (blk off cap a b : Nat) (d : Array Int) (w : World) (hH : Holds (Value.int .u64) (w) blk off (d)) (hl : blk < w.heap.size) (hab : a < b) (hb : b ≤ d.size) (hsz : d.size ≤ 100000) :
    Calls Tryz.prog 137 #[.slice (some ⟨blk, off, none⟩) d.size cap, .int .i64 a, .int .i64 b] w fun e w' => e = .returned (.tuple #[]) ∧ Holds (Value.int .u64) (w') blk off (insertionSort ltInt d a b) ∧ Only (fun k => k = blk) w w' := by
  have KL := Lib.hid (fun x y z => les_c x y z)
  have HH := Lib.hid hH
  clear hH
  have W0 : IntKind.i64.wrap ((a : Int) + 1) = ((a + 1 : Nat) : Int) := by rw [IntKind.wrap_i64]; omega
  go_enter Tryz.func137, Tryz.ntmps137
  go_wp2
  go_loopw [6] (fun ii wr => ∃ (i : Nat) (dd : Array Int), a + 1 ≤ i ∧ i ≤ b ∧ ii = .int .i64 i ∧ dd.size = d.size ∧ insOuter ltInt a b i dd = insertionSort ltInt d a b ∧ Holds (Value.int .u64) (wr) blk off (dd) ∧ Only (fun k => k = blk) w wr) (fun ii _ => b - (intOf ii).toNat)
  case atStart => exact ⟨a + 1, d, Nat.le_refl _, by omega, by simp, rfl, rfl, HH.out, Only.refl _ _⟩
  case round =>
    obtain ⟨i, dd, hi1, hi2, rfl, hds, hins, hhu, hob⟩ := hrel
    have hlr : blk < wr.heap.size := Nat.lt_of_lt_of_le hl hob.size
    by_cases hlt : i < b
    · have hins2 : insOuter ltInt a b (i + 1) (insInner ltInt a i dd) = insertionSort ltInt d a b := by rw [← hins]; exact (insOuter_go ltInt a b i dd hlt).symm
      have HI := Lib.hid hins2
      have HU0 := Lib.hid hhu
      clear hins hins2 hhu
      have W1 : IntKind.i64.wrap ((i : Int) + 1) = ((i + 1 : Nat) : Int) := by rw [IntKind.wrap_i64]; omega
      go_wp2
      go_loopw [7] (fun jj wz => ∃ (j : Nat) (de : Array Int), a ≤ j ∧ j ≤ i ∧ jj = .int .i64 j ∧ de.size = d.size ∧ insInner ltInt a j de = insInner ltInt a i dd ∧ Holds (Value.int .u64) (wz) blk off (de) ∧ Only (fun k => k = blk) w wz) (fun jj _ => (intOf jj).toNat)
      case atStart => exact ⟨i, dd, by omega, Nat.le_refl _, rfl, hds, rfl, HU0.out, hob⟩
      case round =>
        obtain ⟨j, de, hj1, hj2, rfl, hde, hinn, hhu, hob2⟩ := hrel
        have hlz : blk < wr.heap.size := Nat.lt_of_lt_of_le hl hob2.size
        have HN := Lib.hid hinn
        have HU1 := Lib.hid hhu
        clear hinn hhu
        rcases Nat.lt_or_ge a j with hja | hja
        · obtain ⟨j, rfl⟩ : ∃ m, j = m + 1 := ⟨j - 1, by omega⟩
          obtain ⟨e1, z1⟩ := hu_at HU1.out (j + 1) (by omega)
          obtain ⟨e0, z0⟩ := hu_at HU1.out j (by omega)
          have dj : decide ((a : Int) < (j : Int) + 1) = true := by simp only [decide_eq_true_eq]; omega
          have tj : ((j : Int) + 1).toNat = j + 1 := by omega
          have lj : (j : Int) + 1 < d.size := by omega
          have lj0 : (j : Int) < d.size := by omega
          have ljp : (0 : Int) ≤ (j : Int) + 1 := by omega
          have wj : IntKind.i64.wrap ((j : Int) + 1 - 1) = (j : Int) := by rw [IntKind.wrap_i64]; omega
          have kl := fun z => KL.out de[j + 1]! de[j]! z
          cases hlt2 : decide (de[j + 1]! < de[j]!) with
          | false =>
            have HS := Lib.hid (insInner_stop ltInt a j de (by unfold ltInt; rw [hlt2]; simp))
            rw [hlt2] at kl
            generalize de[j + 1]! = x at *
            generalize de[j]! = y at *
            have K1 := Lib.hid kl
            clear kl hlt2
            go_wp2
            obtain ⟨Cl, hCl⟩ : ∃ Cl : List Value → World → Prop, Cl = ((fun ps wz => wz.cell? ⟨blk, off + (j + 1), none⟩ = some (.int .u64 x) ∧ wz.cell? ⟨blk, off + j, none⟩ = some (.int .u64 y) ∧ blk < wz.heap.size ∧ wr.heap.size ≤ wz.heap.size ∧ Below wr.heap.size wr wz)) := ⟨_, rfl⟩; have HCl := Lib.hid hCl; clear hCl; refine wp_region_eff [] Cl (by kernel_rfl) (by kernel_rfl) (by rw [HCl.out]; (try simp only [List.nil_append, List.cons_append]); (try dsimp only); ((repeat' apply And.intro) <;> first | (simp [go_sem, *]; done) | omega | (repeat' (first | with_reducible exact Below.refl _ _ | with_reducible assumption | ((with_reducible refine Below.drew ?_)) | ((with_reducible refine below_drewN ?_ _)) | ((with_reducible refine Below.alloc ?_ ?_ _); rotate_left; focus (first | omega | (simp; done) | (simp; omega))) | ((with_reducible refine Below.setCell ?_ ?_ _); rotate_left; focus (first | omega | (simp; done) | (simp; omega))) | ((with_reducible refine Below.trans ?_ (Below.mono (by with_reducible assumption) ?_)); rotate_left; focus (first | omega | (simp; done) | (simp; omega))))))) ?_
            (repeat (first | (refine wE_skip (by rfl) ?_; simp only [Act.put, Nat.reduceAdd, List.setIfInBounds_toArray, List.set_cons_zero, List.set_cons_succ, List.nil_append, List.cons_append]) | (refine wE_open (by rfl) (by rfl) ?_; apply Exists.intro; refine ⟨fun vs wq hw => ?_, ?_⟩; (focus (rw [HCl.out] at hw; (try simp only [List.nil_append, List.cons_append] at hw); (try dsimp only at hw); go_split_ands; go_simp <;> first | with_reducible exact (rfl : Value.bool false = _) | with_reducible exact (rfl : Value.bool true = _) | ((try go_bits) <;> exact rfl))); simp only [Act.put, Nat.reduceAdd, List.setIfInBounds_toArray, List.set_cons_zero, List.set_cons_succ, List.nil_append, List.cons_append]) | (refine wE_seal (by rfl) (by rfl) (by kernel_rfl) ?_; apply Exists.intro; refine ⟨fun wq hw => ?_, ?_⟩; (focus (rw [HCl.out] at hw; (try simp only [List.nil_append, List.cons_append] at hw); (try dsimp only at hw); go_split_ands; go_simp <;> (try go_bits) <;> exact rfl)); simp only [Act.put, Nat.reduceAdd, List.setIfInBounds_toArray, List.set_cons_zero, List.set_cons_succ, List.nil_append, List.cons_append]) | (refine wE_seal (by rfl) (by rfl) (by kernel_rfl) ?_; apply Exists.intro; refine ⟨fun wq hw => ?_, ?_⟩; (focus (rw [HCl.out] at hw; (try simp only [List.nil_append, List.cons_append] at hw); (try dsimp only at hw); go_split_ands; go_simp; (go_at_call 143; ((with_reducible refine (K1.out _).mono ?_); rintro e w' ⟨rfl, hbel⟩; obtain ⟨hcc, hff⟩ := bcell hbel; have hsz := hbel.size; (try simp at hsz); refine ⟨rfl, ?_⟩; rw [HCl.out]; (try simp only [List.nil_append, List.cons_append]); (try dsimp only); ((repeat' apply And.intro) <;> first | (simp [go_sem, *]; done) | omega | (repeat' (first | with_reducible exact Below.refl _ _ | with_reducible assumption | ((with_reducible refine Below.drew ?_)) | ((with_reducible refine below_drewN ?_ _)) | ((with_reducible refine Below.alloc ?_ ?_ _); rotate_left; focus (first | omega | (simp; done) | (simp; omega))) | ((with_reducible refine Below.setCell ?_ ?_ _); rotate_left; focus (first | omega | (simp; done) | (simp; omega))) | ((with_reducible refine Below.trans ?_ (Below.mono (by with_reducible assumption) ?_)); rotate_left; focus (first | omega | (simp; done) | (simp; omega)))))))))); simp only [Act.put, Nat.reduceAdd, List.setIfInBounds_toArray, List.set_cons_zero, List.set_cons_succ, List.nil_append, List.cons_append]) | (refine wE_eff (by rfl) (by rfl) (fun wq hw => ?_) (fun u hu => ?_); (focus (rw [HCl.out] at hw; (try simp only [List.nil_append, List.cons_append] at hw); (try dsimp only at hw); go_split_ands; go_simp; rw [HCl.out]; (try simp only [List.nil_append, List.cons_append]); (try dsimp only); skip; ((repeat' apply And.intro) <;> first | (simp [go_sem, *]; done) | omega | (repeat' (first | with_reducible exact Below.refl _ _ | with_reducible assumption | ((with_reducible refine Below.drew ?_)) | ((with_reducible refine below_drewN ?_ _)) | ((with_reducible refine Below.alloc ?_ ?_ _); rotate_left; focus (first | omega | (simp; done) | (simp; omega))) | ((with_reducible refine Below.setCell ?_ ?_ _); rotate_left; focus (first | omega | (simp; done) | (simp; omega))) | ((with_reducible refine Below.trans ?_ (Below.mono (by with_reducible assumption) ?_)); rotate_left; focus (first | omega | (simp; done) | (simp; omega)))))))); clear hu; simp only [Act.put, Nat.reduceAdd, List.setIfInBounds_toArray, List.set_cons_zero, List.set_cons_succ, List.nil_append, List.cons_append])))
            refine wE_nil ?_; intro w' hw; rw [HCl.out] at hw; (try simp only [List.nil_append, List.cons_append] at hw); (try dsimp only at hw); clear HCl
            go_split_ands
            go_wp2
            go_roundw
            case rel =>
              refine ⟨i + 1, de, by omega, by omega, by go_num, hde, (congrArg (insOuter ltInt a b (i + 1)) (HS.out.symm.trans HN.out)).trans HI.out, hu_below HU1.out hlz (by assumption), hob2.trans (Only.of_below (by assumption))⟩
            case measure => simp [intOf]; omega
          | true =>
            have HG := Lib.hid (insInner_go ltInt a j de (by unfold ltInt; rw [hlt2]; simp; omega))
            have hsw := fun z (h : Holds (Value.int .u64) (z) blk off (de)) (hz : blk < z.heap.size) => hu_swp h j (by omega) hz
            rw [hlt2] at kl
            generalize de[j + 1]! = x at *
            generalize de[j]! = y at *
            have K1 := Lib.hid kl
            have HW := Lib.hid hsw
            clear kl hlt2 hsw
            go_wp2
            obtain ⟨Cl, hCl⟩ : ∃ Cl : List Value → World → Prop, Cl = ((fun ps wz => wz.cell? ⟨blk, off + (j + 1), none⟩ = some (.int .u64 x) ∧ wz.cell? ⟨blk, off + j, none⟩ = some (.int .u64 y) ∧ wz.frozen? ⟨blk, off + (j + 1), none⟩ = false ∧ wz.frozen? ⟨blk, off + j, none⟩ = false ∧ blk < wz.heap.size ∧ wr.heap.size ≤ wz.heap.size ∧ Below wr.heap.size wr wz)) := ⟨_, rfl⟩; have HCl := Lib.hid hCl; clear hCl; refine wp_region_eff [] Cl (by kernel_rfl) (by kernel_rfl) (by rw [HCl.out]; (try simp only [List.nil_append, List.cons_append]); (try dsimp only); ((repeat' apply And.intro) <;> first | (simp [go_sem, *]; done) | omega | (repeat' (first | with_reducible exact Below.refl _ _ | with_reducible assumption | ((with_reducible refine Below.drew ?_)) | ((with_reducible refine below_drewN ?_ _)) | ((with_reducible refine Below.alloc ?_ ?_ _); rotate_left; focus (first | omega | (simp; done) | (simp; omega))) | ((with_reducible refine Below.setCell ?_ ?_ _); rotate_left; focus (first | omega | (simp; done) | (simp; omega))) | ((with_reducible refine Below.trans ?_ (Below.mono (by with_reducible assumption) ?_)); rotate_left; focus (first | omega | (simp; done) | (simp; omega))))))) ?_
            (repeat (first | (refine wE_skip (by rfl) ?_; simp only [Act.put, Nat.reduceAdd, List.setIfInBounds_toArray, List.set_cons_zero, List.set_cons_succ, List.nil_append, List.cons_append]) | (refine wE_open (by rfl) (by rfl) ?_; apply Exists.intro; refine ⟨fun vs wq hw => ?_, ?_⟩; (focus (rw [HCl.out] at hw; (try simp only [List.nil_append, List.cons_append] at hw); (try dsimp only at hw); go_split_ands; go_simp <;> first | with_reducible exact (rfl : Value.bool false = _) | with_reducible exact (rfl : Value.bool true = _) | ((try go_bits) <;> exact rfl))); simp only [Act.put, Nat.reduceAdd, List.setIfInBounds_toArray, List.set_cons_zero, List.set_cons_succ, List.nil_append, List.cons_append]) | (refine wE_seal (by rfl) (by rfl) (by kernel_rfl) ?_; apply Exists.intro; refine ⟨fun wq hw => ?_, ?_⟩; (focus (rw [HCl.out] at hw; (try simp only [List.nil_append, List.cons_append] at hw); (try dsimp only at hw); go_split_ands; go_simp <;> (try go_bits) <;> exact rfl)); simp only [Act.put, Nat.reduceAdd, List.setIfInBounds_toArray, List.set_cons_zero, List.set_cons_succ, List.nil_append, List.cons_append]) | (refine wE_seal (by rfl) (by rfl) (by kernel_rfl) ?_; apply Exists.intro; refine ⟨fun wq hw => ?_, ?_⟩; (focus (rw [HCl.out] at hw; (try simp only [List.nil_append, List.cons_append] at hw); (try dsimp only at hw); go_split_ands; go_simp; (go_at_call 143; ((with_reducible refine (K1.out _).mono ?_); rintro e w' ⟨rfl, hbel⟩; obtain ⟨hcc, hff⟩ := bcell hbel; have hsz := hbel.size; (try simp at hsz); refine ⟨rfl, ?_⟩; rw [HCl.out]; (try simp only [List.nil_append, List.cons_append]); (try dsimp only); ((repeat' apply And.intro) <;> first | (simp [go_sem, *]; done) | omega | (repeat' (first | with_reducible exact Below.refl _ _ | with_reducible assumption | ((with_reducible refine Below.drew ?_)) | ((with_reducible refine below_drewN ?_ _)) | ((with_reducible refine Below.alloc ?_ ?_ _); rotate_left; focus (first | omega | (simp; done) | (simp; omega))) | ((with_reducible refine Below.setCell ?_ ?_ _); rotate_left; focus (first | omega | (simp; done) | (simp; omega))) | ((with_reducible refine Below.trans ?_ (Below.mono (by with_reducible assumption) ?_)); rotate_left; focus (first | omega | (simp; done) | (simp; omega)))))))))); simp only [Act.put, Nat.reduceAdd, List.setIfInBounds_toArray, List.set_cons_zero, List.set_cons_succ, List.nil_append, List.cons_append]) | (refine wE_eff (by rfl) (by rfl) (fun wq hw => ?_) (fun u hu => ?_); (focus (rw [HCl.out] at hw; (try simp only [List.nil_append, List.cons_append] at hw); (try dsimp only at hw); go_split_ands; go_simp; rw [HCl.out]; (try simp only [List.nil_append, List.cons_append]); (try dsimp only); skip; ((repeat' apply And.intro) <;> first | (simp [go_sem, *]; done) | omega | (repeat' (first | with_reducible exact Below.refl _ _ | with_reducible assumption | ((with_reducible refine Below.drew ?_)) | ((with_reducible refine below_drewN ?_ _)) | ((with_reducible refine Below.alloc ?_ ?_ _); rotate_left; focus (first | omega | (simp; done) | (simp; omega))) | ((with_reducible refine Below.setCell ?_ ?_ _); rotate_left; focus (first | omega | (simp; done) | (simp; omega))) | ((with_reducible refine Below.trans ?_ (Below.mono (by with_reducible assumption) ?_)); rotate_left; focus (first | omega | (simp; done) | (simp; omega)))))))); clear hu; simp only [Act.put, Nat.reduceAdd, List.setIfInBounds_toArray, List.set_cons_zero, List.set_cons_succ, List.nil_append, List.cons_append])))
            refine wE_nil ?_; intro w' hw; rw [HCl.out] at hw; (try simp only [List.nil_append, List.cons_append] at hw); (try dsimp only at hw); clear HCl
            go_split_ands
            have hu4 := hu_below HU1.out hlz (by assumption : Below wr.heap.size wr w')
            have ho4 := hob2.trans (Only.of_below (by assumption : Below wr.heap.size wr w'))
            have hl4 : blk < w'.heap.size := by assumption
            have c1 : w'.cell? ⟨blk, off + (j + 1), none⟩ = some (.int .u64 x) := by assumption
            have c0 : w'.cell? ⟨blk, off + j, none⟩ = some (.int .u64 y) := by assumption
            have f1 : w'.frozen? ⟨blk, off + (j + 1), none⟩ = false := by assumption
            have f0 : w'.frozen? ⟨blk, off + j, none⟩ = false := by assumption
            generalize w' = w5 at *
            clear e1 e0 z1 z0
            go_wp2
            obtain ⟨Cl, hCl⟩ : ∃ Cl : List Value → World → Prop, Cl = ((fun ps wz => Only (fun k => k = blk) w wz ∧ (match ps with | [] => wz.cell? ⟨blk, off + (j + 1), none⟩ = some (.int .u64 x) ∧ wz.cell? ⟨blk, off + j, none⟩ = some (.int .u64 y) ∧ wz.frozen? ⟨blk, off + (j + 1), none⟩ = false ∧ wz.frozen? ⟨blk, off + j, none⟩ = false ∧ blk < wz.heap.size ∧ Holds (Value.int .u64) (wz) blk off (de) | [_] => ∃ z0 : World, wz = z0.setCell ⟨blk, off + (j + 1), none⟩ (.int .u64 y) ∧ Holds (Value.int .u64) (z0) blk off (de) ∧ blk < z0.heap.size ∧ z0.frozen? ⟨blk, off + j, none⟩ = false ∧ (z0.cell? ⟨blk, off + j, none⟩ = some (.int .u64 y)) | _ => Holds (Value.int .u64) (wz) blk off (swp de (j + 1) j)))) := ⟨_, rfl⟩; have HCl := Lib.hid hCl; clear hCl; refine wp_region_eff [15, 17] Cl (by kernel_rfl) (by kernel_rfl) (by rw [HCl.out]; (try simp only [List.nil_append, List.cons_append]); (try dsimp only); exact ⟨ho4.drew, c1, c0, f1, f0, hl4, hu_below hu4 hl4 (Below.drew (Below.refl _ _))⟩) ?_
            (repeat (first | (refine wE_skip (by rfl) ?_; simp only [Act.put, Nat.reduceAdd, List.setIfInBounds_toArray, List.set_cons_zero, List.set_cons_succ, List.nil_append, List.cons_append]) | (refine wE_open (by rfl) (by rfl) ?_; apply Exists.intro; refine ⟨fun vs wq hw => ?_, ?_⟩; (focus (rw [HCl.out] at hw; (try simp only [List.nil_append, List.cons_append] at hw); (try dsimp only at hw); go_split_ands; go_simp <;> first | with_reducible exact (rfl : Value.bool false = _) | with_reducible exact (rfl : Value.bool true = _) | ((try go_bits) <;> exact rfl))); simp only [Act.put, Nat.reduceAdd, List.setIfInBounds_toArray, List.set_cons_zero, List.set_cons_succ, List.nil_append, List.cons_append]) | (refine wE_seal (by rfl) (by rfl) (by kernel_rfl) ?_; apply Exists.intro; refine ⟨fun wq hw => ?_, ?_⟩; (focus (rw [HCl.out] at hw; (try simp only [List.nil_append, List.cons_append] at hw); (try dsimp only at hw); go_split_ands; go_simp <;> (try go_bits) <;> exact rfl)); simp only [Act.put, Nat.reduceAdd, List.setIfInBounds_toArray, List.set_cons_zero, List.set_cons_succ, List.nil_append, List.cons_append]) | (refine wE_seal (by rfl) (by rfl) (by kernel_rfl) ?_; apply Exists.intro; refine ⟨fun wq hw => ?_, ?_⟩; (focus (rw [HCl.out] at hw; (try simp only [List.nil_append, List.cons_append] at hw); (try dsimp only at hw); go_split_ands; go_simp; fail)); simp only [Act.put, Nat.reduceAdd, List.setIfInBounds_toArray, List.set_cons_zero, List.set_cons_succ, List.nil_append, List.cons_append]) | (refine wE_eff (by rfl) (by rfl) (fun wq hw => ?_) (fun u hu => ?_); (focus (rw [HCl.out] at hw; (try simp only [List.nil_append, List.cons_append] at hw); (try dsimp only at hw); go_split_ands; go_simp; rw [HCl.out]; (try simp only [List.nil_append, List.cons_append]); (try dsimp only); fail; ((repeat' apply And.intro) <;> first | (simp [go_sem, *]; done) | omega | (repeat' (first | with_reducible exact Below.refl _ _ | with_reducible assumption | ((with_reducible refine Below.drew ?_)) | ((with_reducible refine below_drewN ?_ _)) | ((with_reducible refine Below.alloc ?_ ?_ _); rotate_left; focus (first | omega | (simp; done) | (simp; omega))) | ((with_reducible refine Below.setCell ?_ ?_ _); rotate_left; focus (first | omega | (simp; done) | (simp; omega))) | ((with_reducible refine Below.trans ?_ (Below.mono (by with_reducible assumption) ?_)); rotate_left; focus (first | omega | (simp; done) | (simp; omega)))))))); clear hu; simp only [Act.put, Nat.reduceAdd, List.setIfInBounds_toArray, List.set_cons_zero, List.set_cons_succ, List.nil_append, List.cons_append])))
            refine wE_eff (by rfl) (by rfl) (fun wq hw => ?_) (fun u hu => ?_)
            focus
              rw [HCl.out] at hw; (try simp only [List.nil_append, List.cons_append] at hw); (try dsimp only at hw)
              obtain ⟨hO, g1, g0, k1, k0, hlq, hh⟩ := hw
              go_simp
              rw [HCl.out]; (try simp only [List.nil_append, List.cons_append]); (try dsimp only)
              exact ⟨hO.setOne _ _ _, wq, rfl, hh, hlq, k0, g0⟩
            clear hu
            simp only [Act.put, Nat.reduceAdd, List.setIfInBounds_toArray, List.set_cons_zero, List.set_cons_succ, List.nil_append, List.cons_append]
            (repeat (first | (refine wE_skip (by rfl) ?_; simp only [Act.put, Nat.reduceAdd, List.setIfInBounds_toArray, List.set_cons_zero, List.set_cons_succ, List.nil_append, List.cons_append]) | (refine wE_open (by rfl) (by rfl) ?_; apply Exists.intro; refine ⟨fun vs wq hw => ?_, ?_⟩; (focus (rw [HCl.out] at hw; (try simp only [List.nil_append, List.cons_append] at hw); (try dsimp only at hw); go_split_ands; go_simp <;> first | with_reducible exact (rfl : Value.bool false = _) | with_reducible exact (rfl : Value.bool true = _) | ((try go_bits) <;> exact rfl))); simp only [Act.put, Nat.reduceAdd, List.setIfInBounds_toArray, List.set_cons_zero, List.set_cons_succ, List.nil_append, List.cons_append])))
            refine wE_eff (by rfl) (by rfl) (fun wq hw => ?_) (fun u hu => ?_)
            focus
              rw [HCl.out] at hw; (try simp only [List.nil_append, List.cons_append] at hw); (try dsimp only at hw)
              obtain ⟨hO, z0, rfl, hh, hlq, k0, g0⟩ := hw
              go_simp
              rw [HCl.out]; (try simp only [List.nil_append, List.cons_append]); (try dsimp only)
              exact ⟨hO.setOne _ _ _, HW.out z0 hh hlq⟩
            clear hu
            simp only [Act.put, Nat.reduceAdd, List.setIfInBounds_toArray, List.set_cons_zero, List.set_cons_succ, List.nil_append, List.cons_append]
            (repeat (first | (refine wE_skip (by rfl) ?_; simp only [Act.put, Nat.reduceAdd, List.setIfInBounds_toArray, List.set_cons_zero, List.set_cons_succ, List.nil_append, List.cons_append]) | (refine wE_open (by rfl) (by rfl) ?_; apply Exists.intro; refine ⟨fun vs wq hw => ?_, ?_⟩; (focus (rw [HCl.out] at hw; (try simp only [List.nil_append, List.cons_append] at hw); (try dsimp only at hw); go_split_ands; go_simp <;> first | with_reducible exact (rfl : Value.bool false = _) | with_reducible exact (rfl : Value.bool true = _) | ((try go_bits) <;> exact rfl))); simp only [Act.put, Nat.reduceAdd, List.setIfInBounds_toArray, List.set_cons_zero, List.set_cons_succ, List.nil_append, List.cons_append])))
            refine wE_nil ?_
            intro w9 hw
            rw [HCl.out] at hw; (try simp only [List.nil_append, List.cons_append] at hw); (try dsimp only at hw)
            clear HCl
            obtain ⟨hO9, hh9⟩ := hw
            go_wp2
            go_roundw
            case rel =>
              exact ⟨j, swp de (j + 1) j, by omega, by omega, by go_num, by simp [swp, hde], HG.out.symm.trans HN.out, hh9, hO9⟩
            case measure => simp [intOf] <;> omega
        · obtain rfl : j = a := by omega
          have HS := Lib.hid (insInner_low ltInt j de)
          go_wp2
          obtain ⟨Cl, hCl⟩ : ∃ Cl : List Value → World → Prop, Cl = ((fun ps wz => wr.heap.size ≤ wz.heap.size ∧ Below wr.heap.size wr wz)) := ⟨_, rfl⟩; have HCl := Lib.hid hCl; clear hCl; refine wp_region_eff [] Cl (by kernel_rfl) (by kernel_rfl) (by rw [HCl.out]; (try simp only [List.nil_append, List.cons_append]); (try dsimp only); ((repeat' apply And.intro) <;> first | (simp [go_sem, *]; done) | omega | (repeat' (first | with_reducible exact Below.refl _ _ | with_reducible assumption | ((with_reducible refine Below.drew ?_)) | ((with_reducible refine below_drewN ?_ _)) | ((with_reducible refine Below.alloc ?_ ?_ _); rotate_left; focus (first | omega | (simp; done) | (simp; omega))) | ((with_reducible refine Below.setCell ?_ ?_ _); rotate_left; focus (first | omega | (simp; done) | (simp; omega))) | ((with_reducible refine Below.trans ?_ (Below.mono (by with_reducible assumption) ?_)); rotate_left; focus (first | omega | (simp; done) | (simp; omega))))))) ?_
          (repeat (first | (refine wE_skip (by rfl) ?_; simp only [Act.put, Nat.reduceAdd, List.setIfInBounds_toArray, List.set_cons_zero, List.set_cons_succ, List.nil_append, List.cons_append]) | (refine wE_open (by rfl) (by rfl) ?_; apply Exists.intro; refine ⟨fun vs wq hw => ?_, ?_⟩; (focus (rw [HCl.out] at hw; (try simp only [List.nil_append, List.cons_append] at hw); (try dsimp only at hw); go_split_ands; go_simp <;> first | with_reducible exact (rfl : Value.bool false = _) | with_reducible exact (rfl : Value.bool true = _) | ((try go_bits) <;> exact rfl))); simp only [Act.put, Nat.reduceAdd, List.setIfInBounds_toArray, List.set_cons_zero, List.set_cons_succ, List.nil_append, List.cons_append]) | (refine wE_seal (by rfl) (by rfl) (by kernel_rfl) ?_; apply Exists.intro; refine ⟨fun wq hw => ?_, ?_⟩; (focus (rw [HCl.out] at hw; (try simp only [List.nil_append, List.cons_append] at hw); (try dsimp only at hw); go_split_ands; go_simp <;> (try go_bits) <;> exact rfl)); simp only [Act.put, Nat.reduceAdd, List.setIfInBounds_toArray, List.set_cons_zero, List.set_cons_succ, List.nil_append, List.cons_append]) | (refine wE_seal (by rfl) (by rfl) (by kernel_rfl) ?_; apply Exists.intro; refine ⟨fun wq hw => ?_, ?_⟩; (focus (rw [HCl.out] at hw; (try simp only [List.nil_append, List.cons_append] at hw); (try dsimp only at hw); go_split_ands; go_simp; fail)); simp only [Act.put, Nat.reduceAdd, List.setIfInBounds_toArray, List.set_cons_zero, List.set_cons_succ, List.nil_append, List.cons_append]) | (refine wE_eff (by rfl) (by rfl) (fun wq hw => ?_) (fun u hu => ?_); (focus (rw [HCl.out] at hw; (try simp only [List.nil_append, List.cons_append] at hw); (try dsimp only at hw); go_split_ands; go_simp; rw [HCl.out]; (try simp only [List.nil_append, List.cons_append]); (try dsimp only); skip; ((repeat' apply And.intro) <;> first | (simp [go_sem, *]; done) | omega | (repeat' (first | with_reducible exact Below.refl _ _ | with_reducible assumption | ((with_reducible refine Below.drew ?_)) | ((with_reducible refine below_drewN ?_ _)) | ((with_reducible refine Below.alloc ?_ ?_ _); rotate_left; focus (first | omega | (simp; done) | (simp; omega))) | ((with_reducible refine Below.setCell ?_ ?_ _); rotate_left; focus (first | omega | (simp; done) | (simp; omega))) | ((with_reducible refine Below.trans ?_ (Below.mono (by with_reducible assumption) ?_)); rotate_left; focus (first | omega | (simp; done) | (simp; omega)))))))); clear hu; simp only [Act.put, Nat.reduceAdd, List.setIfInBounds_toArray, List.set_cons_zero, List.set_cons_succ, List.nil_append, List.cons_append])))
          refine wE_nil ?_; intro w' hw; rw [HCl.out] at hw; (try simp only [List.nil_append, List.cons_append] at hw); (try dsimp only at hw); clear HCl
          go_split_ands
          go_wp2
          go_roundw
          case rel =>
            refine ⟨i + 1, de, by omega, by omega, by go_num, hde, (congrArg (insOuter ltInt j b (i + 1)) (HS.out.symm.trans HN.out)).trans HI.out, hu_below HU1.out hlz (by assumption), hob2.trans (Only.of_below (by assumption))⟩
          case measure => simp [intOf]; omega
    · obtain rfl : i = b := by omega
      rw [insOuter_end] at hins
      go_wp2
      refine bodyPost_end (v := .tuple #[]) (by simp [results, Tryz.results137]) rfl ⟨rfl, ?_, hob⟩
      rw [← hins]; exact hhu
end Go.Proofs.YtffaahipgabkhaaGreat
end
