/- Joined texts. -/
import Derived.Test.YtffaahipgabkhaaGreatJn0
import Derived.Test.YtffaahipgabkhaaGreatJn2
import Derived.LoopN
import Derived.Sort.Defs
import Derived.Sort.Row
set_option linter.unusedVariables false
set_option linter.unusedSimpArgs false
set_option maxRecDepth 100000
set_option maxHeartbeats 16000000
section
namespace Go.Proofs.YtffaahipgabkhaaGreat
open Go.RowKit Fg Reg
attribute [local irreducible] Reg.wE
theorem nan_c (x : Int) (w : World) : Calls Tryz.prog 151 #[.int .u64 x] w fun ee w' => ee = .returned (.bool false) ∧ Below w.heap.size w w' := by
 go_enter Tryz.func151, Tryz.ntmps151
 go_wp2
 (go_ret; refine ⟨?_, ?_⟩; (focus (exact rfl)); exact blb)
theorem les_c (x y : Int) (w : World) : Calls Tryz.prog 143 #[.int .u64 x, .int .u64 y] w fun ee w' => ee = .returned (.bool (decide (x < y))) ∧ Below w.heap.size w w' := by
 have K1 := Lib.hid nan_c
 generalize hr : decide (x < y) = r
 go_enter Tryz.func143, Tryz.ntmps143
 go_wp2_with (go_at_call 151; ((with_reducible refine (K1.out _ _).mono ?_); rintro e w1 ⟨rfl, hbel⟩; obtain ⟨hcc, hff⟩ := bcell hbel; have hsz := hbel.size; (try simp at hsz); have hF : Below w.heap.size w w1 := (by exact kpb); go_split_ands; clear hcc hff hbel))
 (go_ret; refine ⟨?_, ?_⟩; (focus (exact rfl)); exact blb)
end Go.Proofs.YtffaahipgabkhaaGreat
end
section
namespace Go.Proofs.YtffaahipgabkhaaGreat
open Go.RowKit Fg Reg Go.Sort
attribute [local irreducible] Reg.wE Holds
section
attribute [local semireducible] Holds
theorem hu_below {blk off : Nat} {z z' : World} {dd : Array Int} (h : Holds (Value.int .u64) (z) blk off (dd)) (hl : blk < z.heap.size) (hb : Below z.heap.size z z') : Holds (Value.int .u64) (z') blk off (dd) := fun j hj => by
 obtain ⟨hcc, hff⟩ := bcell hb
 exact ⟨(hcc _ _ hl).trans (h j hj).1, (hff _ _ hl).trans (h j hj).2⟩
theorem hu_at {blk off : Nat} {z : World} {dd : Array Int} (h : Holds (Value.int .u64) (z) blk off (dd)) (j : Nat) (hj : j < dd.size) : z.cell? ⟨blk, off + j, none⟩ = some (.int .u64 dd[j]!) ∧ z.frozen? ⟨blk, off + j, none⟩ = false := h j hj
theorem hu_swp {blk off : Nat} {z : World} {dd : Array Int} (h : Holds (Value.int .u64) (z) blk off (dd)) (j : Nat) (hj : j + 1 < dd.size) (hl : blk < z.heap.size) :
  Holds (Value.int .u64) ((z.setCell ⟨blk, off + (j + 1), none⟩ (.int .u64 dd[j]!)).setCell ⟨blk, off + j, none⟩ (.int .u64 dd[j + 1]!)) blk off ((swp dd (j + 1) j)) := fun i hi => by
 have hi' : i < dd.size := by simpa [swp] using hi
 obtain ⟨g1, g2⟩ := h i hi'
 obtain ⟨a1, -⟩ := h j (by omega)
 obtain ⟨b1, -⟩ := h (j + 1) hj
 unfold swp
 rcases Nat.lt_trichotomy i j with hij | rfl | hij
 ·rw [getElem!_set_other _ _ _ _ (by omega), getElem!_set_other _ _ _ _ (by omega)]
  constructor <;> simp [go_sem, g1, g2, show ¬ off + i = off + j by omega, show ¬ off + i = off + (j + 1) by omega]
 ·rw [getElem!_set_same _ _ _ (by simpa using hi')]
  constructor <;> simp [go_sem, g1, g2, a1, b1]
 ·rcases Nat.lt_or_ge i (j + 2) with hl2 | hl2
  ·obtain rfl : i = j + 1 := by omega
   rw [getElem!_set_other _ _ _ _ (by omega), getElem!_set_same _ _ _ hj]
   constructor <;> simp [go_sem, g1, g2, a1, b1]
  ·rw [getElem!_set_other _ _ _ _ (by omega), getElem!_set_other _ _ _ _ (by omega)]
   constructor <;> simp [go_sem, g1, g2, show ¬ off + i = off + j by omega, show ¬ off + i = off + (j + 1) by omega]
end
end Go.Proofs.YtffaahipgabkhaaGreat
end
section
namespace Go.Proofs.YtffaahipgabkhaaGreat
open Go.RowKit Fg Reg Go.Sort
attribute [local irreducible] Reg.wE Holds
theorem insInner_stop (lt : Int → Int → Bool) (a j : Nat) (d : Array Int) (h : (j + 1 > a && lt d[j + 1]! d[j]!) = false) : insInner lt a (j + 1) d = d := by
 rw [insInner, if_neg (by simp [h])]
theorem insInner_go (lt : Int → Int → Bool) (a j : Nat) (d : Array Int) (h : (j + 1 > a && lt d[j + 1]! d[j]!) = true) : insInner lt a (j + 1) d = insInner lt a j (swp d (j + 1) j) := by
 rw [insInner, if_pos h]
theorem insInner_low (lt : Int → Int → Bool) (a : Nat) (d : Array Int) : insInner lt a a d = d := by
 cases a with
 | zero => rfl
 | succ j => exact insInner_stop lt (j + 1) j d (by simp)
theorem insOuter_go (lt : Int → Int → Bool) (a b i : Nat) (d : Array Int) (h : i < b) : insOuter lt a b i d = insOuter lt a b (i + 1) (insInner lt a i d) := by
 rw [insOuter, if_pos h]
theorem insOuter_end (lt : Int → Int → Bool) (a b : Nat) (d : Array Int) : insOuter lt a b b d = d := by
 rw [insOuter, if_neg (by omega)]
theorem ins64_c (blk off cap a b : Nat) (d : Array Int) (w : World) (hH : Holds (Value.int .u64) (w) blk off (d)) (hl : blk < w.heap.size) (hab : a < b) (hb : b ≤ d.size) (hsz : d.size ≤ 100000) :
  Calls Tryz.prog 137 #[.slice (some ⟨blk, off, none⟩) d.size cap, .int .i64 a, .int .i64 b] w fun e w' => e = .returned (.tuple #[]) ∧ Holds (Value.int .u64) (w') blk off (insertionSort ltInt d a b) ∧ Only (fun k => k = blk) w w' := by
 have KL := Lib.hid (fun x y z => les_c x y z)
 have HH := Lib.hid hH
 clear hH
 have W0 : IntKind.i64.wrap ((a : Int) + 1) = ((a + 1 : Nat) : Int) := by rw [IntKind.wrap_i64]; omega
 go_enter Tryz.func137, Tryz.ntmps137
 go_wp2
 go_loopw [6] (fun ii wr => ∃ (i : Nat) (dd : Array Int), a + 1 ≤ i ∧ i ≤ b ∧ ii = .int .i64 i ∧ dd.size = d.size ∧ insOuter ltInt a b i dd = insertionSort ltInt d a b ∧ Holds (Value.int .u64) (wr) blk off (dd) ∧ Only (fun k => k = blk) w wr) (fun ii _ => b - (intOf ii).toNat)
 case atStart => exact ⟨a + 1, d, Nat.le_refl _, by omega, by simp, rfl, rfl, HH.out, Only.refl _ _⟩
 case round =>
  obtain ⟨i, dd, hi1, hi2, rfl, hds, hins, hhu, hob⟩ := hrel
  have hlr : blk < wr.heap.size := Nat.lt_of_lt_of_le hl hob.size
  by_cases hlt : i < b
  ·have hins2 : insOuter ltInt a b (i + 1) (insInner ltInt a i dd) = insertionSort ltInt d a b := by rw [← hins]; exact (insOuter_go ltInt a b i dd hlt).symm
   have HI := Lib.hid hins2
   have HU0 := Lib.hid hhu
   clear hins hins2 hhu
   have W1 : IntKind.i64.wrap ((i : Int) + 1) = ((i + 1 : Nat) : Int) := by rw [IntKind.wrap_i64]; omega
   go_wp2
   go_loopw [7] (fun jj wz => ∃ (j : Nat) (de : Array Int), a ≤ j ∧ j ≤ i ∧ jj = .int .i64 j ∧ de.size = d.size ∧ insInner ltInt a j de = insInner ltInt a i dd ∧ Holds (Value.int .u64) (wz) blk off (de) ∧ Only (fun k => k = blk) w wz) (fun jj _ => (intOf jj).toNat)
   case atStart => exact ⟨i, dd, by omega, Nat.le_refl _, rfl, hds, rfl, HU0.out, hob⟩
   case round =>
    obtain ⟨j, de, hj1, hj2, rfl, hde, hinn, hhu, hob2⟩ := hrel
    have hlz : blk < wr.heap.size := Nat.lt_of_lt_of_le hl hob2.size
    have HN := Lib.hid hinn
    have HU1 := Lib.hid hhu
    clear hinn hhu
    rcases Nat.lt_or_ge a j with hja | hja
    ·obtain ⟨j, rfl⟩ : ∃ m, j = m + 1 := ⟨j - 1, by omega⟩
     obtain ⟨e1, z1⟩ := hu_at HU1.out (j + 1) (by omega)
     obtain ⟨e0, z0⟩ := hu_at HU1.out j (by omega)
     have dj : decide ((a : Int) < (j : Int) + 1) = true := by simp only [decide_eq_true_eq]; omega
     have tj : ((j : Int) + 1).toNat = j + 1 := by omega
     have lj : (j : Int) + 1 < d.size := by omega
     have lj0 : (j : Int) < d.size := by omega
     have ljp : (0 : Int) ≤ (j : Int) + 1 := by omega
     have wj : IntKind.i64.wrap ((j : Int) + 1 - 1) = (j : Int) := by rw [IntKind.wrap_i64]; omega
     have kl := fun z => KL.out de[j + 1]! de[j]! z
     cases hlt2 : decide (de[j + 1]! < de[j]!) with
     | false =>
      have HS := Lib.hid (insInner_stop ltInt a j de (by unfold ltInt; rw [hlt2]; simp))
      rw [hlt2] at kl
      generalize de[j + 1]! = x at *
      generalize de[j]! = y at *
      have K1 := Lib.hid kl
      clear kl hlt2
      go_wp2
      obtain ⟨Cl, HCl⟩ := zH (α := List Value → World → Prop) ((fun ps wz => wz.cell? ⟨blk, off + (j + 1), none⟩ = some (.int .u64 x) ∧ wz.cell? ⟨blk, off + j, none⟩ = some (.int .u64 y) ∧ blk < wz.heap.size ∧ wr.heap.size ≤ wz.heap.size ∧ Below wr.heap.size wr wz)); refine wp_region_eff [] Cl (by kernel_rfl) (by kernel_rfl) (by simp only [HCl.out, zD, zE]; exact kpb) ?_
      (repeat ((first | (refine wE_skip (by rfl) ?_) | (refine wE_open (by rfl) (by rfl) ?_; apply Exists.intro; refine ⟨fun vs wq hw => ?_, ?_⟩; (focus (simp only [HCl.out, zD, zE] at hw; go_split_ands; go_simp <;> exact ebb))) | (refine wE_seal (by rfl) (by rfl) (by kernel_rfl) ?_; apply Exists.intro; refine ⟨fun wq hw => ?_, ?_⟩; (focus (simp only [HCl.out, zD, zE] at hw; go_split_ands; go_simp <;> (try go_bits) <;> exact rfl))) | (refine wE_seal (by rfl) (by rfl) (by kernel_rfl) ?_; apply Exists.intro; refine ⟨fun wq hw => ?_, ?_⟩; (focus (simp only [HCl.out, zD, zE] at hw; go_split_ands; go_simp; (go_at_call 143; ((with_reducible refine (K1.out _).mono ?_); rintro e w' ⟨rfl, hbel⟩; obtain ⟨hcc, hff⟩ := bcell hbel; have hsz := hbel.size; (try simp at hsz); refine ⟨rfl, ?_⟩; simp only [HCl.out, zD, zE]; exact kpb))))) | (refine wE_eff (by rfl) (by rfl) (fun wq hw => ?_) (fun u hu => ?_); (focus (simp only [HCl.out, zD, zE] at hw; go_split_ands; go_simp; simp only [HCl.out, zD, zE]; skip; exact kpb)); clear hu)); simp only [Act.put, Nat.reduceAdd, zA, zB, zC, zD, zE]))
      refine wE_nil ?_; intro w' hw; simp only [HCl.out, zD, zE] at hw; clear HCl
      go_split_ands
      go_wp2
      go_roundw
      case rel =>
       refine ⟨i + 1, de, by omega, by omega, by go_num, hde, (congrArg (insOuter ltInt a b (i + 1)) (HS.out.symm.trans HN.out)).trans HI.out, hu_below HU1.out hlz (by assumption), hob2.trans (Only.of_below (by assumption))⟩
      case measure => simp [intOf]; omega
     | true =>
      have HG := Lib.hid (insInner_go ltInt a j de (by unfold ltInt; rw [hlt2]; simp; omega))
      have hsw := fun z (h : Holds (Value.int .u64) (z) blk off (de)) (hz : blk < z.heap.size) => hu_swp h j (by omega) hz
      rw [hlt2] at kl
      generalize de[j + 1]! = x at *
      generalize de[j]! = y at *
      have K1 := Lib.hid kl
      have HW := Lib.hid hsw
      clear kl hlt2 hsw
      go_wp2
      obtain ⟨Cl, HCl⟩ := zH (α := List Value → World → Prop) ((fun ps wz => wz.cell? ⟨blk, off + (j + 1), none⟩ = some (.int .u64 x) ∧ wz.cell? ⟨blk, off + j, none⟩ = some (.int .u64 y) ∧ wz.frozen? ⟨blk, off + (j + 1), none⟩ = false ∧ wz.frozen? ⟨blk, off + j, none⟩ = false ∧ blk < wz.heap.size ∧ wr.heap.size ≤ wz.heap.size ∧ Below wr.heap.size wr wz)); refine wp_region_eff [] Cl (by kernel_rfl) (by kernel_rfl) (by simp only [HCl.out, zD, zE]; exact kpb) ?_
      (repeat ((first | (refine wE_skip (by rfl) ?_) | (refine wE_open (by rfl) (by rfl) ?_; apply Exists.intro; refine ⟨fun vs wq hw => ?_, ?_⟩; (focus (simp only [HCl.out, zD, zE] at hw; go_split_ands; go_simp <;> exact ebb))) | (refine wE_seal (by rfl) (by rfl) (by kernel_rfl) ?_; apply Exists.intro; refine ⟨fun wq hw => ?_, ?_⟩; (focus (simp only [HCl.out, zD, zE] at hw; go_split_ands; go_simp <;> (try go_bits) <;> exact rfl))) | (refine wE_seal (by rfl) (by rfl) (by kernel_rfl) ?_; apply Exists.intro; refine ⟨fun wq hw => ?_, ?_⟩; (focus (simp only [HCl.out, zD, zE] at hw; go_split_ands; go_simp; (go_at_call 143; ((with_reducible refine (K1.out _).mono ?_); rintro e w' ⟨rfl, hbel⟩; obtain ⟨hcc, hff⟩ := bcell hbel; have hsz := hbel.size; (try simp at hsz); refine ⟨rfl, ?_⟩; simp only [HCl.out, zD, zE]; exact kpb))))) | (refine wE_eff (by rfl) (by rfl) (fun wq hw => ?_) (fun u hu => ?_); (focus (simp only [HCl.out, zD, zE] at hw; go_split_ands; go_simp; simp only [HCl.out, zD, zE]; skip; exact kpb)); clear hu)); simp only [Act.put, Nat.reduceAdd, zA, zB, zC, zD, zE]))
      refine wE_nil ?_; intro w' hw; simp only [HCl.out, zD, zE] at hw; clear HCl
      go_split_ands
      have hu4 := hu_below HU1.out hlz (by assumption : Below wr.heap.size wr w')
      have ho4 := hob2.trans (Only.of_below (by assumption : Below wr.heap.size wr w'))
      have hl4 : blk < w'.heap.size := by assumption
      have c1 : w'.cell? ⟨blk, off + (j + 1), none⟩ = some (.int .u64 x) := by assumption
      have c0 : w'.cell? ⟨blk, off + j, none⟩ = some (.int .u64 y) := by assumption
      have f1 : w'.frozen? ⟨blk, off + (j + 1), none⟩ = false := by assumption
      have f0 : w'.frozen? ⟨blk, off + j, none⟩ = false := by assumption
      generalize w' = w5 at *
      clear e1 e0 z1 z0
      go_wp2
      obtain ⟨Cl, HCl⟩ := zH (α := List Value → World → Prop) ((fun ps wz => Only (fun k => k = blk) w wz ∧ (match ps with | [] => wz.cell? ⟨blk, off + (j + 1), none⟩ = some (.int .u64 x) ∧ wz.cell? ⟨blk, off + j, none⟩ = some (.int .u64 y) ∧ wz.frozen? ⟨blk, off + (j + 1), none⟩ = false ∧ wz.frozen? ⟨blk, off + j, none⟩ = false ∧ blk < wz.heap.size ∧ Holds (Value.int .u64) (wz) blk off (de) | [_] => ∃ z0 : World, wz = z0.setCell ⟨blk, off + (j + 1), none⟩ (.int .u64 y) ∧ Holds (Value.int .u64) (z0) blk off (de) ∧ blk < z0.heap.size ∧ z0.frozen? ⟨blk, off + j, none⟩ = false ∧ (z0.cell? ⟨blk, off + j, none⟩ = some (.int .u64 y)) | _ => Holds (Value.int .u64) (wz) blk off (swp de (j + 1) j)))); refine wp_region_eff [15, 17] Cl (by kernel_rfl) (by kernel_rfl) (by simp only [HCl.out, zD, zE]; exact ⟨ho4.drew, c1, c0, f1, f0, hl4, hu_below hu4 hl4 (Below.drew (Below.refl _ _))⟩) ?_
      (repeat ((first | (refine wE_skip (by rfl) ?_) | (refine wE_open (by rfl) (by rfl) ?_; apply Exists.intro; refine ⟨fun vs wq hw => ?_, ?_⟩; (focus (simp only [HCl.out, zD, zE] at hw; go_split_ands; go_simp <;> exact ebb))) | (refine wE_seal (by rfl) (by rfl) (by kernel_rfl) ?_; apply Exists.intro; refine ⟨fun wq hw => ?_, ?_⟩; (focus (simp only [HCl.out, zD, zE] at hw; go_split_ands; go_simp <;> (try go_bits) <;> exact rfl))) | (refine wE_eff (by rfl) (by rfl) (fun wq hw => ?_) (fun u hu => ?_); (focus (simp only [HCl.out, zD, zE] at hw; go_split_ands; go_simp; simp only [HCl.out, zD, zE]; fail; exact kpb)); clear hu)); simp only [Act.put, Nat.reduceAdd, zA, zB, zC, zD, zE]))
      refine wE_eff (by rfl) (by rfl) (fun wq hw => ?_) (fun u hu => ?_)
      focus
       simp only [HCl.out, zD, zE] at hw
       obtain ⟨hO, g1, g0, k1, k0, hlq, hh⟩ := hw
       go_simp
       simp only [HCl.out, zD, zE]
       exact ⟨hO.setOne _ _ _, wq, rfl, hh, hlq, k0, g0⟩
      clear hu
      simp only [Act.put, Nat.reduceAdd, zA, zB, zC, zD, zE]
      (repeat ((first | (refine wE_skip (by rfl) ?_) | (refine wE_open (by rfl) (by rfl) ?_; apply Exists.intro; refine ⟨fun vs wq hw => ?_, ?_⟩; (focus (simp only [HCl.out, zD, zE] at hw; go_split_ands; go_simp <;> exact ebb)))); simp only [Act.put, Nat.reduceAdd, zA, zB, zC, zD, zE]))
      refine wE_eff (by rfl) (by rfl) (fun wq hw => ?_) (fun u hu => ?_)
      focus
       simp only [HCl.out, zD, zE] at hw
       obtain ⟨hO, z0, rfl, hh, hlq, k0, g0⟩ := hw
       go_simp
       simp only [HCl.out, zD, zE]
       exact ⟨hO.setOne _ _ _, HW.out z0 hh hlq⟩
      clear hu
      simp only [Act.put, Nat.reduceAdd, zA, zB, zC, zD, zE]
      (repeat ((first | (refine wE_skip (by rfl) ?_) | (refine wE_open (by rfl) (by rfl) ?_; apply Exists.intro; refine ⟨fun vs wq hw => ?_, ?_⟩; (focus (simp only [HCl.out, zD, zE] at hw; go_split_ands; go_simp <;> exact ebb)))); simp only [Act.put, Nat.reduceAdd, zA, zB, zC, zD, zE]))
      refine wE_nil ?_
      intro w9 hw
      simp only [HCl.out, zD, zE] at hw
      clear HCl
      obtain ⟨hO9, hh9⟩ := hw
      go_wp2
      go_roundw
      case rel =>
       exact ⟨j, swp de (j + 1) j, by omega, by omega, by go_num, by simp [swp, hde], HG.out.symm.trans HN.out, hh9, hO9⟩
      case measure => simp [intOf] <;> omega
    ·obtain rfl : j = a := by omega
     have HS := Lib.hid (insInner_low ltInt j de)
     go_wp2
     obtain ⟨Cl, HCl⟩ := zH (α := List Value → World → Prop) ((fun ps wz => wr.heap.size ≤ wz.heap.size ∧ Below wr.heap.size wr wz)); refine wp_region_eff [] Cl (by kernel_rfl) (by kernel_rfl) (by simp only [HCl.out, zD, zE]; exact kpb) ?_
     (repeat ((first | (refine wE_skip (by rfl) ?_) | (refine wE_open (by rfl) (by rfl) ?_; apply Exists.intro; refine ⟨fun vs wq hw => ?_, ?_⟩; (focus (simp only [HCl.out, zD, zE] at hw; go_split_ands; go_simp <;> exact ebb))) | (refine wE_seal (by rfl) (by rfl) (by kernel_rfl) ?_; apply Exists.intro; refine ⟨fun wq hw => ?_, ?_⟩; (focus (simp only [HCl.out, zD, zE] at hw; go_split_ands; go_simp <;> (try go_bits) <;> exact rfl))) | (refine wE_eff (by rfl) (by rfl) (fun wq hw => ?_) (fun u hu => ?_); (focus (simp only [HCl.out, zD, zE] at hw; go_split_ands; go_simp; simp only [HCl.out, zD, zE]; skip; exact kpb)); clear hu)); simp only [Act.put, Nat.reduceAdd, zA, zB, zC, zD, zE]))
     refine wE_nil ?_; intro w' hw; simp only [HCl.out, zD, zE] at hw; clear HCl
     go_split_ands
     go_wp2
     go_roundw
     case rel =>
      refine ⟨i + 1, de, by omega, by omega, by go_num, hde, (congrArg (insOuter ltInt j b (i + 1)) (HS.out.symm.trans HN.out)).trans HI.out, hu_below HU1.out hlz (by assumption), hob2.trans (Only.of_below (by assumption))⟩
     case measure => simp [intOf]; omega
  ·obtain rfl : i = b := by omega
   rw [insOuter_end] at hins
   go_wp2
   refine bodyPost_end (v := .tuple #[]) (by simp [results, Tryz.results137]) rfl ⟨rfl, ?_, hob⟩
   rw [← hins]; exact hhu
end Go.Proofs.YtffaahipgabkhaaGreat
end
section
namespace Go.Proofs.YtffaahipgabkhaaGreat
open Go.RowKit Fg Reg Go.Sort
attribute [local irreducible] Reg.wE Holds
section
attribute [local semireducible] Holds
theorem hu_swq {blk off : Nat} {z : World} {dd : Array Int} (h : Holds (Value.int .u64) (z) blk off (dd)) (i j : Nat) (hij : i < j) (hj : j < dd.size) (hl : blk < z.heap.size) :
  Holds (Value.int .u64) ((z.setCell ⟨blk, off + i, none⟩ (.int .u64 dd[j]!)).setCell ⟨blk, off + j, none⟩ (.int .u64 dd[i]!)) blk off ((swp dd i j)) := fun k hk => by
 have hk' : k < dd.size := by simpa [swp] using hk
 obtain ⟨g1, g2⟩ := h k hk'
 obtain ⟨a1, -⟩ := h j hj
 obtain ⟨b1, -⟩ := h i (by omega)
 unfold swp
 rcases Classical.em (k = j) with rfl | hkj
 ·rw [getElem!_set_same _ _ _ (by simpa using hk')]
  constructor <;> simp [go_sem, g1, g2, b1, show ¬ off + k = off + i by omega]
 ·rw [getElem!_set_other _ _ _ _ hkj]
  rcases Classical.em (k = i) with rfl | hki
  ·rw [getElem!_set_same _ _ _ hk']
   constructor <;> simp [go_sem, g1, g2, a1, b1, show ¬ off + k = off + j by omega]
  ·rw [getElem!_set_other _ _ _ _ hki]
   constructor <;> simp [go_sem, g1, g2, show ¬ off + k = off + i by omega, show ¬ off + k = off + j by omega]
end
theorem revLoop_go (i j : Nat) (d : Array Int) (h : i < j) : reverseLoop i j d = reverseLoop (i + 1) (j - 1) (swp d i j) := by
 rw [reverseLoop, if_pos h]
theorem revLoop_end (i j : Nat) (d : Array Int) (h : ¬ i < j) : reverseLoop i j d = d := by
 rw [reverseLoop, if_neg h]
theorem rev64_c (blk off cap a b : Nat) (d : Array Int) (w : World) (hH : Holds (Value.int .u64) (w) blk off (d)) (hl : blk < w.heap.size) (hab : a < b) (hb : b ≤ d.size) (hsz : d.size ≤ 100000) :
  Calls Tryz.prog 141 #[.slice (some ⟨blk, off, none⟩) d.size cap, .int .i64 a, .int .i64 b] w fun e w' => e = .returned (.tuple #[]) ∧ Holds (Value.int .u64) (w') blk off (reverseRange d a b) ∧ Only (fun k => k = blk) w w' := by
 have HH := Lib.hid hH
 clear hH
 have W0 : IntKind.i64.wrap ((b : Int) - 1) = ((b - 1 : Nat) : Int) := by rw [IntKind.wrap_i64]; omega
 go_enter Tryz.func141, Tryz.ntmps141
 go_wp2
 go_loopw [6, 7] (fun ii jj wr => ∃ (i j : Nat) (dd : Array Int), i ≤ j + 1 ∧ j < b ∧ ii = .int .i64 i ∧ jj = .int .i64 j ∧ dd.size = d.size ∧ reverseLoop i j dd = reverseRange d a b ∧ Holds (Value.int .u64) (wr) blk off (dd) ∧ Only (fun k => k = blk) w wr) (fun _ jj _ => (intOf jj).toNat)
 case atStart => exact ⟨a, b - 1, d, by omega, by omega, rfl, by first | rfl | (simp; omega), rfl, rfl, HH.out, Only.refl _ _⟩
 case round =>
  obtain ⟨i, j, de, hij0, hjb, rfl, rfl, hde, hinn, hhu, hob2⟩ := hrel
  have hlz : blk < wr.heap.size := Nat.lt_of_lt_of_le hl hob2.size
  by_cases hij : i < j
  ·obtain ⟨m, rfl⟩ : ∃ m, j = m + 1 := ⟨j - 1, by omega⟩
   have HN := Lib.hid ((revLoop_go i (m + 1) de hij).symm.trans hinn)
   obtain ⟨e1, z1⟩ := hu_at hhu (m + 1) (by omega)
   obtain ⟨e0, z0⟩ := hu_at hhu i (by omega)
   have hsw := fun z (h : Holds (Value.int .u64) (z) blk off (de)) (hz : blk < z.heap.size) => hu_swq h i (m + 1) hij (by omega) hz
   have dj : decide ((i : Int) < (m : Int) + 1) = true := by simp only [decide_eq_true_eq]; omega
   have tj : ((m : Int) + 1).toNat = m + 1 := by omega
   have lj : (m : Int) + 1 < d.size := by omega
   have li : (i : Int) < d.size := by omega
   have ljp : (0 : Int) ≤ (m : Int) + 1 := by omega
   have wj : IntKind.i64.wrap ((m : Int) + 1 - 1) = (m : Int) := by rw [IntKind.wrap_i64]; omega
   have wi : IntKind.i64.wrap ((i : Int) + 1) = (i : Int) + 1 := by rw [IntKind.wrap_i64]; omega
   have hne : ¬ off + i = off + (m + 1) := by omega
   have HU1 := Lib.hid hhu
   have hnn : ¬ off + (m + 1) = off + i := by omega
   generalize de[m + 1]! = x at *
   generalize de[i]! = y at *
   have HW := Lib.hid hsw
   clear hsw hinn hhu
   go_wp2
   obtain ⟨Cl, HCl⟩ := zH (α := List Value → World → Prop) ((fun ps wz => Only (fun k => k = blk) w wz ∧ (match ps with | [] => wz.cell? ⟨blk, off + (m + 1), none⟩ = some (.int .u64 x) ∧ wz.cell? ⟨blk, off + i, none⟩ = some (.int .u64 y) ∧ wz.frozen? ⟨blk, off + (m + 1), none⟩ = false ∧ wz.frozen? ⟨blk, off + i, none⟩ = false ∧ blk < wz.heap.size ∧ Holds (Value.int .u64) (wz) blk off (de) | [_] => ∃ z0 : World, wz = z0.setCell ⟨blk, off + i, none⟩ (.int .u64 x) ∧ Holds (Value.int .u64) (z0) blk off (de) ∧ blk < z0.heap.size ∧ z0.frozen? ⟨blk, off + (m + 1), none⟩ = false ∧ (z0.cell? ⟨blk, off + (m + 1), none⟩ = some (.int .u64 x)) | _ => Holds (Value.int .u64) (wz) blk off (swp de i (m + 1))))); refine wp_region_eff [13, 15] Cl (by kernel_rfl) (by kernel_rfl) (by simp only [HCl.out, zD, zE]; exact ⟨hob2.drew, e1, e0, z1, z0, hlz, hu_below HU1.out hlz (Below.drew (Below.refl _ _))⟩) ?_
   (repeat ((first | (refine wE_skip (by rfl) ?_) | (refine wE_open (by rfl) (by rfl) ?_; apply Exists.intro; refine ⟨fun vs wq hw => ?_, ?_⟩; (focus (simp only [HCl.out, zD, zE] at hw; go_split_ands; go_simp <;> exact ebb))) | (refine wE_seal (by rfl) (by rfl) (by kernel_rfl) ?_; apply Exists.intro; refine ⟨fun wq hw => ?_, ?_⟩; (focus (simp only [HCl.out, zD, zE] at hw; go_split_ands; go_simp <;> (try go_bits) <;> exact rfl))) | (refine wE_eff (by rfl) (by rfl) (fun wq hw => ?_) (fun u hu => ?_); (focus (simp only [HCl.out, zD, zE] at hw; go_split_ands; go_simp; simp only [HCl.out, zD, zE]; fail; exact kpb)); clear hu)); simp only [Act.put, Nat.reduceAdd, zA, zB, zC, zD, zE]))
   refine wE_eff (by rfl) (by rfl) (fun wq hw => ?_) (fun u hu => ?_)
   focus
    simp only [HCl.out, zD, zE] at hw
    obtain ⟨hO, g1, g0, k1, k0, hlq, hh⟩ := hw
    go_simp
    simp only [HCl.out, zD, zE]
    exact ⟨hO.setOne _ _ _, wq, rfl, hh, hlq, k1, g1⟩
   clear hu
   simp only [Act.put, Nat.reduceAdd, zA, zB, zC, zD, zE]
   (repeat ((first | (refine wE_skip (by rfl) ?_) | (refine wE_open (by rfl) (by rfl) ?_; apply Exists.intro; refine ⟨fun vs wq hw => ?_, ?_⟩; (focus (simp only [HCl.out, zD, zE] at hw; go_split_ands; go_simp <;> exact ebb)))); simp only [Act.put, Nat.reduceAdd, zA, zB, zC, zD, zE]))
   refine wE_eff (by rfl) (by rfl) (fun wq hw => ?_) (fun u hu => ?_)
   focus
    simp only [HCl.out, zD, zE] at hw
    obtain ⟨hO, z0, rfl, hh, hlq, k0, g0⟩ := hw
    go_simp
    simp only [HCl.out, zD, zE]
    exact ⟨hO.setOne _ _ _, HW.out z0 hh hlq⟩
   clear hu
   simp only [Act.put, Nat.reduceAdd, zA, zB, zC, zD, zE]
   (repeat ((first | (refine wE_skip (by rfl) ?_) | (refine wE_open (by rfl) (by rfl) ?_; apply Exists.intro; refine ⟨fun vs wq hw => ?_, ?_⟩; (focus (simp only [HCl.out, zD, zE] at hw; go_split_ands; go_simp <;> exact ebb)))); simp only [Act.put, Nat.reduceAdd, zA, zB, zC, zD, zE]))
   refine wE_nil ?_
   intro w9 hw
   simp only [HCl.out, zD, zE] at hw
   clear HCl
   obtain ⟨hO9, hh9⟩ := hw
   go_wp2
   go_roundw
   case rel =>
    exact ⟨i + 1, m, swp de i (m + 1), by omega, by omega, by go_num, by go_num, by simp [swp, hde], HN.out, hh9, hO9⟩
   case measure => simp [intOf] <;> omega
  ·rw [revLoop_end i j de hij] at hinn
   have dj : decide ((i : Int) < (j : Int)) = false := by simp only [decide_eq_false_iff_not]; omega
   go_wp2
   refine bodyPost_end (v := .tuple #[]) (by simp [results, Tryz.results141]) rfl ⟨rfl, ?_, hob2⟩
   rw [← hinn]; exact hhu
end Go.Proofs.YtffaahipgabkhaaGreat
end
