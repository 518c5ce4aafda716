/- Joined texts. -/
import Derived.Test.YtffaahipgabkhaaGreatJn0
import Derived.Test.YtffaahipgabkhaaGreatJn26
set_option linter.unusedVariables false
set_option linter.unusedSimpArgs false
set_option maxRecDepth 100000
set_option maxHeartbeats 16000000
section
namespace Go.Proofs.YtffaahipgabkhaaGreat
open Go.RowKit Fg Reg Go.Sort
attribute [local irreducible] Reg.wE Holds
theorem sif_size (hi first r : Nat) (d : Array Int) : (siftDown ltInt hi first r d).size = d.size := by
 induction hn : hi - r using Nat.strongRecOn generalizing r d with
 | _ n ih =>
  rw [siftDown]
  split
  ·rfl
  ·split
   ·split
    ·rfl
    ·split
     ·rw [ih (hi - (2 * r + 2)) (by omega) _ _ rfl, swp_size]
     ·rfl
   ·split
    ·rfl
    ·rw [ih (hi - (2 * r + 1)) (by omega) _ _ rfl, swp_size]
theorem hea_c (blk off cap a b : Nat) (d : Array Int) (w : World) (hH : Holds (Value.int .u64) (w) blk off (d)) (hl : blk < w.heap.size) (hab : a < b) (hb : b ≤ d.size) (hsz : d.size ≤ 100000) :
  Calls Tryz.prog 138 #[.slice (some ⟨blk, off, none⟩) d.size cap, .int .i64 a, .int .i64 b] w fun e w' => e = .returned (.tuple #[]) ∧ Holds (Value.int .u64) (w') blk off (heapSort ltInt d a b) ∧ Only (fun k => k = blk) w w' := by
 obtain ⟨G, rfl⟩ : ∃ G, b = a + (G + 1) := ⟨b - a - 1, by omega⟩
 have hpure : heapSort ltInt d a (a + (G + 1)) = heapPop ltInt a (G + 1) (heapBuild ltInt (G + 1) a (G / 2 + 1) d) := by
  unfold heapSort
  rw [show a + (G + 1) - a = G + 1 by omega, show G + 1 - 1 = G by omega]
 rw [hpure]
 clear hpure
 have HH := Lib.hid hH
 clear hH
 have e1 : (a : Int) + ((G : Int) + 1) - a = (G : Int) + 1 := by omega
 have e2 : (G : Int) + 1 - 1 = G := by omega
 go_enter Tryz.func138, Tryz.ntmps138
 go_wp2_with fail
 go_loopw [9] (fun ii wr => ∃ (k : Nat) (dd : Array Int), k ≤ G / 2 + 1 ∧ ii = .int .i64 ((k : Int) - 1) ∧ dd.size = d.size ∧ heapBuild ltInt (G + 1) a k dd = heapBuild ltInt (G + 1) a (G / 2 + 1) d ∧ Holds (Value.int .u64) (wr) blk off (dd) ∧ Only (fun k => k = blk) w wr) (fun ii _ => (intOf ii + 1).toNat)
 case atStart => exact ⟨G / 2 + 1, d, Nat.le_refl _, by first | rfl | go_num | (congr 1; omega), rfl, rfl, HH.out, Only.refl _ _⟩
 case round =>
  obtain ⟨k, de, hk, rfl, hde, hpr, hhu, hob⟩ := hrel
  have hlz : blk < wr.heap.size := Nat.lt_of_lt_of_le hl hob.size
  cases k with
  | succ K =>
   have ek : ((K + 1 : Nat) : Int) - 1 = K := by omega
   rw [ek]
   have HPR := Lib.hid (show heapBuild ltInt (G + 1) a K (siftDown ltInt (G + 1) a K de) = _ from hpr)
   have K1 := Lib.hid (sif_c blk off cap K (G + 1) a de wr hhu hlz (by omega) (by rw [hde]; omega) (by rw [hde]; exact hsz))
   rw [hde] at K1
   rw [show ((G + 1 : Nat) : Int) = (G : Int) + 1 by omega] at K1
   clear hpr ek hhu
   go_wp2_with (first | go_guarded | (go_at_call 148; (with_reducible refine K1.out.mono ?_); rintro e w10 ⟨rfl, hh10, ho10⟩))
   go_roundw
   case rel => first | exact ⟨K, _, by omega, by first | rfl | go_num | (congr 1; omega), by rw [sif_size]; exact hde, HPR.out, hh10, hob.trans ho10⟩ | ((repeat apply Exists.intro); exact ⟨⟨K, _, by omega, by first | rfl | go_num | (congr 1; omega), by rw [sif_size]; exact hde, HPR.out, hh10, hob.trans ho10⟩, rfl⟩)
   case measure => first | (simp [intOf]; done) | (simp [intOf]; omega)
  | zero =>
   have hd2 : de = heapBuild ltInt (G + 1) a (G / 2 + 1) d := hpr
   have HD2 := Lib.hid hd2
   have HHU := Lib.hid hhu
   clear hpr hd2 hhu hk
   rw [show ((0 : Nat) : Int) - 1 = -1 from rfl]
   go_wp2_with go_guarded
   rename World => wm
   rename Array Int => dm
   have hdmz : dm.size = d.size := hde
   have HDM := Lib.hid (show Holds (Value.int .u64) (wm) blk off (dm) from HHU.out)
   clear HHU hde
   go_loopw [10] (fun ii wr => ∃ (k : Nat) (dd : Array Int), k ≤ G + 1 ∧ ii = .int .i64 ((k : Int) - 1) ∧ dd.size = d.size ∧ heapPop ltInt a k dd = heapPop ltInt a (G + 1) dm ∧ Holds (Value.int .u64) (wr) blk off (dd) ∧ Only (fun k => k = blk) w wr) (fun ii _ => (intOf ii + 1).toNat)
   case atStart => exact ⟨G + 1, dm, Nat.le_refl _, by first | rfl | go_num | (congr 1; omega), hdmz, rfl, HDM.out, hob⟩
   case round =>
    obtain ⟨k, de, hk, rfl, hde, hpr, hhu, hobS⟩ := hrel
    have hlS : blk < wr.heap.size := Nat.lt_of_lt_of_le hl hobS.size
    have HUS := Lib.hid hhu
    cases k with
    | succ K =>
     have ek : ((K + 1 : Nat) : Int) - 1 = K := by omega
     rw [ek]
     have HPR := Lib.hid (show heapPop ltInt a K (siftDown ltInt K a 0 (swp de a (a + K))) = _ from hpr)
     obtain ⟨P, hP⟩ : ∃ P, P = a + K := ⟨_, rfl⟩
     rw [← hP] at HPR
     have hsw := fun z (h : Holds (Value.int .u64) (z) blk off (de)) (hz : blk < z.heap.size) => hu_swx h a P (by omega) (by omega) hz
     have eP : (a : Int) + K = P := by omega
     have wP : IntKind.i64.wrap (P : Int) = P := by rw [IntKind.wrap_i64]; omega
     have l0 : (a : Int) < d.size := by omega
     have l1 : (P : Int) < d.size := by omega
     have m0 : a < d.size := by omega
     have m1 : P < d.size := by omega
     obtain ⟨e0S, z0S⟩ := hu_at hhu a (by omega)
     obtain ⟨e1S, z1S⟩ := hu_at hhu P (by omega)
     have dK : decide ((0 : Int) ≤ K) = true := by simp
     by_cases hK0 : P = a
     ·obtain rfl : K = 0 := by omega
      subst hK0
      clear hpr hhu ek hP eP l1 m1 e0S z0S
      rw [show ((0 : Nat) : Int) = 0 from rfl]
      obtain ⟨yv, hyv⟩ : ∃ yv, yv = de[P]! := ⟨_, rfl⟩
      have e0S : wr.cell? ⟨blk, off + P, none⟩ = some (.int .u64 yv) := by rw [hyv]; exact e1S
      have z0S := z1S
      generalize de[P]! = xv at *
      have HWS := Lib.hid hsw
      clear hsw
      go_wp2_with go_guarded
      obtain ⟨Cl, HCl⟩ := zH (α := List Value → World → Prop) ((fun ps wz => Only (fun k => k = blk) w wz ∧ (match ps with | [] => wz.cell? ⟨blk, off + P, none⟩ = some (.int .u64 xv) ∧ wz.cell? ⟨blk, off + P, none⟩ = some (.int .u64 yv) ∧ wz.frozen? ⟨blk, off + P, none⟩ = false ∧ wz.frozen? ⟨blk, off + P, none⟩ = false ∧ blk < wz.heap.size ∧ Holds (Value.int .u64) (wz) blk off (de) | [_] => ∃ z0 : World, wz = z0.setCell ⟨blk, off + P, none⟩ (.int .u64 xv) ∧ Holds (Value.int .u64) (z0) blk off (de) ∧ blk < z0.heap.size ∧ z0.frozen? ⟨blk, off + P, none⟩ = false ∧ z0.cell? ⟨blk, off + P, none⟩ = some (.int .u64 xv) | _ => Holds (Value.int .u64) (wz) blk off (swp de P P)))); refine wp_region_eff [17, 19] Cl (by kernel_rfl) (by kernel_rfl) (by simp only [HCl.out, zD, zE]; exact ⟨hobS.drew, e1S, e0S, z1S, z0S, hlS, hu_below HUS.out hlS (Below.drew (Below.refl _ _))⟩) ?_
      (repeat ((first | (refine wE_skip (by rfl) ?_) | (refine wE_open (by rfl) (by rfl) ?_; apply Exists.intro; refine ⟨fun vs wq hw => ?_, ?_⟩; (focus (simp only [HCl.out, zD, zE] at hw; go_split_ands; go_simp <;> exact ebb))) | (refine wE_seal (by rfl) (by rfl) (by kernel_rfl) ?_; apply Exists.intro; refine ⟨fun wq hw => ?_, ?_⟩; (focus (simp only [HCl.out, zD, zE] at hw; go_split_ands; go_simp <;> (try go_bits) <;> exact rfl))) | (refine wE_eff (by rfl) (by rfl) (fun wq hw => ?_) (fun u hu => ?_); (focus (simp only [HCl.out, zD, zE] at hw; go_split_ands; go_simp; simp only [HCl.out, zD, zE]; fail; exact kpb)); clear hu)); simp only [Act.put, Nat.reduceAdd, zA, zB, zC, zD, zE])); refine wE_eff (by rfl) (by rfl) (fun wq hw => ?_) (fun u hu => ?_); (focus (simp only [HCl.out, zD, zE] at hw; obtain ⟨hO, g1, g0, k1, k0, hlq, hh⟩ := hw; go_simp; simp only [HCl.out, zD, zE]; refine ⟨hO.setOne _ _ _, wq, rfl, ?_, ?_, ?_, ?_⟩ <;> first | exact hh | exact hlq | exact k1 | exact g1)); clear hu; simp only [Act.put, Nat.reduceAdd, zA, zB, zC, zD, zE]; (repeat ((first | (refine wE_skip (by rfl) ?_) | (refine wE_open (by rfl) (by rfl) ?_; apply Exists.intro; refine ⟨fun vs wq hw => ?_, ?_⟩; (focus (simp only [HCl.out, zD, zE] at hw; go_split_ands; go_simp <;> exact ebb)))); simp only [Act.put, Nat.reduceAdd, zA, zB, zC, zD, zE])); refine wE_eff (by rfl) (by rfl) (fun wq hw => ?_) (fun u hu => ?_); (focus (simp only [HCl.out, zD, zE] at hw; obtain ⟨hO, z0, rfl, hh, hlq, k0, g0⟩ := hw; go_simp; simp only [HCl.out, zD, zE]; exact ⟨hO.setOne _ _ _, HWS.out z0 hh hlq⟩)); clear hu; simp only [Act.put, Nat.reduceAdd, zA, zB, zC, zD, zE]; (repeat ((first | (refine wE_skip (by rfl) ?_) | (refine wE_open (by rfl) (by rfl) ?_; apply Exists.intro; refine ⟨fun vs wq hw => ?_, ?_⟩; (focus (simp only [HCl.out, zD, zE] at hw; go_split_ands; go_simp <;> exact ebb)))); simp only [Act.put, Nat.reduceAdd, zA, zB, zC, zD, zE])); refine wE_nil ?_; intro w9 hw; simp only [HCl.out, zD, zE] at hw; clear HCl; obtain ⟨hO9, hh9⟩ := hw
      have hlz9 : blk < w9.heap.size := Nat.lt_of_lt_of_le hl hO9.size
      have hsz9 : (swp de P P).size = d.size := by rw [swp_size]; exact hde
      have K9 := Lib.hid (sif_c blk off cap 0 0 P (swp de P P) w9 hh9 hlz9 (by omega) (by rw [hsz9]; omega) (by rw [hsz9]; omega))
      rw [hsz9] at K9
      rw [show ((0 : Nat) : Int) = 0 from rfl] at K9
      clear hh9
      go_wp2_with (first | go_guarded | (go_at_call 148; (with_reducible refine K9.out.mono ?_); rintro e w10 ⟨rfl, hh10, ho10⟩))
      go_roundw
      case rel => first | exact ⟨0, _, by omega, by first | rfl | go_num | (congr 1; omega), by rw [sif_size, hsz9], HPR.out, hh10, hO9.trans ho10⟩ | ((repeat apply Exists.intro); exact ⟨⟨0, _, by omega, by first | rfl | go_num | (congr 1; omega), by rw [sif_size, hsz9], HPR.out, hh10, hO9.trans ho10⟩, rfl⟩)
      case measure => first | (simp [intOf]; done) | (simp [intOf]; omega)
     ·have hnn : ¬ off + P = off + a := by omega
      have hne : ¬ off + a = off + P := by omega
      clear hpr hhu ek
      generalize de[a]! = yv at *
      generalize de[P]! = xv at *
      have HWS := Lib.hid hsw
      clear hsw hP
      go_wp2_with go_guarded
      obtain ⟨Cl, HCl⟩ := zH (α := List Value → World → Prop) ((fun ps wz => Only (fun k => k = blk) w wz ∧ (match ps with | [] => wz.cell? ⟨blk, off + P, none⟩ = some (.int .u64 xv) ∧ wz.cell? ⟨blk, off + a, none⟩ = some (.int .u64 yv) ∧ wz.frozen? ⟨blk, off + P, none⟩ = false ∧ wz.frozen? ⟨blk, off + a, none⟩ = false ∧ blk < wz.heap.size ∧ Holds (Value.int .u64) (wz) blk off (de) | [_] => ∃ z0 : World, wz = z0.setCell ⟨blk, off + a, none⟩ (.int .u64 xv) ∧ Holds (Value.int .u64) (z0) blk off (de) ∧ blk < z0.heap.size ∧ z0.frozen? ⟨blk, off + P, none⟩ = false ∧ z0.cell? ⟨blk, off + P, none⟩ = some (.int .u64 xv) | _ => Holds (Value.int .u64) (wz) blk off (swp de a P)))); refine wp_region_eff [17, 19] Cl (by kernel_rfl) (by kernel_rfl) (by simp only [HCl.out, zD, zE]; exact ⟨hobS.drew, e1S, e0S, z1S, z0S, hlS, hu_below HUS.out hlS (Below.drew (Below.refl _ _))⟩) ?_
      (repeat ((first | (refine wE_skip (by rfl) ?_) | (refine wE_open (by rfl) (by rfl) ?_; apply Exists.intro; refine ⟨fun vs wq hw => ?_, ?_⟩; (focus (simp only [HCl.out, zD, zE] at hw; go_split_ands; go_simp <;> exact ebb))) | (refine wE_seal (by rfl) (by rfl) (by kernel_rfl) ?_; apply Exists.intro; refine ⟨fun wq hw => ?_, ?_⟩; (focus (simp only [HCl.out, zD, zE] at hw; go_split_ands; go_simp <;> (try go_bits) <;> exact rfl))) | (refine wE_eff (by rfl) (by rfl) (fun wq hw => ?_) (fun u hu => ?_); (focus (simp only [HCl.out, zD, zE] at hw; go_split_ands; go_simp; simp only [HCl.out, zD, zE]; fail; exact kpb)); clear hu)); simp only [Act.put, Nat.reduceAdd, zA, zB, zC, zD, zE])); refine wE_eff (by rfl) (by rfl) (fun wq hw => ?_) (fun u hu => ?_); (focus (simp only [HCl.out, zD, zE] at hw; obtain ⟨hO, g1, g0, k1, k0, hlq, hh⟩ := hw; go_simp; simp only [HCl.out, zD, zE]; refine ⟨hO.setOne _ _ _, wq, rfl, ?_, ?_, ?_, ?_⟩ <;> first | exact hh | exact hlq | exact k1 | exact g1)); clear hu; simp only [Act.put, Nat.reduceAdd, zA, zB, zC, zD, zE]; (repeat ((first | (refine wE_skip (by rfl) ?_) | (refine wE_open (by rfl) (by rfl) ?_; apply Exists.intro; refine ⟨fun vs wq hw => ?_, ?_⟩; (focus (simp only [HCl.out, zD, zE] at hw; go_split_ands; go_simp <;> exact ebb)))); simp only [Act.put, Nat.reduceAdd, zA, zB, zC, zD, zE])); refine wE_eff (by rfl) (by rfl) (fun wq hw => ?_) (fun u hu => ?_); (focus (simp only [HCl.out, zD, zE] at hw; obtain ⟨hO, z0, rfl, hh, hlq, k0, g0⟩ := hw; go_simp; simp only [HCl.out, zD, zE]; exact ⟨hO.setOne _ _ _, HWS.out z0 hh hlq⟩)); clear hu; simp only [Act.put, Nat.reduceAdd, zA, zB, zC, zD, zE]; (repeat ((first | (refine wE_skip (by rfl) ?_) | (refine wE_open (by rfl) (by rfl) ?_; apply Exists.intro; refine ⟨fun vs wq hw => ?_, ?_⟩; (focus (simp only [HCl.out, zD, zE] at hw; go_split_ands; go_simp <;> exact ebb)))); simp only [Act.put, Nat.reduceAdd, zA, zB, zC, zD, zE])); refine wE_nil ?_; intro w9 hw; simp only [HCl.out, zD, zE] at hw; clear HCl; obtain ⟨hO9, hh9⟩ := hw
      have hlz9 : blk < w9.heap.size := Nat.lt_of_lt_of_le hl hO9.size
      have hsz9 : (swp de a P).size = d.size := by rw [swp_size]; exact hde
      have K9 := Lib.hid (sif_c blk off cap 0 K a (swp de a P) w9 hh9 hlz9 (by omega) (by rw [hsz9]; omega) (by rw [hsz9]; omega))
      rw [hsz9] at K9
      rw [show ((0 : Nat) : Int) = 0 from rfl] at K9
      clear hh9
      go_wp2_with (first | go_guarded | (go_at_call 148; (with_reducible refine K9.out.mono ?_); rintro e w10 ⟨rfl, hh10, ho10⟩))
      go_roundw
      case rel => first | exact ⟨K, _, by omega, by first | rfl | go_num | (congr 1; omega), by rw [sif_size, hsz9], HPR.out, hh10, hO9.trans ho10⟩ | ((repeat apply Exists.intro); exact ⟨⟨K, _, by omega, by first | rfl | go_num | (congr 1; omega), by rw [sif_size, hsz9], HPR.out, hh10, hO9.trans ho10⟩, rfl⟩)
      case measure => first | (simp [intOf]; done) | (simp [intOf]; omega)
    | zero =>
     have hd2 : de = heapPop ltInt a (G + 1) dm := hpr
     rw [show ((0 : Nat) : Int) - 1 = -1 from rfl]
     clear hpr
     go_wp2_with go_guarded
     refine bodyPost_end (v := .tuple #[]) (by simp [results, Tryz.results138]) rfl ⟨rfl, ?_, hobS⟩
     rw [← HD2.out, ← hd2]
     exact HUS.out
end Go.Proofs.YtffaahipgabkhaaGreat
end
section
namespace Go.Proofs.YtffaahipgabkhaaGreat
open Go.RowKit Fg Reg Go.Sort
attribute [local irreducible] Reg.wE Holds
theorem su_go (p : Int → Bool) (d : Array Int) (j i : Nat) (h : i ≤ j) (hp : p d[i]! = true) : scanUp p d j i = scanUp p d j (i + 1) := by
 rw [scanUp, if_pos (by simp [h, hp])]
theorem su_stop (p : Int → Bool) (d : Array Int) (j i : Nat) (h : j < i ∨ p d[i]! = false) : scanUp p d j i = i := by
 rw [scanUp, if_neg (by rcases h with h | h <;> simp [h]; omega)]
theorem sd_go (p : Int → Bool) (d : Array Int) (i j : Nat) (h : i ≤ j + 1) (hp : p d[j + 1]! = true) : scanDown p d i (j + 1) = scanDown p d i j := by
 rw [scanDown, if_pos (by simp [h, hp])]
theorem sd_stop (p : Int → Bool) (d : Array Int) (i j : Nat) (h : j < i ∨ p d[j]! = false) : scanDown p d i j = j := by
 cases j with
 | zero => rfl
 | succ j => rw [scanDown, if_neg (by rcases h with h | h <;> simp [h]; omega)]
theorem pel_end (a i j i2 j2 : Nat) (d : Array Int) (h1 : scanUp (fun x => !ltInt d[a]! x) d j i = i2) (h2 : scanDown (fun x => ltInt d[a]! x) d i2 j = j2) (h : i2 > j2) : partEqLoop ltInt a i j d = (i2, d) := by
 rw [partEqLoop]
 simp only [h1, h2, if_pos h]
theorem pel_go (a i j i2 j2 : Nat) (d : Array Int) (h1 : scanUp (fun x => !ltInt d[a]! x) d j i = i2) (h2 : scanDown (fun x => ltInt d[a]! x) d i2 j = j2) (h : ¬ i2 > j2) (g1 : i ≤ i2) (g2 : j2 ≤ j) (g3 : 1 ≤ i) : partEqLoop ltInt a i j d = partEqLoop ltInt a (i2 + 1) (j2 - 1) (swp d i2 j2) := by
 rw [partEqLoop]
 simp only [h1, h2, if_neg h]
 rw [dif_pos (by omega)]
end Go.Proofs.YtffaahipgabkhaaGreat
end
