/- Joined texts. -/
import Derived.Test.YtffaahipgabkhaaGreatJn0
import Derived.Test.YtffaahipgabkhaaGreatJn29
set_option linter.unusedVariables false
set_option linter.unusedSimpArgs false
set_option maxRecDepth 100000
set_option maxHeartbeats 16000000
section
namespace Go.Proofs.YtffaahipgabkhaaGreat
open Go.RowKit Fg Reg Go.Sort
attribute [local irreducible] Reg.wE Holds
theorem par_c (blk off cap a b pv : Nat) (d : Array Int) (w : World) (hH : Holds (Value.int .u64) (w) blk off (d)) (hl : blk < w.heap.size) (hab : a < b) (hb : b ≤ d.size) (hp : pv < d.size) (hsz : d.size ≤ 100000) :
  Calls Tryz.prog 145 #[.slice (some ⟨blk, off, none⟩) d.size cap, .int .i64 a, .int .i64 b, .int .i64 pv] w fun e w' => e = .returned (.tuple #[.int .i64 ((partition ltInt d a b pv).1 : Nat), .bool (partition ltInt d a b pv).2.1]) ∧ Holds (Value.int .u64) (w') blk off ((partition ltInt d a b pv).2.2) ∧ Only (fun k => k = blk) w w' := by
 obtain ⟨B, rfl⟩ : ∃ B, b = B + 1 := ⟨b - 1, by omega⟩
 have HUS := Lib.hid hH
 obtain ⟨e0S, z0S⟩ := hu_at hH a (by omega)
 obtain ⟨e1S, z1S⟩ := hu_at hH pv hp
 have HWS := Lib.hid (fun z (h : Holds (Value.int .u64) (z) blk off (d)) (hz : blk < z.heap.size) => hu_swx h a pv (by omega) hp hz)
 have hobS : Only (fun k => k = blk) w w := Only.refl _ _
 have hlS := hl
 have eB : (B : Int) + 1 - 1 = B := by omega
 have l0 : (a : Int) < d.size := by omega
 have lp : (pv : Int) < d.size := by omega
 have m0 : a < d.size := by omega
 clear hH
 have HS9 := Lib.hid (swp_size d a pv)
 generalize hY : d[a]! = yv at *
 generalize hX : d[pv]! = xv at *
 clear hX hY
 go_enter Tryz.func145, Tryz.ntmps145
 go_wp2_with go_guarded
 obtain ⟨Cl, HCl⟩ := zH (α := List Value → World → Prop) ((fun ps wz => Only (fun k => k = blk) w wz ∧ (match ps with | [] => wz.cell? ⟨blk, off + pv, none⟩ = some (.int .u64 xv) ∧ wz.cell? ⟨blk, off + a, none⟩ = some (.int .u64 yv) ∧ wz.frozen? ⟨blk, off + pv, none⟩ = false ∧ wz.frozen? ⟨blk, off + a, none⟩ = false ∧ blk < wz.heap.size ∧ Holds (Value.int .u64) (wz) blk off (d) | [_] => ∃ z0 : World, wz = z0.setCell ⟨blk, off + a, none⟩ (.int .u64 xv) ∧ Holds (Value.int .u64) (z0) blk off (d) ∧ blk < z0.heap.size ∧ z0.frozen? ⟨blk, off + pv, none⟩ = false ∧ z0.cell? ⟨blk, off + pv, none⟩ = some (.int .u64 xv) | _ => Holds (Value.int .u64) (wz) blk off (swp d a pv)))); refine wp_region_eff [13, 15] Cl (by kernel_rfl) (by kernel_rfl) (by simp only [HCl.out, zD, zE]; exact ⟨hobS.drew, e1S, e0S, z1S, z0S, hlS, hu_below HUS.out hlS (Below.drew (Below.refl _ _))⟩) ?_
 (repeat ((first | (refine wE_skip (by rfl) ?_) | (refine wE_open (by rfl) (by rfl) ?_; apply Exists.intro; refine ⟨fun vs wq hw => ?_, ?_⟩; (focus (simp only [HCl.out, zD, zE] at hw; go_split_ands; go_simp <;> exact ebb))) | (refine wE_seal (by rfl) (by rfl) (by kernel_rfl) ?_; apply Exists.intro; refine ⟨fun wq hw => ?_, ?_⟩; (focus (simp only [HCl.out, zD, zE] at hw; go_split_ands; go_simp <;> (try go_bits) <;> exact rfl))) | (refine wE_eff (by rfl) (by rfl) (fun wq hw => ?_) (fun u hu => ?_); (focus (simp only [HCl.out, zD, zE] at hw; go_split_ands; go_simp; simp only [HCl.out, zD, zE]; fail; exact kpb)); clear hu)); simp only [Act.put, Nat.reduceAdd, zA, zB, zC, zD, zE])); refine wE_eff (by rfl) (by rfl) (fun wq hw => ?_) (fun u hu => ?_); (focus (simp only [HCl.out, zD, zE] at hw; obtain ⟨hO, g1, g0, k1, k0, hlq, hh⟩ := hw; go_simp; simp only [HCl.out, zD, zE]; refine ⟨hO.setOne _ _ _, wq, rfl, ?_, ?_, ?_, ?_⟩ <;> first | exact hh | exact hlq | exact k1 | exact g1)); clear hu; simp only [Act.put, Nat.reduceAdd, zA, zB, zC, zD, zE]; (repeat ((first | (refine wE_skip (by rfl) ?_) | (refine wE_open (by rfl) (by rfl) ?_; apply Exists.intro; refine ⟨fun vs wq hw => ?_, ?_⟩; (focus (simp only [HCl.out, zD, zE] at hw; go_split_ands; go_simp <;> exact ebb)))); simp only [Act.put, Nat.reduceAdd, zA, zB, zC, zD, zE])); refine wE_eff (by rfl) (by rfl) (fun wq hw => ?_) (fun u hu => ?_); (focus (simp only [HCl.out, zD, zE] at hw; obtain ⟨hO, z0, rfl, hh, hlq, k0, g0⟩ := hw; have hcy := cell_sw (x := off + a) (y := off + pv) g0; go_simp; simp only [HCl.out, zD, zE]; exact ⟨hO.setOne _ _ _, HWS.out z0 hh hlq⟩)); clear hu; simp only [Act.put, Nat.reduceAdd, zA, zB, zC, zD, zE]; (repeat ((first | (refine wE_skip (by rfl) ?_) | (refine wE_open (by rfl) (by rfl) ?_; apply Exists.intro; refine ⟨fun vs wq hw => ?_, ?_⟩; (focus (simp only [HCl.out, zD, zE] at hw; go_split_ands; go_simp <;> exact ebb)))); simp only [Act.put, Nat.reduceAdd, zA, zB, zC, zD, zE])); refine wE_nil ?_; intro w9 hw; simp only [HCl.out, zD, zE] at hw; clear HCl; obtain ⟨hO9, hh9⟩ := hw
 have hde0 : (swp d a pv).size = d.size := HS9.out
 generalize hdse : swp d a pv = de at *
 have HDSE := Lib.hid hdse
 clear hdse
 have hde : de.size = d.size := hde0
 have HDE := Lib.hid hh9
 clear e0S e1S z0S z1S HWS HUS hobS hlS hh9
 rename World => wo
 have hob : Only (fun k => k = blk) w wo := hO9
 have hlo : blk < wo.heap.size := Nat.lt_of_lt_of_le hl hob.size
 obtain ⟨xa, hxa⟩ : ∃ xa, de[a]! = xa := ⟨_, rfl⟩
 have HXA := Lib.hid hxa
 clear hxa
 obtain ⟨i, hie⟩ : ∃ i, i = a + 1 := ⟨_, rfl⟩
 obtain ⟨j, hje⟩ : ∃ j, j = B := ⟨_, rfl⟩
 have hij : i ≤ j + 2 := by omega
 have eI : (a : Int) + 1 = i := by omega
 have eI2 : IntKind.i64.wrap (i : Int) = i := by rw [IntKind.wrap_i64]; omega
 have hai : a + 1 ≤ i := by omega
 have hjB : j ≤ B := by omega
 have HIE := Lib.hid hie
 have HJE := Lib.hid hje
 subst hje
 clear hie
 go_wp2_with go_guarded
 go_loopw [10] (fun ii wq => ∃ i' : Nat, i ≤ i' ∧ i' ≤ j + 2 ∧ ii = .int .i64 i' ∧ scanUp (fun x => ltInt x xa) de j i' = scanUp (fun x => ltInt x xa) de j i ∧ wo.heap.size ≤ wq.heap.size ∧ Below wo.heap.size wo wq) (fun ii _ => j + 1 - (intOf ii).toNat)
 case atStart => exact ⟨i, Nat.le_refl _, hij, rfl, rfl, Nat.le_refl _, Below.refl _ _⟩
 case round =>
  obtain ⟨i', hi1, hi2, rfl, hsc, hszi, hBi⟩ := hrel
  have hlz : blk < wr.heap.size := Nat.lt_of_lt_of_le hlo hBi.size
  have hhu2 := hu_below HDE.out hlo hBi
  by_cases hle : i' ≤ j
  ·have d1' : decide ((i' : Int) ≤ j) = true := by simp; omega
   have d2' : decide (i' ≤ j) = true := by simpa using hle
   have m1 : i' < d.size := by omega
   have l1 : (i' : Int) < d.size := by omega
   obtain ⟨g0, -⟩ := hu_at hhu2 a (by omega)
   rw [HXA.out] at g0
   obtain ⟨g1, -⟩ := hu_at hhu2 i' (by omega)
   have klr := fun z => les_c de[i']! xa z
   clear hhu2
   cases hlt : decide (de[i']! < xa) with
   | true =>
    have HS1 := Lib.hid ((su_go (fun x => ltInt x xa) de j i' hle hlt).symm.trans hsc)
    rw [hlt] at klr
    have KL := Lib.hid klr
    clear klr hsc hlt
    generalize de[i']! = xb at *
    go_wp2_with go_guarded
    obtain ⟨Cl, HCl⟩ := zH (α := List Value → World → Prop) ((fun ps wz => wz.cell? ⟨blk, off + a, none⟩ = some (.int .u64 xa) ∧ wz.cell? ⟨blk, off + i', none⟩ = some (.int .u64 xb) ∧ blk < wz.heap.size ∧ wr.heap.size ≤ wz.heap.size ∧ Below wr.heap.size wr wz)); refine wp_region_eff [] Cl (by kernel_rfl) (by kernel_rfl) (by simp only [HCl.out, zD, zE]; exact kpb) ?_; (repeat ((first | (refine wE_skip (by rfl) ?_) | (refine wE_open (by rfl) (by rfl) ?_; apply Exists.intro; refine ⟨fun vs wq hw => ?_, ?_⟩; (focus (simp only [HCl.out, zD, zE] at hw; go_split_ands; go_simp <;> exact ebb))) | (refine wE_seal (by rfl) (by rfl) (by kernel_rfl) ?_; apply Exists.intro; refine ⟨fun wq hw => ?_, ?_⟩; (focus (simp only [HCl.out, zD, zE] at hw; go_split_ands; go_simp <;> (try go_bits) <;> exact rfl))) | (refine wE_seal (by rfl) (by rfl) (by kernel_rfl) ?_; apply Exists.intro; refine ⟨fun wq hw => ?_, ?_⟩; (focus (simp only [HCl.out, zD, zE] at hw; go_split_ands; go_simp; (go_at_call 143; ((with_reducible refine (KL.out _).mono ?_); rintro e w' ⟨rfl, hbel⟩; obtain ⟨hcc, hff⟩ := bcell hbel; have hsz := hbel.size; (try simp at hsz); refine ⟨rfl, ?_⟩; simp only [HCl.out, zD, zE]; exact kpb)))))); simp only [Act.put, Nat.reduceAdd, zA, zB, zC, zD, zE])); refine wE_nil ?_; intro w' hw; simp only [HCl.out, zD, zE] at hw; clear HCl; go_split_ands
    have hB3 := hBi.trans (Below.mono (show Below wr.heap.size wr _ by assumption) hBi.size)
    go_wp2_with go_guarded
    go_roundw
    case rel => exact ⟨i' + 1, by omega, by omega, by go_num, HS1.out, hB3.size, hB3⟩
    case measure => first | (simp [intOf]; done) | (simp [intOf]; omega)
   | false =>
    have hs1 : scanUp (fun x => ltInt x xa) de j i = i' := hsc.symm.trans (su_stop (fun x => ltInt x xa) de j i' (.inr hlt))
    rw [hlt] at klr
    have KL := Lib.hid klr
    clear klr hsc hlt
    generalize de[i']! = xb at g1 KL
    go_wp2_with go_guarded
    obtain ⟨Cl, HCl⟩ := zH (α := List Value → World → Prop) ((fun ps wz => wz.cell? ⟨blk, off + a, none⟩ = some (.int .u64 xa) ∧ wz.cell? ⟨blk, off + i', none⟩ = some (.int .u64 xb) ∧ blk < wz.heap.size ∧ wr.heap.size ≤ wz.heap.size ∧ Below wr.heap.size wr wz)); refine wp_region_eff [] Cl (by kernel_rfl) (by kernel_rfl) (by simp only [HCl.out, zD, zE]; exact kpb) ?_; (repeat ((first | (refine wE_skip (by rfl) ?_) | (refine wE_open (by rfl) (by rfl) ?_; apply Exists.intro; refine ⟨fun vs wq hw => ?_, ?_⟩; (focus (simp only [HCl.out, zD, zE] at hw; go_split_ands; go_simp <;> exact ebb))) | (refine wE_seal (by rfl) (by rfl) (by kernel_rfl) ?_; apply Exists.intro; refine ⟨fun wq hw => ?_, ?_⟩; (focus (simp only [HCl.out, zD, zE] at hw; go_split_ands; go_simp <;> (try go_bits) <;> exact rfl))) | (refine wE_seal (by rfl) (by rfl) (by kernel_rfl) ?_; apply Exists.intro; refine ⟨fun wq hw => ?_, ?_⟩; (focus (simp only [HCl.out, zD, zE] at hw; go_split_ands; go_simp; (go_at_call 143; ((with_reducible refine (KL.out _).mono ?_); rintro e w' ⟨rfl, hbel⟩; obtain ⟨hcc, hff⟩ := bcell hbel; have hsz := hbel.size; (try simp at hsz); refine ⟨rfl, ?_⟩; simp only [HCl.out, zD, zE]; exact kpb)))))); simp only [Act.put, Nat.reduceAdd, zA, zB, zC, zD, zE])); refine wE_nil ?_; intro w' hw; simp only [HCl.out, zD, zE] at hw; clear HCl; go_split_ands
    have hBq : Below wo.heap.size wo _ := hBi.trans (Below.mono (show Below wr.heap.size wr _ by assumption) hBi.size)
    obtain ⟨i2, hi2e⟩ : ∃ i2, i2 = i' := ⟨_, rfl⟩
    subst hi2e
    clear g0 g1
    go_wp2_with go_guarded
    rename World => wp
    have hBp : Below wo.heap.size wo wp := by assumption
    go_loopw [11] (fun jj wq => ∃ j' : Nat, (i2 ≤ j' + 1 ∨ j' = j) ∧ j' ≤ j ∧ jj = .int .i64 j' ∧ scanDown (fun x => !ltInt x xa) de i2 j' = scanDown (fun x => !ltInt x xa) de i2 j ∧ wo.heap.size ≤ wq.heap.size ∧ Below wo.heap.size wo wq) (fun jj _ => (intOf jj).toNat)
    case atStart => exact ⟨j, .inr rfl, Nat.le_refl _, rfl, rfl, hBp.size, hBp⟩
    case round =>
     obtain ⟨j', hj1, hj2, rfl, hsc2, hsz2, hB2⟩ := hrel
     have hlz : blk < wr.heap.size := Nat.lt_of_lt_of_le hlo hB2.size
     have hhu2 := hu_below HDE.out hlo hB2
     by_cases hle2 : i2 ≤ j'
     ·obtain ⟨J, rfl⟩ : ∃ J, j' = J + 1 := ⟨j' - 1, by omega⟩
      have d1 : decide ((i2 : Int) ≤ (J : Int) + 1) = true := by simp; omega
      have d2 : decide (i2 ≤ J + 1) = true := by simpa using hle2
      have eJ : (J : Int) + 1 - 1 = J := by omega
      have m1 : J + 1 < d.size := by omega
      have l1 : (J : Int) + 1 < d.size := by omega
      have tj : ((J : Int) + 1).toNat = J + 1 := by omega
      have ljp : (0 : Int) ≤ (J : Int) + 1 := by omega
      obtain ⟨g0, -⟩ := hu_at hhu2 a (by omega)
      rw [HXA.out] at g0
      obtain ⟨g1, -⟩ := hu_at hhu2 (J + 1) (by omega)
      have klr := fun z => les_c de[J + 1]! xa z
      cases hlt2 : decide (de[J + 1]! < xa) with
      | false =>
       have HS2 := Lib.hid ((sd_go (fun x => !ltInt x xa) de i2 J hle2 (by show (!ltInt de[J + 1]! xa) = true; unfold ltInt; rw [hlt2]; rfl)).symm.trans hsc2)
       rw [hlt2] at klr
       have KL := Lib.hid klr
       clear klr hsc2 hlt2
       generalize de[J + 1]! = xc at *
       go_wp2_with go_guarded
       obtain ⟨Cl, HCl⟩ := zH (α := List Value → World → Prop) ((fun ps wz => wz.cell? ⟨blk, off + a, none⟩ = some (.int .u64 xa) ∧ wz.cell? ⟨blk, off + (J + 1), none⟩ = some (.int .u64 xc) ∧ blk < wz.heap.size ∧ wr.heap.size ≤ wz.heap.size ∧ Below wr.heap.size wr wz)); refine wp_region_eff [] Cl (by kernel_rfl) (by kernel_rfl) (by simp only [HCl.out, zD, zE]; exact kpb) ?_; (repeat ((first | (refine wE_skip (by rfl) ?_) | (refine wE_open (by rfl) (by rfl) ?_; apply Exists.intro; refine ⟨fun vs wq hw => ?_, ?_⟩; (focus (simp only [HCl.out, zD, zE] at hw; go_split_ands; go_simp <;> exact ebb))) | (refine wE_seal (by rfl) (by rfl) (by kernel_rfl) ?_; apply Exists.intro; refine ⟨fun wq hw => ?_, ?_⟩; (focus (simp only [HCl.out, zD, zE] at hw; go_split_ands; go_simp <;> (try go_bits) <;> exact rfl))) | (refine wE_seal (by rfl) (by rfl) (by kernel_rfl) ?_; apply Exists.intro; refine ⟨fun wq hw => ?_, ?_⟩; (focus (simp only [HCl.out, zD, zE] at hw; go_split_ands; go_simp; (go_at_call 143; ((with_reducible refine (KL.out _).mono ?_); rintro e w' ⟨rfl, hbel⟩; obtain ⟨hcc, hff⟩ := bcell hbel; have hsz := hbel.size; (try simp at hsz); refine ⟨rfl, ?_⟩; simp only [HCl.out, zD, zE]; exact kpb)))))); simp only [Act.put, Nat.reduceAdd, zA, zB, zC, zD, zE])); refine wE_nil ?_; intro w' hw; simp only [HCl.out, zD, zE] at hw; clear HCl; go_split_ands
       have hB3 := hB2.trans (Below.mono (show Below wr.heap.size wr _ by assumption) hB2.size)
       go_wp2_with go_guarded
       go_roundw
       case rel => exact ⟨J, by omega, by omega, by go_num, HS2.out, hB3.size, hB3⟩
       case measure => first | (simp [intOf]; done) | (simp [intOf]; omega)
      | true =>
       have hs2 : scanDown (fun x => !ltInt x xa) de i2 j = J + 1 := hsc2.symm.trans (sd_stop (fun x => !ltInt x xa) de i2 (J + 1) (.inr (by show (!ltInt de[J + 1]! xa) = false; unfold ltInt; rw [hlt2]; rfl)))
       have d3 : decide ((J : Int) + 1 < i2) = false := by simp; omega
       have d4 : decide (J + 1 < i2) = false := by simp; omega
       have m2 : i2 < d.size := by omega
       have l2 : (i2 : Int) < d.size := by omega
       rw [hlt2] at klr
       have HD2 := Lib.hid hhu2
       generalize hxc : de[J + 1]! = xc at g1 klr
       have KL := Lib.hid klr
       clear klr hsc2 hlt2 hhu2 hxc
       have HGO := Lib.hid (And.intro hs1 hs2)
       go_wp2_with go_guarded
       obtain ⟨Cl, HCl⟩ := zH (α := List Value → World → Prop) ((fun ps wz => wz.cell? ⟨blk, off + a, none⟩ = some (.int .u64 xa) ∧ wz.cell? ⟨blk, off + (J + 1), none⟩ = some (.int .u64 xc) ∧ blk < wz.heap.size ∧ wr.heap.size ≤ wz.heap.size ∧ Below wr.heap.size wr wz)); refine wp_region_eff [] Cl (by kernel_rfl) (by kernel_rfl) (by simp only [HCl.out, zD, zE]; exact kpb) ?_; (repeat ((first | (refine wE_skip (by rfl) ?_) | (refine wE_open (by rfl) (by rfl) ?_; apply Exists.intro; refine ⟨fun vs wq hw => ?_, ?_⟩; (focus (simp only [HCl.out, zD, zE] at hw; go_split_ands; go_simp <;> exact ebb))) | (refine wE_seal (by rfl) (by rfl) (by kernel_rfl) ?_; apply Exists.intro; refine ⟨fun wq hw => ?_, ?_⟩; (focus (simp only [HCl.out, zD, zE] at hw; go_split_ands; go_simp <;> (try go_bits) <;> exact rfl))) | (refine wE_seal (by rfl) (by rfl) (by kernel_rfl) ?_; apply Exists.intro; refine ⟨fun wq hw => ?_, ?_⟩; (focus (simp only [HCl.out, zD, zE] at hw; go_split_ands; go_simp; (go_at_call 143; ((with_reducible refine (KL.out _).mono ?_); rintro e w' ⟨rfl, hbel⟩; obtain ⟨hcc, hff⟩ := bcell hbel; have hsz := hbel.size; (try simp at hsz); refine ⟨rfl, ?_⟩; simp only [HCl.out, zD, zE]; exact kpb)))))); simp only [Act.put, Nat.reduceAdd, zA, zB, zC, zD, zE])); refine wE_nil ?_; intro w' hw; simp only [HCl.out, zD, zE] at hw; clear HCl; go_split_ands
       clear g0 g1
       rename World => wx
       have hBx : Below wr.heap.size wr wx := by assumption
       have HUS := Lib.hid (hu_below HD2.out hlz hBx)
       have hlS : blk < wx.heap.size := Nat.lt_of_lt_of_le hlz hBx.size
       have hobS := hob.trans (Only.of_below (S := fun k => k = blk) (hB2.trans (Below.mono hBx hB2.size)))
       obtain ⟨yv, hyv⟩ : ∃ yv, de[i2]! = yv := ⟨_, rfl⟩
       obtain ⟨xv, hxv⟩ : ∃ xv, de[(J + 1)]! = xv := ⟨_, rfl⟩
       have hsw := fun z (h : Holds (Value.int .u64) (z) blk off (de)) (hz : blk < z.heap.size) => hu_swx h i2 (J + 1) (by omega) (by omega) hz
       simp only [hyv, hxv] at hsw
       obtain ⟨e0S, z0S⟩ := hu_at HUS.out i2 (by omega)
       obtain ⟨e1S, z1S⟩ := hu_at HUS.out (J + 1) (by omega)
       rw [hyv] at e0S
       rw [hxv] at e1S
       have HWS := Lib.hid hsw
       clear hsw hyv hxv
       go_wp2_with go_guarded
       obtain ⟨Cl, HCl⟩ := zH (α := List Value → World → Prop) ((fun ps wz => Only (fun k => k = blk) w wz ∧ (match ps with | [] => wz.cell? ⟨blk, off + (J + 1), none⟩ = some (.int .u64 xv) ∧ wz.cell? ⟨blk, off + i2, none⟩ = some (.int .u64 yv) ∧ wz.frozen? ⟨blk, off + (J + 1), none⟩ = false ∧ wz.frozen? ⟨blk, off + i2, none⟩ = false ∧ blk < wz.heap.size ∧ Holds (Value.int .u64) (wz) blk off (de) | [_] => ∃ z0 : World, wz = z0.setCell ⟨blk, off + i2, none⟩ (.int .u64 xv) ∧ Holds (Value.int .u64) (z0) blk off (de) ∧ blk < z0.heap.size ∧ z0.frozen? ⟨blk, off + (J + 1), none⟩ = false ∧ z0.cell? ⟨blk, off + (J + 1), none⟩ = some (.int .u64 xv) | _ => Holds (Value.int .u64) (wz) blk off (swp de i2 (J + 1))))); refine wp_region_eff [13, 15] Cl (by kernel_rfl) (by kernel_rfl) (by simp only [HCl.out, zD, zE]; exact ⟨hobS.drew, e1S, e0S, z1S, z0S, hlS, hu_below HUS.out hlS (Below.drew (Below.refl _ _))⟩) ?_
       (repeat ((first | (refine wE_skip (by rfl) ?_) | (refine wE_open (by rfl) (by rfl) ?_; apply Exists.intro; refine ⟨fun vs wq hw => ?_, ?_⟩; (focus (simp only [HCl.out, zD, zE] at hw; go_split_ands; go_simp <;> exact ebb))) | (refine wE_seal (by rfl) (by rfl) (by kernel_rfl) ?_; apply Exists.intro; refine ⟨fun wq hw => ?_, ?_⟩; (focus (simp only [HCl.out, zD, zE] at hw; go_split_ands; go_simp <;> (try go_bits) <;> exact rfl))) | (refine wE_eff (by rfl) (by rfl) (fun wq hw => ?_) (fun u hu => ?_); (focus (simp only [HCl.out, zD, zE] at hw; go_split_ands; go_simp; simp only [HCl.out, zD, zE]; fail; exact kpb)); clear hu)); simp only [Act.put, Nat.reduceAdd, zA, zB, zC, zD, zE])); refine wE_eff (by rfl) (by rfl) (fun wq hw => ?_) (fun u hu => ?_); (focus (simp only [HCl.out, zD, zE] at hw; obtain ⟨hO, g1, g0, k1, k0, hlq, hh⟩ := hw; go_simp; simp only [HCl.out, zD, zE]; refine ⟨hO.setOne _ _ _, wq, rfl, ?_, ?_, ?_, ?_⟩ <;> first | exact hh | exact hlq | exact k1 | exact g1)); clear hu; simp only [Act.put, Nat.reduceAdd, zA, zB, zC, zD, zE]; (repeat ((first | (refine wE_skip (by rfl) ?_) | (refine wE_open (by rfl) (by rfl) ?_; apply Exists.intro; refine ⟨fun vs wq hw => ?_, ?_⟩; (focus (simp only [HCl.out, zD, zE] at hw; go_split_ands; go_simp <;> exact ebb)))); simp only [Act.put, Nat.reduceAdd, zA, zB, zC, zD, zE])); refine wE_eff (by rfl) (by rfl) (fun wq hw => ?_) (fun u hu => ?_); (focus (simp only [HCl.out, zD, zE] at hw; obtain ⟨hO, z0, rfl, hh, hlq, k0, g0⟩ := hw; have hcy := cell_sw (x := off + i2) (y := off + (J + 1)) g0; go_simp; simp only [HCl.out, zD, zE]; exact ⟨hO.setOne _ _ _, HWS.out z0 hh hlq⟩)); clear hu; simp only [Act.put, Nat.reduceAdd, zA, zB, zC, zD, zE]; (repeat ((first | (refine wE_skip (by rfl) ?_) | (refine wE_open (by rfl) (by rfl) ?_; apply Exists.intro; refine ⟨fun vs wq hw => ?_, ?_⟩; (focus (simp only [HCl.out, zD, zE] at hw; go_split_ands; go_simp <;> exact ebb)))); simp only [Act.put, Nat.reduceAdd, zA, zB, zC, zD, zE])); refine wE_nil ?_; intro w9 hw; simp only [HCl.out, zD, zE] at hw; clear HCl; obtain ⟨hO9, hh9⟩ := hw
       clear e0S e1S z0S z1S HWS
       have hp9 := par_go d a j pv i2 (J + 1) xa (by rw [HDSE.out]; exact HXA.out) (by rw [HDSE.out, ← HIE.out]; exact HGO.out.1) (by rw [HDSE.out]; exact HGO.out.2) (by omega)
       rw [HDSE.out, show J + 1 - 1 = J from rfl] at hp9
       generalize hR : partLoop ltInt a (i2 + 1) J (swp de i2 (J + 1)) = R at hp9
       have HP := Lib.hid hp9
       have HR := Lib.hid hR
       have hsz9 : (swp de i2 (J + 1)).size = d.size := by rw [swp_size]; exact hde
       have HH9 := Lib.hid hh9
       clear hp9 hR hh9
       go_wp2_with go_guarded
       go_loopw [10, 11] (fun ii jj wq => ∃ (i3 j3 : Nat) (dd : Array Int), a + 1 ≤ i3 ∧ i3 ≤ j3 + 2 ∧ j3 ≤ j ∧ ii = .int .i64 i3 ∧ jj = .int .i64 j3 ∧ dd.size = d.size ∧ partLoop ltInt a i3 j3 dd = R ∧ Holds (Value.int .u64) (wq) blk off (dd) ∧ Only (fun k => k = blk) w wq) (fun ii jj _ => (intOf jj + 1 - intOf ii).toNat)
       case atStart => exact ⟨i2 + 1, J, swp de i2 (J + 1), by omega, by omega, by omega, by first | rfl | go_num, by first | rfl | go_num, hsz9, HR.out, HH9.out, hO9⟩
       case round =>
        clear hde hob HDE HXA hij hai HGO hlo HH9 hO9 HR hsz9
        obtain ⟨i, j, de, hai, hij, hjB2, rfl, rfl, hde, hpr, hhu, hob⟩ := hrel
        rename World => wo
        have hlo : blk < wo.heap.size := Nat.lt_of_lt_of_le hl hob.size
        have HDE := Lib.hid hhu
        have HPR := Lib.hid hpr
        obtain ⟨xa, hxa⟩ : ∃ xa, de[a]! = xa := ⟨_, rfl⟩
        have HXA := Lib.hid hxa
        clear hhu hxa hpr
        go_wp2_with go_guarded
        go_loopw [10] (fun ii wq => ∃ i' : Nat, i ≤ i' ∧ i' ≤ j + 2 ∧ ii = .int .i64 i' ∧ scanUp (fun x => ltInt x xa) de j i' = scanUp (fun x => ltInt x xa) de j i ∧ wo.heap.size ≤ wq.heap.size ∧ Below wo.heap.size wo wq) (fun ii _ => j + 1 - (intOf ii).toNat)
        case atStart => exact ⟨i, Nat.le_refl _, hij, rfl, rfl, Nat.le_refl _, Below.refl _ _⟩
        case round =>
         obtain ⟨i', hi1, hi2, rfl, hsc, hszi, hBi⟩ := hrel
         have hlz : blk < wr.heap.size := Nat.lt_of_lt_of_le hlo hBi.size
         have hhu2 := hu_below HDE.out hlo hBi
         by_cases hle : i' ≤ j
         ·have d1' : decide ((i' : Int) ≤ j) = true := by simp; omega
          have d2' : decide (i' ≤ j) = true := by simpa using hle
          have m1 : i' < d.size := by omega
          have l1 : (i' : Int) < d.size := by omega
          obtain ⟨g0, -⟩ := hu_at hhu2 a (by omega)
          rw [HXA.out] at g0
          obtain ⟨g1, -⟩ := hu_at hhu2 i' (by omega)
          have klr := fun z => les_c de[i']! xa z
          clear hhu2
          cases hlt : decide (de[i']! < xa) with
          | true =>
           have HS1 := Lib.hid ((su_go (fun x => ltInt x xa) de j i' hle hlt).symm.trans hsc)
           rw [hlt] at klr
           have KL := Lib.hid klr
           clear klr hsc hlt
           generalize de[i']! = xb at *
           go_wp2_with go_guarded
           obtain ⟨Cl, HCl⟩ := zH (α := List Value → World → Prop) ((fun ps wz => wz.cell? ⟨blk, off + a, none⟩ = some (.int .u64 xa) ∧ wz.cell? ⟨blk, off + i', none⟩ = some (.int .u64 xb) ∧ blk < wz.heap.size ∧ wr.heap.size ≤ wz.heap.size ∧ Below wr.heap.size wr wz)); refine wp_region_eff [] Cl (by kernel_rfl) (by kernel_rfl) (by simp only [HCl.out, zD, zE]; exact kpb) ?_; (repeat ((first | (refine wE_skip (by rfl) ?_) | (refine wE_open (by rfl) (by rfl) ?_; apply Exists.intro; refine ⟨fun vs wq hw => ?_, ?_⟩; (focus (simp only [HCl.out, zD, zE] at hw; go_split_ands; go_simp <;> exact ebb))) | (refine wE_seal (by rfl) (by rfl) (by kernel_rfl) ?_; apply Exists.intro; refine ⟨fun wq hw => ?_, ?_⟩; (focus (simp only [HCl.out, zD, zE] at hw; go_split_ands; go_simp <;> (try go_bits) <;> exact rfl))) | (refine wE_seal (by rfl) (by rfl) (by kernel_rfl) ?_; apply Exists.intro; refine ⟨fun wq hw => ?_, ?_⟩; (focus (simp only [HCl.out, zD, zE] at hw; go_split_ands; go_simp; (go_at_call 143; ((with_reducible refine (KL.out _).mono ?_); rintro e w' ⟨rfl, hbel⟩; obtain ⟨hcc, hff⟩ := bcell hbel; have hsz := hbel.size; (try simp at hsz); refine ⟨rfl, ?_⟩; simp only [HCl.out, zD, zE]; exact kpb)))))); simp only [Act.put, Nat.reduceAdd, zA, zB, zC, zD, zE])); refine wE_nil ?_; intro w' hw; simp only [HCl.out, zD, zE] at hw; clear HCl; go_split_ands
           have hB3 := hBi.trans (Below.mono (show Below wr.heap.size wr _ by assumption) hBi.size)
           go_wp2_with go_guarded
           go_roundw
           case rel => exact ⟨i' + 1, by omega, by omega, by go_num, HS1.out, hB3.size, hB3⟩
           case measure => first | (simp [intOf]; done) | (simp [intOf]; omega)
          | false =>
           have hs1 : scanUp (fun x => ltInt x xa) de j i = i' := hsc.symm.trans (su_stop (fun x => ltInt x xa) de j i' (.inr hlt))
           rw [hlt] at klr
           have KL := Lib.hid klr
           clear klr hsc hlt
           generalize de[i']! = xb at g1 KL
           go_wp2_with go_guarded
           obtain ⟨Cl, HCl⟩ := zH (α := List Value → World → Prop) ((fun ps wz => wz.cell? ⟨blk, off + a, none⟩ = some (.int .u64 xa) ∧ wz.cell? ⟨blk, off + i', none⟩ = some (.int .u64 xb) ∧ blk < wz.heap.size ∧ wr.heap.size ≤ wz.heap.size ∧ Below wr.heap.size wr wz)); refine wp_region_eff [] Cl (by kernel_rfl) (by kernel_rfl) (by simp only [HCl.out, zD, zE]; exact kpb) ?_; (repeat ((first | (refine wE_skip (by rfl) ?_) | (refine wE_open (by rfl) (by rfl) ?_; apply Exists.intro; refine ⟨fun vs wq hw => ?_, ?_⟩; (focus (simp only [HCl.out, zD, zE] at hw; go_split_ands; go_simp <;> exact ebb))) | (refine wE_seal (by rfl) (by rfl) (by kernel_rfl) ?_; apply Exists.intro; refine ⟨fun wq hw => ?_, ?_⟩; (focus (simp only [HCl.out, zD, zE] at hw; go_split_ands; go_simp <;> (try go_bits) <;> exact rfl))) | (refine wE_seal (by rfl) (by rfl) (by kernel_rfl) ?_; apply Exists.intro; refine ⟨fun wq hw => ?_, ?_⟩; (focus (simp only [HCl.out, zD, zE] at hw; go_split_ands; go_simp; (go_at_call 143; ((with_reducible refine (KL.out _).mono ?_); rintro e w' ⟨rfl, hbel⟩; obtain ⟨hcc, hff⟩ := bcell hbel; have hsz := hbel.size; (try simp at hsz); refine ⟨rfl, ?_⟩; simp only [HCl.out, zD, zE]; exact kpb)))))); simp only [Act.put, Nat.reduceAdd, zA, zB, zC, zD, zE])); refine wE_nil ?_; intro w' hw; simp only [HCl.out, zD, zE] at hw; clear HCl; go_split_ands
           have hBq : Below wo.heap.size wo _ := hBi.trans (Below.mono (show Below wr.heap.size wr _ by assumption) hBi.size)
           obtain ⟨i2, hi2e⟩ : ∃ i2, i2 = i' := ⟨_, rfl⟩
           subst hi2e
           clear g0 g1
           go_wp2_with go_guarded
           rename World => wp
           have hBp : Below wo.heap.size wo wp := by assumption
           go_loopw [11] (fun jj wq => ∃ j' : Nat, (i2 ≤ j' + 1 ∨ j' = j) ∧ j' ≤ j ∧ jj = .int .i64 j' ∧ scanDown (fun x => !ltInt x xa) de i2 j' = scanDown (fun x => !ltInt x xa) de i2 j ∧ wo.heap.size ≤ wq.heap.size ∧ Below wo.heap.size wo wq) (fun jj _ => (intOf jj).toNat)
           case atStart => exact ⟨j, .inr rfl, Nat.le_refl _, rfl, rfl, hBp.size, hBp⟩
           case round =>
            obtain ⟨j', hj1, hj2, rfl, hsc2, hsz2, hB2⟩ := hrel
            have hlz : blk < wr.heap.size := Nat.lt_of_lt_of_le hlo hB2.size
            have hhu2 := hu_below HDE.out hlo hB2
            by_cases hle2 : i2 ≤ j'
            ·obtain ⟨J, rfl⟩ : ∃ J, j' = J + 1 := ⟨j' - 1, by omega⟩
             have d1 : decide ((i2 : Int) ≤ (J : Int) + 1) = true := by simp; omega
             have d2 : decide (i2 ≤ J + 1) = true := by simpa using hle2
             have eJ : (J : Int) + 1 - 1 = J := by omega
             have m1 : J + 1 < d.size := by omega
             have l1 : (J : Int) + 1 < d.size := by omega
             have tj : ((J : Int) + 1).toNat = J + 1 := by omega
             have ljp : (0 : Int) ≤ (J : Int) + 1 := by omega
             obtain ⟨g0, -⟩ := hu_at hhu2 a (by omega)
             rw [HXA.out] at g0
             obtain ⟨g1, -⟩ := hu_at hhu2 (J + 1) (by omega)
             have klr := fun z => les_c de[J + 1]! xa z
             cases hlt2 : decide (de[J + 1]! < xa) with
             | false =>
              have HS2 := Lib.hid ((sd_go (fun x => !ltInt x xa) de i2 J hle2 (by show (!ltInt de[J + 1]! xa) = true; unfold ltInt; rw [hlt2]; rfl)).symm.trans hsc2)
              rw [hlt2] at klr
              have KL := Lib.hid klr
              clear klr hsc2 hlt2
              generalize de[J + 1]! = xc at *
              go_wp2_with go_guarded
              obtain ⟨Cl, HCl⟩ := zH (α := List Value → World → Prop) ((fun ps wz => wz.cell? ⟨blk, off + a, none⟩ = some (.int .u64 xa) ∧ wz.cell? ⟨blk, off + (J + 1), none⟩ = some (.int .u64 xc) ∧ blk < wz.heap.size ∧ wr.heap.size ≤ wz.heap.size ∧ Below wr.heap.size wr wz)); refine wp_region_eff [] Cl (by kernel_rfl) (by kernel_rfl) (by simp only [HCl.out, zD, zE]; exact kpb) ?_; (repeat ((first | (refine wE_skip (by rfl) ?_) | (refine wE_open (by rfl) (by rfl) ?_; apply Exists.intro; refine ⟨fun vs wq hw => ?_, ?_⟩; (focus (simp only [HCl.out, zD, zE] at hw; go_split_ands; go_simp <;> exact ebb))) | (refine wE_seal (by rfl) (by rfl) (by kernel_rfl) ?_; apply Exists.intro; refine ⟨fun wq hw => ?_, ?_⟩; (focus (simp only [HCl.out, zD, zE] at hw; go_split_ands; go_simp <;> (try go_bits) <;> exact rfl))) | (refine wE_seal (by rfl) (by rfl) (by kernel_rfl) ?_; apply Exists.intro; refine ⟨fun wq hw => ?_, ?_⟩; (focus (simp only [HCl.out, zD, zE] at hw; go_split_ands; go_simp; (go_at_call 143; ((with_reducible refine (KL.out _).mono ?_); rintro e w' ⟨rfl, hbel⟩; obtain ⟨hcc, hff⟩ := bcell hbel; have hsz := hbel.size; (try simp at hsz); refine ⟨rfl, ?_⟩; simp only [HCl.out, zD, zE]; exact kpb)))))); simp only [Act.put, Nat.reduceAdd, zA, zB, zC, zD, zE])); refine wE_nil ?_; intro w' hw; simp only [HCl.out, zD, zE] at hw; clear HCl; go_split_ands
              have hB3 := hB2.trans (Below.mono (show Below wr.heap.size wr _ by assumption) hB2.size)
              go_wp2_with go_guarded
              go_roundw
              case rel => exact ⟨J, by omega, by omega, by go_num, HS2.out, hB3.size, hB3⟩
              case measure => first | (simp [intOf]; done) | (simp [intOf]; omega)
             | true =>
              have hs2 : scanDown (fun x => !ltInt x xa) de i2 j = J + 1 := hsc2.symm.trans (sd_stop (fun x => !ltInt x xa) de i2 (J + 1) (.inr (by show (!ltInt de[J + 1]! xa) = false; unfold ltInt; rw [hlt2]; rfl)))
              have d3 : decide ((J : Int) + 1 < i2) = false := by simp; omega
              have d4 : decide (J + 1 < i2) = false := by simp; omega
              have m2 : i2 < d.size := by omega
              have l2 : (i2 : Int) < d.size := by omega
              rw [hlt2] at klr
              have HD2 := Lib.hid hhu2
              generalize hxc : de[J + 1]! = xc at g1 klr
              have KL := Lib.hid klr
              clear klr hsc2 hlt2 hhu2 hxc
              have HGO := Lib.hid (And.intro hs1 hs2)
              go_wp2_with go_guarded
              obtain ⟨Cl, HCl⟩ := zH (α := List Value → World → Prop) ((fun ps wz => wz.cell? ⟨blk, off + a, none⟩ = some (.int .u64 xa) ∧ wz.cell? ⟨blk, off + (J + 1), none⟩ = some (.int .u64 xc) ∧ blk < wz.heap.size ∧ wr.heap.size ≤ wz.heap.size ∧ Below wr.heap.size wr wz)); refine wp_region_eff [] Cl (by kernel_rfl) (by kernel_rfl) (by simp only [HCl.out, zD, zE]; exact kpb) ?_; (repeat ((first | (refine wE_skip (by rfl) ?_) | (refine wE_open (by rfl) (by rfl) ?_; apply Exists.intro; refine ⟨fun vs wq hw => ?_, ?_⟩; (focus (simp only [HCl.out, zD, zE] at hw; go_split_ands; go_simp <;> exact ebb))) | (refine wE_seal (by rfl) (by rfl) (by kernel_rfl) ?_; apply Exists.intro; refine ⟨fun wq hw => ?_, ?_⟩; (focus (simp only [HCl.out, zD, zE] at hw; go_split_ands; go_simp <;> (try go_bits) <;> exact rfl))) | (refine wE_seal (by rfl) (by rfl) (by kernel_rfl) ?_; apply Exists.intro; refine ⟨fun wq hw => ?_, ?_⟩; (focus (simp only [HCl.out, zD, zE] at hw; go_split_ands; go_simp; (go_at_call 143; ((with_reducible refine (KL.out _).mono ?_); rintro e w' ⟨rfl, hbel⟩; obtain ⟨hcc, hff⟩ := bcell hbel; have hsz := hbel.size; (try simp at hsz); refine ⟨rfl, ?_⟩; simp only [HCl.out, zD, zE]; exact kpb)))))); simp only [Act.put, Nat.reduceAdd, zA, zB, zC, zD, zE])); refine wE_nil ?_; intro w' hw; simp only [HCl.out, zD, zE] at hw; clear HCl; go_split_ands
              clear g0 g1
              rename World => wx
              have hBx : Below wr.heap.size wr wx := by assumption
              have HUS := Lib.hid (hu_below HD2.out hlz hBx)
              have hlS : blk < wx.heap.size := Nat.lt_of_lt_of_le hlz hBx.size
              have hobS := hob.trans (Only.of_below (S := fun k => k = blk) (hB2.trans (Below.mono hBx hB2.size)))
              obtain ⟨yv, hyv⟩ : ∃ yv, de[i2]! = yv := ⟨_, rfl⟩
              obtain ⟨xv, hxv⟩ : ∃ xv, de[(J + 1)]! = xv := ⟨_, rfl⟩
              have hsw := fun z (h : Holds (Value.int .u64) (z) blk off (de)) (hz : blk < z.heap.size) => hu_swx h i2 (J + 1) (by omega) (by omega) hz
              simp only [hyv, hxv] at hsw
              obtain ⟨e0S, z0S⟩ := hu_at HUS.out i2 (by omega)
              obtain ⟨e1S, z1S⟩ := hu_at HUS.out (J + 1) (by omega)
              rw [hyv] at e0S
              rw [hxv] at e1S
              have HWS := Lib.hid hsw
              clear hsw hyv hxv
              go_wp2_with go_guarded
              obtain ⟨Cl, HCl⟩ := zH (α := List Value → World → Prop) ((fun ps wz => Only (fun k => k = blk) w wz ∧ (match ps with | [] => wz.cell? ⟨blk, off + (J + 1), none⟩ = some (.int .u64 xv) ∧ wz.cell? ⟨blk, off + i2, none⟩ = some (.int .u64 yv) ∧ wz.frozen? ⟨blk, off + (J + 1), none⟩ = false ∧ wz.frozen? ⟨blk, off + i2, none⟩ = false ∧ blk < wz.heap.size ∧ Holds (Value.int .u64) (wz) blk off (de) | [_] => ∃ z0 : World, wz = z0.setCell ⟨blk, off + i2, none⟩ (.int .u64 xv) ∧ Holds (Value.int .u64) (z0) blk off (de) ∧ blk < z0.heap.size ∧ z0.frozen? ⟨blk, off + (J + 1), none⟩ = false ∧ z0.cell? ⟨blk, off + (J + 1), none⟩ = some (.int .u64 xv) | _ => Holds (Value.int .u64) (wz) blk off (swp de i2 (J + 1))))); refine wp_region_eff [13, 15] Cl (by kernel_rfl) (by kernel_rfl) (by simp only [HCl.out, zD, zE]; exact ⟨hobS.drew, e1S, e0S, z1S, z0S, hlS, hu_below HUS.out hlS (Below.drew (Below.refl _ _))⟩) ?_
              (repeat ((first | (refine wE_skip (by rfl) ?_) | (refine wE_open (by rfl) (by rfl) ?_; apply Exists.intro; refine ⟨fun vs wq hw => ?_, ?_⟩; (focus (simp only [HCl.out, zD, zE] at hw; go_split_ands; go_simp <;> exact ebb))) | (refine wE_seal (by rfl) (by rfl) (by kernel_rfl) ?_; apply Exists.intro; refine ⟨fun wq hw => ?_, ?_⟩; (focus (simp only [HCl.out, zD, zE] at hw; go_split_ands; go_simp <;> (try go_bits) <;> exact rfl))) | (refine wE_eff (by rfl) (by rfl) (fun wq hw => ?_) (fun u hu => ?_); (focus (simp only [HCl.out, zD, zE] at hw; go_split_ands; go_simp; simp only [HCl.out, zD, zE]; fail; exact kpb)); clear hu)); simp only [Act.put, Nat.reduceAdd, zA, zB, zC, zD, zE])); refine wE_eff (by rfl) (by rfl) (fun wq hw => ?_) (fun u hu => ?_); (focus (simp only [HCl.out, zD, zE] at hw; obtain ⟨hO, g1, g0, k1, k0, hlq, hh⟩ := hw; go_simp; simp only [HCl.out, zD, zE]; refine ⟨hO.setOne _ _ _, wq, rfl, ?_, ?_, ?_, ?_⟩ <;> first | exact hh | exact hlq | exact k1 | exact g1)); clear hu; simp only [Act.put, Nat.reduceAdd, zA, zB, zC, zD, zE]; (repeat ((first | (refine wE_skip (by rfl) ?_) | (refine wE_open (by rfl) (by rfl) ?_; apply Exists.intro; refine ⟨fun vs wq hw => ?_, ?_⟩; (focus (simp only [HCl.out, zD, zE] at hw; go_split_ands; go_simp <;> exact ebb)))); simp only [Act.put, Nat.reduceAdd, zA, zB, zC, zD, zE])); refine wE_eff (by rfl) (by rfl) (fun wq hw => ?_) (fun u hu => ?_); (focus (simp only [HCl.out, zD, zE] at hw; obtain ⟨hO, z0, rfl, hh, hlq, k0, g0⟩ := hw; have hcy := cell_sw (x := off + i2) (y := off + (J + 1)) g0; go_simp; simp only [HCl.out, zD, zE]; exact ⟨hO.setOne _ _ _, HWS.out z0 hh hlq⟩)); clear hu; simp only [Act.put, Nat.reduceAdd, zA, zB, zC, zD, zE]; (repeat ((first | (refine wE_skip (by rfl) ?_) | (refine wE_open (by rfl) (by rfl) ?_; apply Exists.intro; refine ⟨fun vs wq hw => ?_, ?_⟩; (focus (simp only [HCl.out, zD, zE] at hw; go_split_ands; go_simp <;> exact ebb)))); simp only [Act.put, Nat.reduceAdd, zA, zB, zC, zD, zE])); refine wE_nil ?_; intro w9 hw; simp only [HCl.out, zD, zE] at hw; clear HCl; obtain ⟨hO9, hh9⟩ := hw
              clear e0S e1S z0S z1S HWS
              go_wp2_with go_guarded
              go_roundw
              case rel => exact ⟨i2 + 1, J, swp de i2 (J + 1), by omega, by omega, by omega, by go_num, by go_num, by rw [swp_size]; exact hde, (pal_go a i j i2 (J + 1) de xa HXA.out HGO.out.1 HGO.out.2 (by omega) (by omega) (by omega) (by omega)).symm.trans HPR.out, hh9, hO9⟩
              case measure => first | (simp [intOf]; done) | (simp [intOf]; omega)
            ·have hs2 : scanDown (fun x => !ltInt x xa) de i2 j = j' := hsc2.symm.trans (sd_stop (fun x => !ltInt x xa) de i2 j' (.inl (by omega)))
             have d1 : decide ((i2 : Int) ≤ j') = false := by simp; omega
             have d2 : decide (i2 ≤ j') = false := by simp; omega
             have d3 : decide ((j' : Int) < i2) = true := by simp; omega
             have d4 : decide (j' < i2) = true := by simp; omega
             have m4 : j' < d.size := by omega
             have l4 : (j' : Int) < d.size := by omega
             have HD2 := Lib.hid hhu2
             clear hsc2 hhu2
             have HEND := Lib.hid (And.intro hs1 hs2)
             go_wp2_with go_guarded
             obtain ⟨Cl, HCl⟩ := zH (α := List Value → World → Prop) ((fun ps wz => blk < wz.heap.size ∧ wr.heap.size ≤ wz.heap.size ∧ Below wr.heap.size wr wz)); refine wp_region_eff [] Cl (by kernel_rfl) (by kernel_rfl) (by simp only [HCl.out, zD, zE]; exact kpb) ?_; (repeat ((first | (refine wE_skip (by rfl) ?_) | (refine wE_open (by rfl) (by rfl) ?_; apply Exists.intro; refine ⟨fun vs wq hw => ?_, ?_⟩; (focus (simp only [HCl.out, zD, zE] at hw; go_split_ands; go_simp <;> exact ebb))) | (refine wE_seal (by rfl) (by rfl) (by kernel_rfl) ?_; apply Exists.intro; refine ⟨fun wq hw => ?_, ?_⟩; (focus (simp only [HCl.out, zD, zE] at hw; go_split_ands; go_simp <;> (try go_bits) <;> exact rfl)))); simp only [Act.put, Nat.reduceAdd, zA, zB, zC, zD, zE])); refine wE_nil ?_; intro w' hw; simp only [HCl.out, zD, zE] at hw; clear HCl; go_split_ands
             rename World => wx
             have hBx : Below wr.heap.size wr wx := by assumption
             have HUS := Lib.hid (hu_below HD2.out hlz hBx)
             have hlS : blk < wx.heap.size := Nat.lt_of_lt_of_le hlz hBx.size
             have hobS := hob.trans (Only.of_below (S := fun k => k = blk) (hB2.trans (Below.mono hBx hB2.size)))
             obtain ⟨yv, hyv⟩ : ∃ yv, de[j']! = yv := ⟨_, rfl⟩
             obtain ⟨xv, hxv⟩ : ∃ xv, de[a]! = xv := ⟨_, rfl⟩
             have hsw := fun z (h : Holds (Value.int .u64) (z) blk off (de)) (hz : blk < z.heap.size) => hu_swx h j' a (by omega) (by omega) hz
             simp only [hyv, hxv] at hsw
             obtain ⟨e0S, z0S⟩ := hu_at HUS.out j' (by omega)
             obtain ⟨e1S, z1S⟩ := hu_at HUS.out a (by omega)
             rw [hyv] at e0S
             rw [hxv] at e1S
             have HWS := Lib.hid hsw
             clear hsw hyv hxv
             go_wp2_with go_guarded
             obtain ⟨Cl, HCl⟩ := zH (α := List Value → World → Prop) ((fun ps wz => Only (fun k => k = blk) w wz ∧ (match ps with | [] => wz.cell? ⟨blk, off + a, none⟩ = some (.int .u64 xv) ∧ wz.cell? ⟨blk, off + j', none⟩ = some (.int .u64 yv) ∧ wz.frozen? ⟨blk, off + a, none⟩ = false ∧ wz.frozen? ⟨blk, off + j', none⟩ = false ∧ blk < wz.heap.size ∧ Holds (Value.int .u64) (wz) blk off (de) | [_] => ∃ z0 : World, wz = z0.setCell ⟨blk, off + j', none⟩ (.int .u64 xv) ∧ Holds (Value.int .u64) (z0) blk off (de) ∧ blk < z0.heap.size ∧ z0.frozen? ⟨blk, off + a, none⟩ = false ∧ z0.cell? ⟨blk, off + a, none⟩ = some (.int .u64 xv) | _ => Holds (Value.int .u64) (wz) blk off (swp de j' a)))); refine wp_region_eff [13, 15] Cl (by kernel_rfl) (by kernel_rfl) (by simp only [HCl.out, zD, zE]; exact ⟨hobS.drew, e1S, e0S, z1S, z0S, hlS, hu_below HUS.out hlS (Below.drew (Below.refl _ _))⟩) ?_
             (repeat ((first | (refine wE_skip (by rfl) ?_) | (refine wE_open (by rfl) (by rfl) ?_; apply Exists.intro; refine ⟨fun vs wq hw => ?_, ?_⟩; (focus (simp only [HCl.out, zD, zE] at hw; go_split_ands; go_simp <;> exact ebb))) | (refine wE_seal (by rfl) (by rfl) (by kernel_rfl) ?_; apply Exists.intro; refine ⟨fun wq hw => ?_, ?_⟩; (focus (simp only [HCl.out, zD, zE] at hw; go_split_ands; go_simp <;> (try go_bits) <;> exact rfl))) | (refine wE_eff (by rfl) (by rfl) (fun wq hw => ?_) (fun u hu => ?_); (focus (simp only [HCl.out, zD, zE] at hw; go_split_ands; go_simp; simp only [HCl.out, zD, zE]; fail; exact kpb)); clear hu)); simp only [Act.put, Nat.reduceAdd, zA, zB, zC, zD, zE])); refine wE_eff (by rfl) (by rfl) (fun wq hw => ?_) (fun u hu => ?_); (focus (simp only [HCl.out, zD, zE] at hw; obtain ⟨hO, g1, g0, k1, k0, hlq, hh⟩ := hw; go_simp; simp only [HCl.out, zD, zE]; refine ⟨hO.setOne _ _ _, wq, rfl, ?_, ?_, ?_, ?_⟩ <;> first | exact hh | exact hlq | exact k1 | exact g1)); clear hu; simp only [Act.put, Nat.reduceAdd, zA, zB, zC, zD, zE]; (repeat ((first | (refine wE_skip (by rfl) ?_) | (refine wE_open (by rfl) (by rfl) ?_; apply Exists.intro; refine ⟨fun vs wq hw => ?_, ?_⟩; (focus (simp only [HCl.out, zD, zE] at hw; go_split_ands; go_simp <;> exact ebb)))); simp only [Act.put, Nat.reduceAdd, zA, zB, zC, zD, zE])); refine wE_eff (by rfl) (by rfl) (fun wq hw => ?_) (fun u hu => ?_); (focus (simp only [HCl.out, zD, zE] at hw; obtain ⟨hO, z0, rfl, hh, hlq, k0, g0⟩ := hw; have hcy := cell_sw (x := off + j') (y := off + a) g0; go_simp; simp only [HCl.out, zD, zE]; exact ⟨hO.setOne _ _ _, HWS.out z0 hh hlq⟩)); clear hu; simp only [Act.put, Nat.reduceAdd, zA, zB, zC, zD, zE]; (repeat ((first | (refine wE_skip (by rfl) ?_) | (refine wE_open (by rfl) (by rfl) ?_; apply Exists.intro; refine ⟨fun vs wq hw => ?_, ?_⟩; (focus (simp only [HCl.out, zD, zE] at hw; go_split_ands; go_simp <;> exact ebb)))); simp only [Act.put, Nat.reduceAdd, zA, zB, zC, zD, zE])); refine wE_nil ?_; intro w9 hw; simp only [HCl.out, zD, zE] at hw; clear HCl; obtain ⟨hO9, hh9⟩ := hw
             clear e0S e1S z0S z1S HWS
             go_wp2_with go_guarded
             have hq9 := (pal_end a i j i2 j' de xa HXA.out HEND.out.1 HEND.out.2 (by omega)).symm.trans HPR.out
             refine bodyPost_ret (v := .tuple #[.int .i64 j', .bool false]) (by simp [results, Tryz.results145, go_sem, *]) rfl ?_
             rw [HP.out, ← hq9]
             exact ⟨rfl, hh9, hO9⟩
         ·have hs1 : scanUp (fun x => ltInt x xa) de j i = i' := hsc.symm.trans (su_stop (fun x => ltInt x xa) de j i' (.inl (by omega)))
          have d1' : decide ((i' : Int) ≤ j) = false := by simp; omega
          have d2' : decide (i' ≤ j) = false := by simp; omega
          clear hsc hhu2
          go_wp2_with go_guarded
          obtain ⟨Cl, HCl⟩ := zH (α := List Value → World → Prop) ((fun ps wz => blk < wz.heap.size ∧ wr.heap.size ≤ wz.heap.size ∧ Below wr.heap.size wr wz)); refine wp_region_eff [] Cl (by kernel_rfl) (by kernel_rfl) (by simp only [HCl.out, zD, zE]; exact kpb) ?_; (repeat ((first | (refine wE_skip (by rfl) ?_) | (refine wE_open (by rfl) (by rfl) ?_; apply Exists.intro; refine ⟨fun vs wq hw => ?_, ?_⟩; (focus (simp only [HCl.out, zD, zE] at hw; go_split_ands; go_simp <;> exact ebb))) | (refine wE_seal (by rfl) (by rfl) (by kernel_rfl) ?_; apply Exists.intro; refine ⟨fun wq hw => ?_, ?_⟩; (focus (simp only [HCl.out, zD, zE] at hw; go_split_ands; go_simp <;> (try go_bits) <;> exact rfl)))); simp only [Act.put, Nat.reduceAdd, zA, zB, zC, zD, zE])); refine wE_nil ?_; intro w' hw; simp only [HCl.out, zD, zE] at hw; clear HCl; go_split_ands
          have hBq : Below wo.heap.size wo _ := hBi.trans (Below.mono (show Below wr.heap.size wr _ by assumption) hBi.size)
          obtain ⟨i2, hi2e⟩ : ∃ i2, i2 = i' := ⟨_, rfl⟩
          subst hi2e
          go_wp2_with go_guarded
          rename World => wp
          have hBp : Below wo.heap.size wo wp := by assumption
          go_loopw [11] (fun jj wq => ∃ j' : Nat, (i2 ≤ j' + 1 ∨ j' = j) ∧ j' ≤ j ∧ jj = .int .i64 j' ∧ scanDown (fun x => !ltInt x xa) de i2 j' = scanDown (fun x => !ltInt x xa) de i2 j ∧ wo.heap.size ≤ wq.heap.size ∧ Below wo.heap.size wo wq) (fun jj _ => (intOf jj).toNat)
          case atStart => exact ⟨j, .inr rfl, Nat.le_refl _, rfl, rfl, hBp.size, hBp⟩
          case round =>
           obtain ⟨j', hj1, hj2, rfl, hsc2, hsz2, hB2⟩ := hrel
           have hlz : blk < wr.heap.size := Nat.lt_of_lt_of_le hlo hB2.size
           have hhu2 := hu_below HDE.out hlo hB2
           by_cases hle2 : i2 ≤ j'
           ·exact absurd hle2 (by omega)
           ·have hs2 : scanDown (fun x => !ltInt x xa) de i2 j = j' := hsc2.symm.trans (sd_stop (fun x => !ltInt x xa) de i2 j' (.inl (by omega)))
            have d1 : decide ((i2 : Int) ≤ j') = false := by simp; omega
            have d2 : decide (i2 ≤ j') = false := by simp; omega
            have d3 : decide ((j' : Int) < i2) = true := by simp; omega
            have d4 : decide (j' < i2) = true := by simp; omega
            have m4 : j' < d.size := by omega
            have l4 : (j' : Int) < d.size := by omega
            have HD2 := Lib.hid hhu2
            clear hsc2 hhu2
            have HEND := Lib.hid (And.intro hs1 hs2)
            go_wp2_with go_guarded
            obtain ⟨Cl, HCl⟩ := zH (α := List Value → World → Prop) ((fun ps wz => blk < wz.heap.size ∧ wr.heap.size ≤ wz.heap.size ∧ Below wr.heap.size wr wz)); refine wp_region_eff [] Cl (by kernel_rfl) (by kernel_rfl) (by simp only [HCl.out, zD, zE]; exact kpb) ?_; (repeat ((first | (refine wE_skip (by rfl) ?_) | (refine wE_open (by rfl) (by rfl) ?_; apply Exists.intro; refine ⟨fun vs wq hw => ?_, ?_⟩; (focus (simp only [HCl.out, zD, zE] at hw; go_split_ands; go_simp <;> exact ebb))) | (refine wE_seal (by rfl) (by rfl) (by kernel_rfl) ?_; apply Exists.intro; refine ⟨fun wq hw => ?_, ?_⟩; (focus (simp only [HCl.out, zD, zE] at hw; go_split_ands; go_simp <;> (try go_bits) <;> exact rfl)))); simp only [Act.put, Nat.reduceAdd, zA, zB, zC, zD, zE])); refine wE_nil ?_; intro w' hw; simp only [HCl.out, zD, zE] at hw; clear HCl; go_split_ands
            rename World => wx
            have hBx : Below wr.heap.size wr wx := by assumption
            have HUS := Lib.hid (hu_below HD2.out hlz hBx)
            have hlS : blk < wx.heap.size := Nat.lt_of_lt_of_le hlz hBx.size
            have hobS := hob.trans (Only.of_below (S := fun k => k = blk) (hB2.trans (Below.mono hBx hB2.size)))
            obtain ⟨yv, hyv⟩ : ∃ yv, de[j']! = yv := ⟨_, rfl⟩
            obtain ⟨xv, hxv⟩ : ∃ xv, de[a]! = xv := ⟨_, rfl⟩
            have hsw := fun z (h : Holds (Value.int .u64) (z) blk off (de)) (hz : blk < z.heap.size) => hu_swx h j' a (by omega) (by omega) hz
            simp only [hyv, hxv] at hsw
            obtain ⟨e0S, z0S⟩ := hu_at HUS.out j' (by omega)
            obtain ⟨e1S, z1S⟩ := hu_at HUS.out a (by omega)
            rw [hyv] at e0S
            rw [hxv] at e1S
            have HWS := Lib.hid hsw
            clear hsw hyv hxv
            go_wp2_with go_guarded
            obtain ⟨Cl, HCl⟩ := zH (α := List Value → World → Prop) ((fun ps wz => Only (fun k => k = blk) w wz ∧ (match ps with | [] => wz.cell? ⟨blk, off + a, none⟩ = some (.int .u64 xv) ∧ wz.cell? ⟨blk, off + j', none⟩ = some (.int .u64 yv) ∧ wz.frozen? ⟨blk, off + a, none⟩ = false ∧ wz.frozen? ⟨blk, off + j', none⟩ = false ∧ blk < wz.heap.size ∧ Holds (Value.int .u64) (wz) blk off (de) | [_] => ∃ z0 : World, wz = z0.setCell ⟨blk, off + j', none⟩ (.int .u64 xv) ∧ Holds (Value.int .u64) (z0) blk off (de) ∧ blk < z0.heap.size ∧ z0.frozen? ⟨blk, off + a, none⟩ = false ∧ z0.cell? ⟨blk, off + a, none⟩ = some (.int .u64 xv) | _ => Holds (Value.int .u64) (wz) blk off (swp de j' a)))); refine wp_region_eff [13, 15] Cl (by kernel_rfl) (by kernel_rfl) (by simp only [HCl.out, zD, zE]; exact ⟨hobS.drew, e1S, e0S, z1S, z0S, hlS, hu_below HUS.out hlS (Below.drew (Below.refl _ _))⟩) ?_
            (repeat ((first | (refine wE_skip (by rfl) ?_) | (refine wE_open (by rfl) (by rfl) ?_; apply Exists.intro; refine ⟨fun vs wq hw => ?_, ?_⟩; (focus (simp only [HCl.out, zD, zE] at hw; go_split_ands; go_simp <;> exact ebb))) | (refine wE_seal (by rfl) (by rfl) (by kernel_rfl) ?_; apply Exists.intro; refine ⟨fun wq hw => ?_, ?_⟩; (focus (simp only [HCl.out, zD, zE] at hw; go_split_ands; go_simp <;> (try go_bits) <;> exact rfl))) | (refine wE_eff (by rfl) (by rfl) (fun wq hw => ?_) (fun u hu => ?_); (focus (simp only [HCl.out, zD, zE] at hw; go_split_ands; go_simp; simp only [HCl.out, zD, zE]; fail; exact kpb)); clear hu)); simp only [Act.put, Nat.reduceAdd, zA, zB, zC, zD, zE])); refine wE_eff (by rfl) (by rfl) (fun wq hw => ?_) (fun u hu => ?_); (focus (simp only [HCl.out, zD, zE] at hw; obtain ⟨hO, g1, g0, k1, k0, hlq, hh⟩ := hw; go_simp; simp only [HCl.out, zD, zE]; refine ⟨hO.setOne _ _ _, wq, rfl, ?_, ?_, ?_, ?_⟩ <;> first | exact hh | exact hlq | exact k1 | exact g1)); clear hu; simp only [Act.put, Nat.reduceAdd, zA, zB, zC, zD, zE]; (repeat ((first | (refine wE_skip (by rfl) ?_) | (refine wE_open (by rfl) (by rfl) ?_; apply Exists.intro; refine ⟨fun vs wq hw => ?_, ?_⟩; (focus (simp only [HCl.out, zD, zE] at hw; go_split_ands; go_simp <;> exact ebb)))); simp only [Act.put, Nat.reduceAdd, zA, zB, zC, zD, zE])); refine wE_eff (by rfl) (by rfl) (fun wq hw => ?_) (fun u hu => ?_); (focus (simp only [HCl.out, zD, zE] at hw; obtain ⟨hO, z0, rfl, hh, hlq, k0, g0⟩ := hw; have hcy := cell_sw (x := off + j') (y := off + a) g0; go_simp; simp only [HCl.out, zD, zE]; exact ⟨hO.setOne _ _ _, HWS.out z0 hh hlq⟩)); clear hu; simp only [Act.put, Nat.reduceAdd, zA, zB, zC, zD, zE]; (repeat ((first | (refine wE_skip (by rfl) ?_) | (refine wE_open (by rfl) (by rfl) ?_; apply Exists.intro; refine ⟨fun vs wq hw => ?_, ?_⟩; (focus (simp only [HCl.out, zD, zE] at hw; go_split_ands; go_simp <;> exact ebb)))); simp only [Act.put, Nat.reduceAdd, zA, zB, zC, zD, zE])); refine wE_nil ?_; intro w9 hw; simp only [HCl.out, zD, zE] at hw; clear HCl; obtain ⟨hO9, hh9⟩ := hw
            clear e0S e1S z0S z1S HWS
            go_wp2_with go_guarded
            have hq9 := (pal_end a i j i2 j' de xa HXA.out HEND.out.1 HEND.out.2 (by omega)).symm.trans HPR.out
            refine bodyPost_ret (v := .tuple #[.int .i64 j', .bool false]) (by simp [results, Tryz.results145, go_sem, *]) rfl ?_
            rw [HP.out, ← hq9]
            exact ⟨rfl, hh9, hO9⟩
     ·have hs2 : scanDown (fun x => !ltInt x xa) de i2 j = j' := hsc2.symm.trans (sd_stop (fun x => !ltInt x xa) de i2 j' (.inl (by omega)))
      have d1 : decide ((i2 : Int) ≤ j') = false := by simp; omega
      have d2 : decide (i2 ≤ j') = false := by simp; omega
      have d3 : decide ((j' : Int) < i2) = true := by simp; omega
      have d4 : decide (j' < i2) = true := by simp; omega
      have m4 : j' < d.size := by omega
      have l4 : (j' : Int) < d.size := by omega
      have HD2 := Lib.hid hhu2
      clear hsc2 hhu2
      have HEND := Lib.hid (And.intro hs1 hs2)
      go_wp2_with go_guarded
      obtain ⟨Cl, HCl⟩ := zH (α := List Value → World → Prop) ((fun ps wz => blk < wz.heap.size ∧ wr.heap.size ≤ wz.heap.size ∧ Below wr.heap.size wr wz)); refine wp_region_eff [] Cl (by kernel_rfl) (by kernel_rfl) (by simp only [HCl.out, zD, zE]; exact kpb) ?_; (repeat ((first | (refine wE_skip (by rfl) ?_) | (refine wE_open (by rfl) (by rfl) ?_; apply Exists.intro; refine ⟨fun vs wq hw => ?_, ?_⟩; (focus (simp only [HCl.out, zD, zE] at hw; go_split_ands; go_simp <;> exact ebb))) | (refine wE_seal (by rfl) (by rfl) (by kernel_rfl) ?_; apply Exists.intro; refine ⟨fun wq hw => ?_, ?_⟩; (focus (simp only [HCl.out, zD, zE] at hw; go_split_ands; go_simp <;> (try go_bits) <;> exact rfl)))); simp only [Act.put, Nat.reduceAdd, zA, zB, zC, zD, zE])); refine wE_nil ?_; intro w' hw; simp only [HCl.out, zD, zE] at hw; clear HCl; go_split_ands
      rename World => wx
      have hBx : Below wr.heap.size wr wx := by assumption
      have HUS := Lib.hid (hu_below HD2.out hlz hBx)
      have hlS : blk < wx.heap.size := Nat.lt_of_lt_of_le hlz hBx.size
      have hobS := hob.trans (Only.of_below (S := fun k => k = blk) (hB2.trans (Below.mono hBx hB2.size)))
      obtain ⟨yv, hyv⟩ : ∃ yv, de[j']! = yv := ⟨_, rfl⟩
      obtain ⟨xv, hxv⟩ : ∃ xv, de[a]! = xv := ⟨_, rfl⟩
      have hsw := fun z (h : Holds (Value.int .u64) (z) blk off (de)) (hz : blk < z.heap.size) => hu_swx h j' a (by omega) (by omega) hz
      simp only [hyv, hxv] at hsw
      obtain ⟨e0S, z0S⟩ := hu_at HUS.out j' (by omega)
      obtain ⟨e1S, z1S⟩ := hu_at HUS.out a (by omega)
      rw [hyv] at e0S
      rw [hxv] at e1S
      have HWS := Lib.hid hsw
      clear hsw hyv hxv
      go_wp2_with go_guarded
      obtain ⟨Cl, HCl⟩ := zH (α := List Value → World → Prop) ((fun ps wz => Only (fun k => k = blk) w wz ∧ (match ps with | [] => wz.cell? ⟨blk, off + a, none⟩ = some (.int .u64 xv) ∧ wz.cell? ⟨blk, off + j', none⟩ = some (.int .u64 yv) ∧ wz.frozen? ⟨blk, off + a, none⟩ = false ∧ wz.frozen? ⟨blk, off + j', none⟩ = false ∧ blk < wz.heap.size ∧ Holds (Value.int .u64) (wz) blk off (de) | [_] => ∃ z0 : World, wz = z0.setCell ⟨blk, off + j', none⟩ (.int .u64 xv) ∧ Holds (Value.int .u64) (z0) blk off (de) ∧ blk < z0.heap.size ∧ z0.frozen? ⟨blk, off + a, none⟩ = false ∧ z0.cell? ⟨blk, off + a, none⟩ = some (.int .u64 xv) | _ => Holds (Value.int .u64) (wz) blk off (swp de j' a)))); refine wp_region_eff [13, 15] Cl (by kernel_rfl) (by kernel_rfl) (by simp only [HCl.out, zD, zE]; exact ⟨hobS.drew, e1S, e0S, z1S, z0S, hlS, hu_below HUS.out hlS (Below.drew (Below.refl _ _))⟩) ?_
      (repeat ((first | (refine wE_skip (by rfl) ?_) | (refine wE_open (by rfl) (by rfl) ?_; apply Exists.intro; refine ⟨fun vs wq hw => ?_, ?_⟩; (focus (simp only [HCl.out, zD, zE] at hw; go_split_ands; go_simp <;> exact ebb))) | (refine wE_seal (by rfl) (by rfl) (by kernel_rfl) ?_; apply Exists.intro; refine ⟨fun wq hw => ?_, ?_⟩; (focus (simp only [HCl.out, zD, zE] at hw; go_split_ands; go_simp <;> (try go_bits) <;> exact rfl))) | (refine wE_eff (by rfl) (by rfl) (fun wq hw => ?_) (fun u hu => ?_); (focus (simp only [HCl.out, zD, zE] at hw; go_split_ands; go_simp; simp only [HCl.out, zD, zE]; fail; exact kpb)); clear hu)); simp only [Act.put, Nat.reduceAdd, zA, zB, zC, zD, zE])); refine wE_eff (by rfl) (by rfl) (fun wq hw => ?_) (fun u hu => ?_); (focus (simp only [HCl.out, zD, zE] at hw; obtain ⟨hO, g1, g0, k1, k0, hlq, hh⟩ := hw; go_simp; simp only [HCl.out, zD, zE]; refine ⟨hO.setOne _ _ _, wq, rfl, ?_, ?_, ?_, ?_⟩ <;> first | exact hh | exact hlq | exact k1 | exact g1)); clear hu; simp only [Act.put, Nat.reduceAdd, zA, zB, zC, zD, zE]; (repeat ((first | (refine wE_skip (by rfl) ?_) | (refine wE_open (by rfl) (by rfl) ?_; apply Exists.intro; refine ⟨fun vs wq hw => ?_, ?_⟩; (focus (simp only [HCl.out, zD, zE] at hw; go_split_ands; go_simp <;> exact ebb)))); simp only [Act.put, Nat.reduceAdd, zA, zB, zC, zD, zE])); refine wE_eff (by rfl) (by rfl) (fun wq hw => ?_) (fun u hu => ?_); (focus (simp only [HCl.out, zD, zE] at hw; obtain ⟨hO, z0, rfl, hh, hlq, k0, g0⟩ := hw; have hcy := cell_sw (x := off + j') (y := off + a) g0; go_simp; simp only [HCl.out, zD, zE]; exact ⟨hO.setOne _ _ _, HWS.out z0 hh hlq⟩)); clear hu; simp only [Act.put, Nat.reduceAdd, zA, zB, zC, zD, zE]; (repeat ((first | (refine wE_skip (by rfl) ?_) | (refine wE_open (by rfl) (by rfl) ?_; apply Exists.intro; refine ⟨fun vs wq hw => ?_, ?_⟩; (focus (simp only [HCl.out, zD, zE] at hw; go_split_ands; go_simp <;> exact ebb)))); simp only [Act.put, Nat.reduceAdd, zA, zB, zC, zD, zE])); refine wE_nil ?_; intro w9 hw; simp only [HCl.out, zD, zE] at hw; clear HCl; obtain ⟨hO9, hh9⟩ := hw
      clear e0S e1S z0S z1S HWS
      go_wp2_with go_guarded
      have hp9 := par_end d a j pv i2 j' xa (by rw [HDSE.out]; exact HXA.out) (by rw [HDSE.out, ← HIE.out]; exact HEND.out.1) (by rw [HDSE.out]; exact HEND.out.2) (by omega)
      rw [HDSE.out] at hp9
      refine bodyPost_ret (v := .tuple #[.int .i64 j', .bool true]) (by simp [results, Tryz.results145, go_sem, *]) rfl ?_
      rw [hp9]
      exact ⟨rfl, hh9, hO9⟩
  ·have hs1 : scanUp (fun x => ltInt x xa) de j i = i' := hsc.symm.trans (su_stop (fun x => ltInt x xa) de j i' (.inl (by omega)))
   have d1' : decide ((i' : Int) ≤ j) = false := by simp; omega
   have d2' : decide (i' ≤ j) = false := by simp; omega
   clear hsc hhu2
   go_wp2_with go_guarded
   obtain ⟨Cl, HCl⟩ := zH (α := List Value → World → Prop) ((fun ps wz => blk < wz.heap.size ∧ wr.heap.size ≤ wz.heap.size ∧ Below wr.heap.size wr wz)); refine wp_region_eff [] Cl (by kernel_rfl) (by kernel_rfl) (by simp only [HCl.out, zD, zE]; exact kpb) ?_; (repeat ((first | (refine wE_skip (by rfl) ?_) | (refine wE_open (by rfl) (by rfl) ?_; apply Exists.intro; refine ⟨fun vs wq hw => ?_, ?_⟩; (focus (simp only [HCl.out, zD, zE] at hw; go_split_ands; go_simp <;> exact ebb))) | (refine wE_seal (by rfl) (by rfl) (by kernel_rfl) ?_; apply Exists.intro; refine ⟨fun wq hw => ?_, ?_⟩; (focus (simp only [HCl.out, zD, zE] at hw; go_split_ands; go_simp <;> (try go_bits) <;> exact rfl)))); simp only [Act.put, Nat.reduceAdd, zA, zB, zC, zD, zE])); refine wE_nil ?_; intro w' hw; simp only [HCl.out, zD, zE] at hw; clear HCl; go_split_ands
   have hBq : Below wo.heap.size wo _ := hBi.trans (Below.mono (show Below wr.heap.size wr _ by assumption) hBi.size)
   obtain ⟨i2, hi2e⟩ : ∃ i2, i2 = i' := ⟨_, rfl⟩
   subst hi2e
   go_wp2_with go_guarded
   rename World => wp
   have hBp : Below wo.heap.size wo wp := by assumption
   go_loopw [11] (fun jj wq => ∃ j' : Nat, (i2 ≤ j' + 1 ∨ j' = j) ∧ j' ≤ j ∧ jj = .int .i64 j' ∧ scanDown (fun x => !ltInt x xa) de i2 j' = scanDown (fun x => !ltInt x xa) de i2 j ∧ wo.heap.size ≤ wq.heap.size ∧ Below wo.heap.size wo wq) (fun jj _ => (intOf jj).toNat)
   case atStart => exact ⟨j, .inr rfl, Nat.le_refl _, rfl, rfl, hBp.size, hBp⟩
   case round =>
    obtain ⟨j', hj1, hj2, rfl, hsc2, hsz2, hB2⟩ := hrel
    have hlz : blk < wr.heap.size := Nat.lt_of_lt_of_le hlo hB2.size
    have hhu2 := hu_below HDE.out hlo hB2
    by_cases hle2 : i2 ≤ j'
    ·exact absurd hle2 (by omega)
    ·have hs2 : scanDown (fun x => !ltInt x xa) de i2 j = j' := hsc2.symm.trans (sd_stop (fun x => !ltInt x xa) de i2 j' (.inl (by omega)))
     have d1 : decide ((i2 : Int) ≤ j') = false := by simp; omega
     have d2 : decide (i2 ≤ j') = false := by simp; omega
     have d3 : decide ((j' : Int) < i2) = true := by simp; omega
     have d4 : decide (j' < i2) = true := by simp; omega
     have m4 : j' < d.size := by omega
     have l4 : (j' : Int) < d.size := by omega
     have HD2 := Lib.hid hhu2
     clear hsc2 hhu2
     have HEND := Lib.hid (And.intro hs1 hs2)
     go_wp2_with go_guarded
     obtain ⟨Cl, HCl⟩ := zH (α := List Value → World → Prop) ((fun ps wz => blk < wz.heap.size ∧ wr.heap.size ≤ wz.heap.size ∧ Below wr.heap.size wr wz)); refine wp_region_eff [] Cl (by kernel_rfl) (by kernel_rfl) (by simp only [HCl.out, zD, zE]; exact kpb) ?_; (repeat ((first | (refine wE_skip (by rfl) ?_) | (refine wE_open (by rfl) (by rfl) ?_; apply Exists.intro; refine ⟨fun vs wq hw => ?_, ?_⟩; (focus (simp only [HCl.out, zD, zE] at hw; go_split_ands; go_simp <;> exact ebb))) | (refine wE_seal (by rfl) (by rfl) (by kernel_rfl) ?_; apply Exists.intro; refine ⟨fun wq hw => ?_, ?_⟩; (focus (simp only [HCl.out, zD, zE] at hw; go_split_ands; go_simp <;> (try go_bits) <;> exact rfl)))); simp only [Act.put, Nat.reduceAdd, zA, zB, zC, zD, zE])); refine wE_nil ?_; intro w' hw; simp only [HCl.out, zD, zE] at hw; clear HCl; go_split_ands
     rename World => wx
     have hBx : Below wr.heap.size wr wx := by assumption
     have HUS := Lib.hid (hu_below HD2.out hlz hBx)
     have hlS : blk < wx.heap.size := Nat.lt_of_lt_of_le hlz hBx.size
     have hobS := hob.trans (Only.of_below (S := fun k => k = blk) (hB2.trans (Below.mono hBx hB2.size)))
     obtain ⟨yv, hyv⟩ : ∃ yv, de[j']! = yv := ⟨_, rfl⟩
     obtain ⟨xv, hxv⟩ : ∃ xv, de[a]! = xv := ⟨_, rfl⟩
     have hsw := fun z (h : Holds (Value.int .u64) (z) blk off (de)) (hz : blk < z.heap.size) => hu_swx h j' a (by omega) (by omega) hz
     simp only [hyv, hxv] at hsw
     obtain ⟨e0S, z0S⟩ := hu_at HUS.out j' (by omega)
     obtain ⟨e1S, z1S⟩ := hu_at HUS.out a (by omega)
     rw [hyv] at e0S
     rw [hxv] at e1S
     have HWS := Lib.hid hsw
     clear hsw hyv hxv
     go_wp2_with go_guarded
     obtain ⟨Cl, HCl⟩ := zH (α := List Value → World → Prop) ((fun ps wz => Only (fun k => k = blk) w wz ∧ (match ps with | [] => wz.cell? ⟨blk, off + a, none⟩ = some (.int .u64 xv) ∧ wz.cell? ⟨blk, off + j', none⟩ = some (.int .u64 yv) ∧ wz.frozen? ⟨blk, off + a, none⟩ = false ∧ wz.frozen? ⟨blk, off + j', none⟩ = false ∧ blk < wz.heap.size ∧ Holds (Value.int .u64) (wz) blk off (de) | [_] => ∃ z0 : World, wz = z0.setCell ⟨blk, off + j', none⟩ (.int .u64 xv) ∧ Holds (Value.int .u64) (z0) blk off (de) ∧ blk < z0.heap.size ∧ z0.frozen? ⟨blk, off + a, none⟩ = false ∧ z0.cell? ⟨blk, off + a, none⟩ = some (.int .u64 xv) | _ => Holds (Value.int .u64) (wz) blk off (swp de j' a)))); refine wp_region_eff [13, 15] Cl (by kernel_rfl) (by kernel_rfl) (by simp only [HCl.out, zD, zE]; exact ⟨hobS.drew, e1S, e0S, z1S, z0S, hlS, hu_below HUS.out hlS (Below.drew (Below.refl _ _))⟩) ?_
     (repeat ((first | (refine wE_skip (by rfl) ?_) | (refine wE_open (by rfl) (by rfl) ?_; apply Exists.intro; refine ⟨fun vs wq hw => ?_, ?_⟩; (focus (simp only [HCl.out, zD, zE] at hw; go_split_ands; go_simp <;> exact ebb))) | (refine wE_seal (by rfl) (by rfl) (by kernel_rfl) ?_; apply Exists.intro; refine ⟨fun wq hw => ?_, ?_⟩; (focus (simp only [HCl.out, zD, zE] at hw; go_split_ands; go_simp <;> (try go_bits) <;> exact rfl))) | (refine wE_eff (by rfl) (by rfl) (fun wq hw => ?_) (fun u hu => ?_); (focus (simp only [HCl.out, zD, zE] at hw; go_split_ands; go_simp; simp only [HCl.out, zD, zE]; fail; exact kpb)); clear hu)); simp only [Act.put, Nat.reduceAdd, zA, zB, zC, zD, zE])); refine wE_eff (by rfl) (by rfl) (fun wq hw => ?_) (fun u hu => ?_); (focus (simp only [HCl.out, zD, zE] at hw; obtain ⟨hO, g1, g0, k1, k0, hlq, hh⟩ := hw; go_simp; simp only [HCl.out, zD, zE]; refine ⟨hO.setOne _ _ _, wq, rfl, ?_, ?_, ?_, ?_⟩ <;> first | exact hh | exact hlq | exact k1 | exact g1)); clear hu; simp only [Act.put, Nat.reduceAdd, zA, zB, zC, zD, zE]; (repeat ((first | (refine wE_skip (by rfl) ?_) | (refine wE_open (by rfl) (by rfl) ?_; apply Exists.intro; refine ⟨fun vs wq hw => ?_, ?_⟩; (focus (simp only [HCl.out, zD, zE] at hw; go_split_ands; go_simp <;> exact ebb)))); simp only [Act.put, Nat.reduceAdd, zA, zB, zC, zD, zE])); refine wE_eff (by rfl) (by rfl) (fun wq hw => ?_) (fun u hu => ?_); (focus (simp only [HCl.out, zD, zE] at hw; obtain ⟨hO, z0, rfl, hh, hlq, k0, g0⟩ := hw; have hcy := cell_sw (x := off + j') (y := off + a) g0; go_simp; simp only [HCl.out, zD, zE]; exact ⟨hO.setOne _ _ _, HWS.out z0 hh hlq⟩)); clear hu; simp only [Act.put, Nat.reduceAdd, zA, zB, zC, zD, zE]; (repeat ((first | (refine wE_skip (by rfl) ?_) | (refine wE_open (by rfl) (by rfl) ?_; apply Exists.intro; refine ⟨fun vs wq hw => ?_, ?_⟩; (focus (simp only [HCl.out, zD, zE] at hw; go_split_ands; go_simp <;> exact ebb)))); simp only [Act.put, Nat.reduceAdd, zA, zB, zC, zD, zE])); refine wE_nil ?_; intro w9 hw; simp only [HCl.out, zD, zE] at hw; clear HCl; obtain ⟨hO9, hh9⟩ := hw
     clear e0S e1S z0S z1S HWS
     go_wp2_with go_guarded
     have hp9 := par_end d a j pv i2 j' xa (by rw [HDSE.out]; exact HXA.out) (by rw [HDSE.out, ← HIE.out]; exact HEND.out.1) (by rw [HDSE.out]; exact HEND.out.2) (by omega)
     rw [HDSE.out] at hp9
     refine bodyPost_ret (v := .tuple #[.int .i64 j', .bool true]) (by simp [results, Tryz.results145, go_sem, *]) rfl ?_
     rw [hp9]
     exact ⟨rfl, hh9, hO9⟩
end Go.Proofs.YtffaahipgabkhaaGreat
end
