/- Joined texts. -/
import Derived.Test.YtffaahipgabkhaaGreatJn0
import Derived.Test.YtffaahipgabkhaaGreatJn27
set_option linter.unusedVariables false
set_option linter.unusedSimpArgs false
set_option maxRecDepth 100000
set_option maxHeartbeats 16000000
section
namespace Go.Proofs.YtffaahipgabkhaaGreat
open Go.RowKit Fg Reg Go.Sort
attribute [local irreducible] Reg.wE Holds
theorem pel_end2 (a i j i2 j2 : Nat) (d : Array Int) (xa : Int) (hx : d[a]! = xa) (h1 : scanUp (fun x => !ltInt xa x) d j i = i2) (h2 : scanDown (fun x => ltInt xa x) d i2 j = j2) (h : i2 > j2) : partEqLoop ltInt a i j d = (i2, d) := by
 subst hx; exact pel_end a i j i2 j2 d h1 h2 h
theorem pel_go2 (a i j i2 j2 : Nat) (d : Array Int) (xa : Int) (hx : d[a]! = xa) (h1 : scanUp (fun x => !ltInt xa x) d j i = i2) (h2 : scanDown (fun x => ltInt xa x) d i2 j = j2) (h : ¬ i2 > j2) (g1 : i ≤ i2) (g2 : j2 ≤ j) (g3 : 1 ≤ i) : partEqLoop ltInt a i j d = partEqLoop ltInt a (i2 + 1) (j2 - 1) (swp d i2 j2) := by
 subst hx; exact pel_go a i j i2 j2 d h1 h2 h g1 g2 g3
theorem cell_sw {blk x y : Nat} {z : World} {v : Value} (hc : z.cell? ⟨blk, y, none⟩ = some v) : (z.setCell ⟨blk, x, none⟩ v).cell? ⟨blk, y, none⟩ = some v := by
 by_cases h : x = y
 ·subst h
  simp [go_sem, hc]
 ·have h2 : ¬ y = x := fun e => h e.symm
  simp [go_sem, hc, h, h2]
theorem peq_c (blk off cap a b pv : Nat) (d : Array Int) (w : World) (hH : Holds (Value.int .u64) (w) blk off (d)) (hl : blk < w.heap.size) (hab : a < b) (hb : b ≤ d.size) (hp : pv < d.size) (hsz : d.size ≤ 100000) :
  Calls Tryz.prog 144 #[.slice (some ⟨blk, off, none⟩) d.size cap, .int .i64 a, .int .i64 b, .int .i64 pv] w fun e w' => e = .returned (.int .i64 ((partitionEqual ltInt d a b pv).1 : Nat)) ∧ Holds (Value.int .u64) (w') blk off ((partitionEqual ltInt d a b pv).2) ∧ Only (fun k => k = blk) w w' := by
 obtain ⟨B, rfl⟩ : ∃ B, b = B + 1 := ⟨b - 1, by omega⟩
 have hpure : partitionEqual ltInt d a (B + 1) pv = partEqLoop ltInt a (a + 1) B (swp d a pv) := rfl
 rw [hpure]
 clear hpure
 have HUS := Lib.hid hH
 obtain ⟨e0S, z0S⟩ := hu_at hH a (by omega)
 obtain ⟨e1S, z1S⟩ := hu_at hH pv hp
 have HWS := Lib.hid (fun z (h : Holds (Value.int .u64) (z) blk off (d)) (hz : blk < z.heap.size) => hu_swx h a pv (by omega) hp hz)
 have hobS : Only (fun k => k = blk) w w := Only.refl _ _
 have hlS := hl
 have eB : (B : Int) + 1 - 1 = B := by omega
 have l0 : (a : Int) < d.size := by omega
 have lp : (pv : Int) < d.size := by omega
 have m0 : a < d.size := by omega
 clear hH
 have HS9 := Lib.hid (swp_size d a pv)
 generalize hY : d[a]! = yv at *
 generalize hX : d[pv]! = xv at *
 clear hX hY
 go_enter Tryz.func144, Tryz.ntmps144
 go_wp2_with go_guarded
 obtain ⟨Cl, HCl⟩ := zH (α := List Value → World → Prop) ((fun ps wz => Only (fun k => k = blk) w wz ∧ (match ps with | [] => wz.cell? ⟨blk, off + pv, none⟩ = some (.int .u64 xv) ∧ wz.cell? ⟨blk, off + a, none⟩ = some (.int .u64 yv) ∧ wz.frozen? ⟨blk, off + pv, none⟩ = false ∧ wz.frozen? ⟨blk, off + a, none⟩ = false ∧ blk < wz.heap.size ∧ Holds (Value.int .u64) (wz) blk off (d) | [_] => ∃ z0 : World, wz = z0.setCell ⟨blk, off + a, none⟩ (.int .u64 xv) ∧ Holds (Value.int .u64) (z0) blk off (d) ∧ blk < z0.heap.size ∧ z0.frozen? ⟨blk, off + pv, none⟩ = false ∧ z0.cell? ⟨blk, off + pv, none⟩ = some (.int .u64 xv) | _ => Holds (Value.int .u64) (wz) blk off (swp d a pv)))); refine wp_region_eff [13, 15] Cl (by kernel_rfl) (by kernel_rfl) (by simp only [HCl.out, zD, zE]; exact ⟨hobS.drew, e1S, e0S, z1S, z0S, hlS, hu_below HUS.out hlS (Below.drew (Below.refl _ _))⟩) ?_
 (repeat ((first | (refine wE_skip (by rfl) ?_) | (refine wE_open (by rfl) (by rfl) ?_; apply Exists.intro; refine ⟨fun vs wq hw => ?_, ?_⟩; (focus (simp only [HCl.out, zD, zE] at hw; go_split_ands; go_simp <;> exact ebb))) | (refine wE_seal (by rfl) (by rfl) (by kernel_rfl) ?_; apply Exists.intro; refine ⟨fun wq hw => ?_, ?_⟩; (focus (simp only [HCl.out, zD, zE] at hw; go_split_ands; go_simp <;> (try go_bits) <;> exact rfl))) | (refine wE_eff (by rfl) (by rfl) (fun wq hw => ?_) (fun u hu => ?_); (focus (simp only [HCl.out, zD, zE] at hw; go_split_ands; go_simp; simp only [HCl.out, zD, zE]; fail; exact kpb)); clear hu)); simp only [Act.put, Nat.reduceAdd, zA, zB, zC, zD, zE])); refine wE_eff (by rfl) (by rfl) (fun wq hw => ?_) (fun u hu => ?_); (focus (simp only [HCl.out, zD, zE] at hw; obtain ⟨hO, g1, g0, k1, k0, hlq, hh⟩ := hw; go_simp; simp only [HCl.out, zD, zE]; refine ⟨hO.setOne _ _ _, wq, rfl, ?_, ?_, ?_, ?_⟩ <;> first | exact hh | exact hlq | exact k1 | exact g1)); clear hu; simp only [Act.put, Nat.reduceAdd, zA, zB, zC, zD, zE]; (repeat ((first | (refine wE_skip (by rfl) ?_) | (refine wE_open (by rfl) (by rfl) ?_; apply Exists.intro; refine ⟨fun vs wq hw => ?_, ?_⟩; (focus (simp only [HCl.out, zD, zE] at hw; go_split_ands; go_simp <;> exact ebb)))); simp only [Act.put, Nat.reduceAdd, zA, zB, zC, zD, zE])); refine wE_eff (by rfl) (by rfl) (fun wq hw => ?_) (fun u hu => ?_); (focus (simp only [HCl.out, zD, zE] at hw; obtain ⟨hO, z0, rfl, hh, hlq, k0, g0⟩ := hw; have hcy := cell_sw (x := off + a) (y := off + pv) g0; go_simp; simp only [HCl.out, zD, zE]; exact ⟨hO.setOne _ _ _, HWS.out z0 hh hlq⟩)); clear hu; simp only [Act.put, Nat.reduceAdd, zA, zB, zC, zD, zE]; (repeat ((first | (refine wE_skip (by rfl) ?_) | (refine wE_open (by rfl) (by rfl) ?_; apply Exists.intro; refine ⟨fun vs wq hw => ?_, ?_⟩; (focus (simp only [HCl.out, zD, zE] at hw; go_split_ands; go_simp <;> exact ebb)))); simp only [Act.put, Nat.reduceAdd, zA, zB, zC, zD, zE])); refine wE_nil ?_; intro w9 hw; simp only [HCl.out, zD, zE] at hw; clear HCl; obtain ⟨hO9, hh9⟩ := hw
 generalize hdse : swp d a pv = ds at *
 have HDSE := Lib.hid hdse
 clear hdse
 have hd1 : ds.size = d.size := HS9.out
 have HH9 := Lib.hid hh9
 clear e0S e1S z0S z1S HWS HUS hobS hlS hh9
 go_wp2_with go_guarded
 go_loopw [9, 10] (fun ii jj wr => ∃ (i j : Nat) (dd : Array Int), a + 1 ≤ i ∧ i ≤ j + 2 ∧ j ≤ B ∧ ii = .int .i64 i ∧ jj = .int .i64 j ∧ dd.size = d.size ∧ partEqLoop ltInt a i j dd = partEqLoop ltInt a (a + 1) B ds ∧ Holds (Value.int .u64) (wr) blk off (dd) ∧ Only (fun k => k = blk) w wr) (fun ii jj _ => (intOf jj + 1 - intOf ii).toNat)
 case atStart => exact ⟨a + 1, B, ds, Nat.le_refl _, by omega, Nat.le_refl _, by first | rfl | go_num, by first | rfl | go_num, hd1, rfl, HH9.out, hO9⟩
 case round =>
  obtain ⟨i, j, de, hai, hij, hjB, rfl, rfl, hde, hpr, hhu, hob⟩ := hrel
  rename World => wo
  have hlo : blk < wo.heap.size := Nat.lt_of_lt_of_le hl hob.size
  have HDE := Lib.hid hhu
  obtain ⟨xa, hxa⟩ : ∃ xa, de[a]! = xa := ⟨_, rfl⟩
  have HXA := Lib.hid hxa
  clear hhu hxa
  go_wp2_with go_guarded
  go_loopw [9] (fun ii wq => ∃ i' : Nat, i ≤ i' ∧ i' ≤ j + 2 ∧ ii = .int .i64 i' ∧ scanUp (fun x => !ltInt xa x) de j i' = scanUp (fun x => !ltInt xa x) de j i ∧ wo.heap.size ≤ wq.heap.size ∧ Below wo.heap.size wo wq) (fun ii _ => j + 1 - (intOf ii).toNat)
  case atStart => exact ⟨i, Nat.le_refl _, hij, rfl, rfl, Nat.le_refl _, Below.refl _ _⟩
  case round =>
   obtain ⟨i', hi1, hi2, rfl, hsc, hszi, hBi⟩ := hrel
   have hlz : blk < wr.heap.size := Nat.lt_of_lt_of_le hlo hBi.size
   have hhu2 := hu_below HDE.out hlo hBi
   by_cases hle : i' ≤ j
   ·have d1' : decide ((i' : Int) ≤ j) = true := by simp; omega
    have d2' : decide (i' ≤ j) = true := by simpa using hle
    have m1 : i' < d.size := by omega
    have l1 : (i' : Int) < d.size := by omega
    obtain ⟨g0, -⟩ := hu_at hhu2 a (by omega)
    rw [HXA.out] at g0
    obtain ⟨g1, -⟩ := hu_at hhu2 i' (by omega)
    have klr := fun z => les_c xa de[i']! z
    clear hhu2
    cases hlt : decide (xa < de[i']!) with
    | false =>
     have HS1 := Lib.hid ((su_go (fun x => !ltInt xa x) de j i' hle (by show (!ltInt xa de[i']!) = true; unfold ltInt; rw [hlt]; rfl)).symm.trans hsc)
     rw [hlt] at klr
     have KL := Lib.hid klr
     clear klr hsc hlt
     generalize de[i']! = xb at *
     go_wp2_with go_guarded
     obtain ⟨Cl, HCl⟩ := zH (α := List Value → World → Prop) ((fun ps wz => wz.cell? ⟨blk, off + a, none⟩ = some (.int .u64 xa) ∧ wz.cell? ⟨blk, off + i', none⟩ = some (.int .u64 xb) ∧ blk < wz.heap.size ∧ wr.heap.size ≤ wz.heap.size ∧ Below wr.heap.size wr wz)); refine wp_region_eff [] Cl (by kernel_rfl) (by kernel_rfl) (by simp only [HCl.out, zD, zE]; exact kpb) ?_; (repeat ((first | (refine wE_skip (by rfl) ?_) | (refine wE_open (by rfl) (by rfl) ?_; apply Exists.intro; refine ⟨fun vs wq hw => ?_, ?_⟩; (focus (simp only [HCl.out, zD, zE] at hw; go_split_ands; go_simp <;> exact ebb))) | (refine wE_seal (by rfl) (by rfl) (by kernel_rfl) ?_; apply Exists.intro; refine ⟨fun wq hw => ?_, ?_⟩; (focus (simp only [HCl.out, zD, zE] at hw; go_split_ands; go_simp <;> (try go_bits) <;> exact rfl))) | (refine wE_seal (by rfl) (by rfl) (by kernel_rfl) ?_; apply Exists.intro; refine ⟨fun wq hw => ?_, ?_⟩; (focus (simp only [HCl.out, zD, zE] at hw; go_split_ands; go_simp; (go_at_call 143; ((with_reducible refine (KL.out _).mono ?_); rintro e w' ⟨rfl, hbel⟩; obtain ⟨hcc, hff⟩ := bcell hbel; have hsz := hbel.size; (try simp at hsz); refine ⟨rfl, ?_⟩; simp only [HCl.out, zD, zE]; exact kpb)))))); simp only [Act.put, Nat.reduceAdd, zA, zB, zC, zD, zE])); refine wE_nil ?_; intro w' hw; simp only [HCl.out, zD, zE] at hw; clear HCl; go_split_ands
     have hB3 := hBi.trans (Below.mono (show Below wr.heap.size wr _ by assumption) hBi.size)
     go_wp2_with go_guarded
     go_roundw
     case rel => exact ⟨i' + 1, by omega, by omega, by go_num, HS1.out, hB3.size, hB3⟩
     case measure => first | (simp [intOf]; done) | (simp [intOf]; omega)
    | true =>
     have hs1 : scanUp (fun x => !ltInt xa x) de j i = i' := hsc.symm.trans (su_stop (fun x => !ltInt xa x) de j i' (.inr (by show (!ltInt xa de[i']!) = false; unfold ltInt; rw [hlt]; rfl)))
     rw [hlt] at klr
     have KL := Lib.hid klr
     clear klr hsc hlt
     generalize de[i']! = xb at *
     go_wp2_with go_guarded
     obtain ⟨Cl, HCl⟩ := zH (α := List Value → World → Prop) ((fun ps wz => wz.cell? ⟨blk, off + a, none⟩ = some (.int .u64 xa) ∧ wz.cell? ⟨blk, off + i', none⟩ = some (.int .u64 xb) ∧ blk < wz.heap.size ∧ wr.heap.size ≤ wz.heap.size ∧ Below wr.heap.size wr wz)); refine wp_region_eff [] Cl (by kernel_rfl) (by kernel_rfl) (by simp only [HCl.out, zD, zE]; exact kpb) ?_
     (repeat ((first | (refine wE_skip (by rfl) ?_) | (refine wE_open (by rfl) (by rfl) ?_; apply Exists.intro; refine ⟨fun vs wq hw => ?_, ?_⟩; (focus (simp only [HCl.out, zD, zE] at hw; go_split_ands; go_simp <;> exact ebb))) | (refine wE_seal (by rfl) (by rfl) (by kernel_rfl) ?_; apply Exists.intro; refine ⟨fun wq hw => ?_, ?_⟩; (focus (simp only [HCl.out, zD, zE] at hw; go_split_ands; go_simp <;> (try go_bits) <;> exact rfl))) | (refine wE_seal (by rfl) (by rfl) (by kernel_rfl) ?_; apply Exists.intro; refine ⟨fun wq hw => ?_, ?_⟩; (focus (simp only [HCl.out, zD, zE] at hw; go_split_ands; go_simp; (go_at_call 143; ((with_reducible refine (KL.out _).mono ?_); rintro e w' ⟨rfl, hbel⟩; obtain ⟨hcc, hff⟩ := bcell hbel; have hsz := hbel.size; (try simp at hsz); refine ⟨rfl, ?_⟩; simp only [HCl.out, zD, zE]; exact kpb))))) | (refine wE_eff (by rfl) (by rfl) (fun wq hw => ?_) (fun u hu => ?_); (focus (simp only [HCl.out, zD, zE] at hw; go_split_ands; go_simp; simp only [HCl.out, zD, zE]; skip; exact kpb)); clear hu)); simp only [Act.put, Nat.reduceAdd, zA, zB, zC, zD, zE]))
     refine wE_nil ?_; intro w' hw; simp only [HCl.out, zD, zE] at hw; clear HCl
     go_split_ands
     have hBq : Below wo.heap.size wo _ := hBi.trans (Below.mono (show Below wr.heap.size wr _ by assumption) hBi.size)
     obtain ⟨i2, hi2e⟩ : ∃ i2, i2 = i' := ⟨_, rfl⟩
     subst hi2e
     clear g0 g1
     go_wp2_with go_guarded
     rename World => wp
     have hBp : Below wo.heap.size wo wp := by assumption
     have hlp : blk < wp.heap.size := Nat.lt_of_lt_of_le hlo hBp.size
     go_loopw [10] (fun jj wq => ∃ j' : Nat, (i2 ≤ j' + 1 ∨ j' = j) ∧ j' ≤ j ∧ jj = .int .i64 j' ∧ scanDown (fun x => ltInt xa x) de i2 j' = scanDown (fun x => ltInt xa x) de i2 j ∧ wo.heap.size ≤ wq.heap.size ∧ Below wo.heap.size wo wq) (fun jj _ => (intOf jj).toNat)
     case atStart => exact ⟨j, .inr rfl, Nat.le_refl _, rfl, rfl, hBp.size, hBp⟩
     case round =>
      obtain ⟨j', hj1, hj2, rfl, hsc2, hsz2, hB2⟩ := hrel
      have hlz : blk < wr.heap.size := Nat.lt_of_lt_of_le hlo hB2.size
      have hhu2 := hu_below HDE.out hlo hB2
      by_cases hle2 : i2 ≤ j'
      ·obtain ⟨J, rfl⟩ : ∃ J, j' = J + 1 := ⟨j' - 1, by omega⟩
       have d1 : decide ((i2 : Int) ≤ (J : Int) + 1) = true := by simp; omega
       have d2 : decide (i2 ≤ J + 1) = true := by simpa using hle2
       have eJ : (J : Int) + 1 - 1 = J := by omega
       have m1 : J + 1 < d.size := by omega
       have l1 : (J : Int) + 1 < d.size := by omega
       have tj : ((J : Int) + 1).toNat = J + 1 := by omega
       have ljp : (0 : Int) ≤ (J : Int) + 1 := by omega
       obtain ⟨g0, -⟩ := hu_at hhu2 a (by omega)
       rw [HXA.out] at g0
       obtain ⟨g1, f1⟩ := hu_at hhu2 (J + 1) (by omega)
       have klr := fun z => les_c xa de[J + 1]! z
       cases hlt2 : decide (xa < de[J + 1]!) with
       | true =>
        have HS2 := Lib.hid ((sd_go (fun x => ltInt xa x) de i2 J hle2 hlt2).symm.trans hsc2)
        rw [hlt2] at klr
        have KL := Lib.hid klr
        clear klr hsc2 hlt2
        generalize de[J + 1]! = xc at *
        go_wp2_with go_guarded
        obtain ⟨Cl, HCl⟩ := zH (α := List Value → World → Prop) ((fun ps wz => wz.cell? ⟨blk, off + a, none⟩ = some (.int .u64 xa) ∧ wz.cell? ⟨blk, off + (J + 1), none⟩ = some (.int .u64 xc) ∧ blk < wz.heap.size ∧ wr.heap.size ≤ wz.heap.size ∧ Below wr.heap.size wr wz)); refine wp_region_eff [] Cl (by kernel_rfl) (by kernel_rfl) (by simp only [HCl.out, zD, zE]; exact kpb) ?_; (repeat ((first | (refine wE_skip (by rfl) ?_) | (refine wE_open (by rfl) (by rfl) ?_; apply Exists.intro; refine ⟨fun vs wq hw => ?_, ?_⟩; (focus (simp only [HCl.out, zD, zE] at hw; go_split_ands; go_simp <;> exact ebb))) | (refine wE_seal (by rfl) (by rfl) (by kernel_rfl) ?_; apply Exists.intro; refine ⟨fun wq hw => ?_, ?_⟩; (focus (simp only [HCl.out, zD, zE] at hw; go_split_ands; go_simp <;> (try go_bits) <;> exact rfl))) | (refine wE_seal (by rfl) (by rfl) (by kernel_rfl) ?_; apply Exists.intro; refine ⟨fun wq hw => ?_, ?_⟩; (focus (simp only [HCl.out, zD, zE] at hw; go_split_ands; go_simp; (go_at_call 143; ((with_reducible refine (KL.out _).mono ?_); rintro e w' ⟨rfl, hbel⟩; obtain ⟨hcc, hff⟩ := bcell hbel; have hsz := hbel.size; (try simp at hsz); refine ⟨rfl, ?_⟩; simp only [HCl.out, zD, zE]; exact kpb)))))); simp only [Act.put, Nat.reduceAdd, zA, zB, zC, zD, zE])); refine wE_nil ?_; intro w' hw; simp only [HCl.out, zD, zE] at hw; clear HCl; go_split_ands
        have hB3 := hB2.trans (Below.mono (show Below wr.heap.size wr _ by assumption) hB2.size)
        go_wp2_with go_guarded
        go_roundw
        case rel => exact ⟨J, by omega, by omega, by go_num, HS2.out, hB3.size, hB3⟩
        case measure => first | (simp [intOf]; done) | (simp [intOf]; omega)
       | false =>
        have hs2 : scanDown (fun x => ltInt xa x) de i2 j = J + 1 := hsc2.symm.trans (sd_stop (fun x => ltInt xa x) de i2 (J + 1) (.inr hlt2))
        have HGO := Lib.hid ((pel_go2 a i j i2 (J + 1) de xa HXA.out hs1 hs2 (by omega) (by omega) (by omega) (by omega)).symm.trans hpr)
        have hsw := fun z (h : Holds (Value.int .u64) (z) blk off (de)) (hz : blk < z.heap.size) => hu_swx h i2 (J + 1) (by omega) (by omega) hz
        have d3 : decide ((J : Int) + 1 < i2) = false := by simp; omega
        have d4 : decide (J + 1 < i2) = false := by simp; omega
        have m2 : i2 < d.size := by omega
        have l2 : (i2 : Int) < d.size := by omega
        rw [hlt2] at klr
        have KL := Lib.hid klr
        clear klr hsc2 hlt2 hpr hs1 hs2
        have HD2 := Lib.hid hhu2
        clear hhu2
        obtain ⟨yv, hyv⟩ : ∃ yv, de[i2]! = yv := ⟨_, rfl⟩
        obtain ⟨xv, hxv⟩ : ∃ xv, de[J + 1]! = xv := ⟨_, rfl⟩
        have HYV := Lib.hid hyv
        have HXV := Lib.hid hxv
        rw [hxv] at g1 KL
        simp only [hyv, hxv] at hsw
        clear hyv hxv
        go_wp2_with go_guarded
        obtain ⟨Cl, HCl⟩ := zH (α := List Value → World → Prop) ((fun ps wz => wz.cell? ⟨blk, off + a, none⟩ = some (.int .u64 xa) ∧ wz.cell? ⟨blk, off + (J + 1), none⟩ = some (.int .u64 xv) ∧ blk < wz.heap.size ∧ wr.heap.size ≤ wz.heap.size ∧ Below wr.heap.size wr wz)); refine wp_region_eff [] Cl (by kernel_rfl) (by kernel_rfl) (by simp only [HCl.out, zD, zE]; exact kpb) ?_
        (repeat ((first | (refine wE_skip (by rfl) ?_) | (refine wE_open (by rfl) (by rfl) ?_; apply Exists.intro; refine ⟨fun vs wq hw => ?_, ?_⟩; (focus (simp only [HCl.out, zD, zE] at hw; go_split_ands; go_simp <;> exact ebb))) | (refine wE_seal (by rfl) (by rfl) (by kernel_rfl) ?_; apply Exists.intro; refine ⟨fun wq hw => ?_, ?_⟩; (focus (simp only [HCl.out, zD, zE] at hw; go_split_ands; go_simp <;> (try go_bits) <;> exact rfl))) | (refine wE_seal (by rfl) (by rfl) (by kernel_rfl) ?_; apply Exists.intro; refine ⟨fun wq hw => ?_, ?_⟩; (focus (simp only [HCl.out, zD, zE] at hw; go_split_ands; go_simp; (go_at_call 143; ((with_reducible refine (KL.out _).mono ?_); rintro e w' ⟨rfl, hbel⟩; obtain ⟨hcc, hff⟩ := bcell hbel; have hsz := hbel.size; (try simp at hsz); refine ⟨rfl, ?_⟩; simp only [HCl.out, zD, zE]; exact kpb))))) | (refine wE_eff (by rfl) (by rfl) (fun wq hw => ?_) (fun u hu => ?_); (focus (simp only [HCl.out, zD, zE] at hw; go_split_ands; go_simp; simp only [HCl.out, zD, zE]; skip; exact kpb)); clear hu)); simp only [Act.put, Nat.reduceAdd, zA, zB, zC, zD, zE]))
        refine wE_nil ?_; intro w' hw; simp only [HCl.out, zD, zE] at hw; clear HCl
        go_split_ands
        rename World => wx
        have hBx : Below wr.heap.size wr wx := by assumption
        have HUS := Lib.hid (hu_below HD2.out hlz hBx)
        have hlS : blk < wx.heap.size := Nat.lt_of_lt_of_le hlz hBx.size
        have hobS := hob.trans (Only.of_below (S := fun k => k = blk) (hB2.trans (Below.mono hBx hB2.size)))
        obtain ⟨e0S, z0S⟩ := hu_at HUS.out i2 (by omega)
        obtain ⟨e1S, z1S⟩ := hu_at HUS.out (J + 1) (by omega)
        rw [HYV.out] at e0S
        rw [HXV.out] at e1S
        clear g0 g1 f1
        have HWS := Lib.hid hsw
        clear hsw
        go_wp2_with go_guarded
        obtain ⟨Cl, HCl⟩ := zH (α := List Value → World → Prop) ((fun ps wz => Only (fun k => k = blk) w wz ∧ (match ps with | [] => wz.cell? ⟨blk, off + (J + 1), none⟩ = some (.int .u64 xv) ∧ wz.cell? ⟨blk, off + i2, none⟩ = some (.int .u64 yv) ∧ wz.frozen? ⟨blk, off + (J + 1), none⟩ = false ∧ wz.frozen? ⟨blk, off + i2, none⟩ = false ∧ blk < wz.heap.size ∧ Holds (Value.int .u64) (wz) blk off (de) | [_] => ∃ z0 : World, wz = z0.setCell ⟨blk, off + i2, none⟩ (.int .u64 xv) ∧ Holds (Value.int .u64) (z0) blk off (de) ∧ blk < z0.heap.size ∧ z0.frozen? ⟨blk, off + (J + 1), none⟩ = false ∧ z0.cell? ⟨blk, off + (J + 1), none⟩ = some (.int .u64 xv) | _ => Holds (Value.int .u64) (wz) blk off (swp de i2 (J + 1))))); refine wp_region_eff [13, 15] Cl (by kernel_rfl) (by kernel_rfl) (by simp only [HCl.out, zD, zE]; exact ⟨hobS.drew, e1S, e0S, z1S, z0S, hlS, hu_below HUS.out hlS (Below.drew (Below.refl _ _))⟩) ?_
        (repeat ((first | (refine wE_skip (by rfl) ?_) | (refine wE_open (by rfl) (by rfl) ?_; apply Exists.intro; refine ⟨fun vs wq hw => ?_, ?_⟩; (focus (simp only [HCl.out, zD, zE] at hw; go_split_ands; go_simp <;> exact ebb))) | (refine wE_seal (by rfl) (by rfl) (by kernel_rfl) ?_; apply Exists.intro; refine ⟨fun wq hw => ?_, ?_⟩; (focus (simp only [HCl.out, zD, zE] at hw; go_split_ands; go_simp <;> (try go_bits) <;> exact rfl))) | (refine wE_eff (by rfl) (by rfl) (fun wq hw => ?_) (fun u hu => ?_); (focus (simp only [HCl.out, zD, zE] at hw; go_split_ands; go_simp; simp only [HCl.out, zD, zE]; fail; exact kpb)); clear hu)); simp only [Act.put, Nat.reduceAdd, zA, zB, zC, zD, zE])); refine wE_eff (by rfl) (by rfl) (fun wq hw => ?_) (fun u hu => ?_); (focus (simp only [HCl.out, zD, zE] at hw; obtain ⟨hO, g1, g0, k1, k0, hlq, hh⟩ := hw; go_simp; simp only [HCl.out, zD, zE]; refine ⟨hO.setOne _ _ _, wq, rfl, ?_, ?_, ?_, ?_⟩ <;> first | exact hh | exact hlq | exact k1 | exact g1)); clear hu; simp only [Act.put, Nat.reduceAdd, zA, zB, zC, zD, zE]; (repeat ((first | (refine wE_skip (by rfl) ?_) | (refine wE_open (by rfl) (by rfl) ?_; apply Exists.intro; refine ⟨fun vs wq hw => ?_, ?_⟩; (focus (simp only [HCl.out, zD, zE] at hw; go_split_ands; go_simp <;> exact ebb)))); simp only [Act.put, Nat.reduceAdd, zA, zB, zC, zD, zE])); refine wE_eff (by rfl) (by rfl) (fun wq hw => ?_) (fun u hu => ?_); (focus (simp only [HCl.out, zD, zE] at hw; obtain ⟨hO, z0, rfl, hh, hlq, k0, g0⟩ := hw; have hcy := cell_sw (x := off + i2) (y := off + (J + 1)) g0; go_simp; simp only [HCl.out, zD, zE]; exact ⟨hO.setOne _ _ _, HWS.out z0 hh hlq⟩)); clear hu; simp only [Act.put, Nat.reduceAdd, zA, zB, zC, zD, zE]; (repeat ((first | (refine wE_skip (by rfl) ?_) | (refine wE_open (by rfl) (by rfl) ?_; apply Exists.intro; refine ⟨fun vs wq hw => ?_, ?_⟩; (focus (simp only [HCl.out, zD, zE] at hw; go_split_ands; go_simp <;> exact ebb)))); simp only [Act.put, Nat.reduceAdd, zA, zB, zC, zD, zE])); refine wE_nil ?_; intro w9 hw; simp only [HCl.out, zD, zE] at hw; clear HCl; obtain ⟨hO9, hh9⟩ := hw
        go_wp2_with go_guarded
        go_roundw
        case rel => exact ⟨i2 + 1, J, swp de i2 (J + 1), by omega, by omega, by omega, by go_num, by go_num, by rw [swp_size]; exact hde, HGO.out, hh9, hO9⟩
        case measure => first | (simp [intOf]; done) | (simp [intOf]; omega)
      ·have hs2 : scanDown (fun x => ltInt xa x) de i2 j = j' := hsc2.symm.trans (sd_stop (fun x => ltInt xa x) de i2 j' (.inl (by omega)))
       have HEND := Lib.hid ((pel_end2 a i j i2 j' de xa HXA.out hs1 hs2 (by omega)).symm.trans hpr)
       have d1 : decide ((i2 : Int) ≤ j') = false := by simp; omega
       have d2 : decide (i2 ≤ j') = false := by simp; omega
       have d3 : decide ((j' : Int) < i2) = true := by simp; omega
       have d4 : decide (j' < i2) = true := by simp; omega
       clear hsc2 hs1 hs2 hpr hhu2
       go_wp2_with go_guarded
       obtain ⟨Cl, HCl⟩ := zH (α := List Value → World → Prop) ((fun ps wz => blk < wz.heap.size ∧ wr.heap.size ≤ wz.heap.size ∧ Below wr.heap.size wr wz)); refine wp_region_eff [] Cl (by kernel_rfl) (by kernel_rfl) (by simp only [HCl.out, zD, zE]; exact kpb) ?_; (repeat ((first | (refine wE_skip (by rfl) ?_) | (refine wE_open (by rfl) (by rfl) ?_; apply Exists.intro; refine ⟨fun vs wq hw => ?_, ?_⟩; (focus (simp only [HCl.out, zD, zE] at hw; go_split_ands; go_simp <;> exact ebb))) | (refine wE_seal (by rfl) (by rfl) (by kernel_rfl) ?_; apply Exists.intro; refine ⟨fun wq hw => ?_, ?_⟩; (focus (simp only [HCl.out, zD, zE] at hw; go_split_ands; go_simp <;> (try go_bits) <;> exact rfl)))); simp only [Act.put, Nat.reduceAdd, zA, zB, zC, zD, zE])); refine wE_nil ?_; intro w' hw; simp only [HCl.out, zD, zE] at hw; clear HCl; go_split_ands
       have hBf := hB2.trans (Below.mono (show Below wr.heap.size wr _ by assumption) hB2.size)
       go_wp2_with go_guarded
       go_ret
       refine ⟨?_, ?_, hob.trans (Only.of_below (S := fun k => k = blk) hBf)⟩
       ·rw [HDSE.out, ← HEND.out]
        rfl
       ·rw [HDSE.out, ← HEND.out]
        exact hu_below HDE.out hlo hBf
   ·have hs1 : scanUp (fun x => !ltInt xa x) de j i = i' := hsc.symm.trans (su_stop (fun x => !ltInt xa x) de j i' (.inl (by omega)))
    have d1' : decide ((i' : Int) ≤ j) = false := by simp; omega
    have d2' : decide (i' ≤ j) = false := by simp; omega
    clear hsc hhu2
    go_wp2_with go_guarded
    obtain ⟨Cl, HCl⟩ := zH (α := List Value → World → Prop) ((fun ps wz => blk < wz.heap.size ∧ wr.heap.size ≤ wz.heap.size ∧ Below wr.heap.size wr wz)); refine wp_region_eff [] Cl (by kernel_rfl) (by kernel_rfl) (by simp only [HCl.out, zD, zE]; exact kpb) ?_; (repeat ((first | (refine wE_skip (by rfl) ?_) | (refine wE_open (by rfl) (by rfl) ?_; apply Exists.intro; refine ⟨fun vs wq hw => ?_, ?_⟩; (focus (simp only [HCl.out, zD, zE] at hw; go_split_ands; go_simp <;> exact ebb))) | (refine wE_seal (by rfl) (by rfl) (by kernel_rfl) ?_; apply Exists.intro; refine ⟨fun wq hw => ?_, ?_⟩; (focus (simp only [HCl.out, zD, zE] at hw; go_split_ands; go_simp <;> (try go_bits) <;> exact rfl)))); simp only [Act.put, Nat.reduceAdd, zA, zB, zC, zD, zE])); refine wE_nil ?_; intro w' hw; simp only [HCl.out, zD, zE] at hw; clear HCl; go_split_ands
    have hBq : Below wo.heap.size wo _ := hBi.trans (Below.mono (show Below wr.heap.size wr _ by assumption) hBi.size)
    obtain ⟨i2, hi2e⟩ : ∃ i2, i2 = i' := ⟨_, rfl⟩
    subst hi2e
    go_wp2_with go_guarded
    rename World => wp
    have hBp : Below wo.heap.size wo wp := by assumption
    have hlp : blk < wp.heap.size := Nat.lt_of_lt_of_le hlo hBp.size
    go_loopw [10] (fun jj wq => ∃ j' : Nat, (i2 ≤ j' + 1 ∨ j' = j) ∧ j' ≤ j ∧ jj = .int .i64 j' ∧ scanDown (fun x => ltInt xa x) de i2 j' = scanDown (fun x => ltInt xa x) de i2 j ∧ wo.heap.size ≤ wq.heap.size ∧ Below wo.heap.size wo wq) (fun jj _ => (intOf jj).toNat)
    case atStart => exact ⟨j, .inr rfl, Nat.le_refl _, rfl, rfl, hBp.size, hBp⟩
    case round =>
     obtain ⟨j', hj1, hj2, rfl, hsc2, hsz2, hB2⟩ := hrel
     have hlz : blk < wr.heap.size := Nat.lt_of_lt_of_le hlo hB2.size
     have hhu2 := hu_below HDE.out hlo hB2
     by_cases hle2 : i2 ≤ j'
     ·obtain ⟨J, rfl⟩ : ∃ J, j' = J + 1 := ⟨j' - 1, by omega⟩
      have d1 : decide ((i2 : Int) ≤ (J : Int) + 1) = true := by simp; omega
      have d2 : decide (i2 ≤ J + 1) = true := by simpa using hle2
      have eJ : (J : Int) + 1 - 1 = J := by omega
      have m1 : J + 1 < d.size := by omega
      have l1 : (J : Int) + 1 < d.size := by omega
      have tj : ((J : Int) + 1).toNat = J + 1 := by omega
      have ljp : (0 : Int) ≤ (J : Int) + 1 := by omega
      obtain ⟨g0, -⟩ := hu_at hhu2 a (by omega)
      rw [HXA.out] at g0
      obtain ⟨g1, f1⟩ := hu_at hhu2 (J + 1) (by omega)
      have klr := fun z => les_c xa de[J + 1]! z
      cases hlt2 : decide (xa < de[J + 1]!) with
      | true =>
       have HS2 := Lib.hid ((sd_go (fun x => ltInt xa x) de i2 J hle2 hlt2).symm.trans hsc2)
       rw [hlt2] at klr
       have KL := Lib.hid klr
       clear klr hsc2 hlt2
       generalize de[J + 1]! = xc at *
       go_wp2_with go_guarded
       obtain ⟨Cl, HCl⟩ := zH (α := List Value → World → Prop) ((fun ps wz => wz.cell? ⟨blk, off + a, none⟩ = some (.int .u64 xa) ∧ wz.cell? ⟨blk, off + (J + 1), none⟩ = some (.int .u64 xc) ∧ blk < wz.heap.size ∧ wr.heap.size ≤ wz.heap.size ∧ Below wr.heap.size wr wz)); refine wp_region_eff [] Cl (by kernel_rfl) (by kernel_rfl) (by simp only [HCl.out, zD, zE]; exact kpb) ?_; (repeat ((first | (refine wE_skip (by rfl) ?_) | (refine wE_open (by rfl) (by rfl) ?_; apply Exists.intro; refine ⟨fun vs wq hw => ?_, ?_⟩; (focus (simp only [HCl.out, zD, zE] at hw; go_split_ands; go_simp <;> exact ebb))) | (refine wE_seal (by rfl) (by rfl) (by kernel_rfl) ?_; apply Exists.intro; refine ⟨fun wq hw => ?_, ?_⟩; (focus (simp only [HCl.out, zD, zE] at hw; go_split_ands; go_simp <;> (try go_bits) <;> exact rfl))) | (refine wE_seal (by rfl) (by rfl) (by kernel_rfl) ?_; apply Exists.intro; refine ⟨fun wq hw => ?_, ?_⟩; (focus (simp only [HCl.out, zD, zE] at hw; go_split_ands; go_simp; (go_at_call 143; ((with_reducible refine (KL.out _).mono ?_); rintro e w' ⟨rfl, hbel⟩; obtain ⟨hcc, hff⟩ := bcell hbel; have hsz := hbel.size; (try simp at hsz); refine ⟨rfl, ?_⟩; simp only [HCl.out, zD, zE]; exact kpb)))))); simp only [Act.put, Nat.reduceAdd, zA, zB, zC, zD, zE])); refine wE_nil ?_; intro w' hw; simp only [HCl.out, zD, zE] at hw; clear HCl; go_split_ands
       have hB3 := hB2.trans (Below.mono (show Below wr.heap.size wr _ by assumption) hB2.size)
       go_wp2_with go_guarded
       go_roundw
       case rel => exact ⟨J, by omega, by omega, by go_num, HS2.out, hB3.size, hB3⟩
       case measure => first | (simp [intOf]; done) | (simp [intOf]; omega)
      | false =>
       have hs2 : scanDown (fun x => ltInt xa x) de i2 j = J + 1 := hsc2.symm.trans (sd_stop (fun x => ltInt xa x) de i2 (J + 1) (.inr hlt2))
       have HGO := Lib.hid ((pel_go2 a i j i2 (J + 1) de xa HXA.out hs1 hs2 (by omega) (by omega) (by omega) (by omega)).symm.trans hpr)
       have hsw := fun z (h : Holds (Value.int .u64) (z) blk off (de)) (hz : blk < z.heap.size) => hu_swx h i2 (J + 1) (by omega) (by omega) hz
       have d3 : decide ((J : Int) + 1 < i2) = false := by simp; omega
       have d4 : decide (J + 1 < i2) = false := by simp; omega
       have m2 : i2 < d.size := by omega
       have l2 : (i2 : Int) < d.size := by omega
       rw [hlt2] at klr
       have KL := Lib.hid klr
       clear klr hsc2 hlt2 hpr hs1 hs2
       have HD2 := Lib.hid hhu2
       clear hhu2
       obtain ⟨yv, hyv⟩ : ∃ yv, de[i2]! = yv := ⟨_, rfl⟩
       obtain ⟨xv, hxv⟩ : ∃ xv, de[J + 1]! = xv := ⟨_, rfl⟩
       have HYV := Lib.hid hyv
       have HXV := Lib.hid hxv
       rw [hxv] at g1 KL
       simp only [hyv, hxv] at hsw
       clear hyv hxv
       go_wp2_with go_guarded
       obtain ⟨Cl, HCl⟩ := zH (α := List Value → World → Prop) ((fun ps wz => wz.cell? ⟨blk, off + a, none⟩ = some (.int .u64 xa) ∧ wz.cell? ⟨blk, off + (J + 1), none⟩ = some (.int .u64 xv) ∧ blk < wz.heap.size ∧ wr.heap.size ≤ wz.heap.size ∧ Below wr.heap.size wr wz)); refine wp_region_eff [] Cl (by kernel_rfl) (by kernel_rfl) (by simp only [HCl.out, zD, zE]; exact kpb) ?_
       (repeat ((first | (refine wE_skip (by rfl) ?_) | (refine wE_open (by rfl) (by rfl) ?_; apply Exists.intro; refine ⟨fun vs wq hw => ?_, ?_⟩; (focus (simp only [HCl.out, zD, zE] at hw; go_split_ands; go_simp <;> exact ebb))) | (refine wE_seal (by rfl) (by rfl) (by kernel_rfl) ?_; apply Exists.intro; refine ⟨fun wq hw => ?_, ?_⟩; (focus (simp only [HCl.out, zD, zE] at hw; go_split_ands; go_simp <;> (try go_bits) <;> exact rfl))) | (refine wE_seal (by rfl) (by rfl) (by kernel_rfl) ?_; apply Exists.intro; refine ⟨fun wq hw => ?_, ?_⟩; (focus (simp only [HCl.out, zD, zE] at hw; go_split_ands; go_simp; (go_at_call 143; ((with_reducible refine (KL.out _).mono ?_); rintro e w' ⟨rfl, hbel⟩; obtain ⟨hcc, hff⟩ := bcell hbel; have hsz := hbel.size; (try simp at hsz); refine ⟨rfl, ?_⟩; simp only [HCl.out, zD, zE]; exact kpb))))) | (refine wE_eff (by rfl) (by rfl) (fun wq hw => ?_) (fun u hu => ?_); (focus (simp only [HCl.out, zD, zE] at hw; go_split_ands; go_simp; simp only [HCl.out, zD, zE]; skip; exact kpb)); clear hu)); simp only [Act.put, Nat.reduceAdd, zA, zB, zC, zD, zE]))
       refine wE_nil ?_; intro w' hw; simp only [HCl.out, zD, zE] at hw; clear HCl
       go_split_ands
       rename World => wx
       have hBx : Below wr.heap.size wr wx := by assumption
       have HUS := Lib.hid (hu_below HD2.out hlz hBx)
       have hlS : blk < wx.heap.size := Nat.lt_of_lt_of_le hlz hBx.size
       have hobS := hob.trans (Only.of_below (S := fun k => k = blk) (hB2.trans (Below.mono hBx hB2.size)))
       obtain ⟨e0S, z0S⟩ := hu_at HUS.out i2 (by omega)
       obtain ⟨e1S, z1S⟩ := hu_at HUS.out (J + 1) (by omega)
       rw [HYV.out] at e0S
       rw [HXV.out] at e1S
       clear g0 g1 f1
       have HWS := Lib.hid hsw
       clear hsw
       go_wp2_with go_guarded
       obtain ⟨Cl, HCl⟩ := zH (α := List Value → World → Prop) ((fun ps wz => Only (fun k => k = blk) w wz ∧ (match ps with | [] => wz.cell? ⟨blk, off + (J + 1), none⟩ = some (.int .u64 xv) ∧ wz.cell? ⟨blk, off + i2, none⟩ = some (.int .u64 yv) ∧ wz.frozen? ⟨blk, off + (J + 1), none⟩ = false ∧ wz.frozen? ⟨blk, off + i2, none⟩ = false ∧ blk < wz.heap.size ∧ Holds (Value.int .u64) (wz) blk off (de) | [_] => ∃ z0 : World, wz = z0.setCell ⟨blk, off + i2, none⟩ (.int .u64 xv) ∧ Holds (Value.int .u64) (z0) blk off (de) ∧ blk < z0.heap.size ∧ z0.frozen? ⟨blk, off + (J + 1), none⟩ = false ∧ z0.cell? ⟨blk, off + (J + 1), none⟩ = some (.int .u64 xv) | _ => Holds (Value.int .u64) (wz) blk off (swp de i2 (J + 1))))); refine wp_region_eff [13, 15] Cl (by kernel_rfl) (by kernel_rfl) (by simp only [HCl.out, zD, zE]; exact ⟨hobS.drew, e1S, e0S, z1S, z0S, hlS, hu_below HUS.out hlS (Below.drew (Below.refl _ _))⟩) ?_
       (repeat ((first | (refine wE_skip (by rfl) ?_) | (refine wE_open (by rfl) (by rfl) ?_; apply Exists.intro; refine ⟨fun vs wq hw => ?_, ?_⟩; (focus (simp only [HCl.out, zD, zE] at hw; go_split_ands; go_simp <;> exact ebb))) | (refine wE_seal (by rfl) (by rfl) (by kernel_rfl) ?_; apply Exists.intro; refine ⟨fun wq hw => ?_, ?_⟩; (focus (simp only [HCl.out, zD, zE] at hw; go_split_ands; go_simp <;> (try go_bits) <;> exact rfl))) | (refine wE_eff (by rfl) (by rfl) (fun wq hw => ?_) (fun u hu => ?_); (focus (simp only [HCl.out, zD, zE] at hw; go_split_ands; go_simp; simp only [HCl.out, zD, zE]; fail; exact kpb)); clear hu)); simp only [Act.put, Nat.reduceAdd, zA, zB, zC, zD, zE])); refine wE_eff (by rfl) (by rfl) (fun wq hw => ?_) (fun u hu => ?_); (focus (simp only [HCl.out, zD, zE] at hw; obtain ⟨hO, g1, g0, k1, k0, hlq, hh⟩ := hw; go_simp; simp only [HCl.out, zD, zE]; refine ⟨hO.setOne _ _ _, wq, rfl, ?_, ?_, ?_, ?_⟩ <;> first | exact hh | exact hlq | exact k1 | exact g1)); clear hu; simp only [Act.put, Nat.reduceAdd, zA, zB, zC, zD, zE]; (repeat ((first | (refine wE_skip (by rfl) ?_) | (refine wE_open (by rfl) (by rfl) ?_; apply Exists.intro; refine ⟨fun vs wq hw => ?_, ?_⟩; (focus (simp only [HCl.out, zD, zE] at hw; go_split_ands; go_simp <;> exact ebb)))); simp only [Act.put, Nat.reduceAdd, zA, zB, zC, zD, zE])); refine wE_eff (by rfl) (by rfl) (fun wq hw => ?_) (fun u hu => ?_); (focus (simp only [HCl.out, zD, zE] at hw; obtain ⟨hO, z0, rfl, hh, hlq, k0, g0⟩ := hw; have hcy := cell_sw (x := off + i2) (y := off + (J + 1)) g0; go_simp; simp only [HCl.out, zD, zE]; exact ⟨hO.setOne _ _ _, HWS.out z0 hh hlq⟩)); clear hu; simp only [Act.put, Nat.reduceAdd, zA, zB, zC, zD, zE]; (repeat ((first | (refine wE_skip (by rfl) ?_) | (refine wE_open (by rfl) (by rfl) ?_; apply Exists.intro; refine ⟨fun vs wq hw => ?_, ?_⟩; (focus (simp only [HCl.out, zD, zE] at hw; go_split_ands; go_simp <;> exact ebb)))); simp only [Act.put, Nat.reduceAdd, zA, zB, zC, zD, zE])); refine wE_nil ?_; intro w9 hw; simp only [HCl.out, zD, zE] at hw; clear HCl; obtain ⟨hO9, hh9⟩ := hw
       go_wp2_with go_guarded
       go_roundw
       case rel => exact ⟨i2 + 1, J, swp de i2 (J + 1), by omega, by omega, by omega, by go_num, by go_num, by rw [swp_size]; exact hde, HGO.out, hh9, hO9⟩
       case measure => first | (simp [intOf]; done) | (simp [intOf]; omega)
     ·have hs2 : scanDown (fun x => ltInt xa x) de i2 j = j' := hsc2.symm.trans (sd_stop (fun x => ltInt xa x) de i2 j' (.inl (by omega)))
      have HEND := Lib.hid ((pel_end2 a i j i2 j' de xa HXA.out hs1 hs2 (by omega)).symm.trans hpr)
      have d1 : decide ((i2 : Int) ≤ j') = false := by simp; omega
      have d2 : decide (i2 ≤ j') = false := by simp; omega
      have d3 : decide ((j' : Int) < i2) = true := by simp; omega
      have d4 : decide (j' < i2) = true := by simp; omega
      clear hsc2 hs1 hs2 hpr hhu2
      go_wp2_with go_guarded
      obtain ⟨Cl, HCl⟩ := zH (α := List Value → World → Prop) ((fun ps wz => blk < wz.heap.size ∧ wr.heap.size ≤ wz.heap.size ∧ Below wr.heap.size wr wz)); refine wp_region_eff [] Cl (by kernel_rfl) (by kernel_rfl) (by simp only [HCl.out, zD, zE]; exact kpb) ?_; (repeat ((first | (refine wE_skip (by rfl) ?_) | (refine wE_open (by rfl) (by rfl) ?_; apply Exists.intro; refine ⟨fun vs wq hw => ?_, ?_⟩; (focus (simp only [HCl.out, zD, zE] at hw; go_split_ands; go_simp <;> exact ebb))) | (refine wE_seal (by rfl) (by rfl) (by kernel_rfl) ?_; apply Exists.intro; refine ⟨fun wq hw => ?_, ?_⟩; (focus (simp only [HCl.out, zD, zE] at hw; go_split_ands; go_simp <;> (try go_bits) <;> exact rfl)))); simp only [Act.put, Nat.reduceAdd, zA, zB, zC, zD, zE])); refine wE_nil ?_; intro w' hw; simp only [HCl.out, zD, zE] at hw; clear HCl; go_split_ands
      have hBf := hB2.trans (Below.mono (show Below wr.heap.size wr _ by assumption) hB2.size)
      go_wp2_with go_guarded
      go_ret
      refine ⟨?_, ?_, hob.trans (Only.of_below (S := fun k => k = blk) hBf)⟩
      ·rw [HDSE.out, ← HEND.out]
       rfl
      ·rw [HDSE.out, ← HEND.out]
       exact hu_below HDE.out hlo hBf
end Go.Proofs.YtffaahipgabkhaaGreat
end
