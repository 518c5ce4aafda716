/- Joined texts. -/
import Derived.Test.YtffaahipgabkhaaGreatJn0
import Derived.Test.YtffaahipgabkhaaGreatJn25
set_option linter.unusedVariables false
set_option linter.unusedSimpArgs false
set_option maxRecDepth 100000
set_option maxHeartbeats 16000000
section
namespace Go.Proofs.YtffaahipgabkhaaGreat
open Go.RowKit Fg Reg Go.Sort
attribute [local irreducible] Reg.wE Holds
theorem sif_c (blk off cap root hi first : Nat) (d : Array Int) (w : World) (hH : Holds (Value.int .u64) (w) blk off (d)) (hl : blk < w.heap.size) (hr : root ≤ 100000) (hf : first + hi ≤ d.size) (hsz : d.size ≤ 100000) :
  Calls Tryz.prog 148 #[.slice (some ⟨blk, off, none⟩) d.size cap, .int .i64 root, .int .i64 hi, .int .i64 first] w fun e w' => e = .returned (.tuple #[]) ∧ Holds (Value.int .u64) (w') blk off (siftDown ltInt hi first root d) ∧ Only (fun k => k = blk) w w' := by
 have HH := Lib.hid hH
 clear hH
 go_enter Tryz.func148, Tryz.ntmps148
 go_wp2_with fail
 go_loopw [8] (fun ii wr => ∃ (rr : Nat) (dd : Array Int), rr ≤ 100000 ∧ ii = .int .i64 rr ∧ dd.size = d.size ∧ siftDown ltInt hi first rr dd = siftDown ltInt hi first root d ∧ Holds (Value.int .u64) (wr) blk off (dd) ∧ Only (fun k => k = blk) w wr) (fun ii _ => hi - (intOf ii).toNat)
 case atStart => exact ⟨root, d, hr, rfl, rfl, rfl, HH.out, Only.refl _ _⟩
 case round =>
  obtain ⟨rr, de, hrr, rfl, hde, hpr, hhu, hob⟩ := hrel
  have hlz : blk < wr.heap.size := Nat.lt_of_lt_of_le hl hob.size
  have w1 : IntKind.i64.wrap (2 * (rr : Int)) = 2 * rr := by rw [IntKind.wrap_i64]; omega
  obtain ⟨c1, hc1⟩ : ∃ c1, c1 = 2 * rr + 1 := ⟨_, rfl⟩
  have e2 : 2 * (rr : Int) + 1 = c1 := by omega
  have w2 : IntKind.i64.wrap (c1 : Int) = c1 := by rw [IntKind.wrap_i64]; omega
  by_cases hge : 2 * rr + 1 ≥ hi
  ·have d1 : decide ((hi : Int) ≤ c1) = true := by simp; omega
   have d2 : decide (hi ≤ c1) = true := by simp; omega
   have HST := Lib.hid ((sif_end hi first rr de hge).symm.trans hpr)
   clear hc1
   have HDE := Lib.hid hhu
   clear hpr hhu
   go_wp2_with go_guarded
   refine bodyPost_end (v := .tuple #[]) (by simp [results, Tryz.results148]) rfl ⟨rfl, ?_, hob⟩
   rw [← HST.out]
   exact HDE.out
  ·have d1 : decide ((hi : Int) ≤ c1) = false := by simp; omega
   have d2 : decide (hi ≤ c1) = false := by simp; omega
   obtain ⟨c2, hc2⟩ : ∃ c2, c2 = 2 * rr + 2 := ⟨_, rfl⟩
   obtain ⟨P0, hP0⟩ : ∃ P0, P0 = first + rr := ⟨_, rfl⟩
   obtain ⟨P1, hP1⟩ : ∃ P1, P1 = first + c1 := ⟨_, rfl⟩
   obtain ⟨P2, hP2⟩ : ∃ P2, P2 = first + c2 := ⟨_, rfl⟩
   have hP2x : P2 = P1 + 1 := by omega
   have e3 : (c1 : Int) + 1 = c2 := by omega
   have w3 : IntKind.i64.wrap (c2 : Int) = c2 := by rw [IntKind.wrap_i64]; omega
   have e4 : (first : Int) + rr = P0 := by omega
   have w4 : IntKind.i64.wrap (P0 : Int) = P0 := by rw [IntKind.wrap_i64]; omega
   have e5 : (first : Int) + c1 = P1 := by omega
   have w5 : IntKind.i64.wrap (P1 : Int) = P1 := by rw [IntKind.wrap_i64]; omega
   have e6 : (P1 : Int) + 1 = P2 := by omega
   have w6 : IntKind.i64.wrap (P2 : Int) = P2 := by rw [IntKind.wrap_i64]; omega
   have e7 : (first : Int) + c2 = P2 := by omega
   have w7 : IntKind.i64.wrap (P2 : Int) = P2 := by rw [IntKind.wrap_i64]; omega
   have l0 : (P0 : Int) < d.size := by omega
   have l1 : (P1 : Int) < d.size := by omega
   have m0 : P0 < d.size := by omega
   have m1 : P1 < d.size := by omega
   by_cases hgd : c2 < hi
   ·have d3 : decide ((c2 : Int) < hi) = true := by simp; omega
    have d4 : decide (c2 < hi) = true := by simp; omega
    have l2 : (P2 : Int) < d.size := by omega
    have m2 : P2 < d.size := by omega
    have klc := fun z => les_c de[P1]! de[P2]! z
    obtain ⟨b1, -⟩ := hu_at hhu P1 (by omega)
    obtain ⟨b2, -⟩ := hu_at hhu P2 (by omega)
    cases hcc : decide (de[P1]! < de[P2]!) with
    | true =>
     have hcmp : (decide (c1 + 1 < hi) && ltInt de[P1]! de[P2]!) = true := by
      unfold ltInt
      rw [hcc, show decide (c1 + 1 < hi) = true by simp; omega]; rfl
     rw [hcc] at klc
     have KC := Lib.hid klc
     clear klc
     have klr := fun z => les_c de[P0]! de[P2]! z
     have hsw := fun z (h : Holds (Value.int .u64) (z) blk off (de)) (hz : blk < z.heap.size) => hu_swx h P0 P2 (by omega) (by omega) hz
     obtain ⟨a0, f0⟩ := hu_at hhu P0 (by omega)
     obtain ⟨a1, f1⟩ := hu_at hhu P2 (by omega)
     have hnn : ¬ off + P2 = off + P0 := by omega
     have hne : ¬ off + P0 = off + P2 := by omega
     cases hlt2 : decide (de[P0]! < de[P2]!) with
     | false =>
      have HST := Lib.hid ((show siftDown ltInt hi first rr de = de from by have := sif_stop2 hi first rr de hge (by rw [← hc1, ← hP1, ← hP2x]; exact hcmp) (by rw [← hc2, ← hP2, ← hP0]; exact hlt2); exact this).symm.trans hpr)
      rw [hlt2] at klr
      have KL := Lib.hid klr
      have HDE := Lib.hid hhu
      have hord : rr < c1 ∧ c1 < hi ∧ rr < c2 ∧ c1 < c2 ∧ P0 < P1 ∧ P0 < P2 := by omega
      clear klr hsw hpr hc1 hc2 hP0 hP1 hP2 hP2x hcmp hlt2
      generalize de[P0]! = xr at *
      generalize de[P2]! = xc at *
      generalize de[P1]! = uo at *
      go_wp2_with go_guarded
      obtain ⟨Cl, HCl⟩ := zH (α := List Value → World → Prop) ((fun ps wz => wz.cell? ⟨blk, off + P0, none⟩ = some (.int .u64 xr) ∧ wz.cell? ⟨blk, off + P1, none⟩ = some (.int .u64 uo) ∧ wz.cell? ⟨blk, off + P2, none⟩ = some (.int .u64 xc) ∧ blk < wz.heap.size ∧ wr.heap.size ≤ wz.heap.size ∧ Below wr.heap.size wr wz)); refine wp_region_eff [] Cl (by kernel_rfl) (by kernel_rfl) (by simp only [HCl.out, zD, zE]; exact kpb) ?_
      (repeat ((first | (refine wE_skip (by rfl) ?_) | (refine wE_open (by rfl) (by rfl) ?_; apply Exists.intro; refine ⟨fun vs wq hw => ?_, ?_⟩; (focus (simp only [HCl.out, zD, zE] at hw; go_split_ands; go_simp <;> exact ebb))) | (refine wE_seal (by rfl) (by rfl) (by kernel_rfl) ?_; apply Exists.intro; refine ⟨fun wq hw => ?_, ?_⟩; (focus (simp only [HCl.out, zD, zE] at hw; go_split_ands; go_simp <;> (try go_bits) <;> exact rfl))) | (refine wE_seal (by rfl) (by rfl) (by kernel_rfl) ?_; apply Exists.intro; refine ⟨fun wq hw => ?_, ?_⟩; (focus (simp only [HCl.out, zD, zE] at hw; go_split_ands; go_simp; (go_at_call 143; ((with_reducible refine (KC.out _).mono ?_); rintro e w' ⟨rfl, hbel⟩; obtain ⟨hcc, hff⟩ := bcell hbel; have hsz := hbel.size; (try simp at hsz); refine ⟨rfl, ?_⟩; simp only [HCl.out, zD, zE]; exact kpb))))) | (refine wE_eff (by rfl) (by rfl) (fun wq hw => ?_) (fun u hu => ?_); (focus (simp only [HCl.out, zD, zE] at hw; go_split_ands; go_simp; simp only [HCl.out, zD, zE]; skip; exact kpb)); clear hu)); simp only [Act.put, Nat.reduceAdd, zA, zB, zC, zD, zE]))
      refine wE_nil ?_; intro w' hw; simp only [HCl.out, zD, zE] at hw; clear HCl
      go_split_ands
      go_wp2_with go_guarded
      obtain ⟨Cl, HCl⟩ := zH (α := List Value → World → Prop) ((fun ps wz => wz.cell? ⟨blk, off + P0, none⟩ = some (.int .u64 xr) ∧ wz.cell? ⟨blk, off + P2, none⟩ = some (.int .u64 xc) ∧ blk < wz.heap.size ∧ wr.heap.size ≤ wz.heap.size ∧ Below wr.heap.size wr wz)); refine wp_region_eff [] Cl (by kernel_rfl) (by kernel_rfl) (by simp only [HCl.out, zD, zE]; exact kpb) ?_
      (repeat ((first | (refine wE_skip (by rfl) ?_) | (refine wE_open (by rfl) (by rfl) ?_; apply Exists.intro; refine ⟨fun vs wq hw => ?_, ?_⟩; (focus (simp only [HCl.out, zD, zE] at hw; go_split_ands; go_simp <;> exact ebb))) | (refine wE_seal (by rfl) (by rfl) (by kernel_rfl) ?_; apply Exists.intro; refine ⟨fun wq hw => ?_, ?_⟩; (focus (simp only [HCl.out, zD, zE] at hw; go_split_ands; go_simp <;> (try go_bits) <;> exact rfl))) | (refine wE_seal (by rfl) (by rfl) (by kernel_rfl) ?_; apply Exists.intro; refine ⟨fun wq hw => ?_, ?_⟩; (focus (simp only [HCl.out, zD, zE] at hw; go_split_ands; go_simp; (go_at_call 143; ((with_reducible refine (KL.out _).mono ?_); rintro e w' ⟨rfl, hbel⟩; obtain ⟨hcc, hff⟩ := bcell hbel; have hsz := hbel.size; (try simp at hsz); refine ⟨rfl, ?_⟩; simp only [HCl.out, zD, zE]; exact kpb))))) | (refine wE_eff (by rfl) (by rfl) (fun wq hw => ?_) (fun u hu => ?_); (focus (simp only [HCl.out, zD, zE] at hw; go_split_ands; go_simp; simp only [HCl.out, zD, zE]; skip; exact kpb)); clear hu)); simp only [Act.put, Nat.reduceAdd, zA, zB, zC, zD, zE]))
      refine wE_nil ?_; intro w' hw; simp only [HCl.out, zD, zE] at hw; clear HCl
      go_split_ands
      rename World => w5
      have hb5 : Below wr.heap.size wr w5 := by assumption
      go_wp2_with go_guarded
      first
       | refine bodyPost_end (v := .tuple #[]) (by simp [results, Tryz.results148]) rfl ⟨rfl, ?_, ?_⟩
       | refine bodyPost_ret (v := .tuple #[]) (by simp [results, Tryz.results148]) rfl ⟨rfl, ?_, ?_⟩
      ·rw [← HST.out]
       exact hu_below HDE.out hlz hb5
      ·exact hob.trans (Only.of_below hb5)
     | true =>
      have HGO := Lib.hid ((show siftDown ltInt hi first rr de = siftDown ltInt hi first c2 (swp de P0 P2) from by have := sif_go2 hi first rr de hge (by omega) (by rw [← hc1, ← hP1, ← hP2x]; exact hcmp) (by rw [← hc2, ← hP2, ← hP0]; exact hlt2); rw [← hc2, ← hP2, ← hP0] at this; exact this).symm.trans hpr)
      rw [hlt2] at klr
      have KL := Lib.hid klr
      have HDE := Lib.hid hhu
      have HWS := Lib.hid hsw
      have hord : rr < c1 ∧ c1 < hi ∧ rr < c2 ∧ c1 < c2 ∧ P0 < P1 ∧ P0 < P2 := by omega
      clear klr hsw hpr hc1 hc2 hP0 hP1 hP2 hP2x hcmp hlt2
      generalize de[P0]! = yv at *
      generalize de[P2]! = xv at *
      generalize de[P1]! = uo at *
      go_wp2_with go_guarded
      obtain ⟨Cl, HCl⟩ := zH (α := List Value → World → Prop) ((fun ps wz => wz.cell? ⟨blk, off + P0, none⟩ = some (.int .u64 yv) ∧ wz.cell? ⟨blk, off + P1, none⟩ = some (.int .u64 uo) ∧ wz.cell? ⟨blk, off + P2, none⟩ = some (.int .u64 xv) ∧ blk < wz.heap.size ∧ wr.heap.size ≤ wz.heap.size ∧ Below wr.heap.size wr wz)); refine wp_region_eff [] Cl (by kernel_rfl) (by kernel_rfl) (by simp only [HCl.out, zD, zE]; exact kpb) ?_
      (repeat ((first | (refine wE_skip (by rfl) ?_) | (refine wE_open (by rfl) (by rfl) ?_; apply Exists.intro; refine ⟨fun vs wq hw => ?_, ?_⟩; (focus (simp only [HCl.out, zD, zE] at hw; go_split_ands; go_simp <;> exact ebb))) | (refine wE_seal (by rfl) (by rfl) (by kernel_rfl) ?_; apply Exists.intro; refine ⟨fun wq hw => ?_, ?_⟩; (focus (simp only [HCl.out, zD, zE] at hw; go_split_ands; go_simp <;> (try go_bits) <;> exact rfl))) | (refine wE_seal (by rfl) (by rfl) (by kernel_rfl) ?_; apply Exists.intro; refine ⟨fun wq hw => ?_, ?_⟩; (focus (simp only [HCl.out, zD, zE] at hw; go_split_ands; go_simp; (go_at_call 143; ((with_reducible refine (KC.out _).mono ?_); rintro e w' ⟨rfl, hbel⟩; obtain ⟨hcc, hff⟩ := bcell hbel; have hsz := hbel.size; (try simp at hsz); refine ⟨rfl, ?_⟩; simp only [HCl.out, zD, zE]; exact kpb))))) | (refine wE_eff (by rfl) (by rfl) (fun wq hw => ?_) (fun u hu => ?_); (focus (simp only [HCl.out, zD, zE] at hw; go_split_ands; go_simp; simp only [HCl.out, zD, zE]; skip; exact kpb)); clear hu)); simp only [Act.put, Nat.reduceAdd, zA, zB, zC, zD, zE]))
      refine wE_nil ?_; intro w' hw; simp only [HCl.out, zD, zE] at hw; clear HCl
      go_split_ands
      go_wp2_with go_guarded
      obtain ⟨Cl, HCl⟩ := zH (α := List Value → World → Prop) ((fun ps wz => wz.cell? ⟨blk, off + P0, none⟩ = some (.int .u64 yv) ∧ wz.cell? ⟨blk, off + P2, none⟩ = some (.int .u64 xv) ∧ blk < wz.heap.size ∧ wr.heap.size ≤ wz.heap.size ∧ Below wr.heap.size wr wz)); refine wp_region_eff [] Cl (by kernel_rfl) (by kernel_rfl) (by simp only [HCl.out, zD, zE]; exact kpb) ?_
      (repeat ((first | (refine wE_skip (by rfl) ?_) | (refine wE_open (by rfl) (by rfl) ?_; apply Exists.intro; refine ⟨fun vs wq hw => ?_, ?_⟩; (focus (simp only [HCl.out, zD, zE] at hw; go_split_ands; go_simp <;> exact ebb))) | (refine wE_seal (by rfl) (by rfl) (by kernel_rfl) ?_; apply Exists.intro; refine ⟨fun wq hw => ?_, ?_⟩; (focus (simp only [HCl.out, zD, zE] at hw; go_split_ands; go_simp <;> (try go_bits) <;> exact rfl))) | (refine wE_seal (by rfl) (by rfl) (by kernel_rfl) ?_; apply Exists.intro; refine ⟨fun wq hw => ?_, ?_⟩; (focus (simp only [HCl.out, zD, zE] at hw; go_split_ands; go_simp; (go_at_call 143; ((with_reducible refine (KL.out _).mono ?_); rintro e w' ⟨rfl, hbel⟩; obtain ⟨hcc, hff⟩ := bcell hbel; have hsz := hbel.size; (try simp at hsz); refine ⟨rfl, ?_⟩; simp only [HCl.out, zD, zE]; exact kpb))))) | (refine wE_eff (by rfl) (by rfl) (fun wq hw => ?_) (fun u hu => ?_); (focus (simp only [HCl.out, zD, zE] at hw; go_split_ands; go_simp; simp only [HCl.out, zD, zE]; skip; exact kpb)); clear hu)); simp only [Act.put, Nat.reduceAdd, zA, zB, zC, zD, zE]))
      refine wE_nil ?_; intro w' hw; simp only [HCl.out, zD, zE] at hw; clear HCl
      go_split_ands
      rename World => w5
      have hb5 : Below wr.heap.size wr w5 := by assumption
      have HUS := Lib.hid (hu_below HDE.out hlz hb5)
      have hlS : blk < w5.heap.size := Nat.lt_of_lt_of_le hlz hb5.size
      have hobS := hob.trans (Only.of_below (S := fun k => k = blk) hb5)
      have z1S : w5.frozen? ⟨blk, off + P2, none⟩ = false := (hu_at HUS.out P2 (by omega)).2
      have z0S : w5.frozen? ⟨blk, off + P0, none⟩ = false := (hu_at HUS.out P0 (by omega)).2
      have e1S : w5.cell? ⟨blk, off + P2, none⟩ = some (.int .u64 xv) := by assumption
      have e0S : w5.cell? ⟨blk, off + P0, none⟩ = some (.int .u64 yv) := by assumption
      clear a0 a1 f0 f1
      go_wp2_with go_guarded
      obtain ⟨Cl, HCl⟩ := zH (α := List Value → World → Prop) ((fun ps wz => Only (fun k => k = blk) w wz ∧ (match ps with | [] => wz.cell? ⟨blk, off + P2, none⟩ = some (.int .u64 xv) ∧ wz.cell? ⟨blk, off + P0, none⟩ = some (.int .u64 yv) ∧ wz.frozen? ⟨blk, off + P2, none⟩ = false ∧ wz.frozen? ⟨blk, off + P0, none⟩ = false ∧ blk < wz.heap.size ∧ Holds (Value.int .u64) (wz) blk off (de) | [_] => ∃ z0 : World, wz = z0.setCell ⟨blk, off + P0, none⟩ (.int .u64 xv) ∧ Holds (Value.int .u64) (z0) blk off (de) ∧ blk < z0.heap.size ∧ z0.frozen? ⟨blk, off + P2, none⟩ = false ∧ z0.cell? ⟨blk, off + P2, none⟩ = some (.int .u64 xv) | _ => Holds (Value.int .u64) (wz) blk off (swp de P0 P2)))); refine wp_region_eff [21, 23] Cl (by kernel_rfl) (by kernel_rfl) (by simp only [HCl.out, zD, zE]; exact ⟨hobS.drew, e1S, e0S, z1S, z0S, hlS, hu_below HUS.out hlS (Below.drew (Below.refl _ _))⟩) ?_
      (repeat ((first | (refine wE_skip (by rfl) ?_) | (refine wE_open (by rfl) (by rfl) ?_; apply Exists.intro; refine ⟨fun vs wq hw => ?_, ?_⟩; (focus (simp only [HCl.out, zD, zE] at hw; go_split_ands; go_simp <;> exact ebb))) | (refine wE_seal (by rfl) (by rfl) (by kernel_rfl) ?_; apply Exists.intro; refine ⟨fun wq hw => ?_, ?_⟩; (focus (simp only [HCl.out, zD, zE] at hw; go_split_ands; go_simp <;> (try go_bits) <;> exact rfl))) | (refine wE_eff (by rfl) (by rfl) (fun wq hw => ?_) (fun u hu => ?_); (focus (simp only [HCl.out, zD, zE] at hw; go_split_ands; go_simp; simp only [HCl.out, zD, zE]; fail; exact kpb)); clear hu)); simp only [Act.put, Nat.reduceAdd, zA, zB, zC, zD, zE])); refine wE_eff (by rfl) (by rfl) (fun wq hw => ?_) (fun u hu => ?_); (focus (simp only [HCl.out, zD, zE] at hw; obtain ⟨hO, g1, g0, k1, k0, hlq, hh⟩ := hw; go_simp; simp only [HCl.out, zD, zE]; refine ⟨hO.setOne _ _ _, wq, rfl, ?_, ?_, ?_, ?_⟩ <;> first | exact hh | exact hlq | exact k1 | exact g1)); clear hu; simp only [Act.put, Nat.reduceAdd, zA, zB, zC, zD, zE]; (repeat ((first | (refine wE_skip (by rfl) ?_) | (refine wE_open (by rfl) (by rfl) ?_; apply Exists.intro; refine ⟨fun vs wq hw => ?_, ?_⟩; (focus (simp only [HCl.out, zD, zE] at hw; go_split_ands; go_simp <;> exact ebb)))); simp only [Act.put, Nat.reduceAdd, zA, zB, zC, zD, zE])); refine wE_eff (by rfl) (by rfl) (fun wq hw => ?_) (fun u hu => ?_); (focus (simp only [HCl.out, zD, zE] at hw; obtain ⟨hO, z0, rfl, hh, hlq, k0, g0⟩ := hw; go_simp; simp only [HCl.out, zD, zE]; exact ⟨hO.setOne _ _ _, HWS.out z0 hh hlq⟩)); clear hu; simp only [Act.put, Nat.reduceAdd, zA, zB, zC, zD, zE]; (repeat ((first | (refine wE_skip (by rfl) ?_) | (refine wE_open (by rfl) (by rfl) ?_; apply Exists.intro; refine ⟨fun vs wq hw => ?_, ?_⟩; (focus (simp only [HCl.out, zD, zE] at hw; go_split_ands; go_simp <;> exact ebb)))); simp only [Act.put, Nat.reduceAdd, zA, zB, zC, zD, zE])); refine wE_nil ?_; intro w9 hw; simp only [HCl.out, zD, zE] at hw; clear HCl; obtain ⟨hO9, hh9⟩ := hw
      go_wp2_with go_guarded
      go_roundw
      case rel => first | exact ⟨c2, swp de P0 P2, by omega, by go_num, by rw [swp_size]; exact hde, HGO.out, hh9, hO9⟩ | ((repeat apply Exists.intro); exact ⟨⟨c2, swp de P0 P2, by omega, by go_num, by rw [swp_size]; exact hde, HGO.out, hh9, hO9⟩, rfl⟩)
      case measure => simp [intOf]; omega
    | false =>
     have hcmp : (decide (c1 + 1 < hi) && ltInt de[P1]! de[P2]!) = false := by
      unfold ltInt
      rw [hcc]; simp
     rw [hcc] at klc
     have KC := Lib.hid klc
     clear klc
     have klr := fun z => les_c de[P0]! de[P1]! z
     have hsw := fun z (h : Holds (Value.int .u64) (z) blk off (de)) (hz : blk < z.heap.size) => hu_swx h P0 P1 (by omega) (by omega) hz
     obtain ⟨a0, f0⟩ := hu_at hhu P0 (by omega)
     obtain ⟨a1, f1⟩ := hu_at hhu P1 (by omega)
     have hnn : ¬ off + P1 = off + P0 := by omega
     have hne : ¬ off + P0 = off + P1 := by omega
     cases hlt2 : decide (de[P0]! < de[P1]!) with
     | false =>
      have HST := Lib.hid ((show siftDown ltInt hi first rr de = de from by have := sif_stop1 hi first rr de hge (by rw [← hc1, ← hP1, ← hP2x]; exact hcmp) (by rw [← hc1, ← hP1, ← hP0]; exact hlt2); exact this).symm.trans hpr)
      rw [hlt2] at klr
      have KL := Lib.hid klr
      have HDE := Lib.hid hhu
      have hord : rr < c1 ∧ c1 < hi ∧ rr < c2 ∧ c1 < c2 ∧ P0 < P1 ∧ P0 < P2 := by omega
      clear klr hsw hpr hc1 hc2 hP0 hP1 hP2 hP2x hcmp hlt2
      generalize de[P0]! = xr at *
      generalize de[P1]! = xc at *
      generalize de[P2]! = uo at *
      go_wp2_with go_guarded
      obtain ⟨Cl, HCl⟩ := zH (α := List Value → World → Prop) ((fun ps wz => wz.cell? ⟨blk, off + P0, none⟩ = some (.int .u64 xr) ∧ wz.cell? ⟨blk, off + P1, none⟩ = some (.int .u64 xc) ∧ wz.cell? ⟨blk, off + P2, none⟩ = some (.int .u64 uo) ∧ blk < wz.heap.size ∧ wr.heap.size ≤ wz.heap.size ∧ Below wr.heap.size wr wz)); refine wp_region_eff [] Cl (by kernel_rfl) (by kernel_rfl) (by simp only [HCl.out, zD, zE]; exact kpb) ?_
      (repeat ((first | (refine wE_skip (by rfl) ?_) | (refine wE_open (by rfl) (by rfl) ?_; apply Exists.intro; refine ⟨fun vs wq hw => ?_, ?_⟩; (focus (simp only [HCl.out, zD, zE] at hw; go_split_ands; go_simp <;> exact ebb))) | (refine wE_seal (by rfl) (by rfl) (by kernel_rfl) ?_; apply Exists.intro; refine ⟨fun wq hw => ?_, ?_⟩; (focus (simp only [HCl.out, zD, zE] at hw; go_split_ands; go_simp <;> (try go_bits) <;> exact rfl))) | (refine wE_seal (by rfl) (by rfl) (by kernel_rfl) ?_; apply Exists.intro; refine ⟨fun wq hw => ?_, ?_⟩; (focus (simp only [HCl.out, zD, zE] at hw; go_split_ands; go_simp; (go_at_call 143; ((with_reducible refine (KC.out _).mono ?_); rintro e w' ⟨rfl, hbel⟩; obtain ⟨hcc, hff⟩ := bcell hbel; have hsz := hbel.size; (try simp at hsz); refine ⟨rfl, ?_⟩; simp only [HCl.out, zD, zE]; exact kpb))))) | (refine wE_eff (by rfl) (by rfl) (fun wq hw => ?_) (fun u hu => ?_); (focus (simp only [HCl.out, zD, zE] at hw; go_split_ands; go_simp; simp only [HCl.out, zD, zE]; skip; exact kpb)); clear hu)); simp only [Act.put, Nat.reduceAdd, zA, zB, zC, zD, zE]))
      refine wE_nil ?_; intro w' hw; simp only [HCl.out, zD, zE] at hw; clear HCl
      go_split_ands
      go_wp2_with go_guarded
      obtain ⟨Cl, HCl⟩ := zH (α := List Value → World → Prop) ((fun ps wz => wz.cell? ⟨blk, off + P0, none⟩ = some (.int .u64 xr) ∧ wz.cell? ⟨blk, off + P1, none⟩ = some (.int .u64 xc) ∧ blk < wz.heap.size ∧ wr.heap.size ≤ wz.heap.size ∧ Below wr.heap.size wr wz)); refine wp_region_eff [] Cl (by kernel_rfl) (by kernel_rfl) (by simp only [HCl.out, zD, zE]; exact kpb) ?_
      (repeat ((first | (refine wE_skip (by rfl) ?_) | (refine wE_open (by rfl) (by rfl) ?_; apply Exists.intro; refine ⟨fun vs wq hw => ?_, ?_⟩; (focus (simp only [HCl.out, zD, zE] at hw; go_split_ands; go_simp <;> exact ebb))) | (refine wE_seal (by rfl) (by rfl) (by kernel_rfl) ?_; apply Exists.intro; refine ⟨fun wq hw => ?_, ?_⟩; (focus (simp only [HCl.out, zD, zE] at hw; go_split_ands; go_simp <;> (try go_bits) <;> exact rfl))) | (refine wE_seal (by rfl) (by rfl) (by kernel_rfl) ?_; apply Exists.intro; refine ⟨fun wq hw => ?_, ?_⟩; (focus (simp only [HCl.out, zD, zE] at hw; go_split_ands; go_simp; (go_at_call 143; ((with_reducible refine (KL.out _).mono ?_); rintro e w' ⟨rfl, hbel⟩; obtain ⟨hcc, hff⟩ := bcell hbel; have hsz := hbel.size; (try simp at hsz); refine ⟨rfl, ?_⟩; simp only [HCl.out, zD, zE]; exact kpb))))) | (refine wE_eff (by rfl) (by rfl) (fun wq hw => ?_) (fun u hu => ?_); (focus (simp only [HCl.out, zD, zE] at hw; go_split_ands; go_simp; simp only [HCl.out, zD, zE]; skip; exact kpb)); clear hu)); simp only [Act.put, Nat.reduceAdd, zA, zB, zC, zD, zE]))
      refine wE_nil ?_; intro w' hw; simp only [HCl.out, zD, zE] at hw; clear HCl
      go_split_ands
      rename World => w5
      have hb5 : Below wr.heap.size wr w5 := by assumption
      go_wp2_with go_guarded
      first
       | refine bodyPost_end (v := .tuple #[]) (by simp [results, Tryz.results148]) rfl ⟨rfl, ?_, ?_⟩
       | refine bodyPost_ret (v := .tuple #[]) (by simp [results, Tryz.results148]) rfl ⟨rfl, ?_, ?_⟩
      ·rw [← HST.out]
       exact hu_below HDE.out hlz hb5
      ·exact hob.trans (Only.of_below hb5)
     | true =>
      have HGO := Lib.hid ((show siftDown ltInt hi first rr de = siftDown ltInt hi first c1 (swp de P0 P1) from by have := sif_go1 hi first rr de hge (by rw [← hc1, ← hP1, ← hP2x]; exact hcmp) (by rw [← hc1, ← hP1, ← hP0]; exact hlt2); rw [← hc1, ← hP1, ← hP0] at this; exact this).symm.trans hpr)
      rw [hlt2] at klr
      have KL := Lib.hid klr
      have HDE := Lib.hid hhu
      have HWS := Lib.hid hsw
      have hord : rr < c1 ∧ c1 < hi ∧ rr < c2 ∧ c1 < c2 ∧ P0 < P1 ∧ P0 < P2 := by omega
      clear klr hsw hpr hc1 hc2 hP0 hP1 hP2 hP2x hcmp hlt2
      generalize de[P0]! = yv at *
      generalize de[P1]! = xv at *
      generalize de[P2]! = uo at *
      go_wp2_with go_guarded
      obtain ⟨Cl, HCl⟩ := zH (α := List Value → World → Prop) ((fun ps wz => wz.cell? ⟨blk, off + P0, none⟩ = some (.int .u64 yv) ∧ wz.cell? ⟨blk, off + P1, none⟩ = some (.int .u64 xv) ∧ wz.cell? ⟨blk, off + P2, none⟩ = some (.int .u64 uo) ∧ blk < wz.heap.size ∧ wr.heap.size ≤ wz.heap.size ∧ Below wr.heap.size wr wz)); refine wp_region_eff [] Cl (by kernel_rfl) (by kernel_rfl) (by simp only [HCl.out, zD, zE]; exact kpb) ?_
      (repeat ((first | (refine wE_skip (by rfl) ?_) | (refine wE_open (by rfl) (by rfl) ?_; apply Exists.intro; refine ⟨fun vs wq hw => ?_, ?_⟩; (focus (simp only [HCl.out, zD, zE] at hw; go_split_ands; go_simp <;> exact ebb))) | (refine wE_seal (by rfl) (by rfl) (by kernel_rfl) ?_; apply Exists.intro; refine ⟨fun wq hw => ?_, ?_⟩; (focus (simp only [HCl.out, zD, zE] at hw; go_split_ands; go_simp <;> (try go_bits) <;> exact rfl))) | (refine wE_seal (by rfl) (by rfl) (by kernel_rfl) ?_; apply Exists.intro; refine ⟨fun wq hw => ?_, ?_⟩; (focus (simp only [HCl.out, zD, zE] at hw; go_split_ands; go_simp; (go_at_call 143; ((with_reducible refine (KC.out _).mono ?_); rintro e w' ⟨rfl, hbel⟩; obtain ⟨hcc, hff⟩ := bcell hbel; have hsz := hbel.size; (try simp at hsz); refine ⟨rfl, ?_⟩; simp only [HCl.out, zD, zE]; exact kpb))))) | (refine wE_eff (by rfl) (by rfl) (fun wq hw => ?_) (fun u hu => ?_); (focus (simp only [HCl.out, zD, zE] at hw; go_split_ands; go_simp; simp only [HCl.out, zD, zE]; skip; exact kpb)); clear hu)); simp only [Act.put, Nat.reduceAdd, zA, zB, zC, zD, zE]))
      refine wE_nil ?_; intro w' hw; simp only [HCl.out, zD, zE] at hw; clear HCl
      go_split_ands
      go_wp2_with go_guarded
      obtain ⟨Cl, HCl⟩ := zH (α := List Value → World → Prop) ((fun ps wz => wz.cell? ⟨blk, off + P0, none⟩ = some (.int .u64 yv) ∧ wz.cell? ⟨blk, off + P1, none⟩ = some (.int .u64 xv) ∧ blk < wz.heap.size ∧ wr.heap.size ≤ wz.heap.size ∧ Below wr.heap.size wr wz)); refine wp_region_eff [] Cl (by kernel_rfl) (by kernel_rfl) (by simp only [HCl.out, zD, zE]; exact kpb) ?_
      (repeat ((first | (refine wE_skip (by rfl) ?_) | (refine wE_open (by rfl) (by rfl) ?_; apply Exists.intro; refine ⟨fun vs wq hw => ?_, ?_⟩; (focus (simp only [HCl.out, zD, zE] at hw; go_split_ands; go_simp <;> exact ebb))) | (refine wE_seal (by rfl) (by rfl) (by kernel_rfl) ?_; apply Exists.intro; refine ⟨fun wq hw => ?_, ?_⟩; (focus (simp only [HCl.out, zD, zE] at hw; go_split_ands; go_simp <;> (try go_bits) <;> exact rfl))) | (refine wE_seal (by rfl) (by rfl) (by kernel_rfl) ?_; apply Exists.intro; refine ⟨fun wq hw => ?_, ?_⟩; (focus (simp only [HCl.out, zD, zE] at hw; go_split_ands; go_simp; (go_at_call 143; ((with_reducible refine (KL.out _).mono ?_); rintro e w' ⟨rfl, hbel⟩; obtain ⟨hcc, hff⟩ := bcell hbel; have hsz := hbel.size; (try simp at hsz); refine ⟨rfl, ?_⟩; simp only [HCl.out, zD, zE]; exact kpb))))) | (refine wE_eff (by rfl) (by rfl) (fun wq hw => ?_) (fun u hu => ?_); (focus (simp only [HCl.out, zD, zE] at hw; go_split_ands; go_simp; simp only [HCl.out, zD, zE]; skip; exact kpb)); clear hu)); simp only [Act.put, Nat.reduceAdd, zA, zB, zC, zD, zE]))
      refine wE_nil ?_; intro w' hw; simp only [HCl.out, zD, zE] at hw; clear HCl
      go_split_ands
      rename World => w5
      have hb5 : Below wr.heap.size wr w5 := by assumption
      have HUS := Lib.hid (hu_below HDE.out hlz hb5)
      have hlS : blk < w5.heap.size := Nat.lt_of_lt_of_le hlz hb5.size
      have hobS := hob.trans (Only.of_below (S := fun k => k = blk) hb5)
      have z1S : w5.frozen? ⟨blk, off + P1, none⟩ = false := (hu_at HUS.out P1 (by omega)).2
      have z0S : w5.frozen? ⟨blk, off + P0, none⟩ = false := (hu_at HUS.out P0 (by omega)).2
      have e1S : w5.cell? ⟨blk, off + P1, none⟩ = some (.int .u64 xv) := by assumption
      have e0S : w5.cell? ⟨blk, off + P0, none⟩ = some (.int .u64 yv) := by assumption
      clear a0 a1 f0 f1
      go_wp2_with go_guarded
      obtain ⟨Cl, HCl⟩ := zH (α := List Value → World → Prop) ((fun ps wz => Only (fun k => k = blk) w wz ∧ (match ps with | [] => wz.cell? ⟨blk, off + P1, none⟩ = some (.int .u64 xv) ∧ wz.cell? ⟨blk, off + P0, none⟩ = some (.int .u64 yv) ∧ wz.frozen? ⟨blk, off + P1, none⟩ = false ∧ wz.frozen? ⟨blk, off + P0, none⟩ = false ∧ blk < wz.heap.size ∧ Holds (Value.int .u64) (wz) blk off (de) | [_] => ∃ z0 : World, wz = z0.setCell ⟨blk, off + P0, none⟩ (.int .u64 xv) ∧ Holds (Value.int .u64) (z0) blk off (de) ∧ blk < z0.heap.size ∧ z0.frozen? ⟨blk, off + P1, none⟩ = false ∧ z0.cell? ⟨blk, off + P1, none⟩ = some (.int .u64 xv) | _ => Holds (Value.int .u64) (wz) blk off (swp de P0 P1)))); refine wp_region_eff [21, 23] Cl (by kernel_rfl) (by kernel_rfl) (by simp only [HCl.out, zD, zE]; exact ⟨hobS.drew, e1S, e0S, z1S, z0S, hlS, hu_below HUS.out hlS (Below.drew (Below.refl _ _))⟩) ?_
      (repeat ((first | (refine wE_skip (by rfl) ?_) | (refine wE_open (by rfl) (by rfl) ?_; apply Exists.intro; refine ⟨fun vs wq hw => ?_, ?_⟩; (focus (simp only [HCl.out, zD, zE] at hw; go_split_ands; go_simp <;> exact ebb))) | (refine wE_seal (by rfl) (by rfl) (by kernel_rfl) ?_; apply Exists.intro; refine ⟨fun wq hw => ?_, ?_⟩; (focus (simp only [HCl.out, zD, zE] at hw; go_split_ands; go_simp <;> (try go_bits) <;> exact rfl))) | (refine wE_eff (by rfl) (by rfl) (fun wq hw => ?_) (fun u hu => ?_); (focus (simp only [HCl.out, zD, zE] at hw; go_split_ands; go_simp; simp only [HCl.out, zD, zE]; fail; exact kpb)); clear hu)); simp only [Act.put, Nat.reduceAdd, zA, zB, zC, zD, zE])); refine wE_eff (by rfl) (by rfl) (fun wq hw => ?_) (fun u hu => ?_); (focus (simp only [HCl.out, zD, zE] at hw; obtain ⟨hO, g1, g0, k1, k0, hlq, hh⟩ := hw; go_simp; simp only [HCl.out, zD, zE]; refine ⟨hO.setOne _ _ _, wq, rfl, ?_, ?_, ?_, ?_⟩ <;> first | exact hh | exact hlq | exact k1 | exact g1)); clear hu; simp only [Act.put, Nat.reduceAdd, zA, zB, zC, zD, zE]; (repeat ((first | (refine wE_skip (by rfl) ?_) | (refine wE_open (by rfl) (by rfl) ?_; apply Exists.intro; refine ⟨fun vs wq hw => ?_, ?_⟩; (focus (simp only [HCl.out, zD, zE] at hw; go_split_ands; go_simp <;> exact ebb)))); simp only [Act.put, Nat.reduceAdd, zA, zB, zC, zD, zE])); refine wE_eff (by rfl) (by rfl) (fun wq hw => ?_) (fun u hu => ?_); (focus (simp only [HCl.out, zD, zE] at hw; obtain ⟨hO, z0, rfl, hh, hlq, k0, g0⟩ := hw; go_simp; simp only [HCl.out, zD, zE]; exact ⟨hO.setOne _ _ _, HWS.out z0 hh hlq⟩)); clear hu; simp only [Act.put, Nat.reduceAdd, zA, zB, zC, zD, zE]; (repeat ((first | (refine wE_skip (by rfl) ?_) | (refine wE_open (by rfl) (by rfl) ?_; apply Exists.intro; refine ⟨fun vs wq hw => ?_, ?_⟩; (focus (simp only [HCl.out, zD, zE] at hw; go_split_ands; go_simp <;> exact ebb)))); simp only [Act.put, Nat.reduceAdd, zA, zB, zC, zD, zE])); refine wE_nil ?_; intro w9 hw; simp only [HCl.out, zD, zE] at hw; clear HCl; obtain ⟨hO9, hh9⟩ := hw
      go_wp2_with go_guarded
      go_roundw
      case rel => first | exact ⟨c1, swp de P0 P1, by omega, by go_num, by rw [swp_size]; exact hde, HGO.out, hh9, hO9⟩ | ((repeat apply Exists.intro); exact ⟨⟨c1, swp de P0 P1, by omega, by go_num, by rw [swp_size]; exact hde, HGO.out, hh9, hO9⟩, rfl⟩)
      case measure => simp [intOf]; omega
   ·have d3 : decide ((c2 : Int) < hi) = false := by simp; omega
    have d4 : decide (c2 < hi) = false := by simp; omega
    have hcmp : (decide (c1 + 1 < hi) && ltInt de[P1]! de[P2]!) = false := by
     rw [show decide (c1 + 1 < hi) = false by simp; omega]; rfl
    have klr := fun z => les_c de[P0]! de[P1]! z
    have hsw := fun z (h : Holds (Value.int .u64) (z) blk off (de)) (hz : blk < z.heap.size) => hu_swx h P0 P1 (by omega) (by omega) hz
    obtain ⟨a0, f0⟩ := hu_at hhu P0 (by omega)
    obtain ⟨a1, f1⟩ := hu_at hhu P1 (by omega)
    have hnn : ¬ off + P1 = off + P0 := by omega
    have hne : ¬ off + P0 = off + P1 := by omega
    cases hlt2 : decide (de[P0]! < de[P1]!) with
    | false =>
     have HST := Lib.hid ((show siftDown ltInt hi first rr de = de from by have := sif_stop1 hi first rr de hge (by rw [← hc1, ← hP1, ← hP2x]; exact hcmp) (by rw [← hc1, ← hP1, ← hP0]; exact hlt2); exact this).symm.trans hpr)
     rw [hlt2] at klr
     have KL := Lib.hid klr
     have HDE := Lib.hid hhu
     have hord : rr < c1 ∧ c1 < hi ∧ rr < c2 ∧ c1 < c2 ∧ P0 < P1 ∧ P0 < P2 := by omega
     clear klr hsw hpr hc1 hc2 hP0 hP1 hP2 hP2x hcmp hlt2
     generalize de[P0]! = xr at *
     generalize de[P1]! = xc at *
     go_wp2_with go_guarded
     obtain ⟨Cl, HCl⟩ := zH (α := List Value → World → Prop) ((fun ps wz => wz.cell? ⟨blk, off + P0, none⟩ = some (.int .u64 xr) ∧ wz.cell? ⟨blk, off + P1, none⟩ = some (.int .u64 xc) ∧ blk < wz.heap.size ∧ wr.heap.size ≤ wz.heap.size ∧ Below wr.heap.size wr wz)); refine wp_region_eff [] Cl (by kernel_rfl) (by kernel_rfl) (by simp only [HCl.out, zD, zE]; exact kpb) ?_
     (repeat ((first | (refine wE_skip (by rfl) ?_) | (refine wE_open (by rfl) (by rfl) ?_; apply Exists.intro; refine ⟨fun vs wq hw => ?_, ?_⟩; (focus (simp only [HCl.out, zD, zE] at hw; go_split_ands; go_simp <;> exact ebb))) | (refine wE_seal (by rfl) (by rfl) (by kernel_rfl) ?_; apply Exists.intro; refine ⟨fun wq hw => ?_, ?_⟩; (focus (simp only [HCl.out, zD, zE] at hw; go_split_ands; go_simp <;> (try go_bits) <;> exact rfl))) | (refine wE_eff (by rfl) (by rfl) (fun wq hw => ?_) (fun u hu => ?_); (focus (simp only [HCl.out, zD, zE] at hw; go_split_ands; go_simp; simp only [HCl.out, zD, zE]; skip; exact kpb)); clear hu)); simp only [Act.put, Nat.reduceAdd, zA, zB, zC, zD, zE]))
     refine wE_nil ?_; intro w' hw; simp only [HCl.out, zD, zE] at hw; clear HCl
     go_split_ands
     go_wp2_with go_guarded
     obtain ⟨Cl, HCl⟩ := zH (α := List Value → World → Prop) ((fun ps wz => wz.cell? ⟨blk, off + P0, none⟩ = some (.int .u64 xr) ∧ wz.cell? ⟨blk, off + P1, none⟩ = some (.int .u64 xc) ∧ blk < wz.heap.size ∧ wr.heap.size ≤ wz.heap.size ∧ Below wr.heap.size wr wz)); refine wp_region_eff [] Cl (by kernel_rfl) (by kernel_rfl) (by simp only [HCl.out, zD, zE]; exact kpb) ?_
     (repeat ((first | (refine wE_skip (by rfl) ?_) | (refine wE_open (by rfl) (by rfl) ?_; apply Exists.intro; refine ⟨fun vs wq hw => ?_, ?_⟩; (focus (simp only [HCl.out, zD, zE] at hw; go_split_ands; go_simp <;> exact ebb))) | (refine wE_seal (by rfl) (by rfl) (by kernel_rfl) ?_; apply Exists.intro; refine ⟨fun wq hw => ?_, ?_⟩; (focus (simp only [HCl.out, zD, zE] at hw; go_split_ands; go_simp <;> (try go_bits) <;> exact rfl))) | (refine wE_seal (by rfl) (by rfl) (by kernel_rfl) ?_; apply Exists.intro; refine ⟨fun wq hw => ?_, ?_⟩; (focus (simp only [HCl.out, zD, zE] at hw; go_split_ands; go_simp; (go_at_call 143; ((with_reducible refine (KL.out _).mono ?_); rintro e w' ⟨rfl, hbel⟩; obtain ⟨hcc, hff⟩ := bcell hbel; have hsz := hbel.size; (try simp at hsz); refine ⟨rfl, ?_⟩; simp only [HCl.out, zD, zE]; exact kpb))))) | (refine wE_eff (by rfl) (by rfl) (fun wq hw => ?_) (fun u hu => ?_); (focus (simp only [HCl.out, zD, zE] at hw; go_split_ands; go_simp; simp only [HCl.out, zD, zE]; skip; exact kpb)); clear hu)); simp only [Act.put, Nat.reduceAdd, zA, zB, zC, zD, zE]))
     refine wE_nil ?_; intro w' hw; simp only [HCl.out, zD, zE] at hw; clear HCl
     go_split_ands
     rename World => w5
     have hb5 : Below wr.heap.size wr w5 := by assumption
     go_wp2_with go_guarded
     first
      | refine bodyPost_end (v := .tuple #[]) (by simp [results, Tryz.results148]) rfl ⟨rfl, ?_, ?_⟩
      | refine bodyPost_ret (v := .tuple #[]) (by simp [results, Tryz.results148]) rfl ⟨rfl, ?_, ?_⟩
     ·rw [← HST.out]
      exact hu_below HDE.out hlz hb5
     ·exact hob.trans (Only.of_below hb5)
    | true =>
     have HGO := Lib.hid ((show siftDown ltInt hi first rr de = siftDown ltInt hi first c1 (swp de P0 P1) from by have := sif_go1 hi first rr de hge (by rw [← hc1, ← hP1, ← hP2x]; exact hcmp) (by rw [← hc1, ← hP1, ← hP0]; exact hlt2); rw [← hc1, ← hP1, ← hP0] at this; exact this).symm.trans hpr)
     rw [hlt2] at klr
     have KL := Lib.hid klr
     have HDE := Lib.hid hhu
     have HWS := Lib.hid hsw
     have hord : rr < c1 ∧ c1 < hi ∧ rr < c2 ∧ c1 < c2 ∧ P0 < P1 ∧ P0 < P2 := by omega
     clear klr hsw hpr hc1 hc2 hP0 hP1 hP2 hP2x hcmp hlt2
     generalize de[P0]! = yv at *
     generalize de[P1]! = xv at *
     go_wp2_with go_guarded
     obtain ⟨Cl, HCl⟩ := zH (α := List Value → World → Prop) ((fun ps wz => wz.cell? ⟨blk, off + P0, none⟩ = some (.int .u64 yv) ∧ wz.cell? ⟨blk, off + P1, none⟩ = some (.int .u64 xv) ∧ blk < wz.heap.size ∧ wr.heap.size ≤ wz.heap.size ∧ Below wr.heap.size wr wz)); refine wp_region_eff [] Cl (by kernel_rfl) (by kernel_rfl) (by simp only [HCl.out, zD, zE]; exact kpb) ?_
     (repeat ((first | (refine wE_skip (by rfl) ?_) | (refine wE_open (by rfl) (by rfl) ?_; apply Exists.intro; refine ⟨fun vs wq hw => ?_, ?_⟩; (focus (simp only [HCl.out, zD, zE] at hw; go_split_ands; go_simp <;> exact ebb))) | (refine wE_seal (by rfl) (by rfl) (by kernel_rfl) ?_; apply Exists.intro; refine ⟨fun wq hw => ?_, ?_⟩; (focus (simp only [HCl.out, zD, zE] at hw; go_split_ands; go_simp <;> (try go_bits) <;> exact rfl))) | (refine wE_eff (by rfl) (by rfl) (fun wq hw => ?_) (fun u hu => ?_); (focus (simp only [HCl.out, zD, zE] at hw; go_split_ands; go_simp; simp only [HCl.out, zD, zE]; skip; exact kpb)); clear hu)); simp only [Act.put, Nat.reduceAdd, zA, zB, zC, zD, zE]))
     refine wE_nil ?_; intro w' hw; simp only [HCl.out, zD, zE] at hw; clear HCl
     go_split_ands
     go_wp2_with go_guarded
     obtain ⟨Cl, HCl⟩ := zH (α := List Value → World → Prop) ((fun ps wz => wz.cell? ⟨blk, off + P0, none⟩ = some (.int .u64 yv) ∧ wz.cell? ⟨blk, off + P1, none⟩ = some (.int .u64 xv) ∧ blk < wz.heap.size ∧ wr.heap.size ≤ wz.heap.size ∧ Below wr.heap.size wr wz)); refine wp_region_eff [] Cl (by kernel_rfl) (by kernel_rfl) (by simp only [HCl.out, zD, zE]; exact kpb) ?_
     (repeat ((first | (refine wE_skip (by rfl) ?_) | (refine wE_open (by rfl) (by rfl) ?_; apply Exists.intro; refine ⟨fun vs wq hw => ?_, ?_⟩; (focus (simp only [HCl.out, zD, zE] at hw; go_split_ands; go_simp <;> exact ebb))) | (refine wE_seal (by rfl) (by rfl) (by kernel_rfl) ?_; apply Exists.intro; refine ⟨fun wq hw => ?_, ?_⟩; (focus (simp only [HCl.out, zD, zE] at hw; go_split_ands; go_simp <;> (try go_bits) <;> exact rfl))) | (refine wE_seal (by rfl) (by rfl) (by kernel_rfl) ?_; apply Exists.intro; refine ⟨fun wq hw => ?_, ?_⟩; (focus (simp only [HCl.out, zD, zE] at hw; go_split_ands; go_simp; (go_at_call 143; ((with_reducible refine (KL.out _).mono ?_); rintro e w' ⟨rfl, hbel⟩; obtain ⟨hcc, hff⟩ := bcell hbel; have hsz := hbel.size; (try simp at hsz); refine ⟨rfl, ?_⟩; simp only [HCl.out, zD, zE]; exact kpb))))) | (refine wE_eff (by rfl) (by rfl) (fun wq hw => ?_) (fun u hu => ?_); (focus (simp only [HCl.out, zD, zE] at hw; go_split_ands; go_simp; simp only [HCl.out, zD, zE]; skip; exact kpb)); clear hu)); simp only [Act.put, Nat.reduceAdd, zA, zB, zC, zD, zE]))
     refine wE_nil ?_; intro w' hw; simp only [HCl.out, zD, zE] at hw; clear HCl
     go_split_ands
     rename World => w5
     have hb5 : Below wr.heap.size wr w5 := by assumption
     have HUS := Lib.hid (hu_below HDE.out hlz hb5)
     have hlS : blk < w5.heap.size := Nat.lt_of_lt_of_le hlz hb5.size
     have hobS := hob.trans (Only.of_below (S := fun k => k = blk) hb5)
     have z1S : w5.frozen? ⟨blk, off + P1, none⟩ = false := (hu_at HUS.out P1 (by omega)).2
     have z0S : w5.frozen? ⟨blk, off + P0, none⟩ = false := (hu_at HUS.out P0 (by omega)).2
     have e1S : w5.cell? ⟨blk, off + P1, none⟩ = some (.int .u64 xv) := by assumption
     have e0S : w5.cell? ⟨blk, off + P0, none⟩ = some (.int .u64 yv) := by assumption
     clear a0 a1 f0 f1
     go_wp2_with go_guarded
     obtain ⟨Cl, HCl⟩ := zH (α := List Value → World → Prop) ((fun ps wz => Only (fun k => k = blk) w wz ∧ (match ps with | [] => wz.cell? ⟨blk, off + P1, none⟩ = some (.int .u64 xv) ∧ wz.cell? ⟨blk, off + P0, none⟩ = some (.int .u64 yv) ∧ wz.frozen? ⟨blk, off + P1, none⟩ = false ∧ wz.frozen? ⟨blk, off + P0, none⟩ = false ∧ blk < wz.heap.size ∧ Holds (Value.int .u64) (wz) blk off (de) | [_] => ∃ z0 : World, wz = z0.setCell ⟨blk, off + P0, none⟩ (.int .u64 xv) ∧ Holds (Value.int .u64) (z0) blk off (de) ∧ blk < z0.heap.size ∧ z0.frozen? ⟨blk, off + P1, none⟩ = false ∧ z0.cell? ⟨blk, off + P1, none⟩ = some (.int .u64 xv) | _ => Holds (Value.int .u64) (wz) blk off (swp de P0 P1)))); refine wp_region_eff [21, 23] Cl (by kernel_rfl) (by kernel_rfl) (by simp only [HCl.out, zD, zE]; exact ⟨hobS.drew, e1S, e0S, z1S, z0S, hlS, hu_below HUS.out hlS (Below.drew (Below.refl _ _))⟩) ?_
     (repeat ((first | (refine wE_skip (by rfl) ?_) | (refine wE_open (by rfl) (by rfl) ?_; apply Exists.intro; refine ⟨fun vs wq hw => ?_, ?_⟩; (focus (simp only [HCl.out, zD, zE] at hw; go_split_ands; go_simp <;> exact ebb))) | (refine wE_seal (by rfl) (by rfl) (by kernel_rfl) ?_; apply Exists.intro; refine ⟨fun wq hw => ?_, ?_⟩; (focus (simp only [HCl.out, zD, zE] at hw; go_split_ands; go_simp <;> (try go_bits) <;> exact rfl))) | (refine wE_eff (by rfl) (by rfl) (fun wq hw => ?_) (fun u hu => ?_); (focus (simp only [HCl.out, zD, zE] at hw; go_split_ands; go_simp; simp only [HCl.out, zD, zE]; fail; exact kpb)); clear hu)); simp only [Act.put, Nat.reduceAdd, zA, zB, zC, zD, zE])); refine wE_eff (by rfl) (by rfl) (fun wq hw => ?_) (fun u hu => ?_); (focus (simp only [HCl.out, zD, zE] at hw; obtain ⟨hO, g1, g0, k1, k0, hlq, hh⟩ := hw; go_simp; simp only [HCl.out, zD, zE]; refine ⟨hO.setOne _ _ _, wq, rfl, ?_, ?_, ?_, ?_⟩ <;> first | exact hh | exact hlq | exact k1 | exact g1)); clear hu; simp only [Act.put, Nat.reduceAdd, zA, zB, zC, zD, zE]; (repeat ((first | (refine wE_skip (by rfl) ?_) | (refine wE_open (by rfl) (by rfl) ?_; apply Exists.intro; refine ⟨fun vs wq hw => ?_, ?_⟩; (focus (simp only [HCl.out, zD, zE] at hw; go_split_ands; go_simp <;> exact ebb)))); simp only [Act.put, Nat.reduceAdd, zA, zB, zC, zD, zE])); refine wE_eff (by rfl) (by rfl) (fun wq hw => ?_) (fun u hu => ?_); (focus (simp only [HCl.out, zD, zE] at hw; obtain ⟨hO, z0, rfl, hh, hlq, k0, g0⟩ := hw; go_simp; simp only [HCl.out, zD, zE]; exact ⟨hO.setOne _ _ _, HWS.out z0 hh hlq⟩)); clear hu; simp only [Act.put, Nat.reduceAdd, zA, zB, zC, zD, zE]; (repeat ((first | (refine wE_skip (by rfl) ?_) | (refine wE_open (by rfl) (by rfl) ?_; apply Exists.intro; refine ⟨fun vs wq hw => ?_, ?_⟩; (focus (simp only [HCl.out, zD, zE] at hw; go_split_ands; go_simp <;> exact ebb)))); simp only [Act.put, Nat.reduceAdd, zA, zB, zC, zD, zE])); refine wE_nil ?_; intro w9 hw; simp only [HCl.out, zD, zE] at hw; clear HCl; obtain ⟨hO9, hh9⟩ := hw
     go_wp2_with go_guarded
     go_roundw
     case rel => first | exact ⟨c1, swp de P0 P1, by omega, by go_num, by rw [swp_size]; exact hde, HGO.out, hh9, hO9⟩ | ((repeat apply Exists.intro); exact ⟨⟨c1, swp de P0 P1, by omega, by go_num, by rw [swp_size]; exact hde, HGO.out, hh9, hO9⟩, rfl⟩)
     case measure => simp [intOf]; omega
end Go.Proofs.YtffaahipgabkhaaGreat
end
