/- Joined texts. -/
import Derived.Test.YtghjdkdjdpgdiaaBs0
import Derived.Test.YtghjdkdjdpgdiaaBs25
set_option linter.unusedVariables false
set_option linter.unusedSimpArgs false
set_option maxRecDepth 100000
set_option maxHeartbeats 16000000
section
namespace Go.Proofs.Ytghjdkdjdpgdiaa
open Go.RowKit Fg Reg Go.Maps Go.Shelf
attribute [local irreducible] Reg.wE VR
theorem sblaw_c (xs : List TC) (n : Nat) (hln : xs.length = n) (hn : n ≤ 80) (hin : ∀ k (h : k < xs.length), CIn xs[k].c) (ao : Option Addr) (cap : Nat) (num : Int) (w : World) (hA : RwV TC.cells 15 w ao xs) :
  Calls Try.prog 6 #[.slice ao n cap, .int .i64 num] w fun ee w' => ee = .returned (.bool true) ∧ Below w.heap.size w w' := by
 have q1 : decide ((80 : Int) < (n : Int)) = false := decide_eq_false (by omega)
 have q2 : decide (80 < n) = false := decide_eq_false (by omega)
 have KNI := Lib.hid (sbnil_c num)
 have KTW := Lib.hid two_c
 obtain ⟨G, hG⟩ : ∃ G, trs (fun _ => none) [] xs = G := ⟨_, rfl⟩
 have HG := Lib.hid hG
 have KN := Lib.hid hnew_c
 have dF0 := dd_f0
 have HA := Lib.hid hA
 have HIN := Lib.hid hin
 have HLN := Lib.hid hln
 have ALL := Lib.hid cg_alloc
 have AINF := Lib.hid cg_info
 have ONE := Lib.hid cg_one
 have CINF := Lib.hid cl_info
 clear hA hin hln hG
 go_enter Try.func6, Try.ntmps6
 go_wp2_with (first
  | go_guarded
  | (go_at_call 25; (with_reducible refine (KN.out _).mono ?_); rintro _ w1 ⟨tb, mb, rfl, ht, hm, hT, hbel⟩; have HT1 := Lib.hid hT; have HB1 := Lib.hid hbel; have HTB := Lib.hid ht; have HMB := Lib.hid hm; clear hT hbel ht hm))
 try go_frame
 go_loopg [6, 16] n (fun k9 s6 s16 wr => ∃ (k : Nat) (f : Int → Option Cls) (L : List Int) (n4 : Nat) (a4 : Option Addr) (c4 : Nat), s6 = .slice a4 n4 c4 ∧ s16 = .int .i64 k ∧ k ≤ n ∧ HT wr tb mb f ∧ TI f L ∧ L.length = n4 ∧ RwV crow 14 wr a4 (rowsX f L) ∧ Below w.heap.size w wr ∧ trs f L (xs.drop k) = G ∧ n - k ≤ k9)
 case atStart => exact ⟨0, _, [], 0, none, 0, rfl, rfl, Nat.zero_le _, HT1.out, TI.nil, rfl, RwV.nil _ _, HB1.out, by simpa using HG.out, by omega⟩
 case round =>
  obtain ⟨k, f, L, n4, a4, c4, rfl, rfl, hk, hT, hI, hL, hR, hB, hst, hk9⟩ := hrel
  have HTR := Lib.hid hT
  have HI := Lib.hid hI
  have HLL := Lib.hid hL
  have HRR := Lib.hid hR
  have HB := Lib.hid hB
  have HMR := Lib.hid hT.mlt
  by_cases hlt : k < n
  ·have HLT : Hid (k + 1 ≤ n) := Lib.hid hlt
   have hlC : k < xs.length := by rw [HLN.out]; exact hlt
   obtain ⟨b, o, rfl, hb, hra⟩ := (HA.out.below hB) k hlC
   have hci := HIN.out k hlC
   have hdr : xs.drop k = xs[k] :: xs.drop (k + 1) := List.drop_eq_getElem_cons hlC
   obtain ⟨a, hae⟩ : ∃ a, xs[k] = a := ⟨_, rfl⟩
   rw [hae] at hra hci hdr
   obtain ⟨k0, c⟩ := a
   have HR := Lib.hid (show wr.rangeAt b (o + k * 15) (#[.int .i64 (k0), .int .i64 c.id, .int .i64 c.par, .bool c.leaf, .int .u64 c.ra, .int .u64 c.rb, .int .u64 c.rc, .int .u64 c.la, .int .u64 c.lb, .int .u64 c.lc, .int .u64 c.ua, .int .u64 c.ub, .int .u64 c.uc, .int .i64 c.pk, .int .i64 c.bt] : Array Value).toList from hra)
   have HCI := Lib.hid hci
   rw [hdr] at hst
   obtain ⟨F1, hF⟩ : ∃ F, chF k0 f L c = F := ⟨_, rfl⟩
   obtain ⟨L1, hM⟩ : ∃ M, chL k0 f L c = M := ⟨_, rfl⟩
   have HST : Hid (trs F1 L1 (xs.drop (k + 1)) = G) := Lib.hid (by rw [← hF, ← hM]; exact hst)
   have HI1 : Hid (TI F1 L1) := Lib.hid (by rw [← hF, ← hM]; exact hI.chF k0 hci)
   have KW := Lib.hid (fun (z : World) (hz : RwV crow 14 z a4 (rowsX f L)) => (by have := rone_c hI k0 hci n4 hL a4 c4 z hz; rw [hF, hM] at this; exact this : Calls Try.prog 28 #[.slice a4 n4 c4, .agg #[.int .i64 (k0), .int .i64 c.id, .int .i64 c.par, .bool c.leaf, .int .u64 c.ra, .int .u64 c.rb, .int .u64 c.rc, .int .u64 c.la, .int .u64 c.lb, .int .u64 c.lc, .int .u64 c.ua, .int .u64 c.ub, .int .u64 c.uc, .int .i64 c.pk, .int .i64 c.bt]] z (DidP z (chE k0 f L c) F1 L1)))
   have KADD : Hid (∀ z, HT z tb mb f → Calls Try.prog 26 #[.pointer (some ⟨tb, 0, none⟩), .agg #[.int .i64 c.id, .int .i64 c.par, .bool c.leaf, .int .u64 c.ra, .int .u64 c.rb, .int .u64 c.rc, .int .u64 c.la, .int .u64 c.lb, .int .u64 c.lc, .int .u64 c.ua, .int .u64 c.ub, .int .u64 c.uc, .int .i64 c.pk, .int .i64 c.bt]] z fun e w' => e = .returned (.int .i64 (addE f L c)) ∧ HT w' tb mb (addF f L c) ∧ Only (fun k => k = mb) z w') := Lib.hid (fun z hz => hadd_c hz hI hci)
   have KST : Hid (∀ z, HT z tb mb f → Calls Try.prog 27 #[.pointer (some ⟨tb, 0, none⟩), .agg #[.int .i64 c.id, .int .i64 c.par, .bool c.leaf, .int .u64 c.ra, .int .u64 c.rb, .int .u64 c.rc, .int .u64 c.la, .int .u64 c.lb, .int .u64 c.lc, .int .u64 c.ua, .int .u64 c.ub, .int .u64 c.uc, .int .i64 c.pk, .int .i64 c.bt]] z fun e w' => e = .returned (.int .i64 (setE f L c)) ∧ HT w' tb mb (setF f L c) ∧ Only (fun k => k = mb) z w') := Lib.hid (fun z hz => hset_c hz hI hci)
   have KDL : Hid (∀ z, HT z tb mb f → Calls Try.prog 21 #[.pointer (some ⟨tb, 0, none⟩), .int .i64 c.id] z fun e w' => e = .returned (.int .i64 (delE f L c.id)) ∧ HT w' tb mb (delF f L c.id) ∧ Only (fun k => k = mb) z w') := Lib.hid (fun z hz => hdel_c hz hI hci.id)
   clear hT hI hL hR hB hra hci hae hlC hb hdr hst hM
   by_cases h1 : k0 = 1
   ·subst h1
    have hF' : addF f L c = F1 := hF
    rw [hF'] at KADD
    clear hF hF'
    go_wp2_with (first
     | go_guarded
     | (go_at_call 28; (with_reducible refine (KW.out _ HR6.out).mono ?_); rintro _ w7 ⟨ao1, n1, cap1, rfl, hn1, hr1, hbel⟩; have HN1 := Lib.hid hn1; have HR7 := Lib.hid hr1; have HT7 := Lib.hid (HT6.out.below hbel); have HB7 := Lib.hid (HB6.out.trans (hbel.mono HB6.out.size)); clear hn1 hr1 hbel)
     | (refine wpList_var_get rfl 56 _ rfl _ #[.int .i64 (1), .int .i64 c.id, .int .i64 c.par, .bool c.leaf, .int .u64 c.ra, .int .u64 c.rb, .int .u64 c.rc, .int .u64 c.la, .int .u64 c.lb, .int .u64 c.lc, .int .u64 c.ua, .int .u64 c.ub, .int .u64 c.uc, .int .i64 c.pk, .int .i64 c.bt] _ HV6.out rfl Try.underlying56 rfl AINF.out ?_)
     | (go_at_call 26; (with_reducible refine (KADD.out _ HT5.out).mono ?_); rintro _ w6 ⟨rfl, hT6, hO6⟩; have HT6 := Lib.hid hT6; have hmv : ¬ wr.heap.size = mb := fun g => (by have := HMR.out; omega); have HV6 := Lib.hid (HV5.out.only hO6 (fun g => hmv g)); have HR6 := Lib.hid (HR5.out.map_only (fun _ => by rw [crow_len]; decide) HT5.out.map hO6); have HB6 : Hid (Below w.heap.size w w6) := Lib.hid (HB5.out.trans ⟨hO6.1, hO6.2, hO6.3, hO6.4, fun q hq => hO6.5 q (Nat.lt_of_lt_of_le hq HB5.out.size) (by have := HMB.out; omega)⟩); clear hT6 hO6 hmv)
     | (refine wpList_part_get rfl 54 _ rfl wr.heap.size 1 #[.int .i64 c.id, .int .i64 c.par, .bool c.leaf, .int .u64 c.ra, .int .u64 c.rb, .int .u64 c.rc, .int .u64 c.la, .int .u64 c.lb, .int .u64 c.lc, .int .u64 c.ua, .int .u64 c.ub, .int .u64 c.uc, .int .i64 c.pk, .int .i64 c.bt] _ HP5.out rfl Try.underlying54 rfl CINF.out ?_)
     | (refine wpList_var_new rfl rfl 56 #[.int .i64 0, .int .i64 0, .int .i64 0, .bool false, .int .u64 0, .int .u64 0, .int .u64 0, .int .u64 0, .int .u64 0, .int .u64 0, .int .u64 0, .int .u64 0, .int .u64 0, .int .i64 0, .int .i64 0] ALL.out rfl _ _ rfl #[.int .i64 (1), .int .i64 c.id, .int .i64 c.par, .bool c.leaf, .int .u64 c.ra, .int .u64 c.rb, .int .u64 c.rc, .int .u64 c.la, .int .u64 c.lb, .int .u64 c.lc, .int .u64 c.ua, .int .u64 c.ub, .int .u64 c.uc, .int .i64 c.pk, .int .i64 c.bt] rfl rfl AINF.out rfl (ONE.out _ _) ?_; intro w5 hs5 hb5 hv5; have v0 := hv5.cell 0 rfl; have v1 := hv5.cell 1 rfl; have HV5 := Lib.hid hv5; have HP5 := Lib.hid (cg_part hv5); have HBE := Lib.hid hb5; have HT5 := Lib.hid (HTR.out.below hb5); have HR5 := Lib.hid (HRR.out.below hb5); have HB5 := Lib.hid (HB.out.trans (hb5.mono HB.out.size)); skip; clear hb5 hv5)
     | (refine wpList_part_get rfl 56 _ rfl b (o + k * 15) #[.int .i64 (1), .int .i64 c.id, .int .i64 c.par, .bool c.leaf, .int .u64 c.ra, .int .u64 c.rb, .int .u64 c.rc, .int .u64 c.la, .int .u64 c.lb, .int .u64 c.lc, .int .u64 c.ua, .int .u64 c.ub, .int .u64 c.uc, .int .i64 c.pk, .int .i64 c.bt] _ HR.out rfl Try.underlying56 rfl AINF.out ?_))
    go_roundg (n - (k + 1))
    case rel => exact ⟨k + 1, F1, L1, n1, ao1, cap1, rfl, (by go_num), HLT.out, HT7.out, HI1.out, HN1.out, HR7.out, HB7.out, HST.out, Nat.le_refl _⟩
    case measure => omega
   ·by_cases h2 : k0 = 2
    ·subst h2
     have hF' : delF f L c.id = F1 := hF
     rw [hF'] at KDL
     clear hF hF'
     go_wp2_with (first
      | go_guarded
      | (go_at_call 28; (with_reducible refine (KW.out _ HR6.out).mono ?_); rintro _ w7 ⟨ao1, n1, cap1, rfl, hn1, hr1, hbel⟩; have HN1 := Lib.hid hn1; have HR7 := Lib.hid hr1; have HT7 := Lib.hid (HT6.out.below hbel); have HB7 := Lib.hid (HB6.out.trans (hbel.mono HB6.out.size)); clear hn1 hr1 hbel)
      | (refine wpList_var_get rfl 56 _ rfl _ #[.int .i64 (2), .int .i64 c.id, .int .i64 c.par, .bool c.leaf, .int .u64 c.ra, .int .u64 c.rb, .int .u64 c.rc, .int .u64 c.la, .int .u64 c.lb, .int .u64 c.lc, .int .u64 c.ua, .int .u64 c.ub, .int .u64 c.uc, .int .i64 c.pk, .int .i64 c.bt] _ HV6.out rfl Try.underlying56 rfl AINF.out ?_)
      | (go_at_call 21; (with_reducible refine (KDL.out _ HT5.out).mono ?_); rintro _ w6 ⟨rfl, hT6, hO6⟩; have HT6 := Lib.hid hT6; have hmv : ¬ wr.heap.size = mb := fun g => (by have := HMR.out; omega); have HV6 := Lib.hid (HV5.out.only hO6 (fun g => hmv g)); have HR6 := Lib.hid (HR5.out.map_only (fun _ => by rw [crow_len]; decide) HT5.out.map hO6); have HB6 : Hid (Below w.heap.size w w6) := Lib.hid (HB5.out.trans ⟨hO6.1, hO6.2, hO6.3, hO6.4, fun q hq => hO6.5 q (Nat.lt_of_lt_of_le hq HB5.out.size) (by have := HMB.out; omega)⟩); clear hT6 hO6 hmv)
      | (refine wpList_part_get rfl 54 _ rfl wr.heap.size 1 #[.int .i64 c.id, .int .i64 c.par, .bool c.leaf, .int .u64 c.ra, .int .u64 c.rb, .int .u64 c.rc, .int .u64 c.la, .int .u64 c.lb, .int .u64 c.lc, .int .u64 c.ua, .int .u64 c.ub, .int .u64 c.uc, .int .i64 c.pk, .int .i64 c.bt] _ HP5.out rfl Try.underlying54 rfl CINF.out ?_)
      | (refine wpList_var_new rfl rfl 56 #[.int .i64 0, .int .i64 0, .int .i64 0, .bool false, .int .u64 0, .int .u64 0, .int .u64 0, .int .u64 0, .int .u64 0, .int .u64 0, .int .u64 0, .int .u64 0, .int .u64 0, .int .i64 0, .int .i64 0] ALL.out rfl _ _ rfl #[.int .i64 (2), .int .i64 c.id, .int .i64 c.par, .bool c.leaf, .int .u64 c.ra, .int .u64 c.rb, .int .u64 c.rc, .int .u64 c.la, .int .u64 c.lb, .int .u64 c.lc, .int .u64 c.ua, .int .u64 c.ub, .int .u64 c.uc, .int .i64 c.pk, .int .i64 c.bt] rfl rfl AINF.out rfl (ONE.out _ _) ?_; intro w5 hs5 hb5 hv5; have v0 := hv5.cell 0 rfl; have v1 := hv5.cell 1 rfl; have HV5 := Lib.hid hv5; have HP5 := Lib.hid (cg_part hv5); have HBE := Lib.hid hb5; have HT5 := Lib.hid (HTR.out.below hb5); have HR5 := Lib.hid (HRR.out.below hb5); have HB5 := Lib.hid (HB.out.trans (hb5.mono HB.out.size)); skip; clear hb5 hv5)
      | (refine wpList_part_get rfl 56 _ rfl b (o + k * 15) #[.int .i64 (2), .int .i64 c.id, .int .i64 c.par, .bool c.leaf, .int .u64 c.ra, .int .u64 c.rb, .int .u64 c.rc, .int .u64 c.la, .int .u64 c.lb, .int .u64 c.lc, .int .u64 c.ua, .int .u64 c.ub, .int .u64 c.uc, .int .i64 c.pk, .int .i64 c.bt] _ HR.out rfl Try.underlying56 rfl AINF.out ?_))
     go_roundg (n - (k + 1))
     case rel => exact ⟨k + 1, F1, L1, n1, ao1, cap1, rfl, (by go_num), HLT.out, HT7.out, HI1.out, HN1.out, HR7.out, HB7.out, HST.out, Nat.le_refl _⟩
     case measure => omega
    ·by_cases h3 : k0 = 3
     ·subst h3
      have hF' : setF f L c = F1 := hF
      rw [hF'] at KST
      clear hF hF'
      go_wp2_with (first
       | go_guarded
       | (go_at_call 28; (with_reducible refine (KW.out _ HR6.out).mono ?_); rintro _ w7 ⟨ao1, n1, cap1, rfl, hn1, hr1, hbel⟩; have HN1 := Lib.hid hn1; have HR7 := Lib.hid hr1; have HT7 := Lib.hid (HT6.out.below hbel); have HB7 := Lib.hid (HB6.out.trans (hbel.mono HB6.out.size)); clear hn1 hr1 hbel)
       | (refine wpList_var_get rfl 56 _ rfl _ #[.int .i64 (3), .int .i64 c.id, .int .i64 c.par, .bool c.leaf, .int .u64 c.ra, .int .u64 c.rb, .int .u64 c.rc, .int .u64 c.la, .int .u64 c.lb, .int .u64 c.lc, .int .u64 c.ua, .int .u64 c.ub, .int .u64 c.uc, .int .i64 c.pk, .int .i64 c.bt] _ HV6.out rfl Try.underlying56 rfl AINF.out ?_)
       | (go_at_call 27; (with_reducible refine (KST.out _ HT5.out).mono ?_); rintro _ w6 ⟨rfl, hT6, hO6⟩; have HT6 := Lib.hid hT6; have hmv : ¬ wr.heap.size = mb := fun g => (by have := HMR.out; omega); have HV6 := Lib.hid (HV5.out.only hO6 (fun g => hmv g)); have HR6 := Lib.hid (HR5.out.map_only (fun _ => by rw [crow_len]; decide) HT5.out.map hO6); have HB6 : Hid (Below w.heap.size w w6) := Lib.hid (HB5.out.trans ⟨hO6.1, hO6.2, hO6.3, hO6.4, fun q hq => hO6.5 q (Nat.lt_of_lt_of_le hq HB5.out.size) (by have := HMB.out; omega)⟩); clear hT6 hO6 hmv)
       | (refine wpList_part_get rfl 54 _ rfl wr.heap.size 1 #[.int .i64 c.id, .int .i64 c.par, .bool c.leaf, .int .u64 c.ra, .int .u64 c.rb, .int .u64 c.rc, .int .u64 c.la, .int .u64 c.lb, .int .u64 c.lc, .int .u64 c.ua, .int .u64 c.ub, .int .u64 c.uc, .int .i64 c.pk, .int .i64 c.bt] _ HP5.out rfl Try.underlying54 rfl CINF.out ?_)
       | (refine wpList_var_new rfl rfl 56 #[.int .i64 0, .int .i64 0, .int .i64 0, .bool false, .int .u64 0, .int .u64 0, .int .u64 0, .int .u64 0, .int .u64 0, .int .u64 0, .int .u64 0, .int .u64 0, .int .u64 0, .int .i64 0, .int .i64 0] ALL.out rfl _ _ rfl #[.int .i64 (3), .int .i64 c.id, .int .i64 c.par, .bool c.leaf, .int .u64 c.ra, .int .u64 c.rb, .int .u64 c.rc, .int .u64 c.la, .int .u64 c.lb, .int .u64 c.lc, .int .u64 c.ua, .int .u64 c.ub, .int .u64 c.uc, .int .i64 c.pk, .int .i64 c.bt] rfl rfl AINF.out rfl (ONE.out _ _) ?_; intro w5 hs5 hb5 hv5; have v0 := hv5.cell 0 rfl; have v1 := hv5.cell 1 rfl; have HV5 := Lib.hid hv5; have HP5 := Lib.hid (cg_part hv5); have HBE := Lib.hid hb5; have HT5 := Lib.hid (HTR.out.below hb5); have HR5 := Lib.hid (HRR.out.below hb5); have HB5 := Lib.hid (HB.out.trans (hb5.mono HB.out.size)); skip; clear hb5 hv5)
       | (refine wpList_part_get rfl 56 _ rfl b (o + k * 15) #[.int .i64 (3), .int .i64 c.id, .int .i64 c.par, .bool c.leaf, .int .u64 c.ra, .int .u64 c.rb, .int .u64 c.rc, .int .u64 c.la, .int .u64 c.lb, .int .u64 c.lc, .int .u64 c.ua, .int .u64 c.ub, .int .u64 c.uc, .int .i64 c.pk, .int .i64 c.bt] _ HR.out rfl Try.underlying56 rfl AINF.out ?_))
      go_roundg (n - (k + 1))
      case rel => exact ⟨k + 1, F1, L1, n1, ao1, cap1, rfl, (by go_num), HLT.out, HT7.out, HI1.out, HN1.out, HR7.out, HB7.out, HST.out, Nat.le_refl _⟩
      case measure => omega
     ·have q1 : (k0 == 1) = false := by simpa using h1
      have q2 : (k0 == 2) = false := by simpa using h2
      have q3 : (k0 == 3) = false := by simpa using h3
      have hF' : f = F1 := by rw [← hF]; unfold chF; rw [if_neg h1, if_neg h2, if_neg h3]
      have HFF := Lib.hid hF'
      clear hF hF' h1 h2 h3
      go_wp2_with (first
       | go_guarded
       | (go_at_call 28; (with_reducible refine (KW.out _ HR6.out).mono ?_); rintro _ w7 ⟨ao1, n1, cap1, rfl, hn1, hr1, hbel⟩; have HN1 := Lib.hid hn1; have HR7 := Lib.hid hr1; have HT7 := Lib.hid (HT6.out.below hbel); have HB7 := Lib.hid (HB6.out.trans (hbel.mono HB6.out.size)); clear hn1 hr1 hbel)
       | (refine wpList_var_get rfl 56 _ rfl _ #[.int .i64 (k0), .int .i64 c.id, .int .i64 c.par, .bool c.leaf, .int .u64 c.ra, .int .u64 c.rb, .int .u64 c.rc, .int .u64 c.la, .int .u64 c.lb, .int .u64 c.lc, .int .u64 c.ua, .int .u64 c.ub, .int .u64 c.uc, .int .i64 c.pk, .int .i64 c.bt] _ HV6.out rfl Try.underlying56 rfl AINF.out ?_)
       | fail
       | (refine wpList_part_get rfl 54 _ rfl wr.heap.size 1 #[.int .i64 c.id, .int .i64 c.par, .bool c.leaf, .int .u64 c.ra, .int .u64 c.rb, .int .u64 c.rc, .int .u64 c.la, .int .u64 c.lb, .int .u64 c.lc, .int .u64 c.ua, .int .u64 c.ub, .int .u64 c.uc, .int .i64 c.pk, .int .i64 c.bt] _ HP5.out rfl Try.underlying54 rfl CINF.out ?_)
       | (refine wpList_var_new rfl rfl 56 #[.int .i64 0, .int .i64 0, .int .i64 0, .bool false, .int .u64 0, .int .u64 0, .int .u64 0, .int .u64 0, .int .u64 0, .int .u64 0, .int .u64 0, .int .u64 0, .int .u64 0, .int .i64 0, .int .i64 0] ALL.out rfl _ _ rfl #[.int .i64 (k0), .int .i64 c.id, .int .i64 c.par, .bool c.leaf, .int .u64 c.ra, .int .u64 c.rb, .int .u64 c.rc, .int .u64 c.la, .int .u64 c.lb, .int .u64 c.lc, .int .u64 c.ua, .int .u64 c.ub, .int .u64 c.uc, .int .i64 c.pk, .int .i64 c.bt] rfl rfl AINF.out rfl (ONE.out _ _) ?_; intro w5 hs5 hb5 hv5; have v0 := hv5.cell 0 rfl; have v1 := hv5.cell 1 rfl; have HV5 := Lib.hid hv5; have HP5 := Lib.hid (cg_part hv5); have HBE := Lib.hid hb5; have HT5 := Lib.hid (HTR.out.below hb5); have HR5 := Lib.hid (HRR.out.below hb5); have HB5 := Lib.hid (HB.out.trans (hb5.mono HB.out.size)); have HT6 := Lib.hid (show HT w5 tb mb F1 from by rw [← HFF.out]; exact HT5.out); have HV6 := HV5; have HR6 := HR5; have HB6 := HB5; clear hb5 hv5)
       | (refine wpList_part_get rfl 56 _ rfl b (o + k * 15) #[.int .i64 (k0), .int .i64 c.id, .int .i64 c.par, .bool c.leaf, .int .u64 c.ra, .int .u64 c.rb, .int .u64 c.rc, .int .u64 c.la, .int .u64 c.lb, .int .u64 c.lc, .int .u64 c.ua, .int .u64 c.ub, .int .u64 c.uc, .int .i64 c.pk, .int .i64 c.bt] _ HR.out rfl Try.underlying56 rfl AINF.out ?_))
      go_roundg (n - (k + 1))
      case rel => exact ⟨k + 1, F1, L1, n1, ao1, cap1, rfl, (by go_num), HLT.out, HT7.out, HI1.out, HN1.out, HR7.out, HB7.out, HST.out, Nat.le_refl _⟩
      case measure => omega
  ·obtain rfl : k = n := by omega
   obtain ⟨R, hR⟩ : ∃ R, belL f L num = R := ⟨_, rfl⟩
   obtain ⟨u, hu⟩ : ∃ u, R.length = u := ⟨_, rfl⟩
   have hu64 : u ≤ 64 := by rw [← hu, ← hR]; exact Nat.le_trans (List.length_filter_le _ _) (Nat.le_trans (List.length_filter_le _ _) hI.len)
   have KSB : Hid (∀ z, HT z tb mb f → Calls Try.prog 29 #[.pointer (some ⟨tb, 0, none⟩), .int .i64 num] z fun e z' => ∃ ao cap, e = .returned (.slice ao u cap) ∧ IntsV z' ao R ∧ Below z.heap.size z z') := Lib.hid (fun z hz => by have := sbel_c hz hI num; rw [hR, hu] at this; exact this)
   have KRB : Hid (∀ z, RwV crow 14 z a4 (rowsX f L) → Calls Try.prog 30 #[.slice a4 n4 c4, .int .i64 num] z fun e z' => ∃ ao cap, e = .returned (.slice ao u cap) ∧ IntsV z' ao R ∧ Below z.heap.size z z') := Lib.hid (fun z hz => by
    refine (rbel_c hI n4 hL num a4 c4 z hz).mono ?_
    rintro e z' ⟨v, rfl, hrr, hb⟩
    rw [hR, hu] at hrr
    obtain ⟨ao, cap, rfl⟩ := row_form hrr
    exact ⟨ao, cap, rfl, (own_ints hrr).2, hb⟩)
   have KIN : Hid (∀ (z : World) a1 a2 c1 c2, IntsV z a1 R → IntsV z a2 R → Calls Try.prog 13 #[.slice a1 u c1, .slice a2 u c2] z fun ee w' => ee = .returned (.bool true) ∧ Below z.heap.size z w') := Lib.hid (fun z a1 a2 c1 c2 h1 h2 => by have := pints_c R a1 a2 c1 c2 (by omega) z h1 h2; rw [hu] at this; exact this)
   clear hT hI hL hR hB hst hlt hu
   go_wp2_with (first
    | go_guarded
    | (go_at_call 24; (with_reducible refine (KTW.out _).mono ?_); rintro _ w5 ⟨rfl, hbel⟩; have HB5 : Hid (Below w.heap.size w w5) := Lib.hid (HB4.out.trans (hbel.mono HB4.out.size)); clear hbel)
    | (go_at_call 29; (have mk := HB3); (with_reducible refine (KNI.out _).mono ?_); rintro _ w4 ⟨ao4, cp4, rfl, hbel⟩; have HB4 := Lib.hid (HB3.out.trans (hbel.mono HB3.out.size)); clear hbel)
    | (go_at_call 13; (with_reducible refine (KIN.out _ _ _ _ _ HV2.out HW2.out).mono ?_); rintro _ w3 ⟨rfl, hbel⟩; have HB3 := Lib.hid (HB2.out.trans (hbel.mono HB2.out.size)); clear hbel)
    | (go_at_call 30; (with_reducible refine (KRB.out _ HR1.out).mono ?_); rintro _ w2 ⟨ao2, cp2, rfl, hv, hbel⟩; have HW2 := Lib.hid hv; have HV2 := Lib.hid (HV1.out.below hbel); have HB2 := Lib.hid (HB1.out.trans (hbel.mono HB1.out.size)); clear hbel hv)
    | (go_at_call 29; (with_reducible refine (KSB.out _ HTR.out).mono ?_); rintro _ w1 ⟨ao1, cp1, rfl, hv, hbel⟩; have HV1 := Lib.hid hv; have HR1 := Lib.hid (HRR.out.below hbel); have HB1 := Lib.hid (HB.out.trans (hbel.mono HB.out.size)); clear hbel hv))
   go_ret
   exact ⟨rfl, HB5.out⟩
theorem sblong_c (n : Nat) (hn : 80 < n) (ao : Option Addr) (cap : Nat) (num : Int) (w : World) : Calls Try.prog 6 #[.slice ao n cap, .int .i64 num] w fun ee w' => ee = .returned (.bool true) ∧ Below w.heap.size w w' := by
 have q1 : decide ((80 : Int) < (n : Int)) = true := decide_eq_true (by omega)
 have q2 : decide (80 < n) = true := decide_eq_true hn
 have K := Lib.hid two_c
 go_enter Try.func6, Try.ntmps6
 go_wp2_with (first | go_guarded | (go_at_call 24; (with_reducible refine (K.out _).mono ?_); rintro _ w1 ⟨rfl, hbel⟩; have HB1 := Lib.hid hbel; clear hbel))
 go_ret
 exact ⟨rfl, HB1.out⟩
theorem spansBelow_law (v : Value) (num : Int) {w : World} (hs : Op.FlatSlice w 15 [.int .i64, .int .i64, .int .i64, .bool, .int .u64, .int .u64, .int .u64, .int .u64, .int .u64, .int .u64, .int .u64, .int .u64, .int .u64, .int .i64, .int .i64] v) {P : Prop} (_ : P) : Calls Try.prog 6 #[v, .int .i64 num] w fun ee w' => ee = .returned (.bool true) ∧ Below w.heap.size w w' := by
 obtain ⟨ao, xs, ac, rfl, h1, h2, h3, h4⟩ := chgs_of hs
 by_cases hn : xs.length ≤ 80
 ·exact sblaw_c xs _ rfl hn h4 ao ac num w h3
 ·exact sblong_c _ (by omega) ao ac num w
end Go.Proofs.Ytghjdkdjdpgdiaa
end
