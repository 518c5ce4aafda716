/- Joined texts. -/
import Derived.Test.YtmmahgfijiocfaaBs0
import Derived.Test.YtmmahgfijiocfaaBs1
import Derived.Test.YtmmahgfijiocfaaBs10
import Derived.Test.YtmmahgfijiocfaaBs11
import Derived.Test.YtmmahgfijiocfaaBs12
import Derived.Test.YtmmahgfijiocfaaBs13
import Derived.Test.YtmmahgfijiocfaaBs15
import Derived.Test.YtmmahgfijiocfaaBs16
import Derived.Test.YtmmahgfijiocfaaBs17
import Derived.Test.YtmmahgfijiocfaaBs18
import Derived.Test.YtmmahgfijiocfaaBs19
import Derived.Test.YtmmahgfijiocfaaBs2
import Derived.Test.YtmmahgfijiocfaaBs20
import Derived.Test.YtmmahgfijiocfaaBs23
import Derived.Test.YtmmahgfijiocfaaBs24
import Derived.Test.YtmmahgfijiocfaaBs3
import Derived.Test.YtmmahgfijiocfaaBs4
import Derived.Test.YtmmahgfijiocfaaBs5
import Derived.Test.YtmmahgfijiocfaaBs6
import Derived.Test.YtmmahgfijiocfaaBs7
import Derived.Test.YtmmahgfijiocfaaBs8
import Derived.Test.YtmmahgfijiocfaaBs9
import Derived.Test.YtmmahgfijiocfaaAl1
import Derived.Lib.SliceRun
import Derived.Lib.SlicesCompact
import Derived.Deep.Onto
import Derived.LoopN
import Derived.RowKit
import Derived.IntWalk
import Derived.StillTail
import Derived.Deep.Quiet
import Derived.Deep.QuietTactic
import Derived.Test.YtmmahgfijiocfaaChecked
import Derived.WalkKit
import Derived.BigQuiet
import Derived.OpenShut
import Derived.Deep.RegionHeld3
import Derived.Deep.RegionWith
import Derived.Deep.DeepCutAuto
import Derived.WalkSpells
import Derived.WalkSmall
import Derived.Lib.Hide
import Derived.ProofKit
import Derived.Below
import Derived.Carry
import Derived.ReadAgain
import Derived.ChangeOld
import Derived.Deep.Slices
import Derived.Maps.Keyed
import Derived.Maps.Own
import Derived.Maps.OwnOps
import Derived.DeepKeys5
import Derived.Maps.RangeRun
import Derived.Sort.OwnSortedInts
import Derived.Shelf.SlIterI.Nil
import Derived.Shelf.SortM.Plain
import Derived.Shelf.SortM.SortNone
import Derived.Ground.GgzProg
import Derived.Ground.SlgmProg
import Derived.Laws.AppendOwn
import Derived.Laws.AppendOwnNone
import Derived.Deep.OwnRows
import Derived.ArgAppend
import Derived.Deep.MidRow
import Derived.Deep.WholeRow
import Derived.Laws.CopyRow
import Derived.Shelf.SlMaps.Clone
import Derived.Ground.SlmcProg
import Derived.Shelf.SlicesE.Compact
import Derived.Ground.SlgnProg
set_option linter.unusedVariables false
set_option linter.unusedSimpArgs false
set_option maxRecDepth 100000
set_option maxHeartbeats 16000000
section
namespace Go.Proofs.Ytmmahgfijiocfaa
open Go.RowKit Fg Reg Go.Maps Go.Shelf
attribute [local irreducible] Reg.wE VR
theorem tree23_c (xs : List TC) (n : Nat) (hln : xs.length = n) (hn : n ≤ 80) (hin : ∀ k (h : k < xs.length), CIn xs[k].c) (ao : Option Addr) (cap : Nat) (w : World) (hA : RwV TC.cells 15 w ao xs) :
  Calls Try.prog 8 #[.slice ao n cap] w fun e w' => ∃ tb mb m ro rc, e = .returned (.tuple #[.pointer (some ⟨tb, 0, none⟩), .slice ro m rc]) ∧ w.heap.size ≤ tb ∧ w.heap.size ≤ mb ∧ HT w' tb mb (trs (fun _ => none) [] xs).1 ∧ TI (trs (fun _ => none) [] xs).1 (trs (fun _ => none) [] xs).2 ∧ (trs (fun _ => none) [] xs).2.length = m ∧ RwV crow 14 w' ro (rowsX (trs (fun _ => none) [] xs).1 (trs (fun _ => none) [] xs).2) ∧ Below w.heap.size w w' := by
 obtain ⟨G, hG⟩ : ∃ G, trs (fun _ => none) [] xs = G := ⟨_, rfl⟩
 rw [hG]
 have HG := Lib.hid hG
 have KN := Lib.hid hnew_c
 have dF0 := dd_f0
 have HA := Lib.hid hA
 have HIN := Lib.hid hin
 have HLN := Lib.hid hln
 have ALL := Lib.hid cg_alloc
 have AINF := Lib.hid cg_info
 have ONE := Lib.hid cg_one
 have CINF := Lib.hid cl_info
 clear hA hin hln hG
 go_enter Try.func8, Try.ntmps8
 go_wp2_with (first
  | go_guarded
  | (go_at_call 25; (with_reducible refine (KN.out _).mono ?_); rintro _ w1 ⟨tb, mb, rfl, ht, hm, hT, hbel⟩; have HT1 := Lib.hid hT; have HB1 := Lib.hid hbel; have HTB := Lib.hid ht; have HMB := Lib.hid hm; clear hT hbel ht hm))
 try go_frame
 go_loopg [5, 11] n (fun k9 s5 s11 wr => ∃ (k : Nat) (f : Int → Option Cls) (L : List Int) (n4 : Nat) (a4 : Option Addr) (c4 : Nat), s5 = .slice a4 n4 c4 ∧ s11 = .int .i64 k ∧ k ≤ n ∧ HT wr tb mb f ∧ TI f L ∧ L.length = n4 ∧ RwV crow 14 wr a4 (rowsX f L) ∧ Below w.heap.size w wr ∧ trs f L (xs.drop k) = G ∧ n - k ≤ k9)
 case atStart => exact ⟨0, _, [], 0, none, 0, rfl, rfl, Nat.zero_le _, HT1.out, TI.nil, rfl, RwV.nil _ _, HB1.out, by simpa using HG.out, by omega⟩
 case round =>
  obtain ⟨k, f, L, n4, a4, c4, rfl, rfl, hk, hT, hI, hL, hR, hB, hst, hk9⟩ := hrel
  have HTR := Lib.hid hT
  have HI := Lib.hid hI
  have HLL := Lib.hid hL
  have HRR := Lib.hid hR
  have HB := Lib.hid hB
  have HMR := Lib.hid hT.mlt
  by_cases hlt : k < n
  ·have HLT : Hid (k + 1 ≤ n) := Lib.hid hlt
   have hlC : k < xs.length := by rw [HLN.out]; exact hlt
   obtain ⟨b, o, rfl, hb, hra⟩ := (HA.out.below hB) k hlC
   have hci := HIN.out k hlC
   have hdr : xs.drop k = xs[k] :: xs.drop (k + 1) := List.drop_eq_getElem_cons hlC
   obtain ⟨a, hae⟩ : ∃ a, xs[k] = a := ⟨_, rfl⟩
   rw [hae] at hra hci hdr
   obtain ⟨k0, c⟩ := a
   have HR := Lib.hid (show wr.rangeAt b (o + k * 15) (#[.int .i64 (k0), .int .i64 c.id, .int .i64 c.par, .bool c.leaf, .int .u64 c.ra, .int .u64 c.rb, .int .u64 c.rc, .int .u64 c.la, .int .u64 c.lb, .int .u64 c.lc, .int .u64 c.ua, .int .u64 c.ub, .int .u64 c.uc, .int .i64 c.pk, .int .i64 c.bt] : Array Value).toList from hra)
   have HCI := Lib.hid hci
   rw [hdr] at hst
   obtain ⟨F1, hF⟩ : ∃ F, chF k0 f L c = F := ⟨_, rfl⟩
   obtain ⟨L1, hM⟩ : ∃ M, chL k0 f L c = M := ⟨_, rfl⟩
   have HST : Hid (trs F1 L1 (xs.drop (k + 1)) = G) := Lib.hid (by rw [← hF, ← hM]; exact hst)
   have HI1 : Hid (TI F1 L1) := Lib.hid (by rw [← hF, ← hM]; exact hI.chF k0 hci)
   have KW := Lib.hid (fun (z : World) (hz : RwV crow 14 z a4 (rowsX f L)) => (by have := rone_c hI k0 hci n4 hL a4 c4 z hz; rw [hF, hM] at this; exact this : Calls Try.prog 28 #[.slice a4 n4 c4, .agg #[.int .i64 (k0), .int .i64 c.id, .int .i64 c.par, .bool c.leaf, .int .u64 c.ra, .int .u64 c.rb, .int .u64 c.rc, .int .u64 c.la, .int .u64 c.lb, .int .u64 c.lc, .int .u64 c.ua, .int .u64 c.ub, .int .u64 c.uc, .int .i64 c.pk, .int .i64 c.bt]] z (DidP z (chE k0 f L c) F1 L1)))
   have KADD : Hid (∀ z, HT z tb mb f → Calls Try.prog 26 #[.pointer (some ⟨tb, 0, none⟩), .agg #[.int .i64 c.id, .int .i64 c.par, .bool c.leaf, .int .u64 c.ra, .int .u64 c.rb, .int .u64 c.rc, .int .u64 c.la, .int .u64 c.lb, .int .u64 c.lc, .int .u64 c.ua, .int .u64 c.ub, .int .u64 c.uc, .int .i64 c.pk, .int .i64 c.bt]] z fun e w' => e = .returned (.int .i64 (addE f L c)) ∧ HT w' tb mb (addF f L c) ∧ Only (fun k => k = mb) z w') := Lib.hid (fun z hz => hadd_c hz hI hci)
   have KST : Hid (∀ z, HT z tb mb f → Calls Try.prog 27 #[.pointer (some ⟨tb, 0, none⟩), .agg #[.int .i64 c.id, .int .i64 c.par, .bool c.leaf, .int .u64 c.ra, .int .u64 c.rb, .int .u64 c.rc, .int .u64 c.la, .int .u64 c.lb, .int .u64 c.lc, .int .u64 c.ua, .int .u64 c.ub, .int .u64 c.uc, .int .i64 c.pk, .int .i64 c.bt]] z fun e w' => e = .returned (.int .i64 (setE f L c)) ∧ HT w' tb mb (setF f L c) ∧ Only (fun k => k = mb) z w') := Lib.hid (fun z hz => hset_c hz hI hci)
   have KDL : Hid (∀ z, HT z tb mb f → Calls Try.prog 21 #[.pointer (some ⟨tb, 0, none⟩), .int .i64 c.id] z fun e w' => e = .returned (.int .i64 (delE f L c.id)) ∧ HT w' tb mb (delF f L c.id) ∧ Only (fun k => k = mb) z w') := Lib.hid (fun z hz => hdel_c hz hI hci.id)
   clear hT hI hL hR hB hra hci hae hlC hb hdr hst hM
   by_cases h1 : k0 = 1
   ·subst h1
    have hF' : addF f L c = F1 := hF
    rw [hF'] at KADD
    clear hF hF'
    go_wp2_with (first
     | go_guarded
     | (go_at_call 28; (with_reducible refine (KW.out _ HR6.out).mono ?_); rintro _ w7 ⟨ao1, n1, cap1, rfl, hn1, hr1, hbel⟩; have HN1 := Lib.hid hn1; have HR7 := Lib.hid hr1; have HT7 := Lib.hid (HT6.out.below hbel); have HB7 := Lib.hid (HB6.out.trans (hbel.mono HB6.out.size)); clear hn1 hr1 hbel)
     | (refine wpList_var_get rfl 56 _ rfl _ #[.int .i64 (1), .int .i64 c.id, .int .i64 c.par, .bool c.leaf, .int .u64 c.ra, .int .u64 c.rb, .int .u64 c.rc, .int .u64 c.la, .int .u64 c.lb, .int .u64 c.lc, .int .u64 c.ua, .int .u64 c.ub, .int .u64 c.uc, .int .i64 c.pk, .int .i64 c.bt] _ HV6.out rfl Try.underlying56 rfl AINF.out ?_)
     | (go_at_call 26; (with_reducible refine (KADD.out _ HT5.out).mono ?_); rintro _ w6 ⟨rfl, hT6, hO6⟩; have HT6 := Lib.hid hT6; have hmv : ¬ wr.heap.size = mb := fun g => (by have := HMR.out; omega); have HV6 := Lib.hid (HV5.out.only hO6 (fun g => hmv g)); have HR6 := Lib.hid (HR5.out.map_only (fun _ => by rw [crow_len]; decide) HT5.out.map hO6); have HB6 : Hid (Below w.heap.size w w6) := Lib.hid (HB5.out.trans ⟨hO6.1, hO6.2, hO6.3, hO6.4, fun q hq => hO6.5 q (Nat.lt_of_lt_of_le hq HB5.out.size) (by have := HMB.out; omega)⟩); clear hT6 hO6 hmv)
     | (refine wpList_part_get rfl 54 _ rfl wr.heap.size 1 #[.int .i64 c.id, .int .i64 c.par, .bool c.leaf, .int .u64 c.ra, .int .u64 c.rb, .int .u64 c.rc, .int .u64 c.la, .int .u64 c.lb, .int .u64 c.lc, .int .u64 c.ua, .int .u64 c.ub, .int .u64 c.uc, .int .i64 c.pk, .int .i64 c.bt] _ HP5.out rfl Try.underlying54 rfl CINF.out ?_)
     | (refine wpList_var_new rfl rfl 56 #[.int .i64 0, .int .i64 0, .int .i64 0, .bool false, .int .u64 0, .int .u64 0, .int .u64 0, .int .u64 0, .int .u64 0, .int .u64 0, .int .u64 0, .int .u64 0, .int .u64 0, .int .i64 0, .int .i64 0] ALL.out rfl _ _ rfl #[.int .i64 (1), .int .i64 c.id, .int .i64 c.par, .bool c.leaf, .int .u64 c.ra, .int .u64 c.rb, .int .u64 c.rc, .int .u64 c.la, .int .u64 c.lb, .int .u64 c.lc, .int .u64 c.ua, .int .u64 c.ub, .int .u64 c.uc, .int .i64 c.pk, .int .i64 c.bt] rfl rfl AINF.out rfl (ONE.out _ _) ?_; intro w5 hs5 hb5 hv5; have v0 := hv5.cell 0 rfl; have v1 := hv5.cell 1 rfl; have HV5 := Lib.hid hv5; have HP5 := Lib.hid (cg_part hv5); have HBE := Lib.hid hb5; have HT5 := Lib.hid (HTR.out.below hb5); have HR5 := Lib.hid (HRR.out.below hb5); have HB5 := Lib.hid (HB.out.trans (hb5.mono HB.out.size)); skip; clear hb5 hv5)
     | (refine wpList_part_get rfl 56 _ rfl b (o + k * 15) #[.int .i64 (1), .int .i64 c.id, .int .i64 c.par, .bool c.leaf, .int .u64 c.ra, .int .u64 c.rb, .int .u64 c.rc, .int .u64 c.la, .int .u64 c.lb, .int .u64 c.lc, .int .u64 c.ua, .int .u64 c.ub, .int .u64 c.uc, .int .i64 c.pk, .int .i64 c.bt] _ HR.out rfl Try.underlying56 rfl AINF.out ?_))
    go_roundg (n - (k + 1))
    case rel => exact ⟨k + 1, F1, L1, n1, ao1, cap1, rfl, (by go_num), HLT.out, HT7.out, HI1.out, HN1.out, HR7.out, HB7.out, HST.out, Nat.le_refl _⟩
    case measure => omega
   ·by_cases h2 : k0 = 2
    ·subst h2
     have hF' : delF f L c.id = F1 := hF
     rw [hF'] at KDL
     clear hF hF'
     go_wp2_with (first
      | go_guarded
      | (go_at_call 28; (with_reducible refine (KW.out _ HR6.out).mono ?_); rintro _ w7 ⟨ao1, n1, cap1, rfl, hn1, hr1, hbel⟩; have HN1 := Lib.hid hn1; have HR7 := Lib.hid hr1; have HT7 := Lib.hid (HT6.out.below hbel); have HB7 := Lib.hid (HB6.out.trans (hbel.mono HB6.out.size)); clear hn1 hr1 hbel)
      | (refine wpList_var_get rfl 56 _ rfl _ #[.int .i64 (2), .int .i64 c.id, .int .i64 c.par, .bool c.leaf, .int .u64 c.ra, .int .u64 c.rb, .int .u64 c.rc, .int .u64 c.la, .int .u64 c.lb, .int .u64 c.lc, .int .u64 c.ua, .int .u64 c.ub, .int .u64 c.uc, .int .i64 c.pk, .int .i64 c.bt] _ HV6.out rfl Try.underlying56 rfl AINF.out ?_)
      | (go_at_call 21; (with_reducible refine (KDL.out _ HT5.out).mono ?_); rintro _ w6 ⟨rfl, hT6, hO6⟩; have HT6 := Lib.hid hT6; have hmv : ¬ wr.heap.size = mb := fun g => (by have := HMR.out; omega); have HV6 := Lib.hid (HV5.out.only hO6 (fun g => hmv g)); have HR6 := Lib.hid (HR5.out.map_only (fun _ => by rw [crow_len]; decide) HT5.out.map hO6); have HB6 : Hid (Below w.heap.size w w6) := Lib.hid (HB5.out.trans ⟨hO6.1, hO6.2, hO6.3, hO6.4, fun q hq => hO6.5 q (Nat.lt_of_lt_of_le hq HB5.out.size) (by have := HMB.out; omega)⟩); clear hT6 hO6 hmv)
      | (refine wpList_part_get rfl 54 _ rfl wr.heap.size 1 #[.int .i64 c.id, .int .i64 c.par, .bool c.leaf, .int .u64 c.ra, .int .u64 c.rb, .int .u64 c.rc, .int .u64 c.la, .int .u64 c.lb, .int .u64 c.lc, .int .u64 c.ua, .int .u64 c.ub, .int .u64 c.uc, .int .i64 c.pk, .int .i64 c.bt] _ HP5.out rfl Try.underlying54 rfl CINF.out ?_)
      | (refine wpList_var_new rfl rfl 56 #[.int .i64 0, .int .i64 0, .int .i64 0, .bool false, .int .u64 0, .int .u64 0, .int .u64 0, .int .u64 0, .int .u64 0, .int .u64 0, .int .u64 0, .int .u64 0, .int .u64 0, .int .i64 0, .int .i64 0] ALL.out rfl _ _ rfl #[.int .i64 (2), .int .i64 c.id, .int .i64 c.par, .bool c.leaf, .int .u64 c.ra, .int .u64 c.rb, .int .u64 c.rc, .int .u64 c.la, .int .u64 c.lb, .int .u64 c.lc, .int .u64 c.ua, .int .u64 c.ub, .int .u64 c.uc, .int .i64 c.pk, .int .i64 c.bt] rfl rfl AINF.out rfl (ONE.out _ _) ?_; intro w5 hs5 hb5 hv5; have v0 := hv5.cell 0 rfl; have v1 := hv5.cell 1 rfl; have HV5 := Lib.hid hv5; have HP5 := Lib.hid (cg_part hv5); have HBE := Lib.hid hb5; have HT5 := Lib.hid (HTR.out.below hb5); have HR5 := Lib.hid (HRR.out.below hb5); have HB5 := Lib.hid (HB.out.trans (hb5.mono HB.out.size)); skip; clear hb5 hv5)
      | (refine wpList_part_get rfl 56 _ rfl b (o + k * 15) #[.int .i64 (2), .int .i64 c.id, .int .i64 c.par, .bool c.leaf, .int .u64 c.ra, .int .u64 c.rb, .int .u64 c.rc, .int .u64 c.la, .int .u64 c.lb, .int .u64 c.lc, .int .u64 c.ua, .int .u64 c.ub, .int .u64 c.uc, .int .i64 c.pk, .int .i64 c.bt] _ HR.out rfl Try.underlying56 rfl AINF.out ?_))
     go_roundg (n - (k + 1))
     case rel => exact ⟨k + 1, F1, L1, n1, ao1, cap1, rfl, (by go_num), HLT.out, HT7.out, HI1.out, HN1.out, HR7.out, HB7.out, HST.out, Nat.le_refl _⟩
     case measure => omega
    ·by_cases h3 : k0 = 3
     ·subst h3
      have hF' : setF f L c = F1 := hF
      rw [hF'] at KST
      clear hF hF'
      go_wp2_with (first
       | go_guarded
       | (go_at_call 28; (with_reducible refine (KW.out _ HR6.out).mono ?_); rintro _ w7 ⟨ao1, n1, cap1, rfl, hn1, hr1, hbel⟩; have HN1 := Lib.hid hn1; have HR7 := Lib.hid hr1; have HT7 := Lib.hid (HT6.out.below hbel); have HB7 := Lib.hid (HB6.out.trans (hbel.mono HB6.out.size)); clear hn1 hr1 hbel)
       | (refine wpList_var_get rfl 56 _ rfl _ #[.int .i64 (3), .int .i64 c.id, .int .i64 c.par, .bool c.leaf, .int .u64 c.ra, .int .u64 c.rb, .int .u64 c.rc, .int .u64 c.la, .int .u64 c.lb, .int .u64 c.lc, .int .u64 c.ua, .int .u64 c.ub, .int .u64 c.uc, .int .i64 c.pk, .int .i64 c.bt] _ HV6.out rfl Try.underlying56 rfl AINF.out ?_)
       | (go_at_call 27; (with_reducible refine (KST.out _ HT5.out).mono ?_); rintro _ w6 ⟨rfl, hT6, hO6⟩; have HT6 := Lib.hid hT6; have hmv : ¬ wr.heap.size = mb := fun g => (by have := HMR.out; omega); have HV6 := Lib.hid (HV5.out.only hO6 (fun g => hmv g)); have HR6 := Lib.hid (HR5.out.map_only (fun _ => by rw [crow_len]; decide) HT5.out.map hO6); have HB6 : Hid (Below w.heap.size w w6) := Lib.hid (HB5.out.trans ⟨hO6.1, hO6.2, hO6.3, hO6.4, fun q hq => hO6.5 q (Nat.lt_of_lt_of_le hq HB5.out.size) (by have := HMB.out; omega)⟩); clear hT6 hO6 hmv)
       | (refine wpList_part_get rfl 54 _ rfl wr.heap.size 1 #[.int .i64 c.id, .int .i64 c.par, .bool c.leaf, .int .u64 c.ra, .int .u64 c.rb, .int .u64 c.rc, .int .u64 c.la, .int .u64 c.lb, .int .u64 c.lc, .int .u64 c.ua, .int .u64 c.ub, .int .u64 c.uc, .int .i64 c.pk, .int .i64 c.bt] _ HP5.out rfl Try.underlying54 rfl CINF.out ?_)
       | (refine wpList_var_new rfl rfl 56 #[.int .i64 0, .int .i64 0, .int .i64 0, .bool false, .int .u64 0, .int .u64 0, .int .u64 0, .int .u64 0, .int .u64 0, .int .u64 0, .int .u64 0, .int .u64 0, .int .u64 0, .int .i64 0, .int .i64 0] ALL.out rfl _ _ rfl #[.int .i64 (3), .int .i64 c.id, .int .i64 c.par, .bool c.leaf, .int .u64 c.ra, .int .u64 c.rb, .int .u64 c.rc, .int .u64 c.la, .int .u64 c.lb, .int .u64 c.lc, .int .u64 c.ua, .int .u64 c.ub, .int .u64 c.uc, .int .i64 c.pk, .int .i64 c.bt] rfl rfl AINF.out rfl (ONE.out _ _) ?_; intro w5 hs5 hb5 hv5; have v0 := hv5.cell 0 rfl; have v1 := hv5.cell 1 rfl; have HV5 := Lib.hid hv5; have HP5 := Lib.hid (cg_part hv5); have HBE := Lib.hid hb5; have HT5 := Lib.hid (HTR.out.below hb5); have HR5 := Lib.hid (HRR.out.below hb5); have HB5 := Lib.hid (HB.out.trans (hb5.mono HB.out.size)); skip; clear hb5 hv5)
       | (refine wpList_part_get rfl 56 _ rfl b (o + k * 15) #[.int .i64 (3), .int .i64 c.id, .int .i64 c.par, .bool c.leaf, .int .u64 c.ra, .int .u64 c.rb, .int .u64 c.rc, .int .u64 c.la, .int .u64 c.lb, .int .u64 c.lc, .int .u64 c.ua, .int .u64 c.ub, .int .u64 c.uc, .int .i64 c.pk, .int .i64 c.bt] _ HR.out rfl Try.underlying56 rfl AINF.out ?_))
      go_roundg (n - (k + 1))
      case rel => exact ⟨k + 1, F1, L1, n1, ao1, cap1, rfl, (by go_num), HLT.out, HT7.out, HI1.out, HN1.out, HR7.out, HB7.out, HST.out, Nat.le_refl _⟩
      case measure => omega
     ·have q1 : (k0 == 1) = false := by simpa using h1
      have q2 : (k0 == 2) = false := by simpa using h2
      have q3 : (k0 == 3) = false := by simpa using h3
      have hF' : f = F1 := by rw [← hF]; unfold chF; rw [if_neg h1, if_neg h2, if_neg h3]
      have HFF := Lib.hid hF'
      clear hF hF' h1 h2 h3
      go_wp2_with (first
       | go_guarded
       | (go_at_call 28; (with_reducible refine (KW.out _ HR6.out).mono ?_); rintro _ w7 ⟨ao1, n1, cap1, rfl, hn1, hr1, hbel⟩; have HN1 := Lib.hid hn1; have HR7 := Lib.hid hr1; have HT7 := Lib.hid (HT6.out.below hbel); have HB7 := Lib.hid (HB6.out.trans (hbel.mono HB6.out.size)); clear hn1 hr1 hbel)
       | (refine wpList_var_get rfl 56 _ rfl _ #[.int .i64 (k0), .int .i64 c.id, .int .i64 c.par, .bool c.leaf, .int .u64 c.ra, .int .u64 c.rb, .int .u64 c.rc, .int .u64 c.la, .int .u64 c.lb, .int .u64 c.lc, .int .u64 c.ua, .int .u64 c.ub, .int .u64 c.uc, .int .i64 c.pk, .int .i64 c.bt] _ HV6.out rfl Try.underlying56 rfl AINF.out ?_)
       | fail
       | (refine wpList_part_get rfl 54 _ rfl wr.heap.size 1 #[.int .i64 c.id, .int .i64 c.par, .bool c.leaf, .int .u64 c.ra, .int .u64 c.rb, .int .u64 c.rc, .int .u64 c.la, .int .u64 c.lb, .int .u64 c.lc, .int .u64 c.ua, .int .u64 c.ub, .int .u64 c.uc, .int .i64 c.pk, .int .i64 c.bt] _ HP5.out rfl Try.underlying54 rfl CINF.out ?_)
       | (refine wpList_var_new rfl rfl 56 #[.int .i64 0, .int .i64 0, .int .i64 0, .bool false, .int .u64 0, .int .u64 0, .int .u64 0, .int .u64 0, .int .u64 0, .int .u64 0, .int .u64 0, .int .u64 0, .int .u64 0, .int .i64 0, .int .i64 0] ALL.out rfl _ _ rfl #[.int .i64 (k0), .int .i64 c.id, .int .i64 c.par, .bool c.leaf, .int .u64 c.ra, .int .u64 c.rb, .int .u64 c.rc, .int .u64 c.la, .int .u64 c.lb, .int .u64 c.lc, .int .u64 c.ua, .int .u64 c.ub, .int .u64 c.uc, .int .i64 c.pk, .int .i64 c.bt] rfl rfl AINF.out rfl (ONE.out _ _) ?_; intro w5 hs5 hb5 hv5; have v0 := hv5.cell 0 rfl; have v1 := hv5.cell 1 rfl; have HV5 := Lib.hid hv5; have HP5 := Lib.hid (cg_part hv5); have HBE := Lib.hid hb5; have HT5 := Lib.hid (HTR.out.below hb5); have HR5 := Lib.hid (HRR.out.below hb5); have HB5 := Lib.hid (HB.out.trans (hb5.mono HB.out.size)); have HT6 := Lib.hid (show HT w5 tb mb F1 from by rw [← HFF.out]; exact HT5.out); have HV6 := HV5; have HR6 := HR5; have HB6 := HB5; clear hb5 hv5)
       | (refine wpList_part_get rfl 56 _ rfl b (o + k * 15) #[.int .i64 (k0), .int .i64 c.id, .int .i64 c.par, .bool c.leaf, .int .u64 c.ra, .int .u64 c.rb, .int .u64 c.rc, .int .u64 c.la, .int .u64 c.lb, .int .u64 c.lc, .int .u64 c.ua, .int .u64 c.ub, .int .u64 c.uc, .int .i64 c.pk, .int .i64 c.bt] _ HR.out rfl Try.underlying56 rfl AINF.out ?_))
      go_roundg (n - (k + 1))
      case rel => exact ⟨k + 1, F1, L1, n1, ao1, cap1, rfl, (by go_num), HLT.out, HT7.out, HI1.out, HN1.out, HR7.out, HB7.out, HST.out, Nat.le_refl _⟩
      case measure => omega
  ·obtain rfl : k = n := by omega
   have hg : G = (f, L) := by rw [← hst, List.drop_eq_nil_of_le (by rw [HLN.out]; exact Nat.le_refl _)]; rfl
   have HGG := Lib.hid hg
   clear hT hI hL hR hB hst hlt hg
   go_wp2
   refine bodyPost_ret (v := .tuple #[.pointer (some ⟨tb, 0, none⟩), .slice a4 n4 c4]) (by simp [results, Try.results8, go_sem, *]) rfl ⟨tb, mb, n4, a4, c4, rfl, HTB.out, HMB.out, ?_⟩
   rw [HGG.out]
   exact ⟨HTR.out, HI.out, HLL.out, HRR.out, HB.out⟩
end Go.Proofs.Ytmmahgfijiocfaa
end
