/- Joined texts. -/
import Derived.Test.YtmmahgfijiocfaaBs0
import Derived.Test.YtmmahgfijiocfaaBs1
import Derived.Test.YtmmahgfijiocfaaBs10
import Derived.Test.YtmmahgfijiocfaaBs11
import Derived.Test.YtmmahgfijiocfaaBs12
import Derived.Test.YtmmahgfijiocfaaBs13
import Derived.Test.YtmmahgfijiocfaaBs15
import Derived.Test.YtmmahgfijiocfaaBs16
import Derived.Test.YtmmahgfijiocfaaBs17
import Derived.Test.YtmmahgfijiocfaaBs18
import Derived.Test.YtmmahgfijiocfaaBs19
import Derived.Test.YtmmahgfijiocfaaBs2
import Derived.Test.YtmmahgfijiocfaaBs20
import Derived.Test.YtmmahgfijiocfaaBs23
import Derived.Test.YtmmahgfijiocfaaBs24
import Derived.Test.YtmmahgfijiocfaaBs3
import Derived.Test.YtmmahgfijiocfaaBs4
import Derived.Test.YtmmahgfijiocfaaBs5
import Derived.Test.YtmmahgfijiocfaaBs6
import Derived.Test.YtmmahgfijiocfaaBs7
import Derived.Test.YtmmahgfijiocfaaBs8
import Derived.Test.YtmmahgfijiocfaaBs9
import Derived.Test.YtmmahgfijiocfaaAb1
import Derived.Test.YtmmahgfijiocfaaAb2
import Derived.Test.YtmmahgfijiocfaaAb3
import Derived.Test.YtmmahgfijiocfaaAb4
import Derived.Test.YtmmahgfijiocfaaAb5
import Derived.Test.YtmmahgfijiocfaaAb6
import Derived.Test.YtmmahgfijiocfaaAb7
import Derived.Test.YtmmahgfijiocfaaAb8
import Derived.Maps.Keyed
import Derived.Maps.Own
import Derived.Maps.OwnOps
import Derived.DeepKeys5
import Derived.StillTail
import Derived.Deep.Quiet
import Derived.Deep.QuietTactic
import Derived.Test.YtmmahgfijiocfaaChecked
import Derived.WalkKit
import Derived.BigQuiet
import Derived.OpenShut
import Derived.Deep.RegionHeld3
import Derived.Deep.RegionWith
import Derived.Deep.DeepCutAuto
import Derived.WalkSpells
import Derived.WalkSmall
import Derived.Lib.Hide
import Derived.RowKit
import Derived.IntWalk
import Derived.Maps.RangeRun
import Derived.Deep.MidRow
import Derived.Deep.WholeRow
import Derived.Laws.CopyRow
import Derived.Deep.OwnRows
import Derived.ArgAppend
import Derived.Sort.OwnSortedInts
import Derived.Shelf.SlIterI.Nil
import Derived.Shelf.SortM.Plain
import Derived.Shelf.SortM.SortNone
import Derived.Ground.GgzProg
import Derived.Ground.SlgmProg
import Derived.Laws.AppendOwn
import Derived.Laws.AppendOwnNone
import Derived.Shelf.SlIterI.Stops
import Derived.RangeFuncCalls
import Derived.RangeFuncLeaves
import Derived.RangeFuncBox
import Derived.Maps.AppendAt
import Derived.Shelf.Abstract
import Derived.OwnWalkIn
import Derived.TacticsInMore
import Derived.LoopNIn
import Derived.LoopIn
import Derived.ProofKit
import Derived.Below
import Derived.Carry
import Derived.ReadAgain
import Derived.ChangeOld
import Derived.Deep.Slices
import Derived.Deep.Onto
import Derived.LoopN
import Derived.Lib.SliceRun
import Derived.Lib.SlicesCompact
import Derived.Shelf.SlMaps.Clone
import Derived.Ground.SlmcProg
import Derived.Shelf.SlicesE.Compact
import Derived.Ground.SlgnProg
set_option linter.unusedVariables false
set_option linter.unusedSimpArgs false
set_option maxRecDepth 100000
set_option maxHeartbeats 16000000
section
namespace Go.Proofs.Ytmmahgfijiocfaa
open Go.RowKit Fg Reg Go.Maps Go.Sort Go.Shelf
attribute [local irreducible] Reg.wE VR
theorem ablaw_c (xs : List TC) (n : Nat) (hln : xs.length = n) (hn : n ≤ 80) (hin : ∀ k (h : k < xs.length), CIn xs[k].c) (ao : Option Addr) (cap : Nat) (cs : List CL23) (m : Nat) (hlm : cs.length = m) (hm : m ≤ 80) (hic : ∀ k (h : k < cs.length), iok cs[k].k ∧ iok cs[k].id) (ao2 : Option Addr) (cap2 : Nat) (id : Int) (hid : iok id) (w : World) (hA : RwV TC.cells 15 w ao xs) (hC : RwV CL23.cells 2 w ao2 cs) :
  Calls Try.prog 4 #[.slice ao n cap, .slice ao2 m cap2, .int .i64 id] w fun ee w' => ee = .returned (.bool true) ∧ Below w.heap.size w w' := by
 have q1 : decide ((80 : Int) < (n : Int)) = false := decide_eq_false (by omega)
 have q2 : decide (80 < n) = false := decide_eq_false (by omega)
 have q3 : decide ((80 : Int) < (m : Int)) = false := decide_eq_false (by omega)
 have q4 : decide (80 < m) = false := decide_eq_false (by omega)
 have KTW := Lib.hid atwo_c
 have hTI := TI.trs xs TI.nil (fun b hb => by obtain ⟨k, hk, rfl⟩ := List.getElem_of_mem hb; exact hin k hk)
 have hKT := tree23_c xs n hln hn hin ao cap w hA
 obtain ⟨⟨f, L⟩, hG⟩ : ∃ G, trs (fun _ => none) [] xs = G := ⟨_, rfl⟩
 rw [hG] at hTI hKT
 dsimp only at hTI hKT
 have KTR := Lib.hid hKT
 have HI := Lib.hid hTI
 have HID := Lib.hid hid
 have HIC := Lib.hid hic
 have HLM := Lib.hid hlm
 have HCS := Lib.hid hC
 have KAN : Hid (∀ z tb tm, HT z tb tm f → Calls Try.prog 9 #[.pointer (some ⟨tb, 0, none⟩)] z fun e z' => ∃ p mb cb F, e = .returned (.pointer (some ⟨p, 0, none⟩)) ∧ z.heap.size ≤ mb ∧ z.heap.size ≤ p ∧ AS z' z.heap.size p mb cb (mfA f) F (fun _ => none) ∧ Below z.heap.size z z') := Lib.hid (fun z tb tm h => anew2_c h HI.out)
 have ALL := Lib.hid ct23_alloc
 have INF := Lib.hid ct23_info
 have ONE := Lib.hid ct23_one
 clear hA hln hin hKT hTI hG hic hlm hC hid
 go_enter Try.func4, Try.ntmps4
 go_wp2_with (first
  | go_guarded
  | (go_at_call 9; (with_reducible refine (KAN.out _ tb tm HT1.out).mono ?_); rintro _ w2 ⟨p, mb, cb, F0, rfl, hpm, hpp, hAS, hbel⟩; have HPM := Lib.hid hpm; have HPP := Lib.hid hpp; have HAS2 := Lib.hid hAS; have HT2 := Lib.hid (HT1.out.below hbel); have HS2 := Lib.hid hbel.size; have HB2 : Hid (Below w.heap.size w w2) := Lib.hid (HB1.out.trans (hbel.mono HB1.out.size)); clear hpm hpp hAS hbel)
  | (go_at_call 8; (with_reducible refine KTR.out.mono ?_); rintro _ w1 ⟨tb, tm, n1, ro, rc, rfl, htb, htm, hT, -, -, -, hbel⟩; have HTB := Lib.hid htb; have HTM := Lib.hid htm; have HT1 := Lib.hid hT; have HB1 := Lib.hid hbel; clear htb htm hT hbel))
 try go_frame
 obtain ⟨B, hBe⟩ : ∃ B, w1.heap.size = B := ⟨_, rfl⟩
 have HWB : Hid (w.heap.size ≤ B) := Lib.hid (by rw [← hBe]; exact HB1.out.size)
 have HTBB : Hid (tb < B) := Lib.hid (by rw [← hBe]; exact HT1.out.lt)
 have HTMB : Hid (tm < B) := Lib.hid (by rw [← hBe]; exact HT1.out.mlt)
 have HBP : Hid (B ≤ p) := Lib.hid (by rw [← hBe]; exact HPP.out)
 have HBM : Hid (B ≤ mb) := Lib.hid (by rw [← hBe]; exact HPM.out)
 have HA0 : Hid (AS w2 B p mb cb (mfA f) F0 (fun _ => none)) := Lib.hid (by rw [← hBe]; exact HAS2.out)
 have HSB : Hid (B ≤ w2.heap.size) := Lib.hid (by rw [← hBe]; exact HS2.out)
 have HC2 := Lib.hid (HCS.out.below HB2.out)
 clear HAS2 HPP HPM HS2 hBe HT1 HB1
 go_loopg [37] m (fun k9 s37 wr => ∃ (k : Nat) (F : Int → Option Nat) (A : Int → Option (List Int)), s37 = .int .i64 k ∧ k ≤ m ∧ AS wr B p mb cb (mfA f) F A ∧ AJ (mfA f) A ∧ HT wr tb tm f ∧ Below w.heap.size w wr ∧ B ≤ wr.heap.size ∧ m - k ≤ k9)
 case atStart => exact ⟨0, F0, _, rfl, Nat.zero_le _, HA0.out, AJ.zero _, HT2.out, HB2.out, HSB.out, by omega⟩
 case round =>
  obtain ⟨k, F, A, rfl, hk, hAS, hJ, hT, hB, hsz, hk9⟩ := hrel
  have HAR := Lib.hid hAS
  have HJ := Lib.hid hJ
  have HTR := Lib.hid hT
  have HB := Lib.hid hB
  have HSZ := Lib.hid hsz
  by_cases hlt : k < m
  ·have HLT : Hid (k + 1 ≤ m) := Lib.hid hlt
   have hlC : k < cs.length := by rw [HLM.out]; exact hlt
   obtain ⟨b, o, rfl, hb, hra⟩ := (HCS.out.below hB) k hlC
   have hci := HIC.out k hlC
   obtain ⟨a, hae⟩ : ∃ a, cs[k] = a := ⟨_, rfl⟩
   rw [hae] at hra hci
   obtain ⟨kk, i⟩ := a
   have HR := Lib.hid (show wr.rangeAt b (o + k * 2) (#[.int .i64 kk, .int .i64 i] : Array Value).toList from hra)
   have hii : iok i := hci.2
   by_cases h0 : kk = 0
   ·subst h0
    have KOF := Lib.hid (fun z (hz : AS z B p mb cb (mfA f) F A) => aofJ HI.out hz hii)
    have HJ2 : Hid (AJ (mfA f) (ofS (mfA f) A i)) := Lib.hid (hJ.ofS (mfA_fin 16 i (HI.out.dep i)))
    clear hAS hJ hT hB hsz hra hci hae hlC hb hii
    go_wp2_with (first
     | go_guarded
     | (go_at_call 11; (with_reducible refine (KOF.out _ HA5.out).mono ?_); rintro _ w6 ⟨ao6, c6, F6, rfl, -, has, hom⟩; have HA6 := Lib.hid has; have HT6 := Lib.hid (HT5.out.om hom HTBB.out HTMB.out); have HB6 : Hid (Below w.heap.size w w6) := Lib.hid (Below.om HB5.out hom HWB.out); have HS6 : Hid (B ≤ w6.heap.size) := Lib.hid (Nat.le_trans HS5.out hom.size); clear has hom)
     | (refine wpList_var_new rfl rfl 33 #[.int .i64 0, .int .i64 0] ALL.out rfl _ _ rfl #[.int .i64 0, .int .i64 i] rfl rfl INF.out rfl (ONE.out _ _) ?_; intro w5 hs5 hb5 hv5; have v0 := hv5.cell 0 rfl; have v1 := hv5.cell 1 rfl; have lv5 := hv5.lt; have HA5 := Lib.hid (HAR.out.below hb5); have HT5 := Lib.hid (HTR.out.below hb5); have HB5 : Hid (Below w.heap.size w w5) := Lib.hid (HB.out.trans (hb5.mono HB.out.size)); have HS5 : Hid (B ≤ w5.heap.size) := Lib.hid (Nat.le_trans HSZ.out hb5.size); clear hb5 hv5)
     | (refine wpList_part_get rfl 33 _ rfl b (o + k * 2) #[.int .i64 0, .int .i64 i] _ HR.out rfl Try.underlying33 rfl INF.out ?_))
    go_roundg (m - (k + 1))
    case rel => exact ⟨k + 1, F6, _, (by go_num), HLT.out, HA6.out, HJ2.out, HT6.out, HB6.out, HS6.out, Nat.le_refl _⟩
    case measure => omega
   ·have q5 : (kk == 0) = false := by simpa using h0
    have KON := Lib.hid (fun z (hz : AS z B p mb cb (mfA f) F A) (hs : B ≤ z.heap.size) => aonJ HI.out hz hii hs)
    have HJ2 : Hid (AJ (mfA f) (onS (mfA f) A i)) := Lib.hid (hJ.onS i)
    clear hAS hJ hT hB hsz hra hci hae hlC hb hii h0
    go_wp2_with (first
     | go_guarded
     | (go_at_call 15; (with_reducible refine (KON.out _ HA5.out HS5.out).mono ?_); rintro _ w6 ⟨ao6, c6, F6, rfl, -, has, hom⟩; have HA6 := Lib.hid has; have HT6 := Lib.hid (HT5.out.om hom HTBB.out HTMB.out); have HB6 : Hid (Below w.heap.size w w6) := Lib.hid (Below.om HB5.out hom HWB.out); have HS6 : Hid (B ≤ w6.heap.size) := Lib.hid (Nat.le_trans HS5.out hom.size); clear has hom)
     | (refine wpList_var_new rfl rfl 33 #[.int .i64 0, .int .i64 0] ALL.out rfl _ _ rfl #[.int .i64 kk, .int .i64 i] rfl rfl INF.out rfl (ONE.out _ _) ?_; intro w5 hs5 hb5 hv5; have v0 := hv5.cell 0 rfl; have v1 := hv5.cell 1 rfl; have lv5 := hv5.lt; have HA5 := Lib.hid (HAR.out.below hb5); have HT5 := Lib.hid (HTR.out.below hb5); have HB5 : Hid (Below w.heap.size w w5) := Lib.hid (HB.out.trans (hb5.mono HB.out.size)); have HS5 : Hid (B ≤ w5.heap.size) := Lib.hid (Nat.le_trans HSZ.out hb5.size); clear hb5 hv5)
     | (refine wpList_part_get rfl 33 _ rfl b (o + k * 2) #[.int .i64 kk, .int .i64 i] _ HR.out rfl Try.underlying33 rfl INF.out ?_))
    go_roundg (m - (k + 1))
    case rel => exact ⟨k + 1, F6, _, (by go_num), HLT.out, HA6.out, HJ2.out, HT6.out, HB6.out, HS6.out, Nat.le_refl _⟩
    case measure => omega
  ·obtain rfl : k = m := by omega
   have KAL := Lib.hid (aalJ HI.out hAS hJ)
   obtain ⟨LL, hLL⟩ : ∃ q, L.filter (sel f Cls.leaf) = q := ⟨_, rfl⟩
   obtain ⟨nl, hnl⟩ : ∃ q, LL.length = q := ⟨_, rfl⟩
   have hnl64 : nl ≤ 64 := by rw [← hnl, ← hLL]; exact Nat.le_trans (List.length_filter_le _ _) HI.out.len
   have KLE : Hid (∀ z, HT z tb tm f → Calls Try.prog 20 #[.pointer (some ⟨tb, 0, none⟩)] z (AllH z LL nl)) := Lib.hid (fun z hz => by have := leaves23 HI.out hz; rw [hLL, hnl] at this; exact this)
   have HLI : Hid (∀ y ∈ LL, iok y) := Lib.hid (fun y hy => HI.out.iok y (by rw [← hLL] at hy; exact (List.mem_filter.1 hy).1))
   have HNL := Lib.hid hnl
   clear hAS hJ hT hB hsz hk9 hk hlt hLL hnl
   go_wp2_with (first
    | go_guarded
    | (go_at_call 20; (with_reducible refine (KLE.out _ HT3.out).mono ?_); rintro _ w4 ⟨al, cl4, rfl, hv, hbel⟩; have HVL := Lib.hid hv; have HV4 := Lib.hid (HV3.out.below hbel); have HT4 := Lib.hid (HT3.out.below hbel); have HA4 := Lib.hid (HA3.out.below hbel); have HB4 : Hid (Below w.heap.size w w4) := Lib.hid (HB3.out.trans (hbel.mono HB3.out.size)); have HS4 : Hid (B ≤ w4.heap.size) := Lib.hid (Nat.le_trans HS3.out hbel.size); clear hv hbel)
    | (go_at_call 19; (with_reducible refine KAL.out.mono ?_); rintro _ w3 ⟨M, n0, hsM, hmM, hnM, hn0, am, cm, rfl, hv, hbel⟩; have HSM := Lib.hid hsM; have HMM := Lib.hid hmM; have HNM := Lib.hid hnM; have HV3 := Lib.hid hv; have HT3 := Lib.hid (HTR.out.below hbel); have HA3 := Lib.hid (HAR.out.below hbel); have HB3 : Hid (Below w.heap.size w w3) := Lib.hid (HB.out.trans (hbel.mono HB.out.size)); have HS3 : Hid (B ≤ w3.heap.size) := Lib.hid (Nat.le_trans HSZ.out hbel.size); clear hsM hmM hnM hv hbel))
   try go_frame
   rename World => wx
   go_loopg [58] nl (fun k9 s58 wr => ∃ (k : Nat) (f2 : Int → Option Cls) (L2 : List Int), s58 = .int .i64 k ∧ k ≤ nl ∧ HT wr tb tm f2 ∧ TI f2 L2 ∧ AS wr B p mb cb (mfA f) F A ∧ IntsV wr am M ∧ IntsV wr al LL ∧ Below w.heap.size w wr ∧ B ≤ wr.heap.size ∧ nl - k ≤ k9)
   case atStart => exact ⟨0, f, L, rfl, Nat.zero_le _, HT4.out, HI.out, HA4.out, HV4.out, HVL.out, HB4.out, HS4.out, by omega⟩
   case round =>
    obtain ⟨k, f2, L2, rfl, hk, hT, hI2, hAS, hvm, hvl, hB, hsz, hk9⟩ := hrel
    have HTQ := Lib.hid hT
    have HIQ := Lib.hid hI2
    have HAQ := Lib.hid hAS
    have HVQ := Lib.hid hvm
    have HLQ := Lib.hid hvl
    have HBQ := Lib.hid hB
    have HSQ := Lib.hid hsz
    by_cases hlt : k < nl
    ·have HLT : Hid (k + 1 ≤ nl) := Lib.hid hlt
     have hlC : k < LL.length := by rw [HNL.out]; exact hlt
     obtain ⟨b, o, rfl, hb, hce⟩ := hvl k hlC
     have hxi := HLI.out _ (List.getElem_mem hlC)
     obtain ⟨x, hx⟩ : ∃ x, LL[k] = x := ⟨_, rfl⟩
     rw [hx] at hce hxi
     have KDL : Hid (∀ z, HT z tb tm f2 → Calls Try.prog 21 #[.pointer (some ⟨tb, 0, none⟩), .int .i64 x] z fun e w' => e = .returned (.int .i64 (delE f2 L2 x)) ∧ HT w' tb tm (delF f2 L2 x) ∧ Only (fun k => k = tm) z w') := Lib.hid (fun z hz => hdel_c hz HIQ.out hxi)
     have HI3 := Lib.hid (HIQ.out.delF x)
     clear hT hI2 hAS hvm hvl hB hsz hx hxi hlC
     go_wp2_with (first
      | go_guarded
      | (go_at_call 21; (with_reducible refine (KDL.out _ HTQ.out).mono ?_); rintro _ w6 ⟨rfl, hT6, ho6⟩; have HT6 := Lib.hid hT6; have HA6 := Lib.hid (HAQ.out.tree ho6 HTMB.out HBP.out HBM.out); have HV6 := Lib.hid (intsA_map HVQ.out HTQ.out.map ho6); have HL6 := Lib.hid (intsA_map HLQ.out HTQ.out.map ho6); have HB6 : Hid (Below w.heap.size w w6) := Lib.hid (HBQ.out.trans ⟨ho6.1, ho6.2, ho6.3, ho6.4, fun q hq => ho6.5 q (Nat.lt_of_lt_of_le hq HBQ.out.size) (by have := HTM.out; omega)⟩); have HS6 : Hid (B ≤ w6.heap.size) := Lib.hid (Nat.le_trans HSQ.out ho6.4); clear hT6 ho6))
     go_roundg (nl - (k + 1))
     case rel => exact ⟨k + 1, _, _, (by go_num), HLT.out, HT6.out, HI3.out, HA6.out, HV6.out, HL6.out, HB6.out, HS6.out, Nat.le_refl _⟩
     case measure => omega
    ·obtain rfl : k = nl := by omega
     clear hT hI2 hvl HTQ HIQ HLQ HVL hk hk9 hlt
     have hn0 := hn0
     by_cases he : onE (mfA f) A id = 0
     ·obtain ⟨no, hno⟩ : ∃ q, (onO (mfA f) A id).length = q := ⟨_, rfl⟩
      have hbk := back_eq HI.out HJ.out he
      have KON := Lib.hid (show Calls Try.prog 15 #[.pointer (some ⟨p, 0, none⟩), .int .i64 id] _ _ from aonJ HI.out hAS HID.out hsz)
      have KO2 : Hid (∀ z F2, AS z B p mb cb (mfA f) F2 (onS (mfA f) A id) → Calls Try.prog 11 #[.pointer (some ⟨p, 0, none⟩), .int .i64 id] z (OnH B p mb cb (mfA f) z 0 no (onO (mfA f) A id) A)) := Lib.hid (fun z F2 hz => by have := aofJ HI.out hz HID.out; rw [hbk.1, hbk.2.1, hbk.2.2, hno] at this; exact this)
      rw [he, hno] at KON
      have KA2 : Hid (∀ z F2, AS z B p mb cb (mfA f) F2 (onS (mfA f) A id) → Calls Try.prog 19 #[.pointer (some ⟨p, 0, none⟩)] z fun e z' => ∃ N n2, n2 = n0 + no ∧ n2 ≤ 64 ∧ AllH z N n2 e z') := Lib.hid (fun z F2 hz => (aalJ HI.out hz (HJ.out.onS id)).mono fun _ _ ⟨N, n2, h1, h2, h3, h4, h5⟩ => ⟨N, n2, by rw [← h3, back_len HI.out HJ.out he HSM.out h1 HMM.out h2, HNM.out, hno], h4, h5⟩)
      have KA3 : Hid (∀ z F2, AS z B p mb cb (mfA f) F2 A → Calls Try.prog 19 #[.pointer (some ⟨p, 0, none⟩)] z (AllH z M n0)) := Lib.hid (fun z F2 hz => aalM HI.out hz HJ.out HSM.out HMM.out HNM.out)
      have KI1 : Hid (∀ (z : World) a1 a2 c1 c2, IntsV z a1 (onO (mfA f) A id) → IntsV z a2 (onO (mfA f) A id) → no ≤ 64 → Calls Try.prog 13 #[.slice a1 no c1, .slice a2 no c2] z fun ee w' => ee = .returned (.bool true) ∧ Below z.heap.size z w') := Lib.hid (fun z a1 a2 c1 c2 h1 h2 h3 => by have := pints_c _ a1 a2 c1 c2 (by omega) z h1 h2; rw [hno] at this; exact this)
      have KI2 : Hid (∀ (z : World) a1 a2 c1 c2, IntsV z a1 M → IntsV z a2 M → Calls Try.prog 13 #[.slice a1 n0 c1, .slice a2 n0 c2] z fun ee w' => ee = .returned (.bool true) ∧ Below z.heap.size z w') := Lib.hid (fun z a1 a2 c1 c2 h1 h2 => by have := pints_c _ a1 a2 c1 c2 (by rw [HNM.out]; omega) z h1 h2; rw [HNM.out] at this; exact this)
      have hno64 : no ≤ 64 ∧ n0 + no ≤ 64 := by
       obtain ⟨N, hN1, hN2, hN3⟩ : ∃ N : List Int, N.Pairwise (· < ·) ∧ (∀ y, y ∈ N ↔ allS (onS (mfA f) A id) y) ∧ N.length ≤ 64 := by
        refine ⟨L.filter (fun y => @decide _ (Classical.propDecidable (allS (onS (mfA f) A id) y))), HI.out.srt.filter _, fun y => ?_, Nat.le_trans (List.length_filter_le _ _) HI.out.len⟩
        rw [List.mem_filter]
        simp only [decide_eq_true_eq]
        exact ⟨fun g => g.2, fun g => ⟨all_in HI.out (HJ.out.onS id) y g, g⟩⟩
       have := back_len HI.out HJ.out he HSM.out hN1 HMM.out hN2
       rw [HNM.out, hno] at this
       omega
      obtain ⟨hno1, hno2⟩ := hno64
      clear hAS hvm hB hsz hbk hno he
      go_wp2_with (first
       | go_guarded
       | (go_at_call 7; (with_reducible refine (KTW.out _).mono ?_); rintro _ x7 ⟨rfl, hbel⟩; have GB7 : Hid (Below w.heap.size w x7) := Lib.hid (GB6.out.trans (hbel.mono GB6.out.size)); clear hbel)
       | (go_at_call 13; (with_reducible refine (KI2.out _ _ _ _ _ GN5.out GM5.out).mono ?_); rintro _ x6 ⟨rfl, hbel⟩; have GB6 : Hid (Below w.heap.size w x6) := Lib.hid (GB5.out.trans (hbel.mono GB5.out.size)); clear hbel)
       | (go_at_call 19; (with_reducible refine (KA3.out _ _ GA4.out).mono ?_); rintro _ x5 ⟨az, cz, rfl, hv, hbel⟩; have GN5 := Lib.hid hv; have GM5 := Lib.hid (GM4.out.below hbel); have GB5 : Hid (Below w.heap.size w x5) := Lib.hid (GB4.out.trans (hbel.mono GB4.out.size)); clear hv hbel)
       | (go_at_call 13; (with_reducible refine (KI1.out _ _ _ _ _ GV3.out GW3.out hno1).mono ?_); rintro _ x4 ⟨rfl, hbel⟩; have GA4 := Lib.hid (GA3.out.below hbel); have GM4 := Lib.hid (GM3.out.below hbel); have GB4 : Hid (Below w.heap.size w x4) := Lib.hid (GB3.out.trans (hbel.mono GB3.out.size)); clear hbel)
       | (go_at_call 11; (with_reducible refine (KO2.out _ _ GA2.out).mono ?_); rintro _ x3 ⟨aw, cw, F3, rfl, hv, has, hom⟩; have GW3 := Lib.hid hv; have GA3 := Lib.hid has; have GV3 := Lib.hid (GV2.out.om hom); have GM3 := Lib.hid (GM2.out.om hom); have GB3 : Hid (Below w.heap.size w x3) := Lib.hid (Below.om GB2.out hom HWB.out); clear hv has hom)
       | (go_at_call 19; (with_reducible refine (KA2.out _ _ GA1.out).mono ?_); rintro _ x2 ⟨N2, n2, rfl, hn64, ay, cy, rfl, -, hbel⟩; have GV2 := Lib.hid (GV1.out.below hbel); have GA2 := Lib.hid (GA1.out.below hbel); have GM2 := Lib.hid (GM1.out.below hbel); have GB2 : Hid (Below w.heap.size w x2) := Lib.hid (GB1.out.trans (hbel.mono GB1.out.size)); clear hbel)
       | (go_at_call 15; (with_reducible refine KON.out.mono ?_); rintro _ x1 ⟨ax, cx, F1, rfl, hv, has, hom⟩; have GV1 := Lib.hid hv; have GA1 := Lib.hid has; have GM1 := Lib.hid (HVQ.out.om hom); have GB1 : Hid (Below w.heap.size w x1) := Lib.hid (Below.om HBQ.out hom HWB.out); clear hv has hom))
      go_ret
      exact ⟨rfl, GB7.out⟩
     ·obtain ⟨hO, hS⟩ := onO_not he
      have KON := Lib.hid (show Calls Try.prog 15 #[.pointer (some ⟨p, 0, none⟩), .int .i64 id] _ _ from aonJ HI.out hAS HID.out hsz)
      rw [hO, hS, List.length_nil] at KON
      obtain ⟨E, hE⟩ : ∃ E, onE (mfA f) A id = E := ⟨_, rfl⟩
      rw [hE] at KON he
      have qE : (E == 0) = false := by simpa using he
      have qE2 : (E != 0) = true := by simpa using he
      have qE3 : decide (E = 0) = false := by simpa using he
      have KA3 : Hid (∀ z F2, AS z B p mb cb (mfA f) F2 A → Calls Try.prog 19 #[.pointer (some ⟨p, 0, none⟩)] z (AllH z M n0)) := Lib.hid (fun z F2 hz => aalM HI.out hz HJ.out HSM.out HMM.out HNM.out)
      have KI2 : Hid (∀ (z : World) a1 a2 c1 c2, IntsV z a1 M → IntsV z a2 M → Calls Try.prog 13 #[.slice a1 n0 c1, .slice a2 n0 c2] z fun ee w' => ee = .returned (.bool true) ∧ Below z.heap.size z w') := Lib.hid (fun z a1 a2 c1 c2 h1 h2 => by have := pints_c _ a1 a2 c1 c2 (by rw [HNM.out]; omega) z h1 h2; rw [HNM.out] at this; exact this)
      clear hAS hvm hB hsz hO hS hE he
      go_wp2_with (first
       | go_guarded
       | (go_at_call 7; (with_reducible refine (KTW.out _).mono ?_); rintro _ x7 ⟨rfl, hbel⟩; have GB7 : Hid (Below w.heap.size w x7) := Lib.hid (GB3.out.trans (hbel.mono GB3.out.size)); clear hbel)
       | (go_at_call 13; (with_reducible refine (KI2.out _ _ _ _ _ GN2.out GM2.out).mono ?_); rintro _ x3 ⟨rfl, hbel⟩; have GB3 : Hid (Below w.heap.size w x3) := Lib.hid (GB2.out.trans (hbel.mono GB2.out.size)); clear hbel)
       | (go_at_call 19; (with_reducible refine (KA3.out _ _ GA1.out).mono ?_); rintro _ x2 ⟨ay, cy, rfl, hv, hbel⟩; have GN2 := Lib.hid hv; have GM2 := Lib.hid (GM1.out.below hbel); have GB2 : Hid (Below w.heap.size w x2) := Lib.hid (GB1.out.trans (hbel.mono GB1.out.size)); clear hv hbel)
       | (go_at_call 15; (with_reducible refine KON.out.mono ?_); rintro _ x1 ⟨ax, cx, F1, rfl, -, has, hom⟩; have GA1 := Lib.hid has; have GM1 := Lib.hid (HVQ.out.om hom); have GB1 : Hid (Below w.heap.size w x1) := Lib.hid (Below.om HBQ.out hom HWB.out); clear has hom))
      go_ret
      exact ⟨rfl, GB7.out⟩
theorem ablong_c (n m : Nat) (hn : 80 < n ∨ 80 < m) (ao ao2 : Option Addr) (cap cap2 : Nat) (id : Int) (w : World) : Calls Try.prog 4 #[.slice ao n cap, .slice ao2 m cap2, .int .i64 id] w fun ee w' => ee = .returned (.bool true) ∧ Below w.heap.size w w' := by
 have K := Lib.hid atwo_c
 by_cases h : 80 < n
 ·have q1 : decide ((80 : Int) < (n : Int)) = true := decide_eq_true (by omega)
  have q2 : decide (80 < n) = true := decide_eq_true h
  go_enter Try.func4, Try.ntmps4
  go_wp2_with (first | go_guarded | (go_at_call 7; (with_reducible refine (K.out _).mono ?_); rintro _ w1 ⟨rfl, hbel⟩; have HB1 := Lib.hid hbel; clear hbel))
  go_ret
  exact ⟨rfl, HB1.out⟩
 ·have hm := hn.resolve_left h
  have q1 : decide ((80 : Int) < (n : Int)) = false := decide_eq_false (by omega)
  have q2 : decide (80 < n) = false := decide_eq_false h
  have q3 : decide ((80 : Int) < (m : Int)) = true := decide_eq_true (by omega)
  have q4 : decide (80 < m) = true := decide_eq_true hm
  go_enter Try.func4, Try.ntmps4
  go_wp2_with (first | go_guarded | (go_at_call 7; (with_reducible refine (K.out _).mono ?_); rintro _ w1 ⟨rfl, hbel⟩; have HB1 := Lib.hid hbel; clear hbel))
  go_ret
  exact ⟨rfl, HB1.out⟩
theorem activeBack_law (v v2 : Value) (id : Int) {w : World} (hs : Op.FlatSlice w 15 [.int .i64, .int .i64, .int .i64, .bool, .int .u64, .int .u64, .int .u64, .int .u64, .int .u64, .int .u64, .int .u64, .int .u64, .int .u64, .int .i64, .int .i64] v) (hs2 : Op.FlatSlice w 2 [.int .i64, .int .i64] v2) (hid : iok id) : Calls Try.prog 4 #[v, v2, .int .i64 id] w fun ee w' => ee = .returned (.bool true) ∧ Below w.heap.size w w' := by
 obtain ⟨ao, xs, ac, rfl, h1, h2, h3, h4⟩ := chgs_of hs
 obtain ⟨ao2, cs, ac2, rfl, g3, g4⟩ := calls23_of hs2
 by_cases hn : 80 < xs.length ∨ 80 < cs.length
 ·exact ablong_c _ _ hn ao ao2 ac ac2 id w
 ·exact ablaw_c xs _ rfl (by omega) h4 ao ac cs _ rfl (by omega) g4 ao2 ac2 id hid w h3 g3
end Go.Proofs.Ytmmahgfijiocfaa
end
