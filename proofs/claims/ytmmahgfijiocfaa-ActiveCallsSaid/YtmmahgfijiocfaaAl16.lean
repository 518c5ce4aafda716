/- Joined texts. -/
import Derived.Test.YtmmahgfijiocfaaBs0
import Derived.Test.YtmmahgfijiocfaaBs1
import Derived.Test.YtmmahgfijiocfaaBs10
import Derived.Test.YtmmahgfijiocfaaBs11
import Derived.Test.YtmmahgfijiocfaaBs12
import Derived.Test.YtmmahgfijiocfaaBs13
import Derived.Test.YtmmahgfijiocfaaBs15
import Derived.Test.YtmmahgfijiocfaaBs16
import Derived.Test.YtmmahgfijiocfaaBs17
import Derived.Test.YtmmahgfijiocfaaBs18
import Derived.Test.YtmmahgfijiocfaaBs19
import Derived.Test.YtmmahgfijiocfaaBs2
import Derived.Test.YtmmahgfijiocfaaBs20
import Derived.Test.YtmmahgfijiocfaaBs23
import Derived.Test.YtmmahgfijiocfaaBs24
import Derived.Test.YtmmahgfijiocfaaBs3
import Derived.Test.YtmmahgfijiocfaaBs4
import Derived.Test.YtmmahgfijiocfaaBs5
import Derived.Test.YtmmahgfijiocfaaBs6
import Derived.Test.YtmmahgfijiocfaaBs7
import Derived.Test.YtmmahgfijiocfaaBs8
import Derived.Test.YtmmahgfijiocfaaBs9
import Derived.Test.YtmmahgfijiocfaaAl1
import Derived.Test.YtmmahgfijiocfaaAl2
import Derived.Test.YtmmahgfijiocfaaAl3
import Derived.Test.YtmmahgfijiocfaaAl4
import Derived.Test.YtmmahgfijiocfaaAl5
import Derived.Test.YtmmahgfijiocfaaAl6
import Derived.Test.YtmmahgfijiocfaaAl7
import Derived.Test.YtmmahgfijiocfaaAl8
import Derived.Test.YtmmahgfijiocfaaAl9
import Derived.Test.YtmmahgfijiocfaaAl10
import Derived.Test.YtmmahgfijiocfaaAl11
import Derived.Test.YtmmahgfijiocfaaAl12
import Derived.Test.YtmmahgfijiocfaaAl13
import Derived.Test.YtmmahgfijiocfaaAl14
import Derived.Test.YtmmahgfijiocfaaAl15
import Derived.Maps.Keyed
import Derived.Maps.Own
import Derived.Maps.OwnOps
import Derived.DeepKeys5
import Derived.StillTail
import Derived.Deep.Quiet
import Derived.Deep.QuietTactic
import Derived.Test.YtmmahgfijiocfaaChecked
import Derived.WalkKit
import Derived.BigQuiet
import Derived.OpenShut
import Derived.Deep.RegionHeld3
import Derived.Deep.RegionWith
import Derived.Deep.DeepCutAuto
import Derived.WalkSpells
import Derived.WalkSmall
import Derived.Lib.Hide
import Derived.RowKit
import Derived.IntWalk
import Derived.Maps.RangeRun
import Derived.Deep.MidRow
import Derived.Deep.WholeRow
import Derived.Laws.CopyRow
import Derived.Deep.OwnRows
import Derived.ArgAppend
import Derived.Sort.OwnSortedInts
import Derived.Shelf.SlIterI.Nil
import Derived.Shelf.SortM.Plain
import Derived.Shelf.SortM.SortNone
import Derived.Ground.GgzProg
import Derived.Ground.SlgmProg
import Derived.Laws.AppendOwn
import Derived.Laws.AppendOwnNone
import Derived.ProofKit
import Derived.Below
import Derived.Carry
import Derived.ReadAgain
import Derived.ChangeOld
import Derived.Deep.Slices
import Derived.Deep.Onto
import Derived.LoopN
import Derived.Shelf.SlMaps.Clone
import Derived.Ground.SlmcProg
import Derived.Shelf.SlIterI.Stops
import Derived.RangeFuncCalls
import Derived.RangeFuncLeaves
import Derived.RangeFuncBox
import Derived.Maps.AppendAt
import Derived.Shelf.Abstract
import Derived.OwnWalkIn
import Derived.TacticsInMore
import Derived.LoopNIn
import Derived.LoopIn
import Derived.Lib.SliceRun
import Derived.Lib.SlicesCompact
import Derived.Shelf.SlicesE.Compact
import Derived.Ground.SlgnProg
set_option linter.unusedVariables false
set_option linter.unusedSimpArgs false
set_option maxRecDepth 100000
set_option maxHeartbeats 16000000
section
namespace Go.Proofs.Ytmmahgfijiocfaa
open Go.RowKit Fg Reg Go.Maps Go.Sort Go.Shelf
attribute [local irreducible] Reg.wE VR
theorem RwV.om {B : Nat} {z v : World} {ao : Option Addr} {X : List Cls} (h : RwV crow 14 z ao X) (ho : OM B z v) : RwV crow 14 v ao X := fun k hk => by
 obtain ⟨b, o, e, h1, h2⟩ := h k hk
 refine ⟨b, o, e, Nat.lt_of_lt_of_le h1 ho.4, fun j w hw => ?_⟩
 have h3 := h2 j w hw
 rw [World.cell?_of_block (ho.5 b h1 (fun g => by
  obtain ⟨_, es, ck, hb⟩ := g
  simp [World.cell?, hb] at h3))]
 exact h3
theorem VR.om {B : Nat} {z v : World} {p : Nat} {ty : TypeId} {cs : Array Value} (h : VR z p ty cs) (ho : OM B z v) : VR v p ty cs := h.frame (ho.5 p h.lt (fun g => by
 obtain ⟨_, es, ck, hb⟩ := g
 unfold VR at h
 rw [h] at hb
 cases hb))
theorem RI.len {f : Int → Option Cls} {L : List Int} (I : TI f L) {A : Int → Option (List Int)} {on : List Int} (h : RI f A on) : on.length ≤ 64 :=
 Nat.le_trans (len_subA (ndA h.srt) (fun y hy => (I.mem y).1 (lf_some (h.lf y hy)).1)) I.len
theorem RI.iok {f : Int → Option Cls} {L : List Int} (I : TI f L) {A : Int → Option (List Int)} {on : List Int} (h : RI f A on) : ∀ y ∈ on, Go.Proofs.Ytmmahgfijiocfaa.iok y := fun y hy => I.iok y ((I.mem y).1 (lf_some (h.lf y hy)).1)
theorem wo23_x (L : List Int) (n : Nat) (hn : L.length = n) (hle : n ≤ 1000) (x : Int) (ao : Option Addr) (cap : Nat) (w : World) (hI : IntsV w ao L) : Calls Try.prog 12 #[.slice ao n cap, .int .i64 x] w (AllX w (rmA x L)) := (wo23_c L n hn hle x ao cap w hI).mono fun _ _ g => g
structure LS (z w : World) (B p mb cb : Nat) (f : Int → Option Cls) (L : List Int) (F : Int → Option Nat) (A : Int → Option (List Int)) (on : List Int) (ro a2 : Option Addr) : Prop where
 sta : AS z B p mb cb (mfA f) F A
 rows : RwV crow 14 z ro (rowsX f L)
 ons : IntsV z a2 on
 bel : Below w.heap.size w z
 sz : B ≤ z.heap.size
theorem LS.below {z v w : World} {B p mb cb : Nat} {f : Int → Option Cls} {L : List Int} {F : Int → Option Nat} {A : Int → Option (List Int)} {on : List Int} {ro a2 : Option Addr} (h : LS z w B p mb cb f L F A on ro a2) (hb : Below z.heap.size z v) : LS v w B p mb cb f L F A on ro a2 :=
 ⟨h.sta.below hb, h.rows.below hb, h.ons.below hb, h.bel.trans (hb.mono h.bel.size), Nat.le_trans h.sz hb.size⟩
theorem LS.om {z v w : World} {B p mb cb : Nat} {f : Int → Option Cls} {L : List Int} {F F2 : Int → Option Nat} {A A2 : Int → Option (List Int)} {on : List Int} {ro a2 : Option Addr} (h : LS z w B p mb cb f L F A on ro a2) (hB : w.heap.size ≤ B) (ha : AS v B p mb cb (mfA f) F2 A2) (ho : OM B z v) : LS v w B p mb cb f L F2 A2 on ro a2 :=
 ⟨ha, h.rows.om ho, h.ons.om ho, Below.om h.bel ho hB, Nat.le_trans h.sz ho.size⟩
theorem LS.turn {z w : World} {B p mb cb : Nat} {f : Int → Option Cls} {L : List Int} {F : Int → Option Nat} {A : Int → Option (List Int)} {on on2 : List Int} {ro a2 a3 : Option Addr} (h : LS z w B p mb cb f L F A on ro a2) (h2 : IntsV z a3 on2) : LS z w B p mb cb f L F A on2 ro a3 := ⟨h.sta, h.rows, h2, h.bel, h.sz⟩
theorem aclaw_c (xs : List TC) (n : Nat) (hln : xs.length = n) (hn : n ≤ 80) (hin : ∀ k (h : k < xs.length), CIn xs[k].c) (ao : Option Addr) (cap : Nat) (cs : List CL23) (m : Nat) (hlm : cs.length = m) (hm : m ≤ 80) (hic : ∀ k (h : k < cs.length), iok cs[k].k ∧ iok cs[k].id) (aoc : Option Addr) (cap2 : Nat) (w : World) (hA : RwV TC.cells 15 w ao xs) (hC : RwV CL23.cells 2 w aoc cs) :
  Calls Try.prog 3 #[.slice ao n cap, .slice aoc m cap2] w fun ee w' => ee = .returned (.bool true) ∧ Below w.heap.size w w' := by
 have q1 : decide ((80 : Int) < (n : Int)) = false := decide_eq_false (by omega)
 have q2 : decide (80 < n) = false := decide_eq_false (by omega)
 have q3 : decide ((80 : Int) < (m : Int)) = false := decide_eq_false (by omega)
 have q4 : decide (80 < m) = false := decide_eq_false (by omega)
 have KTW := Lib.hid atwo_c
 have hTI := TI.trs xs TI.nil (fun b hb => by obtain ⟨k, hk, rfl⟩ := List.getElem_of_mem hb; exact hin k hk)
 have hKT := tree23_c xs n hln hn hin ao cap w hA
 obtain ⟨⟨f, L⟩, hG⟩ : ∃ G, trs (fun _ => none) [] xs = G := ⟨_, rfl⟩
 rw [hG] at hTI hKT
 dsimp only at hTI hKT
 have KTR := Lib.hid hKT
 have HI := Lib.hid hTI
 have HIC := Lib.hid hic
 have HLM := Lib.hid hlm
 have HCS := Lib.hid hC
 have KAN : Hid (∀ z tb tm, HT z tb tm f → Calls Try.prog 9 #[.pointer (some ⟨tb, 0, none⟩)] z fun e z' => ∃ p mb cb F, e = .returned (.pointer (some ⟨p, 0, none⟩)) ∧ AS z' z.heap.size p mb cb (mfA f) F (fun _ => none) ∧ Below z.heap.size z z') := Lib.hid (fun z tb tm h => anew_c h HI.out)
 have ALL := Lib.hid ct23_alloc
 have INF := Lib.hid ct23_info
 have ONE := Lib.hid ct23_one
 clear hA hln hin hKT hTI hG hic hlm hC
 go_enter Try.func3, Try.ntmps3
 go_wp2_with (first
  | go_guarded
  | (go_at_call 9; (with_reducible refine (KAN.out _ tb tm HT1.out).mono ?_); rintro _ w2 ⟨p, mb, cb, F0, rfl, hAS, hbel⟩; have HAS2 := Lib.hid hAS; have HS2 := Lib.hid hbel.size; have HRW2 := Lib.hid (HRW1.out.below hbel); have HB2 : Hid (Below w.heap.size w w2) := Lib.hid (HB1.out.trans (hbel.mono HB1.out.size)); clear hAS hbel)
  | (go_at_call 8; (with_reducible refine KTR.out.mono ?_); rintro _ w1 ⟨tb, tm, n1, ro, rc, rfl, -, -, hT, -, hn1, hrw, hbel⟩; have HT1 := Lib.hid hT; have HN1 := Lib.hid hn1; have HRW1 := Lib.hid hrw; have HB1 := Lib.hid hbel; clear hT hn1 hrw hbel))
 try go_frame
 obtain ⟨B, hBe⟩ : ∃ B, w1.heap.size = B := ⟨_, rfl⟩
 have HWB : Hid (w.heap.size ≤ B) := Lib.hid (by rw [← hBe]; exact HB1.out.size)
 have HL0 : Hid (LS w2 w B p mb cb f L F0 (fun _ => none) [] ro none) := Lib.hid ⟨by rw [← hBe]; exact HAS2.out, HRW2.out, fun k hk => absurd hk (Nat.not_lt_zero _), HB2.out, by rw [← hBe]; exact HS2.out⟩
 clear HAS2 HS2 hBe HT1 HB1 HRW1 HRW2
 go_loopg [8, 36] m (fun k9 s8 s36 wr => ∃ (k : Nat) (F : Int → Option Nat) (A : Int → Option (List Int)) (on : List Int) (mo : Nat) (a2 : Option Addr) (c2 : Nat), s8 = .slice a2 mo c2 ∧ s36 = .int .i64 k ∧ k ≤ m ∧ on.length = mo ∧ LS wr w B p mb cb f L F A on ro a2 ∧ RI f A on ∧ m - k ≤ k9)
 case atStart => exact ⟨0, F0, _, [], 0, none, 0, rfl, rfl, Nat.zero_le _, rfl, HL0.out, RI.zero f, by omega⟩
 case round =>
  obtain ⟨k, F, A, on, mo, a2, c2, rfl, rfl, hk, hmo, hS, hRI, hk9⟩ := hrel
  have HS := Lib.hid hS
  have HRI := Lib.hid hRI
  have hmo64 : mo ≤ 64 := by rw [← hmo]; exact hRI.len HI.out
  by_cases hlt : k < m
  ·have HLT : Hid (k + 1 ≤ m) := Lib.hid hlt
   have hlC : k < cs.length := by rw [HLM.out]; exact hlt
   obtain ⟨b, o, rfl, hb, hra⟩ := (HCS.out.below hS.bel) k hlC
   have hci := HIC.out k hlC
   obtain ⟨a, hae⟩ : ∃ a, cs[k] = a := ⟨_, rfl⟩
   rw [hae] at hra hci
   obtain ⟨kk, i⟩ := a
   have HR := Lib.hid (show wr.rangeAt b (o + k * 2) (#[.int .i64 kk, .int .i64 i] : Array Value).toList from hra)
   have hii : iok i := hci.2
   have KH : Hid (∀ z a c, IntsV z a on → Calls Try.prog 10 #[.slice a mo c, .int .i64 i] z fun e z' => e = .returned (.bool (has on i)) ∧ z = z') := Lib.hid (fun z a c h => by have := has23_c on a c i (by omega) z h; rw [hmo] at this; exact this)
   obtain ⟨r, hr⟩ : ∃ r, has on i = r := ⟨_, rfl⟩
   rw [hr] at KH
   have KIN : Hid (∀ M : List Int, ∀ u, M.length = u → u ≤ 1000 → ∀ a1 a2 d1 d2 z, IntsV z a1 M → IntsV z a2 M → Calls Try.prog 13 #[.slice a1 u d1, .slice a2 u d2] z fun ee w' => ee = .returned (.bool true) ∧ Below z.heap.size z w') := Lib.hid (fun M u h1 h2 a1 a2 d1 d2 z h3 h4 => intsM M u h1 h2 a1 a2 d1 d2 z h3 h4)
   have hul : (upl f 16 i).length ≤ 16 := upl_len f 16 i
   by_cases h0 : kk = 0
   ·subst h0
    cases r with
    | false =>
     have hno := hRI.off_no HI.out hr
     have KOF := Lib.hid (fun z (hz : AS z B p mb cb (mfA f) F A) => (by have := aofJ HI.out hz hii; rw [hno.1, hno.2.1, hno.2.2, List.length_nil] at this; exact this : Calls Try.prog 11 #[.pointer (some ⟨p, 0, none⟩), .int .i64 i] z (OnH B p mb cb (mfA f) z 6 0 [] A)))
     have HMO := Lib.hid hmo
     clear hS hRI hra hci hae hlC hb hii hr hno hmo hul
     go_wp2_with (first
      | go_guarded
      | (go_at_call 11; (with_reducible refine (KOF.out _ HS5.out.sta).mono ?_); rintro _ w6 ⟨ao6, c6, F6, rfl, -, has, hom⟩; have HS6 := Lib.hid (HS5.out.om HWB.out has hom); clear has hom)
      | (go_at_call 10; (with_reducible refine (KH.out _ _ _ HS5.out.ons).mono ?_); rintro _ w5b ⟨rfl, rfl⟩)
      | (refine wpList_var_new rfl rfl 33 #[.int .i64 0, .int .i64 0] ALL.out rfl _ _ rfl #[.int .i64 0, .int .i64 i] rfl rfl INF.out rfl (ONE.out _ _) ?_; intro w5 hs5 hb5 hv5; have v0 := hv5.cell 0 rfl; have v1 := hv5.cell 1 rfl; have lv5 := hv5.lt; have HV5 := Lib.hid hv5; have HS5 := Lib.hid (HS.out.below hb5); clear hb5 hv5)
      | (refine wpList_part_get rfl 33 _ rfl b (o + k * 2) #[.int .i64 0, .int .i64 i] _ HR.out rfl Try.underlying33 rfl INF.out ?_))
     go_roundg (m - (k + 1))
     case rel => exact ⟨k + 1, F6, A, on, mo, a2, c2, rfl, (by go_num), HLT.out, HMO.out, HS6.out, HRI.out, Nat.le_refl _⟩
     case measure => omega
    | true =>
     have hye := hRI.off_yes HI.out hr
     obtain ⟨O, hO⟩ : ∃ q, ofO (mfA f) A i = q := ⟨_, rfl⟩
     obtain ⟨u, hu⟩ : ∃ q, O.length = q := ⟨_, rfl⟩
     obtain ⟨A3, hA3⟩ : ∃ q, ofS (mfA f) A i = q := ⟨_, rfl⟩
     obtain ⟨on3, hon3⟩ : ∃ q, rmA i on = q := ⟨_, rfl⟩
     obtain ⟨m3, hm3⟩ : ∃ q, on3.length = q := ⟨_, rfl⟩
     have KOF := Lib.hid (fun z (hz : AS z B p mb cb (mfA f) F A) => (by have := aofJ HI.out hz hii; rw [hye.1, hO, hA3, hu] at this; exact this : Calls Try.prog 11 #[.pointer (some ⟨p, 0, none⟩), .int .i64 i] z (OnH B p mb cb (mfA f) z 0 u O A3)))
     rw [hO, hA3, hon3] at hye
     have KWO : Hid (∀ z a c, IntsV z a on → Calls Try.prog 12 #[.slice a mo c, .int .i64 i] z (AllH z on3 m3)) := Lib.hid (fun z a c h => (wo23_x on mo hmo (by omega) i a c z h).mono fun _ _ g => by rw [hon3] at g; exact allx_h hm3 g)
     have hRI3 := hye.2.2
     have hu16 : u ≤ 16 := by rw [← hu, hye.2.1]; exact Nat.le_trans (List.length_filter_le _ _) hul
     have hm364 : m3 ≤ 64 := by rw [← hm3]; exact hRI3.len HI.out
     have KTU : Hid (∀ z a c a3 c3, RwV crow 14 z ro (rowsX f L) → IntsV z a on → IntsV z a3 on3 → Calls Try.prog 14 #[.slice ro n1 rc, .slice a mo c, .slice a3 m3 c3, .int .i64 i] z (AllH z O u)) := Lib.hid (fun z a c a3 c3 h1 h2 h3 => (rtu_c HI.out n1 HN1.out on on3 mo m3 hmo hm3 (by omega) (by omega) (hRI.iok HI.out) (hRI3.iok HI.out) i hii ro a a3 rc c c3 z h1 h2 h3).mono fun _ _ g => by rw [← hye.2.1] at g; exact allx_h hu g)
     have KIO := Lib.hid (fun a1 a2 d1 d2 z h1 h2 => KIN.out O u hu (by omega) a1 a2 d1 d2 z h1 h2)
     have HM3 := Lib.hid hm3
     have HRI3 := Lib.hid hRI3
     have KSM : Hid (∀ z F2 a c, LS z w B p mb cb f L F2 A3 on3 ro a → Calls Try.prog 18 #[.pointer (some ⟨p, 0, none⟩), .slice ro n1 rc, .slice a m3 c] z fun ee w' => ee = .returned (.bool true) ∧ Below z.heap.size z w') := Lib.hid (fun z F2 a c hz => lsm23_c HI.out n1 HN1.out hz.sta hRI3 m3 hm3 (by omega) (hRI3.iok HI.out) ro a rc c hz.rows hz.ons)
     clear hS hRI hra hci hae hlC hb hii hr hye hmo hul hO hu hA3 hon3 hm3 hRI3
     go_wp2_with (first
      | go_guarded
      | (go_at_call 18; (with_reducible refine (KSM.out _ _ _ _ HX9.out).mono ?_); rintro _ x10 ⟨rfl, hbel⟩; have HS10 := Lib.hid (HX9.out.below hbel); clear hbel)
      | (go_at_call 13; (with_reducible refine (KIO.out _ _ _ _ _ HO8.out HT8.out).mono ?_); rintro _ x9 ⟨rfl, hbel⟩; have HX9 := Lib.hid ((HQ8.out.turn HN8.out).below hbel); clear hbel)
      | (go_at_call 14; (with_reducible refine (KTU.out _ _ _ _ _ HQ7.out.rows HQ7.out.ons HN7.out).mono ?_); rintro _ w8 ⟨a8, c8, rfl, hv8, hbel⟩; have HT8 := Lib.hid hv8; have HQ8 := Lib.hid (HQ7.out.below hbel); have HN8 := Lib.hid (HN7.out.below hbel); have HO8 := Lib.hid (HO7.out.below hbel); clear hv8 hbel)
      | (go_at_call 12; (with_reducible refine (KWO.out _ _ _ HS6.out.ons).mono ?_); rintro _ w7 ⟨a7, c7, rfl, hv7, hbel⟩; have HN7 := Lib.hid hv7; have HQ7 := Lib.hid (HS6.out.below hbel); have HO7 := Lib.hid (HO6.out.below hbel); have hv9 := HV6.out.bel hbel; have y9 := hv9.cell 1 rfl; have yl9 := hv9.lt; clear hv7 hbel hv9)
      | (go_at_call 11; (with_reducible refine (KOF.out _ HS5.out.sta).mono ?_); rintro _ w6 ⟨ao6, c6, F6, rfl, hv, has, hom⟩; have HS6 := Lib.hid (HS5.out.om HWB.out has hom); have hv6 := HV5.out.om hom; have z0 := hv6.cell 0 rfl; have z1 := hv6.cell 1 rfl; have zl := hv6.lt; have HV6 := Lib.hid hv6; have HO6 := Lib.hid hv; clear hv has hom hv6)
      | (go_at_call 10; (with_reducible refine (KH.out _ _ _ HS5.out.ons).mono ?_); rintro _ w5b ⟨rfl, rfl⟩)
      | (refine wpList_var_new rfl rfl 33 #[.int .i64 0, .int .i64 0] ALL.out rfl _ _ rfl #[.int .i64 0, .int .i64 i] rfl rfl INF.out rfl (ONE.out _ _) ?_; intro w5 hs5 hb5 hv5; have v0 := hv5.cell 0 rfl; have v1 := hv5.cell 1 rfl; have lv5 := hv5.lt; have HV5 := Lib.hid hv5; have HS5 := Lib.hid (HS.out.below hb5); clear hb5 hv5)
      | (refine wpList_part_get rfl 33 _ rfl b (o + k * 2) #[.int .i64 0, .int .i64 i] _ HR.out rfl Try.underlying33 rfl INF.out ?_))
     go_roundg (m - (k + 1))
     case rel => exact ⟨k + 1, F6, A3, on3, m3, a7, c7, rfl, (by go_num), HLT.out, HM3.out, HS10.out, HRI3.out, Nat.le_refl _⟩
     case measure => omega
   ·have q5 : (kk == 0) = false := by simpa using h0
    have KLF := Lib.hid (fun z (hz : RwV crow 14 z ro (rowsX f L)) => rlf_c HI.out n1 HN1.out i ro rc z hz)
    obtain ⟨lf, hlf⟩ : ∃ q, lfM (mfA f) i = q := ⟨_, rfl⟩
    rw [hlf] at KLF
    by_cases hgo : lf = true ∧ r = false
    ·obtain ⟨rfl, rfl⟩ := hgo
     have hye := hRI.on_yes HI.out hlf hr
     have hnm : i ∉ on := fun g => by rw [hasM.2 g] at hr; cases hr
     obtain ⟨O, hO⟩ : ∃ q, onO (mfA f) A i = q := ⟨_, rfl⟩
     obtain ⟨u, hu⟩ : ∃ q, O.length = q := ⟨_, rfl⟩
     obtain ⟨A3, hA3⟩ : ∃ q, onS (mfA f) A i = q := ⟨_, rfl⟩
     obtain ⟨on3, hon3⟩ : ∃ q, insA i on = q := ⟨_, rfl⟩
     obtain ⟨m3, hm3⟩ : ∃ q, on3.length = q := ⟨_, rfl⟩
     have KON := Lib.hid (fun z (hz : AS z B p mb cb (mfA f) F A) (hs : B ≤ z.heap.size) => (by have := aonJ HI.out hz hii hs; rw [hye.1, hO, hA3, hu] at this; exact this : Calls Try.prog 15 #[.pointer (some ⟨p, 0, none⟩), .int .i64 i] z (OnH B p mb cb (mfA f) z 0 u O A3)))
     rw [hO, hA3, hon3] at hye
     have KWI : Hid (∀ z a c, IntsV z a on → Calls Try.prog 17 #[.slice a mo c, .int .i64 i] z (AllH z on3 m3)) := Lib.hid (fun z a c h => (rwi_c on mo hmo (by omega) hRI.srt i hnm a c z h).mono fun _ _ g => by rw [hon3] at g; exact allx_h hm3 g)
     have hRI3 := hye.2.2
     have hu16 : u ≤ 16 := by rw [← hu, hye.2.1]; exact Nat.le_trans (List.length_filter_le _ _) hul
     have hm364 : m3 ≤ 64 := by rw [← hm3]; exact hRI3.len HI.out
     have KTU : Hid (∀ z a c a3 c3, RwV crow 14 z ro (rowsX f L) → IntsV z a3 on3 → IntsV z a on → Calls Try.prog 14 #[.slice ro n1 rc, .slice a3 m3 c3, .slice a mo c, .int .i64 i] z (AllH z O u)) := Lib.hid (fun z a c a3 c3 h1 h2 h3 => (rtu_c HI.out n1 HN1.out on3 on m3 mo hm3 hmo (by omega) (by omega) (hRI3.iok HI.out) (hRI.iok HI.out) i hii ro a3 a rc c3 c z h1 h2 h3).mono fun _ _ g => by rw [← hye.2.1] at g; exact allx_h hu g)
     have KIO := Lib.hid (fun a1 a2 d1 d2 z h1 h2 => KIN.out O u hu (by omega) a1 a2 d1 d2 z h1 h2)
     have HM3 := Lib.hid hm3
     have HRI3 := Lib.hid hRI3
     have KSM : Hid (∀ z F2 a c, LS z w B p mb cb f L F2 A3 on3 ro a → Calls Try.prog 18 #[.pointer (some ⟨p, 0, none⟩), .slice ro n1 rc, .slice a m3 c] z fun ee w' => ee = .returned (.bool true) ∧ Below z.heap.size z w') := Lib.hid (fun z F2 a c hz => lsm23_c HI.out n1 HN1.out hz.sta hRI3 m3 hm3 (by omega) (hRI3.iok HI.out) ro a rc c hz.rows hz.ons)
     clear hS hRI hra hci hae hlC hb hii hr hye hmo hul hO hu hA3 hon3 hm3 hRI3 h0 hlf hnm
     go_wp2_with (first
      | go_guarded
      | (go_at_call 18; (with_reducible refine (KSM.out _ _ _ _ HX9.out).mono ?_); rintro _ x10 ⟨rfl, hbel⟩; have HS10 := Lib.hid (HX9.out.below hbel); clear hbel)
      | (go_at_call 13; (with_reducible refine (KIO.out _ _ _ _ _ HO8.out HT8.out).mono ?_); rintro _ x9 ⟨rfl, hbel⟩; have HX9 := Lib.hid ((HQ8.out.turn HN8.out).below hbel); clear hbel)
      | (go_at_call 14; (with_reducible refine (KTU.out _ _ _ _ _ HQ7.out.rows HN7.out HQ7.out.ons).mono ?_); rintro _ w8 ⟨a8, c8, rfl, hv8, hbel⟩; have HT8 := Lib.hid hv8; have HQ8 := Lib.hid (HQ7.out.below hbel); have HN8 := Lib.hid (HN7.out.below hbel); have HO8 := Lib.hid (HO7.out.below hbel); clear hv8 hbel)
      | (go_at_call 17; (with_reducible refine (KWI.out _ _ _ HS9.out.ons).mono ?_); rintro _ w7 ⟨a7, c7, rfl, hv7, hbel⟩; have HN7 := Lib.hid hv7; have HQ7 := Lib.hid (HS9.out.below hbel); have HO7 := Lib.hid (HO9.out.below hbel); have hv9 := HV9.out.bel hbel; have y9 := hv9.cell 1 rfl; have yl9 := hv9.lt; clear hv7 hbel hv9)
      | (go_at_call 16; (with_reducible refine (KLF.out _ HS6.out.rows).mono ?_); rintro _ w9 ⟨rfl, hbel⟩; have HS9 := Lib.hid (HS6.out.below hbel); have hv9 := HV6.out.bel hbel; have y9 := hv9.cell 1 rfl; have yl9 := hv9.lt; have HV9 := Lib.hid hv9; have HO9 := Lib.hid (HO6.out.below hbel); clear hv9; clear hbel)
      | (go_at_call 15; (with_reducible refine (KON.out _ HS5.out.sta HS5.out.sz).mono ?_); rintro _ w6 ⟨ao6, c6, F6, rfl, hv, has, hom⟩; have HS6 := Lib.hid (HS5.out.om HWB.out has hom); have hv6 := HV5.out.om hom; have z0 := hv6.cell 0 rfl; have z1 := hv6.cell 1 rfl; have zl := hv6.lt; have HV6 := Lib.hid hv6; have HO6 := Lib.hid hv; clear hv has hom hv6)
      | (go_at_call 10; (with_reducible refine (KH.out _ _ _ HS5.out.ons).mono ?_); rintro _ w5b ⟨rfl, rfl⟩)
      | (refine wpList_var_new rfl rfl 33 #[.int .i64 0, .int .i64 0] ALL.out rfl _ _ rfl #[.int .i64 kk, .int .i64 i] rfl rfl INF.out rfl (ONE.out _ _) ?_; intro w5 hs5 hb5 hv5; have v0 := hv5.cell 0 rfl; have v1 := hv5.cell 1 rfl; have lv5 := hv5.lt; have HV5 := Lib.hid hv5; have HS5 := Lib.hid (HS.out.below hb5); clear hb5 hv5)
      | (refine wpList_part_get rfl 33 _ rfl b (o + k * 2) #[.int .i64 kk, .int .i64 i] _ HR.out rfl Try.underlying33 rfl INF.out ?_))
     go_roundg (m - (k + 1))
     case rel => exact ⟨k + 1, F6, A3, on3, m3, a7, c7, rfl, (by go_num), HLT.out, HM3.out, HS10.out, HRI3.out, Nat.le_refl _⟩
     case measure => omega
    ·have hno := hRI.on_no HI.out (id := i) (by
      cases lf with
      | false => exact .inl hlf
      | true => cases r with
       | true => exact .inr hr
       | false => exact absurd ⟨rfl, rfl⟩ hgo)
     have hor : lf = false ∨ r = true := by cases lf <;> cases r <;> simp at hgo ⊢
     rw [hr] at hno
     have hrl : r = true → lf = true := fun g => by rw [← hlf]; exact onlf hRI (by rw [hr]; exact g)
     obtain ⟨E, hE⟩ : ∃ E, onE (mfA f) A i = E := ⟨_, rfl⟩
     rw [hE] at hno
     have hno1 := hno.1
     have KON := Lib.hid (fun z (hz : AS z B p mb cb (mfA f) F A) (hs : B ≤ z.heap.size) => (by have := aonJ HI.out hz hii hs; rw [hE, hno.2.1, hno.2.2, List.length_nil] at this; exact this : Calls Try.prog 15 #[.pointer (some ⟨p, 0, none⟩), .int .i64 i] z (OnH B p mb cb (mfA f) z E 0 [] A)))
     have HMO := Lib.hid hmo
     clear hS hRI hra hci hae hlC hb hii hr hno hmo hul h0 hlf hE hgo
     cases r with
     | true =>
      obtain rfl := hrl rfl
      have hE8 : E = 8 := hno1
      subst hE8
      clear hno1 hrl hor
      go_wp2_with (first
       | go_guarded
       | (go_at_call 16; (with_reducible refine (KLF.out _ HS6.out.rows).mono ?_); rintro _ w9 ⟨rfl, hbel⟩; have HS9 := Lib.hid (HS6.out.below hbel); clear hbel)
       | (go_at_call 15; (with_reducible refine (KON.out _ HS5.out.sta HS5.out.sz).mono ?_); rintro _ w6 ⟨ao6, c6, F6, rfl, -, has, hom⟩; have HS6 := Lib.hid (HS5.out.om HWB.out has hom); have hv6 := HV5.out.om hom; have z0 := hv6.cell 0 rfl; have z1 := hv6.cell 1 rfl; have zl := hv6.lt; clear has hom hv6)
       | (go_at_call 10; (with_reducible refine (KH.out _ _ _ HS5.out.ons).mono ?_); rintro _ w5b ⟨rfl, rfl⟩)
       | (refine wpList_var_new rfl rfl 33 #[.int .i64 0, .int .i64 0] ALL.out rfl _ _ rfl #[.int .i64 kk, .int .i64 i] rfl rfl INF.out rfl (ONE.out _ _) ?_; intro w5 hs5 hb5 hv5; have v0 := hv5.cell 0 rfl; have v1 := hv5.cell 1 rfl; have lv5 := hv5.lt; have HV5 := Lib.hid hv5; have HS5 := Lib.hid (HS.out.below hb5); clear hb5 hv5)
       | (refine wpList_part_get rfl 33 _ rfl b (o + k * 2) #[.int .i64 kk, .int .i64 i] _ HR.out rfl Try.underlying33 rfl INF.out ?_))
      go_roundg (m - (k + 1))
      case rel => exact ⟨k + 1, F6, A, on, mo, a2, c2, rfl, (by go_num), HLT.out, HMO.out, HS9.out, HRI.out, Nat.le_refl _⟩
      case measure => omega
     | false =>
      obtain rfl := hor.resolve_right (by simp)
      have hE6 : E = 6 := hno1
      subst hE6
      clear hno1 hrl hor
      go_wp2_with (first
       | go_guarded
       | (go_at_call 16; (with_reducible refine (KLF.out _ HS6.out.rows).mono ?_); rintro _ w9 ⟨rfl, hbel⟩; have HS9 := Lib.hid (HS6.out.below hbel); clear hbel)
       | (go_at_call 15; (with_reducible refine (KON.out _ HS5.out.sta HS5.out.sz).mono ?_); rintro _ w6 ⟨ao6, c6, F6, rfl, -, has, hom⟩; have HS6 := Lib.hid (HS5.out.om HWB.out has hom); have hv6 := HV5.out.om hom; have z0 := hv6.cell 0 rfl; have z1 := hv6.cell 1 rfl; have zl := hv6.lt; clear has hom hv6)
       | (go_at_call 10; (with_reducible refine (KH.out _ _ _ HS5.out.ons).mono ?_); rintro _ w5b ⟨rfl, rfl⟩)
       | (refine wpList_var_new rfl rfl 33 #[.int .i64 0, .int .i64 0] ALL.out rfl _ _ rfl #[.int .i64 kk, .int .i64 i] rfl rfl INF.out rfl (ONE.out _ _) ?_; intro w5 hs5 hb5 hv5; have v0 := hv5.cell 0 rfl; have v1 := hv5.cell 1 rfl; have lv5 := hv5.lt; have HV5 := Lib.hid hv5; have HS5 := Lib.hid (HS.out.below hb5); clear hb5 hv5)
       | (refine wpList_part_get rfl 33 _ rfl b (o + k * 2) #[.int .i64 kk, .int .i64 i] _ HR.out rfl Try.underlying33 rfl INF.out ?_))
      go_roundg (m - (k + 1))
      case rel => exact ⟨k + 1, F6, A, on, mo, a2, c2, rfl, (by go_num), HLT.out, HMO.out, HS9.out, HRI.out, Nat.le_refl _⟩
      case measure => omega
  ·obtain rfl : k = m := by omega
   have KSM : Hid (∀ z, LS z w B p mb cb f L F A on ro a2 → Calls Try.prog 18 #[.pointer (some ⟨p, 0, none⟩), .slice ro n1 rc, .slice a2 mo c2] z fun ee w' => ee = .returned (.bool true) ∧ Below z.heap.size z w') := Lib.hid (fun z hz => lsm23_c HI.out n1 HN1.out hz.sta hRI mo hmo (by omega) (hRI.iok HI.out) ro a2 rc c2 hz.rows hz.ons)
   clear hS hRI hlt hk hk9 hmo
   go_wp2_with (first
    | go_guarded
    | (go_at_call 7; (with_reducible refine (KTW.out _).mono ?_); rintro _ x2 ⟨rfl, hbel⟩; have GB2 : Hid (Below w.heap.size w x2) := Lib.hid (GB1.out.bel.trans (hbel.mono GB1.out.bel.size)); clear hbel)
    | (go_at_call 18; (with_reducible refine (KSM.out _ HS.out).mono ?_); rintro _ x1 ⟨rfl, hbel⟩; have GB1 := Lib.hid (HS.out.below hbel); clear hbel))
   go_ret
   exact ⟨rfl, GB2.out⟩
theorem aclong_c (n m : Nat) (hn : 80 < n ∨ 80 < m) (ao ao2 : Option Addr) (cap cap2 : Nat) (w : World) : Calls Try.prog 3 #[.slice ao n cap, .slice ao2 m cap2] w fun ee w' => ee = .returned (.bool true) ∧ Below w.heap.size w w' := by
 have K := Lib.hid atwo_c
 by_cases h : 80 < n
 ·have q1 : decide ((80 : Int) < (n : Int)) = true := decide_eq_true (by omega)
  have q2 : decide (80 < n) = true := decide_eq_true h
  go_enter Try.func3, Try.ntmps3
  go_wp2_with (first | go_guarded | (go_at_call 7; (with_reducible refine (K.out _).mono ?_); rintro _ w1 ⟨rfl, hbel⟩; have HB1 := Lib.hid hbel; clear hbel))
  go_ret
  exact ⟨rfl, HB1.out⟩
 ·have hm := hn.resolve_left h
  have q1 : decide ((80 : Int) < (n : Int)) = false := decide_eq_false (by omega)
  have q2 : decide (80 < n) = false := decide_eq_false h
  have q3 : decide ((80 : Int) < (m : Int)) = true := decide_eq_true (by omega)
  have q4 : decide (80 < m) = true := decide_eq_true hm
  go_enter Try.func3, Try.ntmps3
  go_wp2_with (first | go_guarded | (go_at_call 7; (with_reducible refine (K.out _).mono ?_); rintro _ w1 ⟨rfl, hbel⟩; have HB1 := Lib.hid hbel; clear hbel))
  go_ret
  exact ⟨rfl, HB1.out⟩
theorem activeCalls_law (v v2 : Value) {w : World} (hs : Op.FlatSlice w 15 [.int .i64, .int .i64, .int .i64, .bool, .int .u64, .int .u64, .int .u64, .int .u64, .int .u64, .int .u64, .int .u64, .int .u64, .int .u64, .int .i64, .int .i64] v) (hs2 : Op.FlatSlice w 2 [.int .i64, .int .i64] v2) : Calls Try.prog 3 #[v, v2] w fun ee w' => ee = .returned (.bool true) ∧ Below w.heap.size w w' := by
 obtain ⟨ao, xs, ac, rfl, h1, h2, h3, h4⟩ := chgs_of hs
 obtain ⟨ao2, cs, ac2, rfl, g3, g4⟩ := calls23_of hs2
 by_cases hn : 80 < xs.length ∨ 80 < cs.length
 ·exact aclong_c _ _ hn ao ao2 ac ac2 w
 ·exact aclaw_c xs _ rfl (by omega) h4 ao ac cs _ rfl (by omega) g4 ao2 ac2 w h3 g3
end Go.Proofs.Ytmmahgfijiocfaa
end
