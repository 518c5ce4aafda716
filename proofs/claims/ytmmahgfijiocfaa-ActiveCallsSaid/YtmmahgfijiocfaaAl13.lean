/- Joined texts. -/
import Derived.Test.YtmmahgfijiocfaaBs0
import Derived.Test.YtmmahgfijiocfaaBs1
import Derived.Test.YtmmahgfijiocfaaBs10
import Derived.Test.YtmmahgfijiocfaaBs11
import Derived.Test.YtmmahgfijiocfaaBs12
import Derived.Test.YtmmahgfijiocfaaBs13
import Derived.Test.YtmmahgfijiocfaaBs2
import Derived.Test.YtmmahgfijiocfaaBs3
import Derived.Test.YtmmahgfijiocfaaBs4
import Derived.Test.YtmmahgfijiocfaaBs5
import Derived.Test.YtmmahgfijiocfaaBs6
import Derived.Test.YtmmahgfijiocfaaBs7
import Derived.Test.YtmmahgfijiocfaaBs8
import Derived.Test.YtmmahgfijiocfaaBs9
import Derived.Test.YtmmahgfijiocfaaAl1
import Derived.Test.YtmmahgfijiocfaaAl2
import Derived.Test.YtmmahgfijiocfaaAl4
import Derived.Maps.Keyed
import Derived.Maps.Own
import Derived.Maps.OwnOps
import Derived.DeepKeys5
import Derived.StillTail
import Derived.Deep.Quiet
import Derived.Deep.QuietTactic
import Derived.Test.YtmmahgfijiocfaaChecked
import Derived.WalkKit
import Derived.BigQuiet
import Derived.OpenShut
import Derived.Deep.RegionHeld3
import Derived.Deep.RegionWith
import Derived.Deep.DeepCutAuto
import Derived.WalkSpells
import Derived.WalkSmall
import Derived.Lib.Hide
import Derived.RowKit
import Derived.IntWalk
import Derived.Maps.RangeRun
import Derived.Deep.MidRow
import Derived.Deep.WholeRow
import Derived.Laws.CopyRow
import Derived.Deep.OwnRows
import Derived.ArgAppend
import Derived.Sort.OwnSortedInts
import Derived.Shelf.SlIterI.Nil
import Derived.Shelf.SortM.Plain
import Derived.Shelf.SortM.SortNone
import Derived.Ground.GgzProg
import Derived.Ground.SlgmProg
import Derived.Laws.AppendOwn
import Derived.Laws.AppendOwnNone
import Derived.Deep.Onto
import Derived.LoopN
import Derived.ProofKit
import Derived.Below
import Derived.Carry
import Derived.ReadAgain
import Derived.ChangeOld
import Derived.Deep.Slices
import Derived.Shelf.SlMaps.Clone
import Derived.Ground.SlmcProg
set_option linter.unusedVariables false
set_option linter.unusedSimpArgs false
set_option maxRecDepth 100000
set_option maxHeartbeats 16000000
section
namespace Go.Proofs.Ytmmahgfijiocfaa
open Go.RowKit Fg Reg Go.Maps Go.Sort Go.Shelf
attribute [local irreducible] Reg.wE VR
theorem IntsV.om {B : Nat} {z v : World} {ao : Option Addr} {C : List Int} (h : IntsV z ao C) (ho : OM B z v) : IntsV v ao C := fun k hk => by
 obtain ⟨b, o, e, h1, h2⟩ := h k hk
 refine ⟨b, o, e, Nat.lt_of_lt_of_le h1 ho.size, ?_⟩
 rw [World.cell?_of_block (ho.5 b h1 (fun hs => by
  obtain ⟨-, es, ck, hb⟩ := hs
  simp [World.cell?, hb] at h2))]
 exact h2
theorem Below.om {B : Nat} {w z v : World} (h : Below w.heap.size w z) (ho : OM B z v) (hB : w.heap.size ≤ B) : Below w.heap.size w v := h.trans ⟨ho.1, ho.2, ho.3, ho.4, fun k hk => ho.5 k (Nat.lt_of_lt_of_le hk h.size) (fun hs => by have := hs.1; omega)⟩
def k1 : Cls := ⟨1, 0, false, 0, 0, 0, 5, 0, 5, 0, 0, 0, 0, 0⟩
def k2 : Cls := ⟨2, 1, true, 0, 0, 0, 5, 0, 5, 0, 0, 0, 1, 9⟩
def k3 : Cls := ⟨3, 1, true, 0, 0, 0, 5, 0, 5, 0, 0, 0, 1, 9⟩
theorem k1_in : CIn k1 := ⟨rfl, rfl, ⟨by decide, by decide⟩, ⟨by decide, by decide⟩, ⟨by decide, by decide⟩, ⟨by decide, by decide⟩, ⟨by decide, by decide⟩, ⟨by decide, by decide⟩, ⟨by decide, by decide⟩, ⟨by decide, by decide⟩, ⟨by decide, by decide⟩, rfl, rfl⟩
theorem k2_in : CIn k2 := ⟨rfl, rfl, ⟨by decide, by decide⟩, ⟨by decide, by decide⟩, ⟨by decide, by decide⟩, ⟨by decide, by decide⟩, ⟨by decide, by decide⟩, ⟨by decide, by decide⟩, ⟨by decide, by decide⟩, ⟨by decide, by decide⟩, ⟨by decide, by decide⟩, rfl, rfl⟩
theorem k3_in : CIn k3 := ⟨rfl, rfl, ⟨by decide, by decide⟩, ⟨by decide, by decide⟩, ⟨by decide, by decide⟩, ⟨by decide, by decide⟩, ⟨by decide, by decide⟩, ⟨by decide, by decide⟩, ⟨by decide, by decide⟩, ⟨by decide, by decide⟩, ⟨by decide, by decide⟩, rfl, rfl⟩
def g1 : Int → Option Cls := addF (fun _ => none) [] k1
def h1 : List Int := addL (fun _ => none) [] k1
def g2 : Int → Option Cls := addF g1 h1 k2
def h2 : List Int := addL g1 h1 k2
def g3 : Int → Option Cls := addF g2 h2 k3
def h3 : List Int := addL g2 h2 k3
theorem d1 : addE (fun _ => none) [] k1 = 0 := by decide +kernel
theorem d2 : addE g1 h1 k2 = 0 := by decide +kernel
theorem d3 : addE g2 h2 k3 = 0 := by decide +kernel
theorem i1 : TI g1 h1 := TI.nil.addF k1_in
theorem i2 : TI g2 h2 := i1.addF k2_in
theorem i3 : TI g3 h3 := i2.addF k3_in
def m3 : Int → Option (Int × Bool) := fun x => if x = 1 then some (0, false) else if x = 2 then some (1, true) else if x = 3 then some (1, true) else none
theorem s1 : sh1 k1 = true := by decide +kernel
theorem s2 : sh1 k2 = true := by decide +kernel
theorem s3 : sh1 k3 = true := by decide +kernel
theorem g3_m : mfA g3 = m3 := by
 have e1 : g1 = upd (fun _ => none) 1 k1 := by unfold g1 addF; rw [if_pos d1]; rfl
 have e2 : g2 = upd g1 2 k2 := by unfold g2 addF; rw [if_pos d2]; rfl
 have e3 : g3 = upd g2 3 k3 := by unfold g3 addF; rw [if_pos d3]; rfl
 funext x
 unfold mfA m3
 rw [e3, e2, e1]
 unfold upd
 by_cases q1 : x = 1
 ·subst q1
  simp [s1]
  exact ⟨rfl, rfl⟩
 ·by_cases q2 : x = 2
  ·subst q2
   simp [s2]
   exact ⟨rfl, rfl⟩
  ·by_cases q3 : x = 3
   ·subst q3
    simp [s3]
    exact ⟨rfl, rfl⟩
   ·simp [q1, q2, q3]
theorem m3_ok : ∀ x m, m3 x = some m → iok m.1 := fun x m h => by
 unfold m3 at h
 (repeat' split at h) <;> first | (injection h with h; subst h; rfl) | cases h
def S0 : Int → Option (List Int) := fun _ => none
def S1 : Int → Option (List Int) := (onR m3 17 S0 2).2
def S2 : Int → Option (List Int) := (onR m3 17 S1 3).2
def S3 : Int → Option (List Int) := (offR m3 17 S2 2).2
def S4 : Int → Option (List Int) := (offR m3 17 S3 3).2
def OnQ (B p mb cb : Nat) (z : World) (n : Nat) (out : List Int) (A2 : Int → Option (List Int)) (e : Ending) (z' : World) : Prop := ∃ ao cap F2, e = .returned (.tuple #[.slice ao n cap, .int .i64 0]) ∧ IntsV z' ao out ∧ AS z' B p mb cb m3 F2 A2 ∧ OM B z z'
theorem onq_of {B p mb cb : Nat} {z : World} {out : List Int} {A2 : Int → Option (List Int)} {n : Nat} {out2 : List Int} (hn : out.length = n) (ho : out2 = out) {e : Ending} {z' : World} (h : OnP B p mb cb m3 z out2 A2 e z') : OnQ B p mb cb z n out A2 e z' := by
 subst ho
 obtain ⟨v, F2, rfl, hr, ha, hm⟩ := h
 obtain ⟨ao, cap, rfl⟩ := row_form hr
 exact ⟨ao, cap, F2, by rw [hn], (own_ints hr).2, ha, hm⟩
theorem onq_on {B p mb cb : Nat} {z : World} {F : Int → Option Nat} {A : Int → Option (List Int)} (h : AS z B p mb cb m3 F A) (hB : B ≤ z.heap.size) {leaf : Int} (hi : iok leaf) {n : Nat} {out : List Int} (hn : out.length = n) (hl : lfM m3 leaf = true) (hs : isA m3 A leaf = false) (hf : finM m3 17 leaf = true) (ho : (onR m3 17 A leaf).1 = out) : Calls Try.prog 15 #[.pointer (some ⟨p, 0, none⟩), .int .i64 leaf] z (OnQ B p mb cb z n out (onR m3 17 A leaf).2) :=
 (aon_ok h m3_ok hi hl hs hB hf).mono fun _ _ g => onq_of hn ho g
theorem onq_off {B p mb cb : Nat} {z : World} {F : Int → Option Nat} {A : Int → Option (List Int)} (h : AS z B p mb cb m3 F A) {leaf : Int} (hi : iok leaf) {n : Nat} {out : List Int} (hn : out.length = n) (hl : lfM m3 leaf = true) (hs : isA m3 A leaf = true) (hf : finM m3 17 leaf = true) (ho : (offR m3 17 A leaf).1 = out) : Calls Try.prog 11 #[.pointer (some ⟨p, 0, none⟩), .int .i64 leaf] z (OnQ B p mb cb z n out (offR m3 17 A leaf).2) :=
 (aof_ok h m3_ok hi hl hs hf).mono fun _ _ g => onq_of hn ho g
theorem lcv_alloc (w : World) : (Instr.alloc 52 true (.tuple #[])).run Try.prog w = .ok (.pointer (some ⟨w.heap.size, 0, none⟩)) (w.alloc (.cells #[.int .u64 0, .int .u64 0, .int .u64 0] 52)) := by kernel_rfl
theorem lcv_info : (Try.prog.info? 52).map (·.size) = some 3 := by kernel_rfl
theorem lcv_one : (#[.int .u64 5, .int .u64 0, .int .u64 5] : Array Value).all (·.oneCell') = true := by kernel_rfl
theorem atwo_c (w : World) : Calls Try.prog 7 #[] w fun ee w' => ee = .returned (.bool true) ∧ Below w.heap.size w w' := by
 have KN := Lib.hid hnew_c
 have KD1 : Hid (∀ z tb tm, HT z tb tm (fun _ => none) → Calls Try.prog 26 #[.pointer (some ⟨tb, 0, none⟩), .agg #[.int .i64 1, .int .i64 0, .bool false, .int .u64 0, .int .u64 0, .int .u64 0, .int .u64 5, .int .u64 0, .int .u64 5, .int .u64 0, .int .u64 0, .int .u64 0, .int .i64 0, .int .i64 0]] z fun e z' => e = .returned (.int .i64 0) ∧ HT z' tb tm g1 ∧ Only (fun k => k = tm) z z') := Lib.hid (fun z tb tm h => by have := hadd_c h TI.nil k1_in; rw [d1] at this; exact this)
 have KD2 : Hid (∀ z tb tm, HT z tb tm g1 → Calls Try.prog 26 #[.pointer (some ⟨tb, 0, none⟩), .agg #[.int .i64 2, .int .i64 1, .bool true, .int .u64 0, .int .u64 0, .int .u64 0, .int .u64 5, .int .u64 0, .int .u64 5, .int .u64 0, .int .u64 0, .int .u64 0, .int .i64 1, .int .i64 9]] z fun e z' => e = .returned (.int .i64 0) ∧ HT z' tb tm g2 ∧ Only (fun k => k = tm) z z') := Lib.hid (fun z tb tm h => by have := hadd_c h i1 k2_in; rw [d2] at this; exact this)
 have KD3 : Hid (∀ z tb tm, HT z tb tm g2 → Calls Try.prog 26 #[.pointer (some ⟨tb, 0, none⟩), .agg #[.int .i64 3, .int .i64 1, .bool true, .int .u64 0, .int .u64 0, .int .u64 0, .int .u64 5, .int .u64 0, .int .u64 5, .int .u64 0, .int .u64 0, .int .u64 0, .int .i64 1, .int .i64 9]] z fun e z' => e = .returned (.int .i64 0) ∧ HT z' tb tm g3 ∧ Only (fun k => k = tm) z z') := Lib.hid (fun z tb tm h => by have := hadd_c h i2 k3_in; rw [d3] at this; exact this)
 have KNW : Hid (∀ z tb tm, HT z tb tm g3 → Calls Try.prog 9 #[.pointer (some ⟨tb, 0, none⟩)] z fun e z' => ∃ p mb cb F, e = .returned (.pointer (some ⟨p, 0, none⟩)) ∧ AS z' z.heap.size p mb cb m3 F S0 ∧ Below z.heap.size z z') := Lib.hid (fun z tb tm h => by have := anew_c h i3; rw [g3_m] at this; exact this)
 have KP21 : Hid (∀ z a1 a2 c1 c2, IntsV z a1 [2, 1] → IntsV z a2 [2, 1] → Calls Try.prog 13 #[.slice a1 2 c1, .slice a2 2 c2] z fun ee w' => ee = .returned (.bool true) ∧ Below z.heap.size z w') := Lib.hid (fun z a1 a2 c1 c2 h1 h2 => pints_c [2, 1] a1 a2 c1 c2 (by decide) z h1 h2)
 have KP3 : Hid (∀ z a1 a2 c1 c2, IntsV z a1 [3] → IntsV z a2 [3] → Calls Try.prog 13 #[.slice a1 1 c1, .slice a2 1 c2] z fun ee w' => ee = .returned (.bool true) ∧ Below z.heap.size z w') := Lib.hid (fun z a1 a2 c1 c2 h1 h2 => pints_c [3] a1 a2 c1 c2 (by decide) z h1 h2)
 have KP23 : Hid (∀ z a1 a2 c1 c2, IntsV z a1 [2, 3] → IntsV z a2 [2, 3] → Calls Try.prog 13 #[.slice a1 2 c1, .slice a2 2 c2] z fun ee w' => ee = .returned (.bool true) ∧ Below z.heap.size z w') := Lib.hid (fun z a1 a2 c1 c2 h1 h2 => pints_c [2, 3] a1 a2 c1 c2 (by decide) z h1 h2)
 have KP2 : Hid (∀ z a1 a2 c1 c2, IntsV z a1 [2] → IntsV z a2 [2] → Calls Try.prog 13 #[.slice a1 1 c1, .slice a2 1 c2] z fun ee w' => ee = .returned (.bool true) ∧ Below z.heap.size z w') := Lib.hid (fun z a1 a2 c1 c2 h1 h2 => pints_c [2] a1 a2 c1 c2 (by decide) z h1 h2)
 have KP31 : Hid (∀ z a1 a2 c1 c2, IntsV z a1 [3, 1] → IntsV z a2 [3, 1] → Calls Try.prog 13 #[.slice a1 2 c1, .slice a2 2 c2] z fun ee w' => ee = .returned (.bool true) ∧ Below z.heap.size z w') := Lib.hid (fun z a1 a2 c1 c2 h1 h2 => pints_c [3, 1] a1 a2 c1 c2 (by decide) z h1 h2)
 have KO1 : Hid (∀ z B p mb cb F1, AS z B p mb cb m3 F1 S0 → B ≤ z.heap.size → Calls Try.prog 15 #[.pointer (some ⟨p, 0, none⟩), .int .i64 2] z (OnQ B p mb cb z 2 [2, 1] S1)) := Lib.hid (fun z B p mb cb F1 ha hB => onq_on (leaf := 2) ha hB rfl rfl (by decide +kernel) (by decide +kernel) (by decide +kernel) (by decide +kernel))
 have KO2 : Hid (∀ z B p mb cb F1, AS z B p mb cb m3 F1 S1 → B ≤ z.heap.size → Calls Try.prog 15 #[.pointer (some ⟨p, 0, none⟩), .int .i64 3] z (OnQ B p mb cb z 1 [3] S2)) := Lib.hid (fun z B p mb cb F1 ha hB => onq_on (leaf := 3) ha hB rfl rfl (by decide +kernel) (by decide +kernel) (by decide +kernel) (by decide +kernel))
 have KO3 : Hid (∀ z B p mb cb F1, AS z B p mb cb m3 F1 S2 → Calls Try.prog 15 #[.pointer (some ⟨p, 0, none⟩), .int .i64 3] z fun ee w' => ee = .returned (.tuple #[.slice none 0 0, .int .i64 8]) ∧ Below z.heap.size z w') := Lib.hid (fun z B p mb cb F1 ha => aon_same ha m3_ok rfl (by decide +kernel) (by decide +kernel))
 have KCH : Hid (∀ z B p mb cb F1, AS z B p mb cb m3 F1 S2 → Calls Try.prog 23 #[.pointer (some ⟨p, 0, none⟩), .int .i64 1] z fun e z' => ∃ ao cap, e = .returned (.slice ao 2 cap) ∧ IntsV z' ao [2, 3] ∧ Below z.heap.size z z') := Lib.hid (fun z B p mb cb F1 ha => by
  have e : chA S2 1 = [2, 3] := by decide +kernel
  refine (ach_c ha (id := 1) rfl (by rw [e]; decide)).mono ?_
  rintro _ z' ⟨v, rfl, hr, hb⟩
  rw [e] at hr
  obtain ⟨ao, cap, rfl⟩ := row_form hr
  exact ⟨ao, cap, rfl, (own_ints hr).2, hb⟩)
 have KF1 : Hid (∀ z B p mb cb F1, AS z B p mb cb m3 F1 S2 → Calls Try.prog 11 #[.pointer (some ⟨p, 0, none⟩), .int .i64 2] z (OnQ B p mb cb z 1 [2] S3)) := Lib.hid (fun z B p mb cb F1 ha => onq_off (leaf := 2) ha rfl rfl (by decide +kernel) (by decide +kernel) (by decide +kernel) (by decide +kernel))
 have KF2 : Hid (∀ z B p mb cb F1, AS z B p mb cb m3 F1 S3 → Calls Try.prog 11 #[.pointer (some ⟨p, 0, none⟩), .int .i64 3] z (OnQ B p mb cb z 2 [3, 1] S4)) := Lib.hid (fun z B p mb cb F1 ha => onq_off (leaf := 3) ha rfl rfl (by decide +kernel) (by decide +kernel) (by decide +kernel) (by decide +kernel))
 have KIS : Hid (∀ z B p mb cb F1, AS z B p mb cb m3 F1 S4 → Calls Try.prog 22 #[.pointer (some ⟨p, 0, none⟩), .int .i64 0] z fun ee w' => ee = .returned (.bool false) ∧ Below z.heap.size z w') := Lib.hid (fun z B p mb cb F1 ha => by
  have e : isA m3 S4 0 = false := by decide +kernel
  have := ais_c ha m3_ok (id := 0) rfl
  rw [e] at this
  exact this)
 have ALL := Lib.hid lcv_alloc
 have INF := Lib.hid lcv_info
 have ONE := Lib.hid lcv_one
 go_enter Try.func7, Try.ntmps7
 go_wp2_with (first
  | go_guarded
  | (go_at_call 22; (with_reducible refine (KIS.out _ _ _ _ _ _ HA17.out).mono ?_); rintro _ w18 ⟨rfl, hbel⟩; have HB18 : Hid (Below w.heap.size w w18) := Lib.hid (HB17.out.trans (hbel.mono HB17.out.size)); clear hbel)
  | (go_at_call 13; (with_reducible refine (KP31.out _ _ _ _ _ (HV16.out.below (Below.alloc (Below.refl _ _) (Nat.le_refl _) _)) (ints_block [3, 1] (heap_alloc_new w16 (.cells #[.int .i64 3, .int .i64 1] 3)) rfl)).mono ?_); rintro _ w17 ⟨rfl, hbel⟩; have hA := (Below.alloc (Below.refl w16.heap.size w16) (Nat.le_refl _) (.cells #[.int .i64 3, .int .i64 1] 3)).trans (hbel.mono (by simp)); have HB17 : Hid (Below w.heap.size w w17) := Lib.hid (HB16.out.trans (hA.mono HB16.out.size)); have HA17 := Lib.hid (HA16.out.below hA); clear hbel hA)
  | (go_at_call 13; (with_reducible refine (KP2.out _ _ _ _ _ (HV15b.out.below (Below.alloc (Below.refl _ _) (Nat.le_refl _) _)) (ints_block [2] (heap_alloc_new w15 (.cells #[.int .i64 2] 3)) rfl)).mono ?_); rintro _ w16 ⟨rfl, hbel⟩; have hA := (Below.alloc (Below.refl w15.heap.size w15) (Nat.le_refl _) (.cells #[.int .i64 2] 3)).trans (hbel.mono (by simp)); have HB16 : Hid (Below w.heap.size w w16) := Lib.hid (HB15.out.trans (hA.mono HB15.out.size)); have HA16 := Lib.hid (HA15.out.below hA); have HV16 := Lib.hid (HV15c.out.below hA); clear hbel hA)
  | (go_at_call 13; (with_reducible refine (KP23.out _ _ _ _ _ (HV14c.out.below (Below.alloc (Below.refl _ _) (Nat.le_refl _) _)) (ints_block [2, 3] (heap_alloc_new w14 (.cells #[.int .i64 2, .int .i64 3] 3)) rfl)).mono ?_); rintro _ w15 ⟨rfl, hbel⟩; have hA := (Below.alloc (Below.refl w14.heap.size w14) (Nat.le_refl _) (.cells #[.int .i64 2, .int .i64 3] 3)).trans (hbel.mono (by simp)); have HB15 : Hid (Below w.heap.size w w15) := Lib.hid (HB14.out.trans (hA.mono HB14.out.size)); have HA15 := Lib.hid (HA14.out.below hA); have HV15b := Lib.hid (HV14d.out.below hA); have HV15c := Lib.hid (HV14e.out.below hA); clear hbel hA)
  | (go_at_call 13; (with_reducible refine (KP3.out _ _ _ _ _ (HV13b.out.below (Below.alloc (Below.refl _ _) (Nat.le_refl _) _)) (ints_block [3] (heap_alloc_new w13 (.cells #[.int .i64 3] 3)) rfl)).mono ?_); rintro _ w14 ⟨rfl, hbel⟩; have hA := (Below.alloc (Below.refl w13.heap.size w13) (Nat.le_refl _) (.cells #[.int .i64 3] 3)).trans (hbel.mono (by simp)); have HB14 : Hid (Below w.heap.size w w14) := Lib.hid (HB13.out.trans (hA.mono HB13.out.size)); have HA14 := Lib.hid (HA13.out.below hA); have HV14c := Lib.hid (HV13c.out.below hA); have HV14d := Lib.hid (HV13d.out.below hA); have HV14e := Lib.hid (HV13e.out.below hA); clear hbel hA)
  | (go_at_call 13; (with_reducible refine (KP21.out _ _ _ _ _ (HV12a.out.below (Below.alloc (Below.refl _ _) (Nat.le_refl _) _)) (ints_block [2, 1] (heap_alloc_new w12 (.cells #[.int .i64 2, .int .i64 1] 3)) rfl)).mono ?_); rintro _ w13 ⟨rfl, hbel⟩; have hA := (Below.alloc (Below.refl w12.heap.size w12) (Nat.le_refl _) (.cells #[.int .i64 2, .int .i64 1] 3)).trans (hbel.mono (by simp)); have HB13 : Hid (Below w.heap.size w w13) := Lib.hid (HB12.out.trans (hA.mono HB12.out.size)); have HA13 := Lib.hid (HA12.out.below hA); have HV13b := Lib.hid (HV12b.out.below hA); have HV13c := Lib.hid (HV12c.out.below hA); have HV13d := Lib.hid (HV12d.out.below hA); have HV13e := Lib.hid (HV12e.out.below hA); clear hbel hA)
  | (go_at_call 11; (with_reducible refine (KF2.out _ _ _ _ _ _ HA11.out).mono ?_); rintro _ w12 ⟨ao12, cp12, F12, rfl, hv, has, hom⟩; have HV12e := Lib.hid hv; have HA12 := Lib.hid has; have HV12a := Lib.hid (HV11a.out.om hom); have HV12b := Lib.hid (HV11b.out.om hom); have HV12c := Lib.hid (HV11c.out.om hom); have HV12d := Lib.hid (HV11d.out.om hom); have HB12 : Hid (Below w.heap.size w w12) := Lib.hid (Below.om HB11.out hom HBB.out); clear hv has hom)
  | (go_at_call 11; (with_reducible refine (KF1.out _ _ _ _ _ _ HA10.out).mono ?_); rintro _ w11 ⟨ao11, cp11, F11, rfl, hv, has, hom⟩; have HV11d := Lib.hid hv; have HA11 := Lib.hid has; have HV11a := Lib.hid (HV10a.out.om hom); have HV11b := Lib.hid (HV10b.out.om hom); have HV11c := Lib.hid (HV10c.out.om hom); have HB11 : Hid (Below w.heap.size w w11) := Lib.hid (Below.om HB10.out hom HBB.out); clear hv has hom)
  | (go_at_call 23; (with_reducible refine (KCH.out _ _ _ _ _ _ HA9.out).mono ?_); rintro _ w10 ⟨ao10, cp10, rfl, hv, hbel⟩; have HV10c := Lib.hid hv; have HA10 := Lib.hid (HA9.out.below hbel); have HV10a := Lib.hid (HV9a.out.below hbel); have HV10b := Lib.hid (HV9b.out.below hbel); have HB10 : Hid (Below w.heap.size w w10) := Lib.hid (HB9.out.trans (hbel.mono HB9.out.size)); clear hv hbel)
  | (go_at_call 15; (with_reducible refine (KO3.out _ _ _ _ _ _ HA8.out).mono ?_); rintro _ w9 ⟨rfl, hbel⟩; have HA9 := Lib.hid (HA8.out.below hbel); have HV9a := Lib.hid (HV8a.out.below hbel); have HV9b := Lib.hid (HV8b.out.below hbel); have HB9 : Hid (Below w.heap.size w w9) := Lib.hid (HB8.out.trans (hbel.mono HB8.out.size)); clear hbel)
  | (go_at_call 15; (with_reducible refine (KO2.out _ _ _ _ _ _ HA7.out (Nat.le_trans HSB.out HS7.out)).mono ?_); rintro _ w8 ⟨ao8, cp8, F8, rfl, hv, has, hom⟩; have HV8b := Lib.hid hv; have HA8 := Lib.hid has; have HV8a := Lib.hid (HV7a.out.om hom); have HB8 : Hid (Below w.heap.size w w8) := Lib.hid (Below.om HB7.out hom HBB.out); clear hv has hom)
  | (go_at_call 15; (with_reducible refine (KO1.out _ _ _ _ _ _ HA6.out HSB.out).mono ?_); rintro _ w7 ⟨ao7, cp7, F7, rfl, hv, has, hom⟩; have HV7a := Lib.hid hv; have HA7 := Lib.hid has; have HS7 := Lib.hid hom.size; have HB7 : Hid (Below w.heap.size w w7) := Lib.hid (Below.om HB6.out hom HBB.out); clear hv has hom)
  | (go_at_call 9; (with_reducible refine (KNW.out _ tb tm HT5.out).mono ?_); rintro _ w6 ⟨p, mb, cb, F6, rfl, has, hbel⟩; have HA6 := Lib.hid has; have HBB : Hid (w.heap.size ≤ w5.heap.size) := Lib.hid HB5.out.size; have HSB : Hid (w5.heap.size ≤ w6.heap.size) := Lib.hid hbel.size; have HB6 : Hid (Below w.heap.size w w6) := Lib.hid (HB5.out.trans (hbel.mono HB5.out.size)); clear has hbel)
  | (go_at_call 26; (with_reducible refine (KD3.out _ tb tm HT4.out).mono ?_); rintro _ w5 ⟨rfl, hT, ho⟩; have HT5 := Lib.hid hT; have HB5 : Hid (Below w.heap.size w w5) := Lib.hid (HB4.out.trans ⟨ho.1, ho.2, ho.3, ho.4, fun k hk => ho.5 k (Nat.lt_of_lt_of_le hk HB4.out.size) (by have := HTM.out; omega)⟩); clear hT ho)
  | (go_at_call 26; (with_reducible refine (KD2.out _ tb tm HT3.out).mono ?_); rintro _ w4 ⟨rfl, hT, ho⟩; have HT4 := Lib.hid hT; have HV4 := Lib.hid (HV3.out.only ho (by have := HTM.out; omega)); have HB4 : Hid (Below w.heap.size w w4) := Lib.hid (HB3.out.trans ⟨ho.1, ho.2, ho.3, ho.4, fun k hk => ho.5 k (Nat.lt_of_lt_of_le hk HB3.out.size) (by have := HTM.out; omega)⟩); clear hT ho)
  | (go_at_call 26; (with_reducible refine (KD1.out _ tb tm HT2.out).mono ?_); rintro _ w3 ⟨rfl, hT, ho⟩; have HT3 := Lib.hid hT; have HV3 := Lib.hid (HV2.out.only ho (by have := HTM.out; omega)); have HB3 : Hid (Below w.heap.size w w3) := Lib.hid (HB2.out.trans ⟨ho.1, ho.2, ho.3, ho.4, fun k hk => ho.5 k (Nat.lt_of_lt_of_le hk HB2.out.size) (by have := HTM.out; omega)⟩); clear hT ho)
  | (refine wpList_var_get rfl 52 _ rfl _ #[.int .u64 5, .int .u64 0, .int .u64 5] _ HV4.out rfl Try.underlying52 rfl INF.out ?_)
  | (refine wpList_var_get rfl 52 _ rfl _ #[.int .u64 5, .int .u64 0, .int .u64 5] _ HV3.out rfl Try.underlying52 rfl INF.out ?_)
  | (refine wpList_var_get rfl 52 _ rfl _ #[.int .u64 5, .int .u64 0, .int .u64 5] _ HV2.out rfl Try.underlying52 rfl INF.out ?_)
  | (go_at_call 25; (with_reducible refine (KN.out _).mono ?_); rintro _ w2 ⟨tb, tm, rfl, ht, hm, hT, hbel⟩; have HT2 := Lib.hid hT; have HTM : Hid (w.heap.size + 1 ≤ tm) := Lib.hid (by have := HV1.out.lt; omega); have HV2 := Lib.hid (HV1.out.bel hbel); have HB2 : Hid (Below w.heap.size w w2) := Lib.hid (HB1.out.trans (hbel.mono HB1.out.size)); clear hT hbel ht hm)
  | (refine wpList_var_new rfl rfl 52 #[.int .u64 0, .int .u64 0, .int .u64 0] ALL.out rfl _ _ rfl #[.int .u64 5, .int .u64 0, .int .u64 5] rfl rfl INF.out rfl ONE.out ?_; intro w1 hs1 hb1 hv1; have HV1 := Lib.hid hv1; have HB1 := Lib.hid hb1; clear hb1 hv1))
 go_ret
 exact ⟨rfl, HB18.out⟩
end Go.Proofs.Ytmmahgfijiocfaa
end
