/- Joined texts. -/
import Derived.Test.YtmmahgfijiocfaaBs0
import Derived.Test.YtmmahgfijiocfaaBs1
import Derived.Test.YtmmahgfijiocfaaBs10
import Derived.Test.YtmmahgfijiocfaaBs11
import Derived.Test.YtmmahgfijiocfaaBs12
import Derived.Test.YtmmahgfijiocfaaBs13
import Derived.Test.YtmmahgfijiocfaaBs15
import Derived.Test.YtmmahgfijiocfaaBs16
import Derived.Test.YtmmahgfijiocfaaBs2
import Derived.Test.YtmmahgfijiocfaaBs3
import Derived.Test.YtmmahgfijiocfaaBs4
import Derived.Test.YtmmahgfijiocfaaBs5
import Derived.Test.YtmmahgfijiocfaaBs6
import Derived.Test.YtmmahgfijiocfaaBs7
import Derived.Test.YtmmahgfijiocfaaBs8
import Derived.Test.YtmmahgfijiocfaaBs9
import Derived.Test.YtmmahgfijiocfaaAl1
import Derived.Test.YtmmahgfijiocfaaAl2
import Derived.Test.YtmmahgfijiocfaaAl3
import Derived.Test.YtmmahgfijiocfaaAl4
import Derived.Test.YtmmahgfijiocfaaAl5
import Derived.Test.YtmmahgfijiocfaaAl6
import Derived.Maps.Keyed
import Derived.Maps.Own
import Derived.Maps.OwnOps
import Derived.DeepKeys5
import Derived.StillTail
import Derived.Deep.Quiet
import Derived.Deep.QuietTactic
import Derived.Test.YtmmahgfijiocfaaChecked
import Derived.WalkKit
import Derived.BigQuiet
import Derived.OpenShut
import Derived.Deep.RegionHeld3
import Derived.Deep.RegionWith
import Derived.Deep.DeepCutAuto
import Derived.WalkSpells
import Derived.WalkSmall
import Derived.Lib.Hide
import Derived.RowKit
import Derived.IntWalk
import Derived.Maps.RangeRun
import Derived.Deep.MidRow
import Derived.Deep.WholeRow
import Derived.Laws.CopyRow
import Derived.Deep.OwnRows
import Derived.ArgAppend
import Derived.Sort.OwnSortedInts
import Derived.Shelf.SlIterI.Nil
import Derived.Shelf.SortM.Plain
import Derived.Shelf.SortM.SortNone
import Derived.Ground.GgzProg
import Derived.Ground.SlgmProg
import Derived.Laws.AppendOwn
import Derived.Laws.AppendOwnNone
import Derived.ProofKit
import Derived.Below
import Derived.Carry
import Derived.ReadAgain
import Derived.ChangeOld
import Derived.Deep.Slices
import Derived.Deep.Onto
import Derived.LoopN
import Derived.Shelf.SlMaps.Clone
import Derived.Ground.SlmcProg
set_option linter.unusedVariables false
set_option linter.unusedSimpArgs false
set_option maxRecDepth 100000
set_option maxHeartbeats 16000000
section
namespace Go.Proofs.Ytmmahgfijiocfaa
open Go.RowKit Fg Reg Go.Maps Go.Sort Go.Shelf
attribute [local irreducible] Reg.wE VR
theorem wpList_part_get_g {P : Program} {ops : Array Oper} {rest : List Oper} {a : Act} {w : World} {Q : Exit → Act → World → Prop} {o : Oper} (ty : TypeId) (x : Operand) (h2 : o.op = .load ty x) (p q : Nat) (cells : Array Value) (d : TypeDesc) (hr : w.rangeAt p q cells.toList)
  (hx : a.eval x = .pointer (some ⟨p, q, none⟩)) (hu : P.underlying ty = some d) (hd : d.isRow = true)
  (hi : (P.info? ty).map (·.size) = some cells.size) (g : Region.wanted o (yielded ops a.tmps) = true)
  (hK : wpList P ops Q rest (a.put o.dst (.agg cells)) w) :
  wpList P ops Q (o :: rest) a w := by
 refine wpList_step fun K hK' => ?_
 rw [if_pos g]
 refine wp_load_mid ty x h2 p q hx cells.toList d hr hu hd (by simpa using hi) (hK' _ _ ?_)
 simpa using hK
theorem isR_take (f : Int → Option Cls) (on : List Int) (id : Int) {k : Nat} (h : k < on.length) : isR f (on.take (k + 1)) id = (isR f (on.take k) id || (id == 0 || has (upl f 16 on[k]) id)) := by
 unfold isR
 rw [take_snoc'' on k h, List.any_append]
 simp
theorem isR_at {f : Int → Option Cls} {on : List Int} {id : Int} {k : Nat} (h : k < on.length) (e : (id == 0 || has (upl f 16 on[k]) id) = true) : isR f on id = true := by
 unfold isR
 rw [List.any_eq_true]
 exact ⟨on[k], List.getElem_mem h, e⟩
theorem rupI {f : Int → Option Cls} {L : List Int} (I : TI f L) (n : Nat) (hn : L.length = n) (num : Int) (hnum : iok num) (ao : Option Addr) (cap : Nat) (w : World) (hR : RwV crow 14 w ao (rowsX f L)) :
  Calls Try.prog 34 #[.slice ao n cap, .int .i64 num] w fun e w' => ∃ uo uc, e = .returned (.slice uo (upl f 16 num).length uc) ∧ IntsV w' uo (upl f 16 num) ∧ Below w.heap.size w w' := by
 refine (rup_c I n hn num hnum ao cap w hR).mono ?_
 rintro e z' ⟨v, rfl, hr, hb⟩
 obtain ⟨uo, uc, rfl⟩ := row_form hr
 exact ⟨uo, uc, rfl, (own_ints hr).2, hb⟩
theorem ris_c {f : Int → Option Cls} {L : List Int} (I : TI f L) (n : Nat) (hn : L.length = n) (on : List Int) (m : Nat) (hm : on.length = m) (hle : m ≤ 1000) (hon : ∀ y ∈ on, iok y) (id : Int) (ao a2 : Option Addr) (cap c2 : Nat) (w : World) (hR : RwV crow 14 w ao (rowsX f L)) (hO : IntsV w a2 on) :
  Calls Try.prog 35 #[.slice ao n cap, .slice a2 m c2, .int .i64 id] w fun ee w' => ee = .returned (.bool (isR f on id)) ∧ Below w.heap.size w w' := by
 have HR := Lib.hid hR
 have HO := Lib.hid hO
 have HI := Lib.hid I
 have HM := Lib.hid hm
 have HON := Lib.hid hon
 have HN := Lib.hid hn
 clear hR hO I hm hon hn
 go_enter Try.func35, Try.ntmps35
 go_wp2_with fail
 go_loopg [11] m (fun k9 s11 wr => ∃ k : Nat, s11 = .int .i64 k ∧ k ≤ m ∧ isR f (on.take k) id = false ∧ Below w.heap.size w wr ∧ m - k ≤ k9)
 case atStart => exact ⟨0, rfl, Nat.zero_le _, rfl, Below.refl _ _, by omega⟩
 case round =>
  obtain ⟨k, rfl, hk, hno, hB, hk9⟩ := hrel
  have HB := Lib.hid hB
  by_cases hlt : k < m
  ·have hlC : k < on.length := by rw [HM.out]; exact hlt
   obtain ⟨b, o, rfl, hb, hce⟩ := (HO.out.below hB) k hlC
   have hta := isR_take f on id hlC
   have hat := fun e => isR_at (f := f) (id := id) hlC e
   have hyi := HON.out _ (List.getElem_mem hlC)
   obtain ⟨y, hy⟩ : ∃ y, on[k] = y := ⟨_, rfl⟩
   rw [hy] at hce hta hat hyi
   rw [hno, Bool.false_or] at hta
   by_cases h0 : id = 0
   ·have q0 : (id == 0) = true := by simpa using h0
    have HT := Lib.hid (hat (by rw [q0]; rfl))
    clear hB hno hta hat hyi hy hlC h0
    go_wp2_with (first | go_guarded)
    go_ret
    exact ⟨by rw [HT.out]; rfl, HB.out⟩
   ·have q0 : (id == 0) = false := by simpa using h0
    rw [q0, Bool.false_or] at hta hat
    obtain ⟨U, hU⟩ : ∃ U, upl f 16 y = U := ⟨_, rfl⟩
    obtain ⟨u, hu⟩ : ∃ u, U.length = u := ⟨_, rfl⟩
    have hu16 : u ≤ 16 := by rw [← hu, ← hU]; exact upl_len f 16 y
    have KU : Hid (∀ z, RwV crow 14 z ao (rowsX f L) → Calls Try.prog 34 #[.slice ao n cap, .int .i64 y] z fun e z' => ∃ uo uc, e = .returned (.slice uo u uc) ∧ IntsV z' uo U ∧ Below z.heap.size z z') := Lib.hid (fun z hz => by have := rupI HI.out n HN.out y hyi ao cap z hz; rw [hU, hu] at this; exact this)
    rw [hU] at hta hat
    have KH : Hid (∀ z a c, IntsV z a U → Calls Try.prog 10 #[.slice a u c, .int .i64 id] z fun e z' => e = .returned (.bool (has U id)) ∧ z = z') := Lib.hid (fun z a c h => by have := has23_c U a c id (by omega) z h; rw [hu] at this; exact this)
    obtain ⟨r, hr⟩ : ∃ r, has U id = r := ⟨_, rfl⟩
    rw [hr] at hta hat KH
    cases r with
    | true =>
     have HT := Lib.hid (hat rfl)
     clear hB hno hta hat hyi hy hlC h0 hU hu hr
     go_wp2_with (first
      | go_guarded
      | (go_at_call 10; (with_reducible refine (KH.out _ _ _ HU1.out).mono ?_); rintro _ w2 ⟨rfl, rfl⟩)
      | (go_at_call 34; (with_reducible refine (KU.out _ (HR.out.below HB.out)).mono ?_); rintro _ w1 ⟨uo, uc, rfl, hv, hbel⟩; have HU1 := Lib.hid hv; have HB1 := Lib.hid (HB.out.trans (hbel.mono HB.out.size)); clear hv hbel))
     go_ret
     exact ⟨by rw [HT.out]; rfl, HB1.out⟩
    | false =>
     have HT := Lib.hid hta
     clear hB hno hta hat hyi hy hlC h0 hU hu hr
     go_wp2_with (first
      | go_guarded
      | (go_at_call 10; (with_reducible refine (KH.out _ _ _ HU1.out).mono ?_); rintro _ w2 ⟨rfl, rfl⟩)
      | (go_at_call 34; (with_reducible refine (KU.out _ (HR.out.below HB.out)).mono ?_); rintro _ w1 ⟨uo, uc, rfl, hv, hbel⟩; have HU1 := Lib.hid hv; have HB1 := Lib.hid (HB.out.trans (hbel.mono HB.out.size)); clear hv hbel))
     go_roundg (m - (k + 1))
     case rel => exact ⟨k + 1, (by go_num), by omega, HT.out, HB1.out, Nat.le_refl _⟩
     case measure => omega
  ·obtain rfl : k = m := by omega
   have hfin : on.take k = on := by rw [← HM.out, List.take_length]
   rw [hfin] at hno
   have HT := Lib.hid hno
   clear hB hno hfin hlt
   go_wp2_with (first | go_guarded)
   go_ret
   exact ⟨by rw [HT.out]; rfl, HB.out⟩
theorem rsh23_c {c : Cls} (h : CIn c) (w : World) : Calls Try.prog 37 #[.agg #[.int .i64 c.id, .int .i64 c.par, .bool c.leaf, .int .u64 c.ra, .int .u64 c.rb, .int .u64 c.rc, .int .u64 c.la, .int .u64 c.lb, .int .u64 c.lc, .int .u64 c.ua, .int .u64 c.ub, .int .u64 c.uc, .int .i64 c.pk, .int .i64 c.bt]] w fun ee w' => ee = .returned (.bool (sh1 c)) ∧ Below w.heap.size w w' := by
 have HB := Lib.hid (Below.refl w.heap.size w)
 obtain ⟨r, hr⟩ : ∃ r, sh1 c = r := ⟨_, rfl⟩
 have KR := Lib.hid (fun z => rof_c h.la h.lb h.lc (r := sh1 c) rfl z)
 rw [hr] at KR ⊢
 clear h hr
 go_enter Try.func37, Try.ntmps37
 go_wp2_with (first
  | go_guarded
  | (go_at_call 66; (with_reducible refine (KR.out _).mono ?_); rintro _ w2 ⟨k, rfl, hk, hbel⟩; have HB2 := Lib.hid ((Below.alloc (Below.refl _ _) (Nat.le_refl _) _).trans (hbel.mono (by simp))); clear hbel))
 go_ret
 exact ⟨rfl, HB2.out⟩
theorem rlf_c {f : Int → Option Cls} {L : List Int} (I : TI f L) (n : Nat) (hn : L.length = n) (num : Int) (ao : Option Addr) (cap : Nat) (w : World) (hR : RwV crow 14 w ao (rowsX f L)) :
  Calls Try.prog 16 #[.slice ao n cap, .int .i64 num] w fun ee w' => ee = .returned (.bool (lfM (mfA f) num)) ∧ Below w.heap.size w w' := by
 have hl : (rowsX f L).length = n := by rw [rowsX_len]; exact hn
 have hn64 : n ≤ 64 := by rw [← hn]; exact I.len
 have KF := Lib.hid (fun z (hz : RwV crow 14 z ao (rowsX f L)) => rfind_c (rowsX f L) n hl (by omega) num ao cap z hz)
 have INF := Lib.hid cl_info
 cases hc : f num with
 | none =>
  have e1 : lfM (mfA f) num = false := by unfold lfM mfA; rw [hc]
  rw [e1]
  rw [fidx_none I hc] at KF
  have HR := Lib.hid hR
  clear hR hl hn I e1 hc
  go_enter Try.func16, Try.ntmps16
  go_wp2_with (first | go_guarded | (go_at_call 36; (with_reducible refine (KF.out _ HR.out).mono ?_); rintro _ w1 ⟨rfl, hbel⟩; have HB := Lib.hid hbel; clear hbel))
  go_ret
  exact ⟨rfl, HB.out⟩
 | some c =>
  have e1 : lfM (mfA f) num = (c.leaf && sh1 c) := by
   unfold lfM mfA
   rw [hc]
   by_cases hs : sh1 c = true
   ·simp [hs]
   ·simp [hs]
  obtain ⟨i, hi, hfi, hci⟩ := fidx_some I hc
  rw [hfi] at KF
  have hin := (I.cls num c hc).2.1
  have KR := Lib.hid (fun z => rsh23_c hin z)
  obtain ⟨b, o, rfl, hb, hra⟩ := hR i hi
  rw [hci] at hra
  have HRA := Lib.hid (show w.rangeAt b (o + i * 14) (#[.int .i64 c.id, .int .i64 c.par, .bool c.leaf, .int .u64 c.ra, .int .u64 c.rb, .int .u64 c.rc, .int .u64 c.la, .int .u64 c.lb, .int .u64 c.lc, .int .u64 c.ua, .int .u64 c.ub, .int .u64 c.uc, .int .i64 c.pk, .int .i64 c.bt] : Array Value).toList from hra)
  have HR := Lib.hid hR
  have hin2 : i < n := by omega
  have HBL := Lib.hid hb
  rw [e1]
  obtain ⟨lf, hlf⟩ : ∃ r, c.leaf = r := ⟨_, rfl⟩
  obtain ⟨r, hr⟩ : ∃ r, sh1 c = r := ⟨_, rfl⟩
  rw [hr] at KR ⊢
  have g2 := hra 2 _ rfl
  rw [hlf] at g2 ⊢
  have G2 := Lib.hid g2
  clear hR hl hn I e1 hc hfi hci hi hra hin hr hb hlf g2
  cases lf with
  | false =>
   go_enter Try.func16, Try.ntmps16
   go_wp2_with (first
    | go_guarded
    | (go_at_call 36; (with_reducible refine (KF.out _ HR.out).mono ?_); rintro _ w1 ⟨rfl, hbel⟩; have g6 := (hbel.cell (p := ⟨b, o + i * 14 + 2, none⟩) HBL.out).trans G2.out; have gl := Nat.lt_of_lt_of_le HBL.out hbel.size; have HB := Lib.hid hbel; clear hbel))
   go_ret
   exact ⟨rfl, HB.out⟩
  | true =>
   go_enter Try.func16, Try.ntmps16
   go_wp2_with (first
    | (refine wpList_part_get_g 54 _ rfl b (o + i * 14) #[.int .i64 c.id, .int .i64 c.par, .bool c.leaf, .int .u64 c.ra, .int .u64 c.rb, .int .u64 c.rc, .int .u64 c.la, .int .u64 c.lb, .int .u64 c.lc, .int .u64 c.ua, .int .u64 c.ub, .int .u64 c.uc, .int .i64 c.pk, .int .i64 c.bt] _ HR1.out rfl Try.underlying54 rfl INF.out (by rfl) ?_)
    | go_guarded
    | (go_at_call 37; (with_reducible refine (KR.out _).mono ?_); rintro _ w2 ⟨rfl, hbel⟩; have HB2 := Lib.hid (HB.out.trans (hbel.mono HB.out.size)); clear hbel)
    | (go_at_call 36; (with_reducible refine (KF.out _ HR.out).mono ?_); rintro _ w1 ⟨rfl, hbel⟩; have g6 := (hbel.cell (p := ⟨b, o + i * 14 + 2, none⟩) HBL.out).trans G2.out; have gl := Nat.lt_of_lt_of_le HBL.out hbel.size; have HR1 := Lib.hid (show w1.rangeAt b (o + i * 14) (#[.int .i64 c.id, .int .i64 c.par, .bool c.leaf, .int .u64 c.ra, .int .u64 c.rb, .int .u64 c.rc, .int .u64 c.la, .int .u64 c.lb, .int .u64 c.lc, .int .u64 c.ua, .int .u64 c.ub, .int .u64 c.uc, .int .i64 c.pk, .int .i64 c.bt] : Array Value).toList from fun j v hv => (hbel.cell (p := ⟨b, o + i * 14 + j, none⟩) HBL.out).trans (HRA.out j v hv)); have HB := Lib.hid hbel; clear hbel))
   go_ret
   exact ⟨rfl, HB2.out⟩
end Go.Proofs.Ytmmahgfijiocfaa
end
