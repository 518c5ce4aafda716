/- Joined texts. -/
import Derived.Test.YtmmahgfijiocfaaBs0
import Derived.Test.YtmmahgfijiocfaaBs1
import Derived.Test.YtmmahgfijiocfaaBs10
import Derived.Test.YtmmahgfijiocfaaBs11
import Derived.Test.YtmmahgfijiocfaaBs12
import Derived.Test.YtmmahgfijiocfaaBs13
import Derived.Test.YtmmahgfijiocfaaBs15
import Derived.Test.YtmmahgfijiocfaaBs16
import Derived.Test.YtmmahgfijiocfaaBs2
import Derived.Test.YtmmahgfijiocfaaBs3
import Derived.Test.YtmmahgfijiocfaaBs4
import Derived.Test.YtmmahgfijiocfaaBs5
import Derived.Test.YtmmahgfijiocfaaBs6
import Derived.Test.YtmmahgfijiocfaaBs7
import Derived.Test.YtmmahgfijiocfaaBs8
import Derived.Test.YtmmahgfijiocfaaBs9
import Derived.Test.YtmmahgfijiocfaaAl1
import Derived.Test.YtmmahgfijiocfaaAl2
import Derived.Test.YtmmahgfijiocfaaAl3
import Derived.Test.YtmmahgfijiocfaaAl4
import Derived.Test.YtmmahgfijiocfaaAl5
import Derived.Test.YtmmahgfijiocfaaAl6
import Derived.Test.YtmmahgfijiocfaaAl7
import Derived.Maps.Keyed
import Derived.Maps.Own
import Derived.Maps.OwnOps
import Derived.DeepKeys5
import Derived.StillTail
import Derived.Deep.Quiet
import Derived.Deep.QuietTactic
import Derived.Test.YtmmahgfijiocfaaChecked
import Derived.WalkKit
import Derived.BigQuiet
import Derived.OpenShut
import Derived.Deep.RegionHeld3
import Derived.Deep.RegionWith
import Derived.Deep.DeepCutAuto
import Derived.WalkSpells
import Derived.WalkSmall
import Derived.Lib.Hide
import Derived.RowKit
import Derived.IntWalk
import Derived.Maps.RangeRun
import Derived.Deep.MidRow
import Derived.Deep.WholeRow
import Derived.Laws.CopyRow
import Derived.Deep.OwnRows
import Derived.ArgAppend
import Derived.Sort.OwnSortedInts
import Derived.Shelf.SlIterI.Nil
import Derived.Shelf.SortM.Plain
import Derived.Shelf.SortM.SortNone
import Derived.Ground.GgzProg
import Derived.Ground.SlgmProg
import Derived.Laws.AppendOwn
import Derived.Laws.AppendOwnNone
import Derived.ProofKit
import Derived.Below
import Derived.Carry
import Derived.ReadAgain
import Derived.ChangeOld
import Derived.Deep.Slices
import Derived.Deep.Onto
import Derived.LoopN
import Derived.Shelf.SlMaps.Clone
import Derived.Ground.SlmcProg
set_option linter.unusedVariables false
set_option linter.unusedSimpArgs false
set_option maxRecDepth 100000
set_option maxHeartbeats 16000000
section
namespace Go.Proofs.Ytmmahgfijiocfaa
open Go.RowKit Fg Reg Go.Maps Go.Sort Go.Shelf
attribute [local irreducible] Reg.wE VR
def AllX (z : World) (M : List Int) (e : Ending) (z' : World) : Prop := ∃ v, e = .returned v ∧ z'.ownsRow z.heap.size 3 1 v M.length (M.map (Value.int .i64)) ∧ Below z.heap.size z z'
theorem ins_all {l : List Int} {id : Int} (h : ∀ y ∈ l, y < id) : insA id l = l ++ [id] := by
 unfold insA
 rw [List.filter_eq_self.2 (fun y hy => by simpa using h y hy), List.filter_eq_nil_iff.2 (fun y hy => by have := h y hy; simp; omega)]
theorem ins_put {l : List Int} {id y : Int} (h : ∀ q ∈ l, q < id) (hy : id < y) : insA id (l ++ [y]) = l ++ [id] ++ [y] := by
 unfold insA
 rw [List.filter_append, List.filter_append]
 have h1 : [y].filter (fun q => decide (q < id)) = [] := by simp; omega
 have h2 : [y].filter (fun q => decide (id < q)) = [y] := by simp [hy]
 have h3 : l.filter (fun q => decide (q < id)) = l := List.filter_eq_self.2 (fun q hq => by simpa using h q hq)
 have h4 : l.filter (fun q => decide (id < q)) = [] := List.filter_eq_nil_iff.2 (fun q hq => by have := h q hq; simp; omega)
 rw [h1, h2, h3, h4]
 simp
theorem ins_more {l : List Int} {id y : Int} (hy : id < y) : insA id (l ++ [y]) = insA id l ++ [y] := by
 unfold insA
 rw [List.filter_append, List.filter_append]
 have h1 : [y].filter (fun q => decide (q < id)) = [] := by simp; omega
 have h2 : [y].filter (fun q => decide (id < q)) = [y] := by simp [hy]
 rw [h1, h2]
 simp
def wst (id : Int) (l : List Int) (pt : Bool) : List Int := if pt = true then insA id l else l
theorem rwi_c (on : List Int) (n : Nat) (hn : on.length = n) (hle : n ≤ 1000) (hs : on.Pairwise (· < ·)) (id : Int) (hid : id ∉ on) (ao : Option Addr) (cap : Nat) (w : World) (hI : IntsV w ao on) :
  Calls Try.prog 17 #[.slice ao n cap, .int .i64 id] w (AllX w (insA id on)) := by
 obtain ⟨ii, ci0, cz0, cz1, cz2⟩ := int_partsA
 have CI0 := Lib.hid ci0
 have CZ0 := Lib.hid cz0
 have CZ1 := Lib.hid cz1
 have CZ2 := Lib.hid cz2
 have HN := Lib.hid hn
 have HI := Lib.hid hI
 have HS := Lib.hid hs
 have HID := Lib.hid hid
 clear ci0 cz0 cz1 cz2 hn hI hs hid
 go_enter Try.func17, Try.ntmps17
 go_wp2_with fail
 go_loopg [5, 6, 11] n (fun k9 s5 s6 s11 wr => ∃ (i k : Nat) (pt : Bool) (oo : Option Addr) (c : Nat), s5 = .slice oo k c ∧ s6 = .bool pt ∧ s11 = .int .i64 i ∧ i ≤ n ∧ (wst id (on.take i) pt).length = k ∧ wr.ownsRow w.heap.size 3 1 (.slice oo k c) k ((wst id (on.take i) pt).map (Value.int .i64)) ∧ (pt = false → ∀ y ∈ on.take i, y < id) ∧ (pt = true → ∃ y ∈ on.take i, id < y) ∧ Below w.heap.size w wr ∧ n - i ≤ k9)
 case atStart => exact ⟨0, 0, false, none, 0, rfl, rfl, rfl, Nat.zero_le _, rfl, World.ownsRow_nil _ _ _ _, fun _ y hy => by simp at hy, fun h => (by cases h), Below.refl _ _, by omega⟩
 case round =>
  obtain ⟨i, k, pt, oo, c, rfl, rfl, rfl, hi, hk, hO, hp0, hp1, hB, hk9⟩ := hrel
  have HO := Lib.hid hO
  have HB := Lib.hid hB
  have hk1 : k ≤ 1001 := by
   rw [← hk]
   have h1 : (on.take i).length ≤ 1000 := by simp; omega
   unfold wst
   cases pt with
   | false => simpa using Nat.le_succ_of_le h1
   | true =>
    rw [if_pos rfl, insA_len (fun g => HID.out (List.mem_of_mem_take g))]
    omega
  by_cases hlt : i < n
  ·have hlC : i < on.length := by rw [HN.out]; exact hlt
   obtain ⟨b, o, rfl, hb, hce⟩ := (HI.out.below hB) i hlC
   have hts := take_snoc'' on i hlC
   have hyn : on[i] ≠ id := fun e => HID.out (by rw [← e]; exact List.getElem_mem hlC)
   have hbig : ∀ q ∈ on.take i, q < on[i] := fun q hq => by
    obtain ⟨j, hj, rfl⟩ := List.mem_take_iff_getElem.1 hq
    exact List.pairwise_iff_getElem.1 HS.out j i (by omega) hlC (by omega)
   obtain ⟨y, hy⟩ : ∃ y, on[i] = y := ⟨_, rfl⟩
   rw [hy] at hce hts hyn hbig
   cases pt with
   | false =>
    have hall := hp0 rfl
    by_cases hyi : id < y
    ·have q1 : decide (id < y) = true := decide_eq_true hyi
     have hw : wst id (on.take (i + 1)) true = wst id (on.take i) false ++ [id] ++ [y] := by unfold wst; rw [if_pos rfl, if_neg (by simp), hts, ins_put hall hyi]
     have HW := Lib.hid hw
     have HM := Lib.hid (show ∃ q ∈ on.take (i + 1), id < q from ⟨y, by rw [hts]; simp, hyi⟩)
     have HK := Lib.hid hk
     clear hO hp0 hp1 hB hk hlC hts hyn hbig hy hall hyi hw
     go_wp2_with (first
      | go_guarded
      | (at_builtin; refine wpList_append_own _ rfl _ _ 31 rfl w.heap.size 3 ii _ 1 8 Try.underlying31 CI0.out CZ0.out CZ1.out CZ2.out rfl (by decide) (.slice a2 (k + 1) c2) _ _ rfl (World.ownsRow.alloc HO2.out _) ⟨_, 0, none⟩ 1 1 [.int .i64 y] rfl rfl ?c1 ?c2 ?c3 ?c4 ?c5 ?_; (case c1 => (intro q u hu; (rcases q with _ | q <;> simp at hu <;> (try subst hu) <;> simp [Addr.add, go_sem, *]))); (case c2 => (intro v hv; simp at hv; (first | (subst hv; rfl) | (rcases hv with rfl <;> rfl)))); (case c3 => (unfold maxLen; omega)); (case c4 => omega); (case c5 => (have := HB2.out.size; simp; omega)); intro v2 z3 hown3 hg2 _; (have HB3 : Hid (Below w.heap.size w z3) := Lib.hid (HB2.out.trans ((Below.alloc (Below.refl _ _) HB2.out.size _).grown hg2 (by have := HB2.out.size; simp; omega) (fun q hq => (HO2.out.lt q hq).1)))); obtain ⟨a3, c3, rfl⟩ := row_form hown3; (have HO3 := Lib.hid hown3); clear hown3 hg2)
      | (at_builtin; refine wpList_append_own _ rfl _ _ 31 rfl w.heap.size 3 ii _ 1 8 Try.underlying31 CI0.out CZ0.out CZ1.out CZ2.out rfl (by decide) (.slice oo k c) _ _ rfl (World.ownsRow.alloc HO.out _) ⟨_, 0, none⟩ 1 1 [.int .i64 id] rfl rfl ?c1 ?c2 ?c3 ?c4 ?c5 ?_; (case c1 => (intro q u hu; (rcases q with _ | q <;> simp at hu <;> (try subst hu) <;> simp [Addr.add, go_sem, *]))); (case c2 => (intro v hv; simp at hv; (first | (subst hv; rfl) | (rcases hv with rfl <;> rfl)))); (case c3 => (unfold maxLen; omega)); (case c4 => omega); (case c5 => (have := HB.out.size; simp; omega)); intro v2 z2 hown2 hg2 _; (have HB2 : Hid (Below w.heap.size w z2) := Lib.hid (HB.out.trans ((Below.alloc (Below.refl _ _) HB.out.size _).grown hg2 (by have := HB.out.size; simp; omega) (fun q hq => (HO.out.lt q hq).1)))); obtain ⟨a2, c2, rfl⟩ := row_form hown2; (have HO2 := Lib.hid hown2); clear hown2 hg2))
     go_roundg (n - (i + 1))
     case rel => exact ⟨i + 1, k + 1 + 1, true, a3, c3, rfl, rfl, by go_num, by omega, by rw [HW.out, List.length_append, List.length_append, HK.out]; rfl, by rw [HW.out, List.map_append, List.map_append]; exact HO3.out, fun h => (by cases h), fun _ => HM.out, HB3.out, Nat.le_refl _⟩
     case measure => omega
    ·have q1 : decide (id < y) = false := decide_eq_false hyi
     have hw : wst id (on.take (i + 1)) false = wst id (on.take i) false ++ [y] := by unfold wst; rw [if_neg (by simp), if_neg (by simp), hts]
     have HW := Lib.hid hw
     have HM := Lib.hid (show ∀ q ∈ on.take (i + 1), q < id from fun q hq => by
      rw [hts] at hq
      rcases List.mem_append.1 hq with g | g
      ·exact hall q g
      ·rw [List.mem_singleton] at g; subst g; omega)
     have HK := Lib.hid hk
     clear hO hp0 hp1 hB hk hlC hts hyn hbig hy hall hyi hw
     go_wp2_with (first | go_guarded | (at_builtin; refine wpList_append_own _ rfl _ _ 31 rfl w.heap.size 3 ii _ 1 8 Try.underlying31 CI0.out CZ0.out CZ1.out CZ2.out rfl (by decide) (.slice oo k c) _ _ rfl (World.ownsRow.alloc HO.out _) ⟨_, 0, none⟩ 1 1 [.int .i64 y] rfl rfl ?c1 ?c2 ?c3 ?c4 ?c5 ?_; (case c1 => (intro q u hu; (rcases q with _ | q <;> simp at hu <;> (try subst hu) <;> simp [Addr.add, go_sem, *]))); (case c2 => (intro v hv; simp at hv; (first | (subst hv; rfl) | (rcases hv with rfl <;> rfl)))); (case c3 => (unfold maxLen; omega)); (case c4 => omega); (case c5 => (have := HB.out.size; simp; omega)); intro v2 z2 hown2 hg2 _; (have HBX : Hid (Below w.heap.size w z2) := Lib.hid (HB.out.trans ((Below.alloc (Below.refl _ _) HB.out.size _).grown hg2 (by have := HB.out.size; simp; omega) (fun q hq => (HO.out.lt q hq).1)))); obtain ⟨a2, c2, rfl⟩ := row_form hown2; (have HOX := Lib.hid hown2); clear hown2 hg2))
     go_roundg (n - (i + 1))
     case rel => exact ⟨i + 1, k + 1, false, a2, c2, rfl, rfl, by go_num, by omega, by rw [HW.out, List.length_append, HK.out]; rfl, by rw [HW.out, List.map_append]; exact HOX.out, fun _ => HM.out, fun h => (by cases h), HBX.out, Nat.le_refl _⟩
     case measure => omega
   | true =>
    obtain ⟨q, hq, hqi⟩ := hp1 rfl
    have hyi : id < y := Int.lt_trans hqi (hbig q hq)
    have hw : wst id (on.take (i + 1)) true = wst id (on.take i) true ++ [y] := by unfold wst; rw [if_pos rfl, if_pos rfl, hts, ins_more hyi]
    have HW := Lib.hid hw
    have HM := Lib.hid (show ∃ q ∈ on.take (i + 1), id < q from ⟨y, by rw [hts]; simp, hyi⟩)
    have HK := Lib.hid hk
    clear hO hp0 hp1 hB hk hlC hts hyn hbig hy hyi hw hq hqi
    go_wp2_with (first | go_guarded | (at_builtin; refine wpList_append_own _ rfl _ _ 31 rfl w.heap.size 3 ii _ 1 8 Try.underlying31 CI0.out CZ0.out CZ1.out CZ2.out rfl (by decide) (.slice oo k c) _ _ rfl (World.ownsRow.alloc HO.out _) ⟨_, 0, none⟩ 1 1 [.int .i64 y] rfl rfl ?c1 ?c2 ?c3 ?c4 ?c5 ?_; (case c1 => (intro q u hu; (rcases q with _ | q <;> simp at hu <;> (try subst hu) <;> simp [Addr.add, go_sem, *]))); (case c2 => (intro v hv; simp at hv; (first | (subst hv; rfl) | (rcases hv with rfl <;> rfl)))); (case c3 => (unfold maxLen; omega)); (case c4 => omega); (case c5 => (have := HB.out.size; simp; omega)); intro v2 z2 hown2 hg2 _; (have HBX : Hid (Below w.heap.size w z2) := Lib.hid (HB.out.trans ((Below.alloc (Below.refl _ _) HB.out.size _).grown hg2 (by have := HB.out.size; simp; omega) (fun q hq => (HO.out.lt q hq).1)))); obtain ⟨a2, c2, rfl⟩ := row_form hown2; (have HOX := Lib.hid hown2); clear hown2 hg2))
    go_roundg (n - (i + 1))
    case rel => exact ⟨i + 1, k + 1, true, a2, c2, rfl, rfl, by go_num, by omega, by rw [HW.out, List.length_append, HK.out]; rfl, by rw [HW.out, List.map_append]; exact HOX.out, fun h => (by cases h), fun _ => HM.out, HBX.out, Nat.le_refl _⟩
    case measure => omega
  ·obtain rfl : i = n := by omega
   have hf : on.take i = on := by rw [← HN.out, List.take_length]
   rw [hf] at hk hO hp0
   cases pt with
   | true =>
    have hw : wst id on true = insA id on := rfl
    rw [hw] at hk hO
    have HK := Lib.hid hk
    have HOE := Lib.hid hO
    clear hO hp0 hp1 hB hk hlt hf hw HO
    go_wp2_with (first | go_guarded)
    refine bodyPost_ret (v := .slice oo k c) (by simp [results, Try.results17, go_sem, *]) rfl ?_
    exact ⟨_, rfl, by rw [HK.out]; exact HOE.out, HB.out⟩
   | false =>
    have hw : insA id on = wst id on false ++ [id] := by rw [ins_all (hp0 rfl)]; rfl
    have HW := Lib.hid hw
    have HK := Lib.hid hk
    rw [← hf] at hO
    clear hO hp0 hp1 hB hk hlt hw
    rw [hf] at HO
    clear hf
    go_wp2_with (first | go_guarded | (at_builtin; refine wpList_append_own _ rfl _ _ 31 rfl w.heap.size 3 ii _ 1 8 Try.underlying31 CI0.out CZ0.out CZ1.out CZ2.out rfl (by decide) (.slice oo k c) _ _ rfl (World.ownsRow.alloc HO.out _) ⟨_, 0, none⟩ 1 1 [.int .i64 id] rfl rfl ?c1 ?c2 ?c3 ?c4 ?c5 ?_; (case c1 => (intro q u hu; (rcases q with _ | q <;> simp at hu <;> (try subst hu) <;> simp [Addr.add, go_sem, *]))); (case c2 => (intro v hv; simp at hv; (first | (subst hv; rfl) | (rcases hv with rfl <;> rfl)))); (case c3 => (unfold maxLen; omega)); (case c4 => omega); (case c5 => (have := HB.out.size; simp; omega)); intro v2 z2 hown2 hg2 _; (have HBX : Hid (Below w.heap.size w z2) := Lib.hid (HB.out.trans ((Below.alloc (Below.refl _ _) HB.out.size _).grown hg2 (by have := HB.out.size; simp; omega) (fun q hq => (HO.out.lt q hq).1)))); obtain ⟨a2, c2, rfl⟩ := row_form hown2; (have HOX := Lib.hid hown2); clear hown2 hg2))
    refine bodyPost_ret (v := .slice a2 (k + 1) c2) (by simp [results, Try.results17, go_sem, *]) rfl ?_
    refine ⟨_, rfl, ?_, HBX.out⟩
    rw [HW.out, List.length_append, HK.out, List.map_append]
    exact HOX.out
theorem rtu_c {f : Int → Option Cls} {L : List Int} (I : TI f L) (n : Nat) (hn : L.length = n) (yes no : List Int) (my mn : Nat) (hy : yes.length = my) (hno : no.length = mn) (hly : my ≤ 1000) (hln : mn ≤ 1000) (hiy : ∀ y ∈ yes, iok y) (hin : ∀ y ∈ no, iok y) (id : Int) (hid : iok id) (ao a2 a3 : Option Addr) (cap cy cn : Nat) (w : World) (hR : RwV crow 14 w ao (rowsX f L)) (hY : IntsV w a2 yes) (hN : IntsV w a3 no) :
  Calls Try.prog 14 #[.slice ao n cap, .slice a2 my cy, .slice a3 mn cn, .int .i64 id] w (AllX w ((upl f 16 id).filter (fun y => isR f yes y && !isR f no y))) := by
 obtain ⟨ii, ci0, cz0, cz1, cz2⟩ := int_partsA
 have CI0 := Lib.hid ci0
 have CZ0 := Lib.hid cz0
 have CZ1 := Lib.hid cz1
 have CZ2 := Lib.hid cz2
 obtain ⟨p, hp⟩ : ∃ p, (fun y => isR f yes y && !isR f no y) = p := ⟨_, rfl⟩
 rw [hp]
 have KY : Hid (∀ z y, Below w.heap.size w z → Calls Try.prog 35 #[.slice ao n cap, .slice a2 my cy, .int .i64 y] z fun ee w' => ee = .returned (.bool (isR f yes y)) ∧ Below z.heap.size z w') := Lib.hid (fun z y hz => ris_c I n hn yes my hy hly hiy y ao a2 cap cy z (hR.below hz) (hY.below hz))
 have KN : Hid (∀ z y, Below w.heap.size w z → Calls Try.prog 35 #[.slice ao n cap, .slice a3 mn cn, .int .i64 y] z fun ee w' => ee = .returned (.bool (isR f no y)) ∧ Below z.heap.size z w') := Lib.hid (fun z y hz => ris_c I n hn no mn hno hln hin y ao a3 cap cn z (hR.below hz) (hN.below hz))
 obtain ⟨U, hU⟩ : ∃ U, upl f 16 id = U := ⟨_, rfl⟩
 obtain ⟨u, hu⟩ : ∃ u, U.length = u := ⟨_, rfl⟩
 have hu16 : u ≤ 16 := by rw [← hu, ← hU]; exact upl_len f 16 id
 have KU : Hid (Calls Try.prog 34 #[.slice ao n cap, .int .i64 id] w fun e z' => ∃ uo uc, e = .returned (.slice uo u uc) ∧ IntsV z' uo U ∧ Below w.heap.size w z') := Lib.hid (by have := rupI I n hn id hid ao cap w hR; rw [hU, hu] at this; exact this)
 rw [hU]
 have HU := Lib.hid hu
 have HP := Lib.hid hp
 clear ci0 cz0 cz1 cz2 hR hY hN I hn hy hno hiy hin hU hu hp
 go_enter Try.func14, Try.ntmps14
 go_wp2_with (first | go_guarded | (go_at_call 34; (with_reducible refine KU.out.mono ?_); rintro _ w1 ⟨uo, uc, rfl, hv, hbel⟩; have HUV := Lib.hid hv; have HB1 := Lib.hid hbel; clear hv hbel))
 try go_frame
 have KY2 := Lib.hid (fun z y (hz : Below w1.heap.size w1 z) => KY.out z y (HB1.out.trans (hz.mono HB1.out.size)))
 have KN2 := Lib.hid (fun z y (hz : Below w1.heap.size w1 z) => KN.out z y (HB1.out.trans (hz.mono HB1.out.size)))
 clear KY KN
 go_loopg [9, 16] u (fun k9 s9 s16 wr => ∃ (i k : Nat) (oo : Option Addr) (c : Nat), s9 = .slice oo k c ∧ s16 = .int .i64 i ∧ i ≤ u ∧ ((U.take i).filter p).length = k ∧ wr.ownsRow w1.heap.size 3 1 (.slice oo k c) k (((U.take i).filter p).map (Value.int .i64)) ∧ Below w1.heap.size w1 wr ∧ u - i ≤ k9)
 case atStart => exact ⟨0, 0, none, 0, rfl, rfl, Nat.zero_le _, rfl, World.ownsRow_nil _ _ _ _, Below.refl _ _, by omega⟩
 case round =>
  obtain ⟨i, k, oo, c, rfl, rfl, hi, hk, hO, hB, hk9⟩ := hrel
  have HK := Lib.hid hk
  have HO := Lib.hid hO
  have HB := Lib.hid hB
  have hk1 : k ≤ 16 := by
   rw [← hk]
   exact Nat.le_trans (List.length_filter_le _ _) (by simp; omega)
  by_cases hlt : i < u
  ·have hlC : i < U.length := by rw [HU.out]; exact hlt
   obtain ⟨b, o, rfl, hb, hce⟩ := (HUV.out.below hB) i hlC
   have hfy := filt_yes p hlC
   have hfn := filt_no p hlC
   obtain ⟨y, hy⟩ : ∃ y, U[i] = y := ⟨_, rfl⟩
   rw [hy] at hce hfy hfn
   have KY1 := Lib.hid (fun z hz => KY2.out z y hz)
   have KN1 := Lib.hid (fun z hz => KN2.out z y hz)
   have hpy : p y = (isR f yes y && !isR f no y) := by rw [← HP.out]
   obtain ⟨r, hr⟩ : ∃ r, isR f yes y = r := ⟨_, rfl⟩
   obtain ⟨r2, hr2⟩ : ∃ r, isR f no y = r := ⟨_, rfl⟩
   rw [hr] at KY1 hpy
   rw [hr2] at KN1 hpy
   clear hO hB hk hlC hy hr hr2
   cases r with
   | false =>
    have HW := Lib.hid (hfn hpy)
    clear hfy hfn hpy
    go_wp2_with (first
     | go_guarded
     | (go_at_call 35; (with_reducible refine (KY1.out _ HB.out).mono ?_); rintro _ w3 ⟨rfl, hbel⟩; have HO3 := Lib.hid (row_bel HO.out hbel); have HB3 := Lib.hid (HB.out.trans (hbel.mono HB.out.size)); clear hbel))
    go_roundg (u - (i + 1))
    case rel => exact ⟨i + 1, k, oo, c, rfl, by go_num, by omega, by rw [HW.out]; exact HK.out, by rw [HW.out]; exact HO3.out, HB3.out, Nat.le_refl _⟩
    case measure => omega
   | true =>
    cases r2 with
    | true =>
     have HW := Lib.hid (hfn hpy)
     clear hfy hfn hpy
     go_wp2_with (first
      | go_guarded
      | (go_at_call 35; (with_reducible refine (KN1.out _ HB3.out).mono ?_); rintro _ w4 ⟨rfl, hbel⟩; have HO4 := Lib.hid (row_bel HO3.out hbel); have HB4 := Lib.hid (HB3.out.trans (hbel.mono HB3.out.size)); clear hbel)
      | (go_at_call 35; (with_reducible refine (KY1.out _ HB.out).mono ?_); rintro _ w3 ⟨rfl, hbel⟩; have HO3 := Lib.hid (row_bel HO.out hbel); have HB3 := Lib.hid (HB.out.trans (hbel.mono HB.out.size)); clear hbel))
     go_roundg (u - (i + 1))
     case rel => exact ⟨i + 1, k, oo, c, rfl, by go_num, by omega, by rw [HW.out]; exact HK.out, by rw [HW.out]; exact HO4.out, HB4.out, Nat.le_refl _⟩
     case measure => omega
    | false =>
     have HW := Lib.hid (hfy hpy)
     clear hfy hfn hpy
     go_wp2_with (first
      | go_guarded
      | (at_builtin; refine wpList_append_own _ rfl _ _ 31 rfl w1.heap.size 3 ii _ 1 8 Try.underlying31 CI0.out CZ0.out CZ1.out CZ2.out rfl (by decide) (.slice oo k c) _ _ rfl (World.ownsRow.alloc HO4.out _) ⟨_, 0, none⟩ 1 1 [.int .i64 y] rfl rfl ?c1 ?c2 ?c3 ?c4 ?c5 ?_; (case c1 => (intro q u hu; (rcases q with _ | q <;> simp at hu <;> (try subst hu) <;> simp [Addr.add, go_sem, *]))); (case c2 => (intro v hv; simp at hv; (first | (subst hv; rfl) | (rcases hv with rfl <;> rfl)))); (case c3 => (unfold maxLen; omega)); (case c4 => omega); (case c5 => (have := HB4.out.size; simp; omega)); intro v2 z2 hown2 hg2 _; (have HBX : Hid (Below w1.heap.size w1 z2) := Lib.hid (HB4.out.trans ((Below.alloc (Below.refl _ _) HB4.out.size _).grown hg2 (by have := HB4.out.size; simp; omega) (fun q hq => (HO4.out.lt q hq).1)))); obtain ⟨a2, c2, rfl⟩ := row_form hown2; (have HOX := Lib.hid hown2); clear hown2 hg2)
      | (go_at_call 35; (with_reducible refine (KN1.out _ HB3.out).mono ?_); rintro _ w4 ⟨rfl, hbel⟩; have HO4 := Lib.hid (row_bel HO3.out hbel); have HB4 := Lib.hid (HB3.out.trans (hbel.mono HB3.out.size)); clear hbel)
      | (go_at_call 35; (with_reducible refine (KY1.out _ HB.out).mono ?_); rintro _ w3 ⟨rfl, hbel⟩; have HO3 := Lib.hid (row_bel HO.out hbel); have HB3 := Lib.hid (HB.out.trans (hbel.mono HB.out.size)); clear hbel))
     go_roundg (u - (i + 1))
     case rel => exact ⟨i + 1, k + 1, a2, c2, rfl, by go_num, by omega, by rw [HW.out, List.length_append, HK.out]; rfl, by rw [HW.out, List.map_append]; exact HOX.out, HBX.out, Nat.le_refl _⟩
     case measure => omega
  ·obtain rfl : i = u := by omega
   have hf : U.take i = U := by rw [← HU.out, List.take_length]
   rw [hf] at hk hO
   have HK := Lib.hid hk
   have HOE := Lib.hid hO
   clear hO hB hk hlt hf HO
   go_wp2_with (first | go_guarded)
   refine bodyPost_ret (v := .slice oo k c) (by simp [results, Try.results14, go_sem, *]) rfl ?_
   exact ⟨_, rfl, by rw [HK.out]; exact ownsRow_base_a HOE.out HB1.out.size, HB1.out.trans (HB.out.mono HB1.out.size)⟩
end Go.Proofs.Ytmmahgfijiocfaa
end
