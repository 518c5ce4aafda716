/- Joined texts. -/
import Derived.Test.YtmmahgfijiocfaaBs0
import Derived.Test.YtmmahgfijiocfaaBs1
import Derived.Test.YtmmahgfijiocfaaBs10
import Derived.Test.YtmmahgfijiocfaaBs11
import Derived.Test.YtmmahgfijiocfaaBs12
import Derived.Test.YtmmahgfijiocfaaBs13
import Derived.Test.YtmmahgfijiocfaaBs15
import Derived.Test.YtmmahgfijiocfaaBs16
import Derived.Test.YtmmahgfijiocfaaBs2
import Derived.Test.YtmmahgfijiocfaaBs3
import Derived.Test.YtmmahgfijiocfaaBs4
import Derived.Test.YtmmahgfijiocfaaBs5
import Derived.Test.YtmmahgfijiocfaaBs6
import Derived.Test.YtmmahgfijiocfaaBs7
import Derived.Test.YtmmahgfijiocfaaBs8
import Derived.Test.YtmmahgfijiocfaaBs9
import Derived.Test.YtmmahgfijiocfaaAl1
import Derived.Test.YtmmahgfijiocfaaAl2
import Derived.Test.YtmmahgfijiocfaaAl3
import Derived.Test.YtmmahgfijiocfaaAl4
import Derived.Test.YtmmahgfijiocfaaAl5
import Derived.Test.YtmmahgfijiocfaaAl6
import Derived.Test.YtmmahgfijiocfaaAl7
import Derived.Test.YtmmahgfijiocfaaAl8
import Derived.Maps.Keyed
import Derived.Maps.Own
import Derived.Maps.OwnOps
import Derived.DeepKeys5
import Derived.StillTail
import Derived.Deep.Quiet
import Derived.Deep.QuietTactic
import Derived.Test.YtmmahgfijiocfaaChecked
import Derived.WalkKit
import Derived.BigQuiet
import Derived.OpenShut
import Derived.Deep.RegionHeld3
import Derived.Deep.RegionWith
import Derived.Deep.DeepCutAuto
import Derived.WalkSpells
import Derived.WalkSmall
import Derived.Lib.Hide
import Derived.RowKit
import Derived.IntWalk
import Derived.Maps.RangeRun
import Derived.Deep.MidRow
import Derived.Deep.WholeRow
import Derived.Laws.CopyRow
import Derived.Deep.OwnRows
import Derived.ArgAppend
import Derived.Sort.OwnSortedInts
import Derived.Shelf.SlIterI.Nil
import Derived.Shelf.SortM.Plain
import Derived.Shelf.SortM.SortNone
import Derived.Ground.GgzProg
import Derived.Ground.SlgmProg
import Derived.Laws.AppendOwn
import Derived.Laws.AppendOwnNone
import Derived.ProofKit
import Derived.Below
import Derived.Carry
import Derived.ReadAgain
import Derived.ChangeOld
import Derived.Deep.Slices
import Derived.Deep.Onto
import Derived.LoopN
import Derived.Shelf.SlMaps.Clone
import Derived.Ground.SlmcProg
set_option linter.unusedVariables false
set_option linter.unusedSimpArgs false
set_option maxRecDepth 100000
set_option maxHeartbeats 16000000
section
namespace Go.Proofs.Ytmmahgfijiocfaa
open Go.RowKit Fg Reg Go.Maps Go.Sort Go.Shelf
attribute [local irreducible] Reg.wE VR
theorem chl_gen {f : Int → Option Cls} {p : Cls → Bool} : ∀ {L : List Int}, (∀ x ∈ L, ∃ c, f x = some c ∧ c.id = x) → ((rowsX f L).filter p).map Cls.id = L.filter (sel f p)
 | [], _ => rfl
 | x :: L, h => by
  obtain ⟨c, hc, hi⟩ := h x List.mem_cons_self
  have ih := chl_gen (p := p) (L := L) fun y hy => h y (List.mem_cons_of_mem _ hy)
  unfold rowsX at ih ⊢
  rw [List.map_cons, List.filter_cons, List.filter_cons]
  have h1 : sel f p x = p c := by unfold sel; rw [hc]
  have h2 : gcl (f x) = c := by rw [hc]; rfl
  rw [h1, h2]
  cases hp : p c
  ·simpa using ih
  ·simp [ih, hi]
theorem rch23_c {f : Int → Option Cls} {L : List Int} (I : TI f L) (n : Nat) (hn : L.length = n) (on : List Int) (mo : Nat) (hmo : on.length = mo) (hle : mo ≤ 1000) (hon : ∀ y ∈ on, iok y) (num : Int) (ao a2 : Option Addr) (cap co : Nat) (w : World) (hR : RwV crow 14 w ao (rowsX f L)) (hO : IntsV w a2 on) :
  Calls Try.prog 38 #[.slice ao n cap, .slice a2 mo co, .int .i64 num] w (AllX w (L.filter (sel f fun c => c.par == num && sh1 c && isR f on c.id))) := by
 obtain ⟨ii, ci0, cz0, cz1, cz2⟩ := int_partsA
 have CI0 := Lib.hid ci0
 have CZ0 := Lib.hid cz0
 have CZ1 := Lib.hid cz1
 have CZ2 := Lib.hid cz2
 have hl : (rowsX f L).length = n := by rw [rowsX_len]; exact hn
 have hn64 : n ≤ 64 := by rw [← hn]; exact I.len
 have hrow := chl_gen (p := fun c => c.par == num && sh1 c && isR f on c.id) (fun x hx => by obtain ⟨d, h1, h2, _⟩ := I.rows x hx; exact ⟨d, h1, h2⟩)
 have KI0 : Hid (∀ z y, Below w.heap.size w z → Calls Try.prog 35 #[.slice ao n cap, .slice a2 mo co, .int .i64 y] z fun ee w' => ee = .returned (.bool (isR f on y)) ∧ Below z.heap.size z w') := Lib.hid (fun z y hz => ris_c I n hn on mo hmo hle hon y ao a2 cap co z (hR.below hz) (hO.below hz))
 have hcin : ∀ (k : Nat) (h : k < (rowsX f L).length), CIn (rowsX f L)[k] := fun k h => by
  have h2 : k < L.length := by rw [rowsX_len] at h; exact h
  exact (I.cls _ _ (rx_at I h2).1).2.1
 obtain ⟨p, hp⟩ : ∃ p : Cls → Bool, (fun c => c.par == num && sh1 c && isR f on c.id) = p := ⟨_, rfl⟩
 have hpe : ∀ c : Cls, p c = (c.par == num && sh1 c && isR f on c.id) := fun c => by rw [← hp]
 rw [hp] at hrow ⊢
 obtain ⟨X, hX⟩ : ∃ X, rowsX f L = X := ⟨_, rfl⟩
 rw [hX] at hrow hl
 rw [show (∀ (k : Nat) (h : k < (rowsX f L).length), CIn (rowsX f L)[k]) = (∀ (k : Nat) (h : k < X.length), CIn X[k]) by rw [hX]] at hcin
 rw [hX] at hR
 have HROW := Lib.hid hrow
 have HPE := Lib.hid hpe
 have HX := Lib.hid hl
 have HR := Lib.hid hR
 have HCI := Lib.hid hcin
 have ALL := Lib.hid cl_alloc
 have INF := Lib.hid cl_info
 have ONE := Lib.hid cla_one
 clear ci0 cz0 cz1 cz2 hR hO I hn hmo hon hl hrow hcin hp hpe hX
 go_enter Try.func38, Try.ntmps38
 go_wp2_with fail
 go_loopg [7, 12] n (fun k9 s5 s10 wr => ∃ (k m : Nat) (oo : Option Addr) (cp : Nat), s5 = .slice oo m cp ∧ s10 = .int .i64 k ∧ k ≤ n ∧ ((X.take k).filter p).length = m ∧ wr.ownsRow w.heap.size 3 1 (.slice oo m cp) m (((X.take k).filter p).map (fun c => Value.int .i64 c.id)) ∧ Below w.heap.size w wr ∧ n - k ≤ k9)
 case atStart => exact ⟨0, 0, none, 0, rfl, rfl, Nat.zero_le _, rfl, World.ownsRow_nil _ _ _ _, Below.refl _ _, by omega⟩
 case round =>
  obtain ⟨k, m, oo, cp, rfl, rfl, hk, hm, hO, hB, hk9⟩ := hrel
  have HM := Lib.hid hm
  have HO := Lib.hid hO
  have HB := Lib.hid hB
  have hmk : m ≤ 64 := by rw [← hm]; exact Nat.le_trans (List.length_filter_le _ _) (by simp; omega)
  by_cases hlt : k < n
  ·have hlC : k < X.length := by rw [HX.out]; exact hlt
   obtain ⟨b, o, rfl, hb, hra⟩ := (HR.out.below hB) k hlC
   have hy := filt_yes p hlC
   have hno := filt_no p hlC
   have hci := HCI.out k hlC
   obtain ⟨c, hce⟩ : ∃ c, X[k] = c := ⟨_, rfl⟩
   rw [hce] at hra hy hno hci
   have hpc := HPE.out c
   have HR1 := Lib.hid (show wr.rangeAt b (o + k * 14) (#[.int .i64 c.id, .int .i64 c.par, .bool c.leaf, .int .u64 c.ra, .int .u64 c.rb, .int .u64 c.rc, .int .u64 c.la, .int .u64 c.lb, .int .u64 c.lc, .int .u64 c.ua, .int .u64 c.ub, .int .u64 c.uc, .int .i64 c.pk, .int .i64 c.bt] : Array Value).toList from hra)
   have KSH := Lib.hid (rsh23_c hci)
   have KIS := Lib.hid (fun z hz => KI0.out z c.id hz)
   obtain ⟨r1, hr1⟩ : ∃ r, sh1 c = r := ⟨_, rfl⟩
   obtain ⟨r2, hr2⟩ : ∃ r, isR f on c.id = r := ⟨_, rfl⟩
   rw [hr1] at KSH
   rw [hr2] at KIS
   rw [hr2] at hpc
   (try rw [hr1] at hpc)
   clear hB hra hce hm hO hci hlC hb hr1 hr2
   cases hp : (c.par == num) with
   | false =>
    rw [hp] at hpc
    have HN2 := Lib.hid (hno (by rw [hpc]; rfl))
    clear hy hno hpc
    go_wp2_with (first
     | go_guarded
     | (refine wpList_var_new rfl rfl 54 #[.int .i64 0, .int .i64 0, .bool false, .int .u64 0, .int .u64 0, .int .u64 0, .int .u64 0, .int .u64 0, .int .u64 0, .int .u64 0, .int .u64 0, .int .u64 0, .int .i64 0, .int .i64 0] ALL.out rfl _ _ rfl #[.int .i64 c.id, .int .i64 c.par, .bool c.leaf, .int .u64 c.ra, .int .u64 c.rb, .int .u64 c.rc, .int .u64 c.la, .int .u64 c.lb, .int .u64 c.lc, .int .u64 c.ua, .int .u64 c.ub, .int .u64 c.uc, .int .i64 c.pk, .int .i64 c.bt] rfl rfl INF.out rfl (ONE.out _) ?_; intro w5 hs5 hb5 hv5; have e5 := hv5.cell 0 rfl; have f5 := hv5.cell 1 rfl; have l5 := hv5.lt; have HV5 := Lib.hid hv5; have HB5 := Lib.hid (HB.out.trans (hb5.mono HB.out.size)); have HO5 := Lib.hid (row_bel HO.out hb5); clear hb5 hv5)
     | (refine wpList_part_get rfl 54 _ rfl b (o + k * 14) #[.int .i64 c.id, .int .i64 c.par, .bool c.leaf, .int .u64 c.ra, .int .u64 c.rb, .int .u64 c.rc, .int .u64 c.la, .int .u64 c.lb, .int .u64 c.lc, .int .u64 c.ua, .int .u64 c.ub, .int .u64 c.uc, .int .i64 c.pk, .int .i64 c.bt] _ HR1.out rfl Try.underlying54 rfl INF.out ?_))
    go_roundg (n - (k + 1))
    case rel => exact ⟨k + 1, m, oo, cp, rfl, by go_num, by omega, by rw [HN2.out]; exact HM.out, by rw [HN2.out]; exact HO5.out, HB5.out, Nat.le_refl _⟩
    case measure => omega
   | true =>
    rw [hp] at hpc
    cases r1 with
    | false =>
     have HN2 := Lib.hid (hno (by rw [hpc]; rfl))
     clear hy hno hpc
     go_wp2_with (first
      | (refine wpList_var_get_g 54 _ rfl _ #[.int .i64 c.id, .int .i64 c.par, .bool c.leaf, .int .u64 c.ra, .int .u64 c.rb, .int .u64 c.rc, .int .u64 c.la, .int .u64 c.lb, .int .u64 c.lc, .int .u64 c.ua, .int .u64 c.ub, .int .u64 c.uc, .int .i64 c.pk, .int .i64 c.bt] _ HV5.out rfl Try.underlying54 rfl INF.out (by rfl) ?_)
      | go_guarded
      | (go_at_call 37; (with_reducible refine (KSH.out _).mono ?_); rintro _ w6 ⟨rfl, hbel⟩; have HV6 := Lib.hid (HV5.out.bel hbel); have e6 := HV6.out.cell 0 rfl; have l6 := HV6.out.lt; have HB6 := Lib.hid (HB5.out.trans (hbel.mono HB5.out.size)); have HO6 := Lib.hid (row_bel HO5.out hbel); clear hbel)
      | (refine wpList_var_new rfl rfl 54 #[.int .i64 0, .int .i64 0, .bool false, .int .u64 0, .int .u64 0, .int .u64 0, .int .u64 0, .int .u64 0, .int .u64 0, .int .u64 0, .int .u64 0, .int .u64 0, .int .i64 0, .int .i64 0] ALL.out rfl _ _ rfl #[.int .i64 c.id, .int .i64 c.par, .bool c.leaf, .int .u64 c.ra, .int .u64 c.rb, .int .u64 c.rc, .int .u64 c.la, .int .u64 c.lb, .int .u64 c.lc, .int .u64 c.ua, .int .u64 c.ub, .int .u64 c.uc, .int .i64 c.pk, .int .i64 c.bt] rfl rfl INF.out rfl (ONE.out _) ?_; intro w5 hs5 hb5 hv5; have e5 := hv5.cell 0 rfl; have f5 := hv5.cell 1 rfl; have l5 := hv5.lt; have HV5 := Lib.hid hv5; have HB5 := Lib.hid (HB.out.trans (hb5.mono HB.out.size)); have HO5 := Lib.hid (row_bel HO.out hb5); clear hb5 hv5)
      | (refine wpList_part_get rfl 54 _ rfl b (o + k * 14) #[.int .i64 c.id, .int .i64 c.par, .bool c.leaf, .int .u64 c.ra, .int .u64 c.rb, .int .u64 c.rc, .int .u64 c.la, .int .u64 c.lb, .int .u64 c.lc, .int .u64 c.ua, .int .u64 c.ub, .int .u64 c.uc, .int .i64 c.pk, .int .i64 c.bt] _ HR1.out rfl Try.underlying54 rfl INF.out ?_))
     go_roundg (n - (k + 1))
     case rel => exact ⟨k + 1, m, oo, cp, rfl, by go_num, by omega, by rw [HN2.out]; exact HM.out, by rw [HN2.out]; exact HO6.out, HB6.out, Nat.le_refl _⟩
     case measure => omega
    | true =>
     cases r2 with
     | false =>
      have HN2 := Lib.hid (hno (by rw [hpc]; rfl))
      clear hy hno hpc
      go_wp2_with (first
       | (refine wpList_var_get_g 54 _ rfl _ #[.int .i64 c.id, .int .i64 c.par, .bool c.leaf, .int .u64 c.ra, .int .u64 c.rb, .int .u64 c.rc, .int .u64 c.la, .int .u64 c.lb, .int .u64 c.lc, .int .u64 c.ua, .int .u64 c.ub, .int .u64 c.uc, .int .i64 c.pk, .int .i64 c.bt] _ HV5.out rfl Try.underlying54 rfl INF.out (by rfl) ?_)
       | go_guarded
       | (go_at_call 35; (with_reducible refine (KIS.out _ HB6.out).mono ?_); rintro _ w7 ⟨rfl, hbel⟩; have HV7 := Lib.hid (HV6.out.bel hbel); have e7 := HV7.out.cell 0 rfl; have l7 := HV7.out.lt; have HB7 := Lib.hid (HB6.out.trans (hbel.mono HB6.out.size)); have HO7 := Lib.hid (row_bel HO6.out hbel); clear hbel)
       | (go_at_call 37; (with_reducible refine (KSH.out _).mono ?_); rintro _ w6 ⟨rfl, hbel⟩; have HV6 := Lib.hid (HV5.out.bel hbel); have e6 := HV6.out.cell 0 rfl; have l6 := HV6.out.lt; have HB6 := Lib.hid (HB5.out.trans (hbel.mono HB5.out.size)); have HO6 := Lib.hid (row_bel HO5.out hbel); clear hbel)
       | (refine wpList_var_new rfl rfl 54 #[.int .i64 0, .int .i64 0, .bool false, .int .u64 0, .int .u64 0, .int .u64 0, .int .u64 0, .int .u64 0, .int .u64 0, .int .u64 0, .int .u64 0, .int .u64 0, .int .i64 0, .int .i64 0] ALL.out rfl _ _ rfl #[.int .i64 c.id, .int .i64 c.par, .bool c.leaf, .int .u64 c.ra, .int .u64 c.rb, .int .u64 c.rc, .int .u64 c.la, .int .u64 c.lb, .int .u64 c.lc, .int .u64 c.ua, .int .u64 c.ub, .int .u64 c.uc, .int .i64 c.pk, .int .i64 c.bt] rfl rfl INF.out rfl (ONE.out _) ?_; intro w5 hs5 hb5 hv5; have e5 := hv5.cell 0 rfl; have f5 := hv5.cell 1 rfl; have l5 := hv5.lt; have HV5 := Lib.hid hv5; have HB5 := Lib.hid (HB.out.trans (hb5.mono HB.out.size)); have HO5 := Lib.hid (row_bel HO.out hb5); clear hb5 hv5)
       | (refine wpList_part_get rfl 54 _ rfl b (o + k * 14) #[.int .i64 c.id, .int .i64 c.par, .bool c.leaf, .int .u64 c.ra, .int .u64 c.rb, .int .u64 c.rc, .int .u64 c.la, .int .u64 c.lb, .int .u64 c.lc, .int .u64 c.ua, .int .u64 c.ub, .int .u64 c.uc, .int .i64 c.pk, .int .i64 c.bt] _ HR1.out rfl Try.underlying54 rfl INF.out ?_))
      go_roundg (n - (k + 1))
      case rel => exact ⟨k + 1, m, oo, cp, rfl, by go_num, by omega, by rw [HN2.out]; exact HM.out, by rw [HN2.out]; exact HO7.out, HB7.out, Nat.le_refl _⟩
      case measure => omega
     | true =>
      have HN2 := Lib.hid (hy (by rw [hpc]; rfl))
      clear hy hno hpc
      go_wp2_with (first
       | (refine wpList_var_get_g 54 _ rfl _ #[.int .i64 c.id, .int .i64 c.par, .bool c.leaf, .int .u64 c.ra, .int .u64 c.rb, .int .u64 c.rc, .int .u64 c.la, .int .u64 c.lb, .int .u64 c.lc, .int .u64 c.ua, .int .u64 c.ub, .int .u64 c.uc, .int .i64 c.pk, .int .i64 c.bt] _ HV5.out rfl Try.underlying54 rfl INF.out (by rfl) ?_)
       | go_guarded
       | (at_builtin; refine wpList_append_own _ rfl _ _ 31 rfl w.heap.size 3 ii _ 1 8 Try.underlying31 CI0.out CZ0.out CZ1.out CZ2.out rfl (by decide) (.slice oo m cp) _ _ rfl (World.ownsRow.alloc HO7.out _) ⟨_, 0, none⟩ 1 1 [.int .i64 c.id] rfl rfl ?c1 ?c2 ?c3 ?c4 ?c5 ?_; (case c1 => (intro q u hu; (rcases q with _ | q <;> simp at hu <;> (try subst hu) <;> simp [Addr.add, go_sem, *]))); (case c2 => (intro v hv; simp at hv; (first | (subst hv; rfl) | (rcases hv with rfl <;> rfl)))); (case c3 => (unfold maxLen; omega)); (case c4 => omega); (case c5 => (have := HB7.out.size; simp; omega)); intro v2 z2 hown2 hg2 _; (have HBX : Hid (Below w.heap.size w z2) := Lib.hid (HB7.out.trans ((Below.alloc (Below.refl _ _) HB7.out.size _).grown hg2 (by have := HB7.out.size; simp; omega) (fun q hq => (HO7.out.lt q hq).1)))); obtain ⟨a2, c2, rfl⟩ := row_form hown2; (have HOX := Lib.hid hown2); clear hown2 hg2)
       | (go_at_call 35; (with_reducible refine (KIS.out _ HB6.out).mono ?_); rintro _ w7 ⟨rfl, hbel⟩; have HV7 := Lib.hid (HV6.out.bel hbel); have e7 := HV7.out.cell 0 rfl; have l7 := HV7.out.lt; have HB7 := Lib.hid (HB6.out.trans (hbel.mono HB6.out.size)); have HO7 := Lib.hid (row_bel HO6.out hbel); clear hbel)
       | (go_at_call 37; (with_reducible refine (KSH.out _).mono ?_); rintro _ w6 ⟨rfl, hbel⟩; have HV6 := Lib.hid (HV5.out.bel hbel); have e6 := HV6.out.cell 0 rfl; have l6 := HV6.out.lt; have HB6 := Lib.hid (HB5.out.trans (hbel.mono HB5.out.size)); have HO6 := Lib.hid (row_bel HO5.out hbel); clear hbel)
       | (refine wpList_var_new rfl rfl 54 #[.int .i64 0, .int .i64 0, .bool false, .int .u64 0, .int .u64 0, .int .u64 0, .int .u64 0, .int .u64 0, .int .u64 0, .int .u64 0, .int .u64 0, .int .u64 0, .int .i64 0, .int .i64 0] ALL.out rfl _ _ rfl #[.int .i64 c.id, .int .i64 c.par, .bool c.leaf, .int .u64 c.ra, .int .u64 c.rb, .int .u64 c.rc, .int .u64 c.la, .int .u64 c.lb, .int .u64 c.lc, .int .u64 c.ua, .int .u64 c.ub, .int .u64 c.uc, .int .i64 c.pk, .int .i64 c.bt] rfl rfl INF.out rfl (ONE.out _) ?_; intro w5 hs5 hb5 hv5; have e5 := hv5.cell 0 rfl; have f5 := hv5.cell 1 rfl; have l5 := hv5.lt; have HV5 := Lib.hid hv5; have HB5 := Lib.hid (HB.out.trans (hb5.mono HB.out.size)); have HO5 := Lib.hid (row_bel HO.out hb5); clear hb5 hv5)
       | (refine wpList_part_get rfl 54 _ rfl b (o + k * 14) #[.int .i64 c.id, .int .i64 c.par, .bool c.leaf, .int .u64 c.ra, .int .u64 c.rb, .int .u64 c.rc, .int .u64 c.la, .int .u64 c.lb, .int .u64 c.lc, .int .u64 c.ua, .int .u64 c.ub, .int .u64 c.uc, .int .i64 c.pk, .int .i64 c.bt] _ HR1.out rfl Try.underlying54 rfl INF.out ?_))
      go_roundg (n - (k + 1))
      case rel => exact ⟨k + 1, m + 1, a2, c2, rfl, by go_num, by omega, by rw [HN2.out, List.length_append, HM.out]; rfl, by rw [HN2.out, List.map_append]; exact HOX.out, HBX.out, Nat.le_refl _⟩
      case measure => omega
  ·obtain rfl : k = n := by omega
   have hfin : X.take k = X := by rw [← HX.out, List.take_length]
   have HF := Lib.hid hfin
   clear hB hm hO hlt hfin
   go_wp2_with (first | go_guarded)
   refine bodyPost_ret (v := .slice oo m cp) (by simp [results, Try.results38, go_sem, *]) rfl ?_
   have ho := HO.out
   have hm := HM.out
   rw [HF.out] at ho hm
   have h1 : (X.filter p).map (fun c => Value.int .i64 c.id) = (L.filter (sel f p)).map (Value.int .i64) := by rw [← HROW.out, List.map_map]; rfl
   have h2 : m = (L.filter (sel f p)).length := by rw [← HROW.out, List.length_map, hm]
   rw [h1, h2] at ho
   exact ⟨_, rfl, (by rw [h2]; exact ho), HB.out⟩
theorem ral_c {f : Int → Option Cls} {L : List Int} (I : TI f L) (n : Nat) (hn : L.length = n) (on : List Int) (mo : Nat) (hmo : on.length = mo) (hle : mo ≤ 1000) (hon : ∀ y ∈ on, iok y) (ao a2 : Option Addr) (cap co : Nat) (w : World) (hR : RwV crow 14 w ao (rowsX f L)) (hO : IntsV w a2 on) :
  Calls Try.prog 39 #[.slice ao n cap, .slice a2 mo co] w (AllX w (L.filter (sel f fun c => isR f on c.id))) := by
 obtain ⟨ii, ci0, cz0, cz1, cz2⟩ := int_partsA
 have CI0 := Lib.hid ci0
 have CZ0 := Lib.hid cz0
 have CZ1 := Lib.hid cz1
 have CZ2 := Lib.hid cz2
 have hl : (rowsX f L).length = n := by rw [rowsX_len]; exact hn
 have hn64 : n ≤ 64 := by rw [← hn]; exact I.len
 have hrow := chl_gen (p := fun c => isR f on c.id) (fun x hx => by obtain ⟨d, h1, h2, _⟩ := I.rows x hx; exact ⟨d, h1, h2⟩)
 have KI0 : Hid (∀ z y, Below w.heap.size w z → Calls Try.prog 35 #[.slice ao n cap, .slice a2 mo co, .int .i64 y] z fun ee w' => ee = .returned (.bool (isR f on y)) ∧ Below z.heap.size z w') := Lib.hid (fun z y hz => ris_c I n hn on mo hmo hle hon y ao a2 cap co z (hR.below hz) (hO.below hz))
 have hcin : ∀ (k : Nat) (h : k < (rowsX f L).length), CIn (rowsX f L)[k] := fun k h => by
  have h2 : k < L.length := by rw [rowsX_len] at h; exact h
  exact (I.cls _ _ (rx_at I h2).1).2.1
 obtain ⟨p, hp⟩ : ∃ p : Cls → Bool, (fun c => isR f on c.id) = p := ⟨_, rfl⟩
 have hpe : ∀ c : Cls, p c = (isR f on c.id) := fun c => by rw [← hp]
 rw [hp] at hrow ⊢
 obtain ⟨X, hX⟩ : ∃ X, rowsX f L = X := ⟨_, rfl⟩
 rw [hX] at hrow hl
 rw [show (∀ (k : Nat) (h : k < (rowsX f L).length), CIn (rowsX f L)[k]) = (∀ (k : Nat) (h : k < X.length), CIn X[k]) by rw [hX]] at hcin
 rw [hX] at hR
 have HROW := Lib.hid hrow
 have HPE := Lib.hid hpe
 have HX := Lib.hid hl
 have HR := Lib.hid hR
 have HCI := Lib.hid hcin
 have ALL := Lib.hid cl_alloc
 have INF := Lib.hid cl_info
 have ONE := Lib.hid cla_one
 clear ci0 cz0 cz1 cz2 hR hO I hn hmo hon hl hrow hcin hp hpe hX
 go_enter Try.func39, Try.ntmps39
 go_wp2_with fail
 go_loopg [5, 10] n (fun k9 s5 s10 wr => ∃ (k m : Nat) (oo : Option Addr) (cp : Nat), s5 = .slice oo m cp ∧ s10 = .int .i64 k ∧ k ≤ n ∧ ((X.take k).filter p).length = m ∧ wr.ownsRow w.heap.size 3 1 (.slice oo m cp) m (((X.take k).filter p).map (fun c => Value.int .i64 c.id)) ∧ Below w.heap.size w wr ∧ n - k ≤ k9)
 case atStart => exact ⟨0, 0, none, 0, rfl, rfl, Nat.zero_le _, rfl, World.ownsRow_nil _ _ _ _, Below.refl _ _, by omega⟩
 case round =>
  obtain ⟨k, m, oo, cp, rfl, rfl, hk, hm, hO, hB, hk9⟩ := hrel
  have HM := Lib.hid hm
  have HO := Lib.hid hO
  have HB := Lib.hid hB
  have hmk : m ≤ 64 := by rw [← hm]; exact Nat.le_trans (List.length_filter_le _ _) (by simp; omega)
  by_cases hlt : k < n
  ·have hlC : k < X.length := by rw [HX.out]; exact hlt
   obtain ⟨b, o, rfl, hb, hra⟩ := (HR.out.below hB) k hlC
   have hy := filt_yes p hlC
   have hno := filt_no p hlC
   have hci := HCI.out k hlC
   obtain ⟨c, hce⟩ : ∃ c, X[k] = c := ⟨_, rfl⟩
   rw [hce] at hra hy hno hci
   have hpc := HPE.out c
   have HR1 := Lib.hid (show wr.rangeAt b (o + k * 14) (#[.int .i64 c.id, .int .i64 c.par, .bool c.leaf, .int .u64 c.ra, .int .u64 c.rb, .int .u64 c.rc, .int .u64 c.la, .int .u64 c.lb, .int .u64 c.lc, .int .u64 c.ua, .int .u64 c.ub, .int .u64 c.uc, .int .i64 c.pk, .int .i64 c.bt] : Array Value).toList from hra)
   have KSH := Lib.hid (rsh23_c hci)
   have KIS := Lib.hid (fun z hz => KI0.out z c.id hz)
   obtain ⟨r1, hr1⟩ : ∃ r, sh1 c = r := ⟨_, rfl⟩
   obtain ⟨r2, hr2⟩ : ∃ r, isR f on c.id = r := ⟨_, rfl⟩
   rw [hr1] at KSH
   rw [hr2] at KIS
   rw [hr2] at hpc
   (try rw [hr1] at hpc)
   clear hB hra hce hm hO hci hlC hb hr1 hr2
   clear KSH
   cases r2 with
   | false =>
    have HN2 := Lib.hid (hno hpc)
    clear hy hno hpc
    go_wp2_with (first
     | go_guarded
     | (go_at_call 35; (with_reducible refine (KIS.out _ HB5.out).mono ?_); rintro _ w7 ⟨rfl, hbel⟩; have HV7 := Lib.hid (HV5.out.bel hbel); have e7 := HV7.out.cell 0 rfl; have l7 := HV7.out.lt; have HB7 := Lib.hid (HB5.out.trans (hbel.mono HB5.out.size)); have HO7 := Lib.hid (row_bel HO5.out hbel); clear hbel)
     | (refine wpList_var_new rfl rfl 54 #[.int .i64 0, .int .i64 0, .bool false, .int .u64 0, .int .u64 0, .int .u64 0, .int .u64 0, .int .u64 0, .int .u64 0, .int .u64 0, .int .u64 0, .int .u64 0, .int .i64 0, .int .i64 0] ALL.out rfl _ _ rfl #[.int .i64 c.id, .int .i64 c.par, .bool c.leaf, .int .u64 c.ra, .int .u64 c.rb, .int .u64 c.rc, .int .u64 c.la, .int .u64 c.lb, .int .u64 c.lc, .int .u64 c.ua, .int .u64 c.ub, .int .u64 c.uc, .int .i64 c.pk, .int .i64 c.bt] rfl rfl INF.out rfl (ONE.out _) ?_; intro w5 hs5 hb5 hv5; have e5 := hv5.cell 0 rfl; have f5 := hv5.cell 1 rfl; have l5 := hv5.lt; have HV5 := Lib.hid hv5; have HB5 := Lib.hid (HB.out.trans (hb5.mono HB.out.size)); have HO5 := Lib.hid (row_bel HO.out hb5); clear hb5 hv5)
     | (refine wpList_part_get rfl 54 _ rfl b (o + k * 14) #[.int .i64 c.id, .int .i64 c.par, .bool c.leaf, .int .u64 c.ra, .int .u64 c.rb, .int .u64 c.rc, .int .u64 c.la, .int .u64 c.lb, .int .u64 c.lc, .int .u64 c.ua, .int .u64 c.ub, .int .u64 c.uc, .int .i64 c.pk, .int .i64 c.bt] _ HR1.out rfl Try.underlying54 rfl INF.out ?_))
    go_roundg (n - (k + 1))
    case rel => exact ⟨k + 1, m, oo, cp, rfl, by go_num, by omega, by rw [HN2.out]; exact HM.out, by rw [HN2.out]; exact HO7.out, HB7.out, Nat.le_refl _⟩
    case measure => omega
   | true =>
    have HN2 := Lib.hid (hy hpc)
    clear hy hno hpc
    go_wp2_with (first
     | go_guarded
     | (at_builtin; refine wpList_append_own _ rfl _ _ 31 rfl w.heap.size 3 ii _ 1 8 Try.underlying31 CI0.out CZ0.out CZ1.out CZ2.out rfl (by decide) (.slice oo m cp) _ _ rfl (World.ownsRow.alloc HO7.out _) ⟨_, 0, none⟩ 1 1 [.int .i64 c.id] rfl rfl ?c1 ?c2 ?c3 ?c4 ?c5 ?_; (case c1 => (intro q u hu; (rcases q with _ | q <;> simp at hu <;> (try subst hu) <;> simp [Addr.add, go_sem, *]))); (case c2 => (intro v hv; simp at hv; (first | (subst hv; rfl) | (rcases hv with rfl <;> rfl)))); (case c3 => (unfold maxLen; omega)); (case c4 => omega); (case c5 => (have := HB7.out.size; simp; omega)); intro v2 z2 hown2 hg2 _; (have HBX : Hid (Below w.heap.size w z2) := Lib.hid (HB7.out.trans ((Below.alloc (Below.refl _ _) HB7.out.size _).grown hg2 (by have := HB7.out.size; simp; omega) (fun q hq => (HO7.out.lt q hq).1)))); obtain ⟨a2, c2, rfl⟩ := row_form hown2; (have HOX := Lib.hid hown2); clear hown2 hg2)
     | (go_at_call 35; (with_reducible refine (KIS.out _ HB5.out).mono ?_); rintro _ w7 ⟨rfl, hbel⟩; have HV7 := Lib.hid (HV5.out.bel hbel); have e7 := HV7.out.cell 0 rfl; have l7 := HV7.out.lt; have HB7 := Lib.hid (HB5.out.trans (hbel.mono HB5.out.size)); have HO7 := Lib.hid (row_bel HO5.out hbel); clear hbel)
     | (refine wpList_var_new rfl rfl 54 #[.int .i64 0, .int .i64 0, .bool false, .int .u64 0, .int .u64 0, .int .u64 0, .int .u64 0, .int .u64 0, .int .u64 0, .int .u64 0, .int .u64 0, .int .u64 0, .int .i64 0, .int .i64 0] ALL.out rfl _ _ rfl #[.int .i64 c.id, .int .i64 c.par, .bool c.leaf, .int .u64 c.ra, .int .u64 c.rb, .int .u64 c.rc, .int .u64 c.la, .int .u64 c.lb, .int .u64 c.lc, .int .u64 c.ua, .int .u64 c.ub, .int .u64 c.uc, .int .i64 c.pk, .int .i64 c.bt] rfl rfl INF.out rfl (ONE.out _) ?_; intro w5 hs5 hb5 hv5; have e5 := hv5.cell 0 rfl; have f5 := hv5.cell 1 rfl; have l5 := hv5.lt; have HV5 := Lib.hid hv5; have HB5 := Lib.hid (HB.out.trans (hb5.mono HB.out.size)); have HO5 := Lib.hid (row_bel HO.out hb5); clear hb5 hv5)
     | (refine wpList_part_get rfl 54 _ rfl b (o + k * 14) #[.int .i64 c.id, .int .i64 c.par, .bool c.leaf, .int .u64 c.ra, .int .u64 c.rb, .int .u64 c.rc, .int .u64 c.la, .int .u64 c.lb, .int .u64 c.lc, .int .u64 c.ua, .int .u64 c.ub, .int .u64 c.uc, .int .i64 c.pk, .int .i64 c.bt] _ HR1.out rfl Try.underlying54 rfl INF.out ?_))
    go_roundg (n - (k + 1))
    case rel => exact ⟨k + 1, m + 1, a2, c2, rfl, by go_num, by omega, by rw [HN2.out, List.length_append, HM.out]; rfl, by rw [HN2.out, List.map_append]; exact HOX.out, HBX.out, Nat.le_refl _⟩
    case measure => omega
  ·obtain rfl : k = n := by omega
   have hfin : X.take k = X := by rw [← HX.out, List.take_length]
   have HF := Lib.hid hfin
   clear hB hm hO hlt hfin
   go_wp2_with (first | go_guarded)
   refine bodyPost_ret (v := .slice oo m cp) (by simp [results, Try.results39, go_sem, *]) rfl ?_
   have ho := HO.out
   have hm := HM.out
   rw [HF.out] at ho hm
   have h1 : (X.filter p).map (fun c => Value.int .i64 c.id) = (L.filter (sel f p)).map (Value.int .i64) := by rw [← HROW.out, List.map_map]; rfl
   have h2 : m = (L.filter (sel f p)).length := by rw [← HROW.out, List.length_map, hm]
   rw [h1, h2] at ho
   exact ⟨_, rfl, (by rw [h2]; exact ho), HB.out⟩
end Go.Proofs.Ytmmahgfijiocfaa
end
