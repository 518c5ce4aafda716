/- Joined texts. -/
import Derived.Test.YtghjdkdjdpgdiaaBs0
import Derived.Test.YtghjdkdjdpgdiaaBs21
import Derived.Test.YtghjdkdjdpgdiaaBs22
import Derived.Test.YtghjdkdjdpgdiaaBs24
set_option linter.unusedVariables false
set_option linter.unusedSimpArgs false
set_option maxRecDepth 100000
set_option maxHeartbeats 16000000
section
namespace Go.Proofs.Ytghjdkdjdpgdiaa
open Go.RowKit Fg Reg Go.Maps Go.Shelf
attribute [local irreducible] Reg.wE VR
theorem rbel_c {f : Int → Option Cls} {L : List Int} (I : TI f L) (n : Nat) (hn : L.length = n) (num : Int) (ao : Option Addr) (cap : Nat) (w : World) (hR : RwV crow 14 w ao (rowsX f L)) :
  Calls Try.prog 30 #[.slice ao n cap, .int .i64 num] w fun e w' => ∃ v, e = .returned v ∧ w'.ownsRow w.heap.size 3 1 v (belL f L num).length ((belL f L num).map (Value.int .i64)) ∧ Below w.heap.size w w' := by
 obtain ⟨ii, ci0, cz0, cz1, cz2⟩ := int_partsH
 have CI0 := Lib.hid ci0
 have CZ0 := Lib.hid cz0
 have CZ1 := Lib.hid cz1
 have CZ2 := Lib.hid cz2
 have hBL : ((rowsX f L).filter (fun c : Cls => c.leaf && (num == 0 || has (upl f 16 c.id) num))).map Cls.id = belL f L num := belL_eq num fun x hx => by obtain ⟨c, h1, h2, h3, h4⟩ := I.rows x hx; exact ⟨c, h1, h2⟩
 have KUG := Lib.hid (fun (x : Int) (hx : iok x) z (hz : RwV crow 14 z ao (rowsX f L)) => rup_c I n hn x hx ao cap z hz)
 have HCI := Lib.hid I.rin
 have hn64 : n ≤ 64 := by rw [← hn]; exact I.len
 obtain ⟨X, hXe⟩ : ∃ X, rowsX f L = X := ⟨_, rfl⟩
 have hX : X.length = n := by rw [← hXe, rowsX_len]; exact hn
 rw [hXe] at hBL KUG HCI hR
 rw [← hBL]
 have HX := Lib.hid hX
 have HR := Lib.hid hR
 have ALL := Lib.hid cl_alloc
 have INF := Lib.hid cl_info
 have ONE := Lib.hid cla_one
 clear ci0 cz0 cz1 cz2 hX hR I hn hBL hXe
 go_enter Try.func30, Try.ntmps30
 go_wp2_with fail
 go_loopg [5, 10] n (fun k9 s5 s10 wr => ∃ (k m : Nat) (oo : Option Addr) (cp : Nat), s5 = .slice oo m cp ∧ s10 = .int .i64 k ∧ k ≤ n ∧ ((X.take k).filter (fun c : Cls => c.leaf && (num == 0 || has (upl f 16 c.id) num))).length = m ∧ wr.ownsRow w.heap.size 3 1 (.slice oo m cp) m (((X.take k).filter (fun c : Cls => c.leaf && (num == 0 || has (upl f 16 c.id) num))).map (fun c => Value.int .i64 c.id)) ∧ Below w.heap.size w wr ∧ n - k ≤ k9)
 case atStart => exact ⟨0, 0, none, 0, rfl, rfl, Nat.zero_le _, rfl, World.ownsRow_nil _ _ _ _, Below.refl _ _, by omega⟩
 case round =>
  obtain ⟨k, m, oo, cp, rfl, rfl, hk, hm, hO, hB, hk9⟩ := hrel
  have HM := Lib.hid hm
  have HO := Lib.hid hO
  have HB := Lib.hid hB
  have hmk : m ≤ 1000 := by rw [← hm]; exact Nat.le_trans (List.length_filter_le _ _) (by simp; omega)
  by_cases hlt : k < n
  ·have hlC : k < X.length := by rw [HX.out]; exact hlt
   obtain ⟨b, o, rfl, hb, hra⟩ := (HR.out.below hB) k hlC
   have hy := filt_yes (fun c : Cls => c.leaf && (num == 0 || has (upl f 16 c.id) num)) hlC
   have hno := filt_no (fun c : Cls => c.leaf && (num == 0 || has (upl f 16 c.id) num)) hlC
   have hci := HCI.out _ (List.getElem_mem hlC)
   obtain ⟨c, hce⟩ : ∃ c, X[k] = c := ⟨_, rfl⟩
   rw [hce] at hra hy hno hci
   have HR1 := Lib.hid (show wr.rangeAt b (o + k * 14) (#[.int .i64 c.id, .int .i64 c.par, .bool c.leaf, .int .u64 c.ra, .int .u64 c.rb, .int .u64 c.rc, .int .u64 c.la, .int .u64 c.lb, .int .u64 c.lc, .int .u64 c.ua, .int .u64 c.ub, .int .u64 c.uc, .int .i64 c.pk, .int .i64 c.bt] : Array Value).toList from hra)
   obtain ⟨U, hU⟩ : ∃ U, upl f 16 c.id = U := ⟨_, rfl⟩
   obtain ⟨u, hu⟩ : ∃ u, U.length = u := ⟨_, rfl⟩
   obtain ⟨r, hr⟩ : ∃ r, has U num = r := ⟨_, rfl⟩
   have hu16 : u ≤ 16 := by rw [← hu, ← hU]; exact upl_len f 16 c.id
   have KU0 := KUG.out c.id hci.id
   have KU : Hid (∀ z, RwV crow 14 z (some ⟨b, o, none⟩) X → Calls Try.prog 34 #[.slice (some ⟨b, o, none⟩) n cap, .int .i64 c.id] z fun e z' => ∃ ao2 cap2, e = .returned (.slice ao2 u cap2) ∧ IntsV z' ao2 U ∧ Below z.heap.size z z') := Lib.hid (fun z hz => (KU0 z hz).mono (by
    rintro e z' ⟨v, rfl, hrr, hb⟩
    rw [hU, hu] at hrr
    obtain ⟨ao2, cap2, rfl⟩ := row_form hrr
    exact ⟨ao2, cap2, rfl, (own_ints hrr).2, hb⟩))
   clear KU0
   have KH : Hid (∀ (z : World) ao cap, IntsV z ao U → Calls Try.prog 63 #[.slice ao u cap, .int .i64 num] z fun ee w' => ee = .returned (.bool r) ∧ Below z.heap.size z w') := Lib.hid (fun z ao cap hz => by
    have := hasr_c U ao cap num (by omega) z hz
    rw [hu, hr] at this
    exact this.mono (fun e w' ⟨he, hw⟩ => ⟨he, by subst hw; exact Below.refl _ _⟩))
   have hpe : (c.leaf && (num == 0 || has (upl f 16 c.id) num)) = (c.leaf && (num == 0 || r)) := by rw [hU, hr]
   clear hB hra hce hm hO hci hU hu hr
   cases hlf : c.leaf with
   | false =>
    have hp : (c.leaf && (num == 0 || has (upl f 16 c.id) num)) = false := by rw [hlf]; rfl
    clear hpe
    have HN2 := Lib.hid (hno hp)
    clear hy hno
    go_wp2_with (first
    | go_guarded
    | (refine wpList_var_new rfl rfl 54 #[.int .i64 0, .int .i64 0, .bool false, .int .u64 0, .int .u64 0, .int .u64 0, .int .u64 0, .int .u64 0, .int .u64 0, .int .u64 0, .int .u64 0, .int .u64 0, .int .i64 0, .int .i64 0] ALL.out rfl _ _ rfl #[.int .i64 c.id, .int .i64 c.par, .bool c.leaf, .int .u64 c.ra, .int .u64 c.rb, .int .u64 c.rc, .int .u64 c.la, .int .u64 c.lb, .int .u64 c.lc, .int .u64 c.ua, .int .u64 c.ub, .int .u64 c.uc, .int .i64 c.pk, .int .i64 c.bt] rfl rfl INF.out rfl (ONE.out _) ?_; intro w5 hs5 hb5 hv5; have e5 := hv5.cell 0 rfl; have f5 := hv5.cell 2 rfl; have l5 := hv5.lt; have HB5 := Lib.hid (HB.out.trans (hb5.mono HB.out.size)); have HO5 := Lib.hid (row_bel HO.out hb5); have HV5 := Lib.hid hv5; clear hb5 hv5)
    | (refine wpList_part_get rfl 54 _ rfl b (o + k * 14) #[.int .i64 c.id, .int .i64 c.par, .bool c.leaf, .int .u64 c.ra, .int .u64 c.rb, .int .u64 c.rc, .int .u64 c.la, .int .u64 c.lb, .int .u64 c.lc, .int .u64 c.ua, .int .u64 c.ub, .int .u64 c.uc, .int .i64 c.pk, .int .i64 c.bt] _ HR1.out rfl Try.underlying54 rfl INF.out ?_))
    go_roundg (n - (k + 1))
    case rel => exact ⟨k + 1, m, oo, cp, rfl, by go_num, by omega, by rw [HN2.out]; exact HM.out, by rw [HN2.out]; exact HO5.out, HB5.out, Nat.le_refl _⟩
    case measure => omega
   | true =>
    by_cases h0 : num = 0
    ·have hp : (c.leaf && (num == 0 || has (upl f 16 c.id) num)) = true := by rw [hpe, hlf, h0]; rfl
     have q0 : (num == 0) = true := by simpa using h0
     clear hpe h0
     have HN2 := Lib.hid (hy hp)
     clear hy hno
     go_wp2_with (first
     | go_guarded
     | (at_builtin; refine wpList_append_own _ rfl _ _ 31 rfl w.heap.size 3 ii _ 1 8 Try.underlying31 CI0.out CZ0.out CZ1.out CZ2.out rfl (by decide) (.slice oo m cp) _ _ rfl (World.ownsRow.alloc HO5.out _) ⟨_, 0, none⟩ 1 1 [.int .i64 c.id] rfl rfl ?c1 ?c2 ?c3 ?c4 ?c5 ?_; (case c1 => (intro q u hu; (rcases q with _ | q <;> simp at hu <;> (try subst hu) <;> simp [Addr.add, go_sem, *]))); (case c2 => (intro v hv; simp at hv; (first | (subst hv; rfl) | (rcases hv with rfl <;> rfl)))); (case c3 => (unfold maxLen; omega)); (case c4 => omega); (case c5 => (have := HB5.out.size; simp; omega)); intro v2 z2 hown2 hg2 _; (have HB9 : Hid (Below w.heap.size w z2) := Lib.hid (HB5.out.trans ((Below.alloc (Below.refl _ _) HB5.out.size _).grown hg2 (by have := HB5.out.size; simp; omega) (fun q hq => (HO5.out.lt q hq).1)))); obtain ⟨a2, c2, rfl⟩ := row_form hown2; (have HO9 := Lib.hid hown2); clear hown2 hg2)
     | (refine wpList_var_new rfl rfl 54 #[.int .i64 0, .int .i64 0, .bool false, .int .u64 0, .int .u64 0, .int .u64 0, .int .u64 0, .int .u64 0, .int .u64 0, .int .u64 0, .int .u64 0, .int .u64 0, .int .i64 0, .int .i64 0] ALL.out rfl _ _ rfl #[.int .i64 c.id, .int .i64 c.par, .bool c.leaf, .int .u64 c.ra, .int .u64 c.rb, .int .u64 c.rc, .int .u64 c.la, .int .u64 c.lb, .int .u64 c.lc, .int .u64 c.ua, .int .u64 c.ub, .int .u64 c.uc, .int .i64 c.pk, .int .i64 c.bt] rfl rfl INF.out rfl (ONE.out _) ?_; intro w5 hs5 hb5 hv5; have e5 := hv5.cell 0 rfl; have f5 := hv5.cell 2 rfl; have l5 := hv5.lt; have HB5 := Lib.hid (HB.out.trans (hb5.mono HB.out.size)); have HO5 := Lib.hid (row_bel HO.out hb5); have HV5 := Lib.hid hv5; clear hb5 hv5)
     | (refine wpList_part_get rfl 54 _ rfl b (o + k * 14) #[.int .i64 c.id, .int .i64 c.par, .bool c.leaf, .int .u64 c.ra, .int .u64 c.rb, .int .u64 c.rc, .int .u64 c.la, .int .u64 c.lb, .int .u64 c.lc, .int .u64 c.ua, .int .u64 c.ub, .int .u64 c.uc, .int .i64 c.pk, .int .i64 c.bt] _ HR1.out rfl Try.underlying54 rfl INF.out ?_))
     go_roundg (n - (k + 1))
     case rel => exact ⟨k + 1, m + 1, a2, c2, rfl, by go_num, by omega, by rw [HN2.out, List.length_append, HM.out]; rfl, by rw [HN2.out, List.map_append]; exact HO9.out, HB9.out, Nat.le_refl _⟩
     case measure => omega
    ·have q0 : (num == 0) = false := by simpa using h0
     cases hr2 : r with
     | false =>
      have hp : (c.leaf && (num == 0 || has (upl f 16 c.id) num)) = false := by rw [hpe, hlf, q0, hr2]; rfl
      subst hr2
      clear hpe h0
      have HN2 := Lib.hid (hno hp)
      clear hy hno
      go_wp2_with (first
      | go_guarded
      | (go_at_call 63; (with_reducible refine (KH.out _ _ _ HU6.out).mono ?_); rintro _ w7 ⟨rfl, hbel⟩; have HV7 := Lib.hid (HV6.out.bel hbel); have e7 := HV7.out.cell 0 rfl; have l7 := HV7.out.lt; have HB7 := Lib.hid (HB6.out.trans (hbel.mono HB6.out.size)); have HO7 := Lib.hid (row_bel HO6.out hbel); clear hbel)
      | (go_at_call 34; (with_reducible refine (KU.out _ (HR.out.below HB5.out)).mono ?_); rintro _ w6 ⟨ao6, cp6, rfl, hu6, hbel⟩; have HU6 := Lib.hid hu6; have HV6 := Lib.hid (HV5.out.bel hbel); have HB6 := Lib.hid (HB5.out.trans (hbel.mono HB5.out.size)); have HO6 := Lib.hid (row_bel HO5.out hbel); clear hbel hu6)
      | (refine wpList_var_new rfl rfl 54 #[.int .i64 0, .int .i64 0, .bool false, .int .u64 0, .int .u64 0, .int .u64 0, .int .u64 0, .int .u64 0, .int .u64 0, .int .u64 0, .int .u64 0, .int .u64 0, .int .i64 0, .int .i64 0] ALL.out rfl _ _ rfl #[.int .i64 c.id, .int .i64 c.par, .bool c.leaf, .int .u64 c.ra, .int .u64 c.rb, .int .u64 c.rc, .int .u64 c.la, .int .u64 c.lb, .int .u64 c.lc, .int .u64 c.ua, .int .u64 c.ub, .int .u64 c.uc, .int .i64 c.pk, .int .i64 c.bt] rfl rfl INF.out rfl (ONE.out _) ?_; intro w5 hs5 hb5 hv5; have e5 := hv5.cell 0 rfl; have f5 := hv5.cell 2 rfl; have l5 := hv5.lt; have HB5 := Lib.hid (HB.out.trans (hb5.mono HB.out.size)); have HO5 := Lib.hid (row_bel HO.out hb5); have HV5 := Lib.hid hv5; clear hb5 hv5)
      | (refine wpList_part_get rfl 54 _ rfl b (o + k * 14) #[.int .i64 c.id, .int .i64 c.par, .bool c.leaf, .int .u64 c.ra, .int .u64 c.rb, .int .u64 c.rc, .int .u64 c.la, .int .u64 c.lb, .int .u64 c.lc, .int .u64 c.ua, .int .u64 c.ub, .int .u64 c.uc, .int .i64 c.pk, .int .i64 c.bt] _ HR1.out rfl Try.underlying54 rfl INF.out ?_))
      go_roundg (n - (k + 1))
      case rel => exact ⟨k + 1, m, oo, cp, rfl, by go_num, by omega, by rw [HN2.out]; exact HM.out, by rw [HN2.out]; exact HO7.out, HB7.out, Nat.le_refl _⟩
      case measure => omega
     | true =>
      have hp : (c.leaf && (num == 0 || has (upl f 16 c.id) num)) = true := by rw [hpe, hlf, q0, hr2]; rfl
      subst hr2
      clear hpe h0
      have HN2 := Lib.hid (hy hp)
      clear hy hno
      go_wp2_with (first
      | go_guarded
      | (at_builtin; refine wpList_append_own _ rfl _ _ 31 rfl w.heap.size 3 ii _ 1 8 Try.underlying31 CI0.out CZ0.out CZ1.out CZ2.out rfl (by decide) (.slice oo m cp) _ _ rfl (World.ownsRow.alloc HO7.out _) ⟨_, 0, none⟩ 1 1 [.int .i64 c.id] rfl rfl ?c1 ?c2 ?c3 ?c4 ?c5 ?_; (case c1 => (intro q u hu; (rcases q with _ | q <;> simp at hu <;> (try subst hu) <;> simp [Addr.add, go_sem, *]))); (case c2 => (intro v hv; simp at hv; (first | (subst hv; rfl) | (rcases hv with rfl <;> rfl)))); (case c3 => (unfold maxLen; omega)); (case c4 => omega); (case c5 => (have := HB7.out.size; simp; omega)); intro v2 z2 hown2 hg2 _; (have HB9 : Hid (Below w.heap.size w z2) := Lib.hid (HB7.out.trans ((Below.alloc (Below.refl _ _) HB7.out.size _).grown hg2 (by have := HB7.out.size; simp; omega) (fun q hq => (HO7.out.lt q hq).1)))); obtain ⟨a2, c2, rfl⟩ := row_form hown2; (have HO9 := Lib.hid hown2); clear hown2 hg2)
      | (go_at_call 63; (with_reducible refine (KH.out _ _ _ HU6.out).mono ?_); rintro _ w7 ⟨rfl, hbel⟩; have HV7 := Lib.hid (HV6.out.bel hbel); have e7 := HV7.out.cell 0 rfl; have l7 := HV7.out.lt; have HB7 := Lib.hid (HB6.out.trans (hbel.mono HB6.out.size)); have HO7 := Lib.hid (row_bel HO6.out hbel); clear hbel)
      | (go_at_call 34; (with_reducible refine (KU.out _ (HR.out.below HB5.out)).mono ?_); rintro _ w6 ⟨ao6, cp6, rfl, hu6, hbel⟩; have HU6 := Lib.hid hu6; have HV6 := Lib.hid (HV5.out.bel hbel); have HB6 := Lib.hid (HB5.out.trans (hbel.mono HB5.out.size)); have HO6 := Lib.hid (row_bel HO5.out hbel); clear hbel hu6)
      | (refine wpList_var_new rfl rfl 54 #[.int .i64 0, .int .i64 0, .bool false, .int .u64 0, .int .u64 0, .int .u64 0, .int .u64 0, .int .u64 0, .int .u64 0, .int .u64 0, .int .u64 0, .int .u64 0, .int .i64 0, .int .i64 0] ALL.out rfl _ _ rfl #[.int .i64 c.id, .int .i64 c.par, .bool c.leaf, .int .u64 c.ra, .int .u64 c.rb, .int .u64 c.rc, .int .u64 c.la, .int .u64 c.lb, .int .u64 c.lc, .int .u64 c.ua, .int .u64 c.ub, .int .u64 c.uc, .int .i64 c.pk, .int .i64 c.bt] rfl rfl INF.out rfl (ONE.out _) ?_; intro w5 hs5 hb5 hv5; have e5 := hv5.cell 0 rfl; have f5 := hv5.cell 2 rfl; have l5 := hv5.lt; have HB5 := Lib.hid (HB.out.trans (hb5.mono HB.out.size)); have HO5 := Lib.hid (row_bel HO.out hb5); have HV5 := Lib.hid hv5; clear hb5 hv5)
      | (refine wpList_part_get rfl 54 _ rfl b (o + k * 14) #[.int .i64 c.id, .int .i64 c.par, .bool c.leaf, .int .u64 c.ra, .int .u64 c.rb, .int .u64 c.rc, .int .u64 c.la, .int .u64 c.lb, .int .u64 c.lc, .int .u64 c.ua, .int .u64 c.ub, .int .u64 c.uc, .int .i64 c.pk, .int .i64 c.bt] _ HR1.out rfl Try.underlying54 rfl INF.out ?_))
      go_roundg (n - (k + 1))
      case rel => exact ⟨k + 1, m + 1, a2, c2, rfl, by go_num, by omega, by rw [HN2.out, List.length_append, HM.out]; rfl, by rw [HN2.out, List.map_append]; exact HO9.out, HB9.out, Nat.le_refl _⟩
      case measure => omega
  ·obtain rfl : k = n := by omega
   have hfin : X.take k = X := by rw [← HX.out, List.take_length]
   have HF := Lib.hid hfin
   clear hB hm hO hlt hfin
   go_wp2_with (first | go_guarded)
   go_ret
   have ho := HO.out
   have hm := HM.out
   rw [HF.out] at ho hm
   rw [List.length_map, hm, List.map_map]
   exact ⟨_, rfl, ho, HB.out⟩
end Go.Proofs.Ytghjdkdjdpgdiaa
end
