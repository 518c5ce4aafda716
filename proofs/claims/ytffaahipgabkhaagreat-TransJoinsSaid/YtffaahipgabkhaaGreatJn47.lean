/- Joined texts. -/
import Derived.Test.YtffaahipgabkhaaGreatJn0
import Derived.Test.YtffaahipgabkhaaGreatJn46
set_option linter.unusedVariables false
set_option linter.unusedSimpArgs false
set_option maxRecDepth 100000
set_option maxHeartbeats 16000000
section
namespace Go.Proofs.YtffaahipgabkhaaGreat
open Go.RowKit Fg Reg Go.Maps Go.Shelf
attribute [local irreducible] Reg.wE VR
theorem tch_len {f g : Int → Option Cls} {L M : List Int} (I : TI f L) (J : TI g M) {U : List Int} (h : Tch f g U) : U.length ≤ 128 := by
 obtain rfl := h.uniq (tch_of I J)
 refine Nat.le_trans (List.length_filter_le _ _) (Nat.le_trans (unl_len _) ?_)
 rw [List.length_append]
 have := I.len
 have := J.len
 omega
theorem chF_at {k : Int} {f : Int → Option Cls} {L : List Int} {c : Cls} {x : Int} (h : c.id ≠ x) : chF k f L c x = f x := by
 have hx : ¬ x = c.id := fun g => h g.symm
 have h1 : addF f L c x = f x := by unfold addF; split <;> simp [upd, hx]
 have h2 : delF f L c.id x = f x := by unfold delF; split <;> simp [mdel, hx]
 have h3 : setF f L c x = f x := by unfold setF; split <;> simp [upd, hx]
 unfold Go.Proofs.YtffaahipgabkhaaGreat.chF
 by_cases k1 : k = 1
 ·rw [if_pos k1, h1]
 ·rw [if_neg k1]
  by_cases k2 : k = 2
  ·rw [if_pos k2, h2]
  ·rw [if_neg k2]
   by_cases k3 : k = 3
   ·rw [if_pos k3, h3]
   ·rw [if_neg k3]
theorem app_named (x : Int) : ∀ (xs : List TC) (f : Int → Option Cls) (L : List Int) (i : Int), (app f L i xs).2.2.1 x ≠ f x → ∃ a ∈ xs, a.c.id = x
 | [], f, L, i, h => absurd rfl h
 | a :: r, f, L, i, h => by
  by_cases ha : a.c.id = x
  ·exact ⟨a, List.mem_cons_self, ha⟩
  ·have h2 : chF a.k f L a.c x = f x := chF_at ha
   unfold app at h
   split at h
   ·obtain ⟨b, hb, hc⟩ := app_named x r (chF a.k f L a.c) (chL a.k f L a.c) (i + 1) (by rw [h2]; exact h)
    exact ⟨b, List.mem_cons_of_mem _ hb, hc⟩
   ·exact absurd rfl h
theorem app_any {xs : List TC} {f : Int → Option Cls} {L : List Int} {i : Int} {U : List Int} (hU : Tch f (app f L i xs).2.2.1 U) {x : Int} (hx : x ∈ U) : xs.any (fun a => a.c.id == x) = true := by
 obtain ⟨a, ha, hax⟩ := app_named x xs f L i (Ne.symm ((hU.mem x).1 hx))
 exact List.any_eq_true.2 ⟨a, ha, by simpa using hax⟩
theorem TI.trs : ∀ (xs : List TC) {f : Int → Option Cls} {L : List Int}, TI f L → (∀ a ∈ xs, CIn a.c) → TI (trs f L xs).1 (trs f L xs).2
 | [], f, L, I, h => I
 | a :: r, f, L, I, h => TI.trs r (I.chF a.k (h a List.mem_cons_self)) (fun b hb => h b (List.mem_cons_of_mem _ hb))
theorem tany_take {xs : List TC} {k : Nat} (h : k < xs.length) (x : Int) : (xs.take (k + 1)).any (fun a => a.c.id == x) = ((xs.take k).any (fun a => a.c.id == x) || (xs[k].c.id == x)) := by
 rw [take_snoc'' xs k h, List.any_append]
 simp
theorem names_long (a l : Nat) (ao bo : Option Addr) (ac bc : Nat) (T : Int) (h : 80 < a ∨ 60 < l) (w : World) : Calls Tryz.prog 5 #[.slice ao a ac, .int .i64 T, .slice bo l bc] w fun ee w' => ee = .returned (.bool true) ∧ Below w.heap.size w w' := by
 have K := Lib.hid twice_c
 by_cases h1 : 80 < a
 ·have q1 : decide ((80 : Int) < (a : Int)) = true := decide_eq_true (by omega)
  have q2 : decide (80 < a) = true := decide_eq_true h1
  clear h
  go_enter Tryz.func5, Tryz.ntmps5
  go_wp2_with (first | go_guarded | (go_at_call 8; (with_reducible refine (K.out _).mono ?_); rintro _ w1 ⟨rfl, hbel⟩; have HB1 := Lib.hid hbel; clear hbel))
  go_ret
  exact ⟨rfl, HB1.out⟩
 ·have q1 : decide ((80 : Int) < (a : Int)) = false := decide_eq_false (by omega)
  have q2 : decide (80 < a) = false := decide_eq_false h1
  have q3 : decide ((60 : Int) < (l : Int)) = true := decide_eq_true (by omega)
  have q4 : decide (60 < l) = true := decide_eq_true (by omega)
  clear h
  go_enter Tryz.func5, Tryz.ntmps5
  go_wp2_with (first | go_guarded | (go_at_call 8; (with_reducible refine (K.out _).mono ?_); rintro _ w1 ⟨rfl, hbel⟩; have HB1 := Lib.hid hbel; clear hbel))
  go_ret
  exact ⟨rfl, HB1.out⟩
theorem names_c (xs : List TC) (a : Nat) (hxl : xs.length = a) (ha : a ≤ 80) (hxi : ∀ k (h : k < xs.length), CIn xs[k].c) (ys : List TC) (l : Nat) (hyl : ys.length = l) (hl : l ≤ 60) (hyi : ∀ k (h : k < ys.length), CIn ys[k].c) (T : Int) (ao bo : Option Addr) (ac bc : Nat) (w : World) (hA : RwV TC.cells 15 w ao xs) (hB : RwV TC.cells 15 w bo ys) :
  Calls Tryz.prog 5 #[.slice ao a ac, .int .i64 T, .slice bo l bc] w fun ee w' => ee = .returned (.bool true) ∧ Below w.heap.size w w' := by
 have q1 : decide ((80 : Int) < (a : Int)) = false := decide_eq_false (by omega)
 have q2 : decide (80 < a) = false := decide_eq_false (by omega)
 have q3 : decide ((60 : Int) < (l : Int)) = false := decide_eq_false (by omega)
 have q4 : decide (60 < l) = false := decide_eq_false (by omega)
 have KTW := Lib.hid twice_c
 have ALL := Lib.hid cg_alloc
 have AINF := Lib.hid cg_info
 have ONE := Lib.hid cg_one
 have KTR := Lib.hid (tree_c xs a hxl ha hxi ao ac w hA)
 have hI0 : TI (trs (fun _ => none) [] xs).1 (trs (fun _ => none) [] xs).2 := TI.trs xs TI.nil (fun b hb => by obtain ⟨k, hk, rfl⟩ := List.getElem_of_mem hb; exact hxi k hk)
 obtain ⟨f, hf⟩ : ∃ f, (trs (fun _ => none) [] xs).1 = f := ⟨_, rfl⟩
 obtain ⟨L, hL⟩ : ∃ L, (trs (fun _ => none) [] xs).2 = L := ⟨_, rfl⟩
 rw [hf, hL] at KTR hI0
 have HI0 := Lib.hid hI0
 have HB0 := Lib.hid hB
 have HYL := Lib.hid hyl
 obtain ⟨i, hi⟩ : ∃ i, (apW (ftg T) T l f L ys).1 = i := ⟨_, rfl⟩
 obtain ⟨E, hE⟩ : ∃ E, (apW (ftg T) T l f L ys).2 = E := ⟨_, rfl⟩
 obtain ⟨F, hF⟩ : ∃ F, (app f L 0 ys).2.2.1 = F := ⟨_, rfl⟩
 obtain ⟨M, hM⟩ : ∃ M, (app f L 0 ys).2.2.2 = M := ⟨_, rfl⟩
 have KAP := Lib.hid (fun (z : World) (tb mb : Nat) (h : HT z tb mb f) (hr : RwV TC.cells 15 z bo ys) => (by have := appl_c (ftg T) h hI0 T ys l hyl hyi bo bc hr (kf_c T); rw [hi, hE, hF, hM] at this; exact this : Calls Tryz.prog 10 #[.pointer (some ⟨tb, 0, none⟩), .int .i64 T, .slice bo l bc] z fun e w' => ∃ q, e = .returned (.tuple #[.pointer q, .int .i64 i, .int .i64 E]) ∧ Below z.heap.size z w' ∧ ((E ≠ 0 ∧ q = none) ∨ (E = 0 ∧ ∃ tb2 mb2, q = some ⟨tb2, 0, none⟩ ∧ z.heap.size ≤ tb2 ∧ z.heap.size ≤ mb2 ∧ HT w' tb2 mb2 F ∧ TI F M))))
 have KAN : Hid (∀ U, Tch f F U → ∀ x ∈ U, ys.any (fun a => a.c.id == x) = true) := Lib.hid (fun U hU x hx => by rw [← hF] at hU; exact app_any hU hx)
 have KTT : Hid (∀ z t1 m1 t2 m2, HT z t1 m1 f → HT z t2 m2 F → TI F M → Calls Tryz.prog 13 #[.pointer (some ⟨t1, 0, none⟩), .pointer (some ⟨t2, 0, none⟩)] z fun e z' => ∃ U m ao cap, e = .returned (.slice ao m cap) ∧ U.length = m ∧ m ≤ 128 ∧ Tch f F U ∧ IntsV z' ao U ∧ Below z.heap.size z z') := Lib.hid (fun z t1 m1 t2 m2 h1 h2 J => by
  refine (ttou_c hI0 J (.inr ⟨t1, m1, rfl, h1⟩) (.inr ⟨t2, m2, rfl, h2⟩)).mono ?_
  rintro e z' ⟨U, ao, cap, rfl, hT, hw, hb⟩
  exact ⟨U, _, ao, cap, rfl, rfl, tch_len hI0 J hT, hT, hw.ints, hb⟩)
 clear hf hL hI0 hB hyl hi hE hF hM hA hxi hyi hxl ha
 by_cases hE0 : E = 0
 ·subst hE0
  go_enter Tryz.func5, Tryz.ntmps5
  go_wp2_with (first
   | go_guarded
   | (go_at_call 13; (with_reducible refine (KTT.out _ tb mb tb2 mb2 HT2.out HG2.out HI2.out).mono ?_); rintro _ w3 ⟨U, m, uo, uc, rfl, hm, h128, hU, hw3, hbel⟩; have HU := Lib.hid hU; have HW3 := Lib.hid hw3; have HM := Lib.hid hm; have HB3 : Hid (Below w.heap.size w w3) := Lib.hid (HB2.out.trans (hbel.mono HB2.out.size)); have HR3 := Lib.hid (HR2.out.below hbel); clear hU hw3 hbel hm)
   | (go_at_call 10; (with_reducible refine (KAP.out _ tb mb HT1.out HR1.out).mono ?_); rintro _ w2 ⟨q, rfl, hbel, hor⟩; obtain ⟨-, tb2, mb2, rfl, -, -, hT2, hI2⟩ := hor.resolve_left (fun hx => hx.1 rfl); have HI2 := Lib.hid hI2; have HG2 := Lib.hid hT2; have HT2 := Lib.hid (HT1.out.below hbel); have HR2 := Lib.hid (HR1.out.below hbel); have HB2 : Hid (Below w.heap.size w w2) := Lib.hid (HB1.out.trans (hbel.mono HB1.out.size)); clear hI2 hT2 hbel)
   | (go_at_call 9; (with_reducible refine KTR.out.mono ?_); rintro _ w1 ⟨tb, mb, m1, ro, rc, rfl, -, -, hT, -, -, -, hbel⟩; have HT1 := Lib.hid hT; have HB1 := Lib.hid hbel; have HR1 := Lib.hid (HB0.out.below hbel); clear hT hbel))
  have KA2 := Lib.hid (KAN.out U HU.out)
  clear KAN KAP KTR HU
  try go_frame
  go_loopg [46] m (fun k9 s46 wr => ∃ (k : Nat), s46 = .int .i64 k ∧ k ≤ m ∧ Below w.heap.size w wr ∧ IntsV wr uo U ∧ RwV TC.cells 15 wr bo ys ∧ m - k ≤ k9)
  case atStart => exact ⟨0, rfl, Nat.zero_le _, HB3.out, HW3.out, HR3.out, by omega⟩
  case round =>
   obtain ⟨k, rfl, hk, hbw, hiv, hrv, hk9⟩ := hrel
   have HBW := Lib.hid hbw
   have HIV := Lib.hid hiv
   have HRV := Lib.hid hrv
   by_cases hlt : k < m
   ·have hlC : k < U.length := by rw [HM.out]; exact hlt
    obtain ⟨b, o, rfl, hb, hce⟩ := hiv k hlC
    have hany := KA2.out U[k] (List.getElem_mem hlC)
    obtain ⟨x, hx⟩ : ∃ x, U[k] = x := ⟨_, rfl⟩
    rw [hx] at hce hany
    have HANY := Lib.hid hany
    have HKM : Hid (k + 1 ≤ m) := Lib.hid hlt
    have HK9 := Lib.hid hk9
    clear hbw hiv hrv hany hx hlC
    go_wp2_with (first | go_guarded)
    try go_frame
    go_loopg [14, 52] l (fun j9 s14 s52 wx => ∃ (j : Nat) (r : Bool), s14 = .bool r ∧ s52 = .int .i64 j ∧ j ≤ l ∧ (ys.take j).any (fun a => a.c.id == x) = r ∧ Below w.heap.size w wx ∧ IntsV wx (some ⟨b, o, none⟩) U ∧ RwV TC.cells 15 wx bo ys ∧ l - j ≤ j9)
    case atStart => exact ⟨0, false, rfl, rfl, Nat.zero_le _, rfl, HBW.out, HIV.out, HRV.out, by omega⟩
    case round =>
     rename World => wx
     obtain ⟨j, r, rfl, rfl, hj, hr, hbx, hix, hrx, hj9⟩ := hrel
     have HBX := Lib.hid hbx
     have HIX := Lib.hid hix
     have HRX := Lib.hid hrx
     by_cases hjl : j < l
     ·have hlD : j < ys.length := by rw [HYL.out]; exact hjl
      obtain ⟨b3, o3, rfl, hb3, hra⟩ := hrx j hlD
      obtain ⟨a0, hae⟩ : ∃ a, ys[j] = a := ⟨_, rfl⟩
      rw [hae] at hra
      have HAE := Lib.hid (show (ys[j]'hlD) = a0 from hae)
      obtain ⟨k0, c⟩ := a0
      have HR := Lib.hid (show wx.rangeAt b3 (o3 + j * 15) (#[.int .i64 (k0), .int .i64 c.id, .int .i64 c.par, .bool c.leaf, .int .u64 c.ra, .int .u64 c.rb, .int .u64 c.rc, .int .u64 c.la, .int .u64 c.lb, .int .u64 c.lc, .int .u64 c.ua, .int .u64 c.ub, .int .u64 c.uc, .int .i64 c.pk, .int .i64 c.bt] : Array Value).toList from hra)
      have HJL : Hid (j + 1 ≤ l) := Lib.hid hjl
      have HRA := Lib.hid hr
      clear hr hbx hix hrx hra hae hb3
      cases r with
      | true =>
       go_wp2_with (first
        | go_guarded
        | (refine wpList_var_new rfl rfl 50 #[.int .i64 0, .int .i64 0, .int .i64 0, .bool false, .int .u64 0, .int .u64 0, .int .u64 0, .int .u64 0, .int .u64 0, .int .u64 0, .int .u64 0, .int .u64 0, .int .u64 0, .int .i64 0, .int .i64 0] ALL.out rfl _ _ rfl #[.int .i64 (k0), .int .i64 c.id, .int .i64 c.par, .bool c.leaf, .int .u64 c.ra, .int .u64 c.rb, .int .u64 c.rc, .int .u64 c.la, .int .u64 c.lb, .int .u64 c.lc, .int .u64 c.ua, .int .u64 c.ub, .int .u64 c.uc, .int .i64 c.pk, .int .i64 c.bt] rfl rfl AINF.out rfl (ONE.out _ _) ?_; intro w5 hs5 hb5 hv5; have v0 := hv5.cell 0 rfl; have v1 := hv5.cell 1 rfl; have HI5 := Lib.hid (HIX.out.below hb5); have HR5 := Lib.hid (HRX.out.below hb5); have HB5 := Lib.hid (HBX.out.trans (hb5.mono HBX.out.size)); clear hb5 hv5)
        | (refine wpList_part_get rfl 50 _ rfl b3 (o3 + j * 15) #[.int .i64 (k0), .int .i64 c.id, .int .i64 c.par, .bool c.leaf, .int .u64 c.ra, .int .u64 c.rb, .int .u64 c.rc, .int .u64 c.la, .int .u64 c.lb, .int .u64 c.lc, .int .u64 c.ua, .int .u64 c.ub, .int .u64 c.uc, .int .i64 c.pk, .int .i64 c.bt] _ HR.out rfl Tryz.underlying50 rfl AINF.out ?_))
       go_roundg (l - (j + 1))
       case rel => exact ⟨j + 1, true, rfl, (by go_num), HJL.out, (by rw [tany_take (by rw [HYL.out]; exact HJL.out), HAE.out, HRA.out]; first | rfl | simp), HB5.out, HI5.out, HR5.out, Nat.le_refl _⟩
       case measure => omega
      | false =>
       go_wp2_with (first
        | go_guarded
        | (refine wpList_var_new rfl rfl 50 #[.int .i64 0, .int .i64 0, .int .i64 0, .bool false, .int .u64 0, .int .u64 0, .int .u64 0, .int .u64 0, .int .u64 0, .int .u64 0, .int .u64 0, .int .u64 0, .int .u64 0, .int .i64 0, .int .i64 0] ALL.out rfl _ _ rfl #[.int .i64 (k0), .int .i64 c.id, .int .i64 c.par, .bool c.leaf, .int .u64 c.ra, .int .u64 c.rb, .int .u64 c.rc, .int .u64 c.la, .int .u64 c.lb, .int .u64 c.lc, .int .u64 c.ua, .int .u64 c.ub, .int .u64 c.uc, .int .i64 c.pk, .int .i64 c.bt] rfl rfl AINF.out rfl (ONE.out _ _) ?_; intro w5 hs5 hb5 hv5; have v0 := hv5.cell 0 rfl; have v1 := hv5.cell 1 rfl; have HI5 := Lib.hid (HIX.out.below hb5); have HR5 := Lib.hid (HRX.out.below hb5); have HB5 := Lib.hid (HBX.out.trans (hb5.mono HBX.out.size)); clear hb5 hv5)
        | (refine wpList_part_get rfl 50 _ rfl b3 (o3 + j * 15) #[.int .i64 (k0), .int .i64 c.id, .int .i64 c.par, .bool c.leaf, .int .u64 c.ra, .int .u64 c.rb, .int .u64 c.rc, .int .u64 c.la, .int .u64 c.lb, .int .u64 c.lc, .int .u64 c.ua, .int .u64 c.ub, .int .u64 c.uc, .int .i64 c.pk, .int .i64 c.bt] _ HR.out rfl Tryz.underlying50 rfl AINF.out ?_))
       go_roundg (l - (j + 1))
       case rel => exact ⟨j + 1, (c.id == x), rfl, (by go_num), HJL.out, (by rw [tany_take (by rw [HYL.out]; exact HJL.out), HAE.out, HRA.out]; first | rfl | simp), HB5.out, HI5.out, HR5.out, Nat.le_refl _⟩
       case measure => omega
     ·obtain rfl : j = l := by omega
      rw [List.take_of_length_le (by rw [HYL.out]; exact Nat.le_refl _), HANY.out] at hr
      subst hr
      clear hbx hix hrx hjl
      go_wp2_with (first | go_guarded)
      go_roundg (m - (k + 1))
      case rel => exact ⟨k + 1, (by go_num), HKM.out, HBX.out, HIX.out, HRX.out, Nat.le_refl _⟩
      case measure => (have := HK9.out; have := HKM.out; omega)
   ·obtain rfl : k = m := by omega
    clear hbw hiv hrv hlt
    go_wp2_with (first | go_guarded | (go_at_call 8; (with_reducible refine (KTW.out _).mono ?_); rintro _ w9 ⟨rfl, hbel⟩; have HB9 : Hid (Below w.heap.size w w9) := Lib.hid (HBW.out.trans (hbel.mono HBW.out.size)); clear hbel))
    go_ret
    exact ⟨rfl, HB9.out⟩
 ·have hne : (E == 0) = false := by simpa using hE0
  go_enter Tryz.func5, Tryz.ntmps5
  go_wp2_with (first
   | go_guarded
   | (go_at_call 8; (with_reducible refine (KTW.out _).mono ?_); rintro _ w3 ⟨rfl, hbel⟩; have HB3 : Hid (Below w.heap.size w w3) := Lib.hid (HB2.out.trans (hbel.mono HB2.out.size)); clear hbel)
   | (go_at_call 10; (with_reducible refine (KAP.out _ tb mb HT1.out HR1.out).mono ?_); rintro _ w2 ⟨q, rfl, hbel, hor⟩; obtain ⟨-, rfl⟩ := hor.resolve_right (fun hx => absurd hx.1 hE0); have HB2 : Hid (Below w.heap.size w w2) := Lib.hid (HB1.out.trans (hbel.mono HB1.out.size)); clear hbel)
   | (go_at_call 9; (with_reducible refine KTR.out.mono ?_); rintro _ w1 ⟨tb, mb, m1, ro, rc, rfl, -, -, hT, -, -, -, hbel⟩; have HT1 := Lib.hid hT; have HB1 := Lib.hid hbel; have HR1 := Lib.hid (HB0.out.below hbel); clear hT hbel))
  go_ret
  exact ⟨rfl, HB3.out⟩
theorem transNames_law (v1 : Value) (T : Int) (v2 : Value) {w : World} (hs : Op.FlatSlice w 15 [.int .i64, .int .i64, .int .i64, .bool, .int .u64, .int .u64, .int .u64, .int .u64, .int .u64, .int .u64, .int .u64, .int .u64, .int .u64, .int .i64, .int .i64] v1) {P : Prop} (_ : P) (hs2 : Op.FlatSlice w 15 [.int .i64, .int .i64, .int .i64, .bool, .int .u64, .int .u64, .int .u64, .int .u64, .int .u64, .int .u64, .int .u64, .int .u64, .int .u64, .int .i64, .int .i64] v2) : Calls Tryz.prog 5 #[v1, .int .i64 T, v2] w fun ee w' => ee = .returned (.bool true) ∧ Below w.heap.size w w' := by
 obtain ⟨ao, xs, ac, rfl, h1, h2, h3, h4⟩ := chgs_of hs
 obtain ⟨bo, ys, bc, rfl, g1, g2, g3, g4⟩ := chgs_of hs2
 by_cases hn : xs.length ≤ 80
 ·by_cases hm : ys.length ≤ 60
  ·exact names_c xs _ rfl hn h4 ys _ rfl hm g4 T ao bo ac bc w h3 g3
  ·exact names_long _ _ ao bo ac bc T (.inr (by omega)) w
 ·exact names_long _ _ ao bo ac bc T (.inl (by omega)) w
end Go.Proofs.YtffaahipgabkhaaGreat
end
