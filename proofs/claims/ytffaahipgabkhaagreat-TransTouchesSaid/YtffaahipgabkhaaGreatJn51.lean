/- Joined texts. -/
import Derived.Test.YtffaahipgabkhaaGreatJn0
import Derived.Test.YtffaahipgabkhaaGreatJn50
set_option linter.unusedVariables false
set_option linter.unusedSimpArgs false
set_option maxRecDepth 100000
set_option maxHeartbeats 16000000
section
namespace Go.Proofs.YtffaahipgabkhaaGreat
open Go.RowKit Fg Reg Go.Maps Go.Shelf
attribute [local irreducible] Reg.wE VR
theorem rrls_c {f g : Int → Option Cls} {L M : List Int} (I : TI f L) (J : TI g M) (n m : Nat) (hn : L.length = n) (hm : M.length = m) (ao bo : Option Addr) (ac bc : Nat) (w : World) (hA : RwV crow 14 w ao (rowsX f L)) (hB : RwV crow 14 w bo (rowsX g M)) :
  Calls Tryz.prog 17 #[.slice ao n ac, .slice bo m bc] w fun e w' => ∃ U, Tch f g U ∧ e = .returned (.bool (U.any (trl f g))) ∧ Below w.heap.size w w' := by
 have KT : Hid (Calls Tryz.prog 15 #[.slice ao n ac, .slice bo m bc] w fun e w' => ∃ U u oo c, e = .returned (.slice oo u c) ∧ U.length = u ∧ Tch f g U ∧ IntsV w' oo U ∧ Below w.heap.size w w') := Lib.hid ((rtou_c I J n m hn hm ao bo ac bc w hA hB).mono (by rintro e z ⟨U, oo, c, rfl, hT, hO, hb⟩; exact ⟨U, _, oo, c, rfl, rfl, hT, (own_ints hO).2, hb⟩))
 have KA := Lib.hid (fun z (x : Int) (hz : RwV crow 14 z ao (rowsX f L)) => rreal_c I n hn x ao ac z hz)
 have KB := Lib.hid (fun z (x : Int) (hz : RwV crow 14 z bo (rowsX g M)) => rreal_c J m hm x bo bc z hz)
 have HI := Lib.hid I
 have HJ := Lib.hid J
 have HA := Lib.hid hA
 have HBR := Lib.hid hB
 clear I J hn hm hA hB
 go_enter Tryz.func17, Tryz.ntmps17
 go_wp2_with (first
  | go_guarded
  | (go_at_call 15; (with_reducible refine KT.out.mono ?_); rintro _ w1 ⟨U, u, oo, c, rfl, hu, hU, hV, hbel⟩; have HU := Lib.hid hU; have HV := Lib.hid hV; have HB1 := Lib.hid hbel; have HUL := Lib.hid hu; clear hU hV hbel hu))
 have H128 : Hid (u ≤ 128) := Lib.hid (by rw [← HUL.out]; exact tch_len HI.out HJ.out HU.out)
 try go_frame
 go_loopg [11] u (fun k9 s11 wr => ∃ k : Nat, s11 = .int .i64 k ∧ k ≤ u ∧ (U.take k).any (trl f g) = false ∧ IntsV wr oo U ∧ Below w.heap.size w wr ∧ u - k ≤ k9)
 case atStart => exact ⟨0, rfl, Nat.zero_le _, rfl, HV.out, HB1.out, by omega⟩
 case round =>
  obtain ⟨k, rfl, hk, han, hiv, hB, hk9⟩ := hrel
  have HB := Lib.hid hB
  have HIV := Lib.hid hiv
  have h128 := H128.out
  by_cases hlt : k < u
  ·have hlC : k < U.length := by rw [HUL.out]; exact hlt
   obtain ⟨b, o, rfl, hb, hce⟩ := hiv k hlC
   have hst : (U.take (k + 1)).any (trl f g) = (rl1 (gcl (f U[k])) || rl1 (gcl (g U[k]))) := by
    rw [take_snoc'' U k hlC, List.any_append, han]
    simp [trl]
   have hmem : U[k] ∈ U := List.getElem_mem hlC
   obtain ⟨x, hx⟩ : ∃ x, U[k] = x := ⟨_, rfl⟩
   rw [hx] at hce hst hmem
   have KA1 := Lib.hid (fun z hz => KA.out z x hz)
   have KB1 := Lib.hid (fun z hz => KB.out z x hz)
   obtain ⟨ra, hra⟩ : ∃ r, rl1 (gcl (f x)) = r := ⟨_, rfl⟩
   obtain ⟨rb, hrb⟩ : ∃ r, rl1 (gcl (g x)) = r := ⟨_, rfl⟩
   have hany : (ra || rb) = true → U.any (trl f g) = true := fun h => List.any_eq_true.2 ⟨x, hmem, by unfold trl; rw [hra, hrb]; exact h⟩
   rw [hra] at KA1 hst
   rw [hrb] at KB1 hst
   have HST := Lib.hid hst
   have HANY := Lib.hid hany
   clear hiv hB han hst hmem hx hra hrb hany hb hlC
   cases ra with
   | true =>
    have HR : Hid (U.any (trl f g) = true) := Lib.hid (HANY.out rfl)
    go_wp2_with (first
     | go_guarded
     | (go_at_call 41; (with_reducible refine (KA1.out _ (HA.out.below HB.out)).mono ?_); rintro _ w2 ⟨rfl, hbel⟩; have HB2 := Lib.hid (HB.out.trans (hbel.mono HB.out.size)); clear hbel))
    go_ret
    exact ⟨U, HU.out, (by rw [HR.out]; rfl), HB2.out⟩
   | false =>
    cases rb with
    | true =>
     have HR : Hid (U.any (trl f g) = true) := Lib.hid (HANY.out rfl)
     go_wp2_with (first
      | go_guarded
      | (go_at_call 41; (have mk := HB2); (with_reducible refine (KB1.out _ (HBR.out.below HB2.out)).mono ?_); rintro _ w3 ⟨rfl, hbel⟩; have HB3 := Lib.hid (HB2.out.trans (hbel.mono HB2.out.size)); clear hbel)
      | (go_at_call 41; (with_reducible refine (KA1.out _ (HA.out.below HB.out)).mono ?_); rintro _ w2 ⟨rfl, hbel⟩; have HB2 := Lib.hid (HB.out.trans (hbel.mono HB.out.size)); clear hbel))
     go_ret
     exact ⟨U, HU.out, (by rw [HR.out]; rfl), HB3.out⟩
    | false =>
     have HIV1 := HIV
     go_wp2_with (first
      | go_guarded
      | (go_at_call 41; (have mk := HB2); (with_reducible refine (KB1.out _ (HBR.out.below HB2.out)).mono ?_); rintro _ w3 ⟨rfl, hbel⟩; have HB3 := Lib.hid (HB2.out.trans (hbel.mono HB2.out.size)); have HIV3 := Lib.hid (HIV2.out.below hbel); clear hbel)
      | (go_at_call 41; (with_reducible refine (KA1.out _ (HA.out.below HB.out)).mono ?_); rintro _ w2 ⟨rfl, hbel⟩; have HB2 := Lib.hid (HB.out.trans (hbel.mono HB.out.size)); have HIV2 := Lib.hid (HIV.out.below hbel); clear hbel))
     go_roundg (u - (k + 1))
     case rel => exact ⟨k + 1, by go_num, by omega, HST.out, HIV3.out, HB3.out, Nat.le_refl _⟩
     case measure => omega
  ·obtain rfl : k = u := by omega
   have HR : Hid (U.any (trl f g) = false) := Lib.hid (by rw [← han, List.take_of_length_le (by rw [HUL.out]; exact Nat.le_refl _)])
   clear hiv hB han hlt
   go_wp2_with (first | go_guarded)
   go_ret
   exact ⟨U, HU.out, (by rw [HR.out]; rfl), HB.out⟩
theorem tch_nil {f : Int → Option Cls} {L : List Int} (I : TI f L) : Tch (fun _ => none) f L := ⟨I.srt, fun x => by
 rw [← I.mem x]
 cases f x with
 | none => simp
 | some c => simp⟩
theorem touch_long (a l : Nat) (ao bo : Option Addr) (ac bc : Nat) (h : 80 < a ∨ 80 < l) (w : World) : Calls Tryz.prog 4 #[.slice ao a ac, .slice bo l bc] w fun ee w' => ee = .returned (.bool true) ∧ Below w.heap.size w w' := by
 have K := Lib.hid twice_c
 by_cases h1 : 80 < a
 ·have q1 : decide ((80 : Int) < (a : Int)) = true := decide_eq_true (by omega)
  have q2 : decide (80 < a) = true := decide_eq_true h1
  clear h
  go_enter Tryz.func4, Tryz.ntmps4
  go_wp2_with (first | go_guarded | (go_at_call 8; (with_reducible refine (K.out _).mono ?_); rintro _ w1 ⟨rfl, hbel⟩; have HB1 := Lib.hid hbel; clear hbel))
  go_ret
  exact ⟨rfl, HB1.out⟩
 ·have q1 : decide ((80 : Int) < (a : Int)) = false := decide_eq_false (by omega)
  have q2 : decide (80 < a) = false := decide_eq_false h1
  have q3 : decide ((80 : Int) < (l : Int)) = true := decide_eq_true (by omega)
  have q4 : decide (80 < l) = true := decide_eq_true (by omega)
  clear h
  go_enter Tryz.func4, Tryz.ntmps4
  go_wp2_with (first | go_guarded | (go_at_call 8; (with_reducible refine (K.out _).mono ?_); rintro _ w1 ⟨rfl, hbel⟩; have HB1 := Lib.hid hbel; clear hbel))
  go_ret
  exact ⟨rfl, HB1.out⟩
theorem touch_c (xs : List TC) (a : Nat) (hxl : xs.length = a) (ha : a ≤ 80) (hxi : ∀ k (h : k < xs.length), CIn xs[k].c) (ys : List TC) (l : Nat) (hyl : ys.length = l) (hl : l ≤ 80) (hyi : ∀ k (h : k < ys.length), CIn ys[k].c) (ao bo : Option Addr) (ac bc : Nat) (w : World) (hA : RwV TC.cells 15 w ao xs) (hB : RwV TC.cells 15 w bo ys) :
  Calls Tryz.prog 4 #[.slice ao a ac, .slice bo l bc] w fun ee w' => ee = .returned (.bool true) ∧ Below w.heap.size w w' := by
 have q1 : decide ((80 : Int) < (a : Int)) = false := decide_eq_false (by omega)
 have q2 : decide (80 < a) = false := decide_eq_false (by omega)
 have q3 : decide ((80 : Int) < (l : Int)) = false := decide_eq_false (by omega)
 have q4 : decide (80 < l) = false := decide_eq_false (by omega)
 have KTW := Lib.hid twice_c
 have KTR := Lib.hid (tree_c xs a hxl ha hxi ao ac w hA)
 have KTS := Lib.hid (fun z (hz : RwV TC.cells 15 z bo ys) => tree_c ys l hyl hl hyi bo bc z hz)
 have I : TI (trs (fun _ => none) [] xs).1 (trs (fun _ => none) [] xs).2 := TI.trs xs TI.nil (fun b hb => by obtain ⟨k, hk, rfl⟩ := List.getElem_of_mem hb; exact hxi k hk)
 have J : TI (trs (fun _ => none) [] ys).1 (trs (fun _ => none) [] ys).2 := TI.trs ys TI.nil (fun b hb => by obtain ⟨k, hk, rfl⟩ := List.getElem_of_mem hb; exact hyi k hk)
 obtain ⟨f, hf⟩ : ∃ f, (trs (fun _ => none) [] xs).1 = f := ⟨_, rfl⟩
 obtain ⟨L, hL⟩ : ∃ L, (trs (fun _ => none) [] xs).2 = L := ⟨_, rfl⟩
 obtain ⟨g, hg⟩ : ∃ g, (trs (fun _ => none) [] ys).1 = g := ⟨_, rfl⟩
 obtain ⟨M, hM⟩ : ∃ M, (trs (fun _ => none) [] ys).2 = M := ⟨_, rfl⟩
 rw [hf, hL] at KTR I
 rw [hg, hM] at KTS J
 obtain ⟨U, hU⟩ : ∃ U, Tch f g U := ⟨_, tch_of I J⟩
 obtain ⟨u, hu⟩ : ∃ u, U.length = u := ⟨_, rfl⟩
 obtain ⟨r, hr⟩ : ∃ r, U.any (trl f g) = r := ⟨_, rfl⟩
 have h128 : u ≤ 128 := by rw [← hu]; exact tch_len I J hU
 have KT1 : Hid (∀ z t1 m1 t2 m2, HT z t1 m1 f → HT z t2 m2 g → Calls Tryz.prog 13 #[.pointer (some ⟨t1, 0, none⟩), .pointer (some ⟨t2, 0, none⟩)] z fun e z' => ∃ ao cap, e = .returned (.slice ao u cap) ∧ IntsV z' ao U ∧ Below z.heap.size z z') := Lib.hid (fun z t1 m1 t2 m2 h1 h2 => by
  refine (ttou_c I J (.inr ⟨t1, m1, rfl, h1⟩) (.inr ⟨t2, m2, rfl, h2⟩)).mono ?_
  rintro e z' ⟨V, ao, cap, rfl, hT, hw, hb⟩
  obtain rfl := hT.uniq hU
  exact ⟨ao, cap, by rw [hu], hw.ints, hb⟩)
 have KT2 : Hid (∀ z t1 m1 t2 m2, HT z t1 m1 f → HT z t2 m2 g → Calls Tryz.prog 13 #[.pointer (some ⟨t2, 0, none⟩), .pointer (some ⟨t1, 0, none⟩)] z fun e z' => ∃ ao cap, e = .returned (.slice ao u cap) ∧ IntsV z' ao U ∧ Below z.heap.size z z') := Lib.hid (fun z t1 m1 t2 m2 h1 h2 => by
  refine (ttou_c J I (.inr ⟨t2, m2, rfl, h2⟩) (.inr ⟨t1, m1, rfl, h1⟩)).mono ?_
  rintro e z' ⟨V, ao, cap, rfl, hT, hw, hb⟩
  obtain rfl := hT.uniq hU.swap
  exact ⟨ao, cap, by rw [hu], hw.ints, hb⟩)
 have KT3 : Hid (∀ z t1 m1, HT z t1 m1 f → Calls Tryz.prog 13 #[.pointer (some ⟨t1, 0, none⟩), .pointer (some ⟨t1, 0, none⟩)] z fun e z' => ∃ ao cap, e = .returned (.slice ao 0 cap) ∧ Below z.heap.size z z') := Lib.hid (fun z t1 m1 h1 => by
  refine (ttou_c I I (.inr ⟨t1, m1, rfl, h1⟩) (.inr ⟨t1, m1, rfl, h1⟩)).mono ?_
  rintro e z' ⟨V, ao, cap, rfl, hT, -, hb⟩
  obtain rfl := hT.uniq (tc99 _)
  exact ⟨ao, cap, rfl, hb⟩)
 obtain ⟨n, hn⟩ : ∃ n, L.length = n := ⟨_, rfl⟩
 have KT4 : Hid (∀ z t1 m1, HT z t1 m1 f → Calls Tryz.prog 13 #[.pointer none, .pointer (some ⟨t1, 0, none⟩)] z fun e z' => ∃ ao cap, e = .returned (.slice ao n cap) ∧ IntsV z' ao L ∧ Below z.heap.size z z') := Lib.hid (fun z t1 m1 h1 => by
  refine (ttou_c TI.nil I (.inl ⟨rfl, rfl, rfl⟩) (.inr ⟨t1, m1, rfl, h1⟩)).mono ?_
  rintro e z' ⟨V, ao, cap, rfl, hT, hw, hb⟩
  obtain rfl := hT.uniq (tch_nil I)
  exact ⟨ao, cap, by rw [hn], hw.ints, hb⟩)
 have KID : Hid (∀ z t1 m1, HT z t1 m1 f → Calls Tryz.prog 18 #[.pointer (some ⟨t1, 0, none⟩)] z fun e z' => ∃ ao cap, e = .returned (.slice ao n cap) ∧ IntsV z' ao L ∧ Below z.heap.size z z') := Lib.hid (fun z t1 m1 h => by
  refine (ids_c h L I.srt I.mem (Nat.le_trans I.len (by decide)) I.iok).mono ?_
  rintro e z' ⟨v, rfl, hr, hb⟩
  obtain ⟨ao, cap, rfl⟩ := row_form hr
  exact ⟨ao, cap, by rw [hn], (own_ints hr).2, hb⟩)
 have KRT : Hid (∀ z n1 n2 a1 c1 a2 c2, L.length = n1 → M.length = n2 → RwV crow 14 z a1 (rowsX f L) → RwV crow 14 z a2 (rowsX g M) → Calls Tryz.prog 15 #[.slice a1 n1 c1, .slice a2 n2 c2] z fun e z' => ∃ ao cap, e = .returned (.slice ao u cap) ∧ IntsV z' ao U ∧ Below z.heap.size z z') := Lib.hid (fun z n1 n2 a1 c1 a2 c2 e1 e2 h1 h2 => by
  refine (rtou_c I J n1 n2 e1 e2 a1 a2 c1 c2 z h1 h2).mono ?_
  rintro e z' ⟨V, oo, cc, rfl, hT, hO, hb⟩
  obtain rfl := hT.uniq hU
  exact ⟨oo, cc, by rw [hu], (own_ints hO).2, hb⟩)
 have KRR : Hid (∀ z n1 n2 a1 c1 a2 c2, L.length = n1 → M.length = n2 → RwV crow 14 z a1 (rowsX f L) → RwV crow 14 z a2 (rowsX g M) → Calls Tryz.prog 17 #[.slice a1 n1 c1, .slice a2 n2 c2] z fun ee w' => ee = .returned (.bool r) ∧ Below z.heap.size z w') := Lib.hid (fun z n1 n2 a1 c1 a2 c2 e1 e2 h1 h2 => by
  refine (rrls_c I J n1 n2 e1 e2 a1 a2 c1 c2 z h1 h2).mono ?_
  rintro e z' ⟨V, hT, rfl, hb⟩
  obtain rfl := hT.uniq hU
  exact ⟨by rw [hr], hb⟩)
 have KRL : Hid (∀ z t1 m1 t2 m2, HT z t1 m1 f → HT z t2 m2 g → Calls Tryz.prog 16 #[.pointer (some ⟨t1, 0, none⟩), .pointer (some ⟨t2, 0, none⟩)] z fun ee w' => ee = .returned (.bool r) ∧ Below z.heap.size z w') := Lib.hid (fun z t1 m1 t2 m2 h1 h2 => by
  refine (trls_c I J (.inr ⟨t1, m1, rfl, h1⟩) (.inr ⟨t2, m2, rfl, h2⟩)).mono ?_
  rintro e z' ⟨V, hT, rfl, hb⟩
  obtain rfl := hT.uniq hU
  exact ⟨by rw [hr], hb⟩)
 have KIU : Hid (∀ (z : World) a1 a2 c1 c2, IntsV z a1 U → IntsV z a2 U → Calls Tryz.prog 14 #[.slice a1 u c1, .slice a2 u c2] z fun ee w' => ee = .returned (.bool true) ∧ Below z.heap.size z w') := Lib.hid (fun z a1 a2 c1 c2 h1 h2 => by have := pints_c U a1 a2 c1 c2 (by rw [hu]; omega) z h1 h2; rw [hu] at this; exact this)
 have KIL : Hid (∀ (z : World) a1 a2 c1 c2, IntsV z a1 L → IntsV z a2 L → Calls Tryz.prog 14 #[.slice a1 n c1, .slice a2 n c2] z fun ee w' => ee = .returned (.bool true) ∧ Below z.heap.size z w') := Lib.hid (fun z a1 a2 c1 c2 h1 h2 => by have := pints_c L a1 a2 c1 c2 (Nat.le_trans I.len (by decide)) z h1 h2; rw [hn] at this; exact this)
 have HB0 := Lib.hid hB
 have QR : Hid ((r == r) = true) := Lib.hid (by simp)
 clear hf hL hg hM hu hr hn hA hB hxi hyi hxl hyl ha hl hU I J h128
 go_enter Tryz.func4, Tryz.ntmps4
 go_wp2_with (first
  | go_guarded
  | (go_at_call 8; (with_reducible refine (KTW.out _).mono ?_); rintro _ w14 ⟨rfl, hbel⟩; have HB14 : Hid (Below w.heap.size w w14) := Lib.hid (HB13.out.trans (hbel.mono HB13.out.size)); clear hbel)
  | (go_at_call 14; (with_reducible refine (KIL.out _ _ _ _ _ HV11.out HV12.out).mono ?_); rintro _ w13 ⟨rfl, hbel⟩; have HB13 : Hid (Below w.heap.size w w13) := Lib.hid (HB12.out.trans (hbel.mono HB12.out.size)); clear hbel)
  | (go_at_call 18; (with_reducible refine (KID.out _ tb mb HT11.out).mono ?_); rintro _ w12 ⟨ao12, cp12, rfl, hv, hbel⟩; have HV12 := Lib.hid hv; have HV11 := Lib.hid (HV10.out.below hbel); have HB12 : Hid (Below w.heap.size w w12) := Lib.hid (HB11.out.trans (hbel.mono HB11.out.size)); clear hbel hv)
  | (go_at_call 13; (with_reducible refine (KT4.out _ tb mb HT10.out).mono ?_); rintro _ w11 ⟨ao11, cp11, rfl, hv, hbel⟩; have HV10 := Lib.hid hv; have HT11 := Lib.hid (HT10.out.below hbel); have HB11 : Hid (Below w.heap.size w w11) := Lib.hid (HB10.out.trans (hbel.mono HB10.out.size)); clear hbel hv)
  | (go_at_call 13; (with_reducible refine (KT3.out _ tb mb HT9.out).mono ?_); rintro _ w10 ⟨ao10, cp10, rfl, hbel⟩; have HT10 := Lib.hid (HT9.out.below hbel); have HB10 : Hid (Below w.heap.size w w10) := Lib.hid (HB9.out.trans (hbel.mono HB9.out.size)); clear hbel)
  | (go_at_call 17; (with_reducible refine (KRR.out _ _ _ _ _ _ _ HN1.out HN2.out HR8.out HS8.out).mono ?_); rintro _ w9 ⟨rfl, hbel⟩; have HT9 := Lib.hid (HT8.out.below hbel); have HB9 : Hid (Below w.heap.size w w9) := Lib.hid (HB8.out.trans (hbel.mono HB8.out.size)); have qr := QR.out; clear hbel)
  | (go_at_call 16; (with_reducible refine (KRL.out _ tb mb tb2 mb2 HT7.out HG7.out).mono ?_); rintro _ w8 ⟨rfl, hbel⟩; have HT8 := Lib.hid (HT7.out.below hbel); have HR8 := Lib.hid (HR7.out.below hbel); have HS8 := Lib.hid (HS7.out.below hbel); have HB8 : Hid (Below w.heap.size w w8) := Lib.hid (HB7.out.trans (hbel.mono HB7.out.size)); clear hbel)
  | (go_at_call 14; (with_reducible refine (KIU.out _ _ _ _ _ HW6.out HV6.out).mono ?_); rintro _ w7 ⟨rfl, hbel⟩; have HT7 := Lib.hid (HT6.out.below hbel); have HG7 := Lib.hid (HG6.out.below hbel); have HR7 := Lib.hid (HR6.out.below hbel); have HS7 := Lib.hid (HS6.out.below hbel); have HB7 : Hid (Below w.heap.size w w7) := Lib.hid (HB6.out.trans (hbel.mono HB6.out.size)); clear hbel)
  | (go_at_call 13; (with_reducible refine (KT2.out _ tb mb tb2 mb2 HT5.out HG5.out).mono ?_); rintro _ w6 ⟨ao6, cp6, rfl, hv, hbel⟩; have HW6 := Lib.hid hv; have HV6 := Lib.hid (HV5.out.below hbel); have HT6 := Lib.hid (HT5.out.below hbel); have HG6 := Lib.hid (HG5.out.below hbel); have HR6 := Lib.hid (HR5.out.below hbel); have HS6 := Lib.hid (HS5.out.below hbel); have HB6 : Hid (Below w.heap.size w w6) := Lib.hid (HB5.out.trans (hbel.mono HB5.out.size)); clear hbel hv)
  | (go_at_call 14; (with_reducible refine (KIU.out _ _ _ _ _ HV4.out HW4.out).mono ?_); rintro _ w5 ⟨rfl, hbel⟩; have HV5 := Lib.hid (HV4.out.below hbel); have HT5 := Lib.hid (HT4.out.below hbel); have HG5 := Lib.hid (HG4.out.below hbel); have HR5 := Lib.hid (HR4.out.below hbel); have HS5 := Lib.hid (HS4.out.below hbel); have HB5 : Hid (Below w.heap.size w w5) := Lib.hid (HB4.out.trans (hbel.mono HB4.out.size)); clear hbel)
  | (go_at_call 15; (with_reducible refine (KRT.out _ _ _ _ _ _ _ HN1.out HN2.out HR3.out HS3.out).mono ?_); rintro _ w4 ⟨ao4, cp4, rfl, hv, hbel⟩; have HW4 := Lib.hid hv; have HV4 := Lib.hid (HV3.out.below hbel); have HT4 := Lib.hid (HT3.out.below hbel); have HG4 := Lib.hid (HG3.out.below hbel); have HR4 := Lib.hid (HR3.out.below hbel); have HS4 := Lib.hid (HS3.out.below hbel); have HB4 : Hid (Below w.heap.size w w4) := Lib.hid (HB3.out.trans (hbel.mono HB3.out.size)); clear hbel hv)
  | (go_at_call 13; (with_reducible refine (KT1.out _ tb mb tb2 mb2 HT2.out HG2.out).mono ?_); rintro _ w3 ⟨ao3, cp3, rfl, hv, hbel⟩; have HV3 := Lib.hid hv; have HT3 := Lib.hid (HT2.out.below hbel); have HG3 := Lib.hid (HG2.out.below hbel); have HR3 := Lib.hid (HR2.out.below hbel); have HS3 := Lib.hid (HS2.out.below hbel); have HB3 : Hid (Below w.heap.size w w3) := Lib.hid (HB2.out.trans (hbel.mono HB2.out.size)); clear hbel hv)
  | (go_at_call 9; (with_reducible refine (KTS.out _ HY1.out).mono ?_); rintro _ w2 ⟨tb2, mb2, n2, ro2, rc2, rfl, -, -, hG, -, hn2, hS, hbel⟩; have HG2 := Lib.hid hG; have HS2 := Lib.hid hS; have HN2 := Lib.hid hn2; have HT2 := Lib.hid (HT1.out.below hbel); have HR2 := Lib.hid (HR1.out.below hbel); have HB2 : Hid (Below w.heap.size w w2) := Lib.hid (HB1.out.trans (hbel.mono HB1.out.size)); clear hG hS hn2 hbel)
  | (go_at_call 9; (with_reducible refine KTR.out.mono ?_); rintro _ w1 ⟨tb, mb, n1, ro, rc, rfl, -, -, hT, -, hn1, hR, hbel⟩; have HT1 := Lib.hid hT; have HR1 := Lib.hid hR; have HN1 := Lib.hid hn1; have HB1 := Lib.hid hbel; have HY1 := Lib.hid (HB0.out.below hbel); clear hT hR hn1 hbel))
 go_ret
 exact ⟨rfl, HB14.out⟩
theorem transTouches_law (v1 v2 : Value) {w : World} (hs : Op.FlatSlice w 15 [.int .i64, .int .i64, .int .i64, .bool, .int .u64, .int .u64, .int .u64, .int .u64, .int .u64, .int .u64, .int .u64, .int .u64, .int .u64, .int .i64, .int .i64] v1) (hs2 : Op.FlatSlice w 15 [.int .i64, .int .i64, .int .i64, .bool, .int .u64, .int .u64, .int .u64, .int .u64, .int .u64, .int .u64, .int .u64, .int .u64, .int .u64, .int .i64, .int .i64] v2) : Calls Tryz.prog 4 #[v1, v2] w fun ee w' => ee = .returned (.bool true) ∧ Below w.heap.size w w' := by
 obtain ⟨ao, xs, ac, rfl, h1, h2, h3, h4⟩ := chgs_of hs
 obtain ⟨bo, ys, bc, rfl, g1, g2, g3, g4⟩ := chgs_of hs2
 by_cases hn : xs.length ≤ 80
 ·by_cases hm : ys.length ≤ 80
  ·exact touch_c xs _ rfl hn h4 ys _ rfl hm g4 ao bo ac bc w h3 g3
  ·exact touch_long _ _ ao bo ac bc (.inr (by omega)) w
 ·exact touch_long _ _ ao bo ac bc (.inl (by omega)) w
end Go.Proofs.YtffaahipgabkhaaGreat
end
