/- Joined texts. -/
import Derived.Test.YtffaahipgabkhaaGreatJn0
import Derived.Test.YtffaahipgabkhaaGreatJn47
set_option linter.unusedVariables false
set_option linter.unusedSimpArgs false
set_option maxRecDepth 100000
set_option maxHeartbeats 16000000
section
namespace Go.Proofs.YtffaahipgabkhaaGreat
open Go.RowKit Fg Reg Go.Maps Go.Shelf
attribute [local irreducible] Reg.wE VR
theorem app_idx : ∀ (xs : List TC) (f : Int → Option Cls) (L : List Int) (i j : Int), (app f L i xs).2 = (app f L j xs).2
 | [], f, L, i, j => rfl
 | a :: r, f, L, i, j => by
  unfold app
  split
  ·exact app_idx r _ _ _ _
  ·rfl
theorem app_app (ys : List TC) : ∀ (xs : List TC) (f : Int → Option Cls) (L : List Int) (i j : Int), (app f L i xs).2.1 = 0 → (app f L i (xs ++ ys)).2 = (app (app f L i xs).2.2.1 (app f L i xs).2.2.2 j ys).2
 | [], f, L, i, j, h => app_idx ys f L i j
 | a :: r, f, L, i, j, h => by
  by_cases hc : chE a.k f L a.c = 0
  ·have e1 : app f L i (a :: r) = app (chF a.k f L a.c) (chL a.k f L a.c) (i + 1) r := app_ok r hc
   have e2 : app f L i (a :: r ++ ys) = app (chF a.k f L a.c) (chL a.k f L a.c) (i + 1) (r ++ ys) := app_ok (r ++ ys) hc
   rw [e2, e1]
   exact app_app ys r _ _ _ _ (by rw [← e1]; exact h)
  ·have e1 : app f L i (a :: r) = (i, chE a.k f L a.c, f, L) := app_no r rfl hc
   rw [e1] at h
   exact absurd h hc
theorem apW_inv {FT : (Int → Option Cls) → List Int → Int} {T : Int} {n : Nat} {f : Int → Option Cls} {L : List Int} {xs : List TC} (h : (apW FT T n f L xs).2 = 0) : (app f L 0 xs).2.1 = 0 ∧ FT (app f L 0 xs).2.2.1 (app f L 0 xs).2.2.2 = 0 := by
 unfold apW at h
 split at h
 ·exact absurd h (by decide)
 ·split at h
  ·exact absurd h (by decide)
  ·split at h
   ·rename_i h1; exact absurd h h1
   ·split at h
    ·exact absurd h (by decide)
    ·rename_i h1 h2
     exact ⟨Decidable.not_not.1 h1, Decidable.not_not.1 h2⟩
theorem apW_zero {FT : (Int → Option Cls) → List Int → Int} {T : Int} {n : Nat} {f : Int → Option Cls} {L : List Int} {xs : List TC} (h1 : 1 ≤ T) (h2 : T ≤ 65536) (hn : n ≤ 32) (h3 : (app f L 0 xs).2.1 = 0) (h4 : FT (app f L 0 xs).2.2.1 (app f L 0 xs).2.2.2 = 0) : apW FT T n f L xs = (0, 0) := by
 unfold apW; rw [if_neg (by omega), if_neg (by omega), h3, if_neg (by simp), if_neg (by simp [h4])]
theorem apW_join {FT : (Int → Option Cls) → List Int → Int} {T : Int} {f : Int → Option Cls} {L : List Int} {xs ys : List TC} {n m : Nat} (hT : 1 ≤ T) (hT2 : T ≤ 65536) (hn : n ≤ 32) {k : Nat} (h1 : (apW FT T k f L xs).2 = 0) (h2 : (apW FT T m (app f L 0 xs).2.2.1 (app f L 0 xs).2.2.2 ys).2 = 0) :
  apW FT T n f L (xs ++ ys) = (0, 0) ∧ (app f L 0 (xs ++ ys)).2.2.1 = (app (app f L 0 xs).2.2.1 (app f L 0 xs).2.2.2 0 ys).2.2.1 ∧ (app f L 0 (xs ++ ys)).2.2.2 = (app (app f L 0 xs).2.2.1 (app f L 0 xs).2.2.2 0 ys).2.2.2 := by
 have e := app_app ys xs f L 0 0 (apW_inv h1).1
 obtain ⟨a1, a2⟩ := apW_inv h2
 exact ⟨apW_zero hT hT2 hn (by rw [e]; exact a1) (by rw [e]; exact a2), by rw [e], by rw [e]⟩
theorem rw_take {α : Type} {r : α → List Value} {s : Nat} (ao : Option Addr) (xs : List α) {n cap c : Nat} (hn : xs.length = n) (hc : n ≤ cap) (hcn : c ≤ n) : ∃ so sc, sliced ao 0 c cap s = .slice so c sc ∧ ∀ z, RwV r s z ao xs → RwV r s z so (xs.take c) := by
 refine ⟨_, _, rfl, fun z h k hk => ?_⟩
 have hk2 : k < xs.length ∧ k < c := by simp at hk; omega
 obtain ⟨b, o, rfl, hb, hr⟩ := h k hk2.1
 have h0 : cap ≠ 0 := by omega
 refine ⟨b, o, by simp [Addr.add], hb, ?_⟩
 simpa using hr
theorem rw_drop {α : Type} {r : α → List Value} {s : Nat} (ao : Option Addr) (xs : List α) {n cap c : Nat} (hn : xs.length = n) (hc : n ≤ cap) (hcn : c ≤ n) : ∃ so sc, sliced ao c n cap s = .slice so (n - c) sc ∧ ∀ z, RwV r s z ao xs → RwV r s z so (xs.drop c) := by
 refine ⟨_, _, rfl, fun z h k hk => ?_⟩
 have hk2 : c + k < xs.length := by simp at hk; omega
 obtain ⟨b, o, rfl, hb, hr⟩ := h (c + k) hk2
 have h0 : cap ≠ c := by omega
 refine ⟨b, o + c * s, by rw [if_neg h0]; simp [Addr.add], hb, ?_⟩
 have e : o + c * s + k * s = o + (c + k) * s := by rw [Nat.add_mul]; omega
 rw [e]
 simpa using hr
theorem sl_take (ao : Option Addr) (n cap c : Nat) (hc : c ≤ n) (hn : n ≤ cap) (W : World) : (Instr.slice 22 (.slice ao n cap) none (some (.int .i64 (c : Int))) none).run Tryz.prog W = .ok (sliced ao 0 c cap 15) W := by
 rw [run_slice_h W 22 ao n cap (by kernel_rfl) .i64 (c : Int) (by omega) (by omega)]
 rfl
theorem sl_drop (ao : Option Addr) (n cap c : Nat) (hc : c ≤ n) (W : World) : (Instr.slice 22 (.slice ao n cap) (some (.int .i64 (c : Int))) none none).run Tryz.prog W = .ok (sliced ao c n cap 15) W := by
 rw [run_slice_l W 22 ao n cap (by kernel_rfl) .i64 (c : Int) (by omega) (by omega)]
 rfl
theorem joins_long (a l : Nat) (ao bo : Option Addr) (ac bc : Nat) (c : Int) (h : 80 < a ∨ 32 < l ∨ c < 0 ∨ (l : Int) < c) (w : World) : Calls Tryz.prog 6 #[.slice ao a ac, .slice bo l bc, .int .i64 c] w fun ee w' => ee = .returned (.bool true) ∧ Below w.heap.size w w' := by
 have KTW := Lib.hid twice_c
 have HBx := Lib.hid (Below.refl w.heap.size w)
 by_cases h1 : 80 < a
 ·have q1 : decide ((80 : Int) < (a : Int)) = true := decide_eq_true (by omega)
  have q2 : decide (80 < a) = true := decide_eq_true h1
  clear h
  go_enter Tryz.func6, Tryz.ntmps6
  go_wp2_with (first | go_guarded | (go_at_call 8; (with_reducible refine (KTW.out _).mono ?_); rintro _ w9 ⟨rfl, hbel⟩; have HB9 : Hid (Below w.heap.size w w9) := Lib.hid (HBx.out.trans (hbel.mono HBx.out.size)); clear hbel))
  go_ret
  exact ⟨rfl, HB9.out⟩
 ·have q1 : decide ((80 : Int) < (a : Int)) = false := decide_eq_false (by omega)
  have q2 : decide (80 < a) = false := decide_eq_false h1
  by_cases h2 : 32 < l
  ·have q3 : decide ((32 : Int) < (l : Int)) = true := decide_eq_true (by omega)
   have q4 : decide (32 < l) = true := decide_eq_true h2
   clear h
   go_enter Tryz.func6, Tryz.ntmps6
   go_wp2_with (first | go_guarded | (go_at_call 8; (with_reducible refine (KTW.out _).mono ?_); rintro _ w9 ⟨rfl, hbel⟩; have HB9 : Hid (Below w.heap.size w w9) := Lib.hid (HBx.out.trans (hbel.mono HBx.out.size)); clear hbel))
   go_ret
   exact ⟨rfl, HB9.out⟩
  ·have q3 : decide ((32 : Int) < (l : Int)) = false := decide_eq_false (by omega)
   have q4 : decide (32 < l) = false := decide_eq_false h2
   by_cases h3 : c < 0
   ·have q5 : decide (c < 0) = true := decide_eq_true h3
    clear h
    go_enter Tryz.func6, Tryz.ntmps6
    go_wp2_with (first | go_guarded | (go_at_call 8; (with_reducible refine (KTW.out _).mono ?_); rintro _ w9 ⟨rfl, hbel⟩; have HB9 : Hid (Below w.heap.size w w9) := Lib.hid (HBx.out.trans (hbel.mono HBx.out.size)); clear hbel))
    go_ret
    exact ⟨rfl, HB9.out⟩
   ·have q5 : decide (c < 0) = false := decide_eq_false h3
    have q6 : decide ((l : Int) < c) = true := decide_eq_true (by omega)
    clear h
    go_enter Tryz.func6, Tryz.ntmps6
    go_wp2_with (first | go_guarded | (go_at_call 8; (with_reducible refine (KTW.out _).mono ?_); rintro _ w9 ⟨rfl, hbel⟩; have HB9 : Hid (Below w.heap.size w w9) := Lib.hid (HBx.out.trans (hbel.mono HBx.out.size)); clear hbel))
    go_ret
    exact ⟨rfl, HB9.out⟩
theorem joins_c (xs : List TC) (a : Nat) (hxl : xs.length = a) (ha : a ≤ 80) (hxi : ∀ k (h : k < xs.length), CIn xs[k].c) (ys : List TC) (l : Nat) (hyl : ys.length = l) (hl : l ≤ 32) (hyi : ∀ k (h : k < ys.length), CIn ys[k].c) (c : Nat) (hcl : c ≤ l) (ao bo : Option Addr) (ac bc : Nat) (hbc : l ≤ bc) (w : World) (hA : RwV TC.cells 15 w ao xs) (hB : RwV TC.cells 15 w bo ys) :
  Calls Tryz.prog 6 #[.slice ao a ac, .slice bo l bc, .int .i64 (c : Int)] w fun ee w' => ee = .returned (.bool true) ∧ Below w.heap.size w w' := by
 have q1 : decide ((80 : Int) < (a : Int)) = false := decide_eq_false (by omega)
 have q2 : decide (80 < a) = false := decide_eq_false (by omega)
 have q3 : decide ((32 : Int) < (l : Int)) = false := decide_eq_false (by omega)
 have q4 : decide (32 < l) = false := decide_eq_false (by omega)
 have q5 : decide ((c : Int) < 0) = false := decide_eq_false (by omega)
 have q6 : decide ((l : Int) < (c : Int)) = false := decide_eq_false (by omega)
 have q7 : decide (l < c) = false := decide_eq_false (by omega)
 have KTW := Lib.hid twice_c
 have KTR := Lib.hid (tree_c xs a hxl ha hxi ao ac w hA)
 have hI0 : TI (trs (fun _ => none) [] xs).1 (trs (fun _ => none) [] xs).2 := TI.trs xs TI.nil (fun b hb => by obtain ⟨k, hk, rfl⟩ := List.getElem_of_mem hb; exact hxi k hk)
 obtain ⟨f, hf⟩ : ∃ f, (trs (fun _ => none) [] xs).1 = f := ⟨_, rfl⟩
 obtain ⟨L, hL⟩ : ∃ L, (trs (fun _ => none) [] xs).2 = L := ⟨_, rfl⟩
 rw [hf, hL] at KTR hI0
 have HI0 := Lib.hid hI0
 have HB0 := Lib.hid hB
 obtain ⟨so, sc, hs1, hc1⟩ := rw_take (r := TC.cells) (s := 15) bo ys hyl hbc hcl
 obtain ⟨eo, ec, hs2, hc2⟩ := rw_drop (r := TC.cells) (s := 15) bo ys hyl hbc hcl
 have sl1 : ∀ W, (Instr.slice 22 (.slice bo l bc) none (some (.int .i64 (c : Int))) none).run Tryz.prog W = .ok (.slice so c sc) W := fun W => by rw [sl_take bo l bc c hcl hbc W, hs1]
 have sl2 : ∀ W, (Instr.slice 22 (.slice bo l bc) (some (.int .i64 (c : Int))) none none).run Tryz.prog W = .ok (.slice eo (l - c) ec) W := fun W => by rw [sl_drop bo l bc c hcl W, hs2]
 have sa1 : ∀ W, (Instr.sliceAt 22 (.slice bo l bc) none (some (.int .i64 (c : Int))) none).run Tryz.prog W = .ok (.slice so c sc) W := fun W => by rw [run_sliceAt_slice W 22 _ _ _ _ (by kernel_rfl)]; exact sl1 W
 have sa2 : ∀ W, (Instr.sliceAt 22 (.slice bo l bc) (some (.int .i64 (c : Int))) none none).run Tryz.prog W = .ok (.slice eo (l - c) ec) W := fun W => by rw [run_sliceAt_slice W 22 _ _ _ _ (by kernel_rfl)]; exact sl2 W
 have HC1 := Lib.hid hc1
 have HC2 := Lib.hid hc2
 clear hs1 hs2
 obtain ⟨i1, hi1⟩ : ∃ i, (apW (ftg 3) 3 c f L (ys.take c)).1 = i := ⟨_, rfl⟩
 obtain ⟨E1, hE1⟩ : ∃ E, (apW (ftg 3) 3 c f L (ys.take c)).2 = E := ⟨_, rfl⟩
 obtain ⟨F1, hF1⟩ : ∃ F, (app f L 0 (ys.take c)).2.2.1 = F := ⟨_, rfl⟩
 obtain ⟨M1, hM1⟩ : ∃ M, (app f L 0 (ys.take c)).2.2.2 = M := ⟨_, rfl⟩
 have KA1 := Lib.hid (fun (z : World) (tb mb : Nat) (h : HT z tb mb f) (I : TI f L) (hr : RwV TC.cells 15 z so (ys.take c)) => (by have := appl_c (ftg 3) h I 3 (ys.take c) c (by rw [List.length_take, hyl]; omega) (fun k hk => by rw [List.getElem_take]; exact hyi k (by simp at hk; omega)) so sc hr (kf_c 3); rw [hi1, hE1, hF1, hM1] at this; exact this : Calls Tryz.prog 10 #[.pointer (some ⟨tb, 0, none⟩), .int .i64 3, .slice so c sc] z fun e w' => ∃ q, e = .returned (.tuple #[.pointer q, .int .i64 i1, .int .i64 E1]) ∧ Below z.heap.size z w' ∧ ((E1 ≠ 0 ∧ q = none) ∨ (E1 = 0 ∧ ∃ tb2 mb2, q = some ⟨tb2, 0, none⟩ ∧ z.heap.size ≤ tb2 ∧ z.heap.size ≤ mb2 ∧ HT w' tb2 mb2 F1 ∧ TI F1 M1))))
 obtain ⟨i2, hi2⟩ : ∃ i, (apW (ftg 3) 3 (l - c) F1 M1 (ys.drop c)).1 = i := ⟨_, rfl⟩
 obtain ⟨E2, hE2⟩ : ∃ E, (apW (ftg 3) 3 (l - c) F1 M1 (ys.drop c)).2 = E := ⟨_, rfl⟩
 obtain ⟨F2, hF2⟩ : ∃ F, (app F1 M1 0 (ys.drop c)).2.2.1 = F := ⟨_, rfl⟩
 obtain ⟨M2, hM2⟩ : ∃ M, (app F1 M1 0 (ys.drop c)).2.2.2 = M := ⟨_, rfl⟩
 have KA2 := Lib.hid (fun (z : World) (tb mb : Nat) (h : HT z tb mb F1) (I : TI F1 M1) (hr : RwV TC.cells 15 z eo (ys.drop c)) => (by have := appl_c (ftg 3) h I 3 (ys.drop c) (l - c) (by rw [List.length_drop, hyl]) (fun k hk => by rw [List.getElem_drop]; exact hyi (c + k) (by simp at hk; omega)) eo ec hr (kf_c 3); rw [hi2, hE2, hF2, hM2] at this; exact this : Calls Tryz.prog 10 #[.pointer (some ⟨tb, 0, none⟩), .int .i64 3, .slice eo (l - c) ec] z fun e w' => ∃ q, e = .returned (.tuple #[.pointer q, .int .i64 i2, .int .i64 E2]) ∧ Below z.heap.size z w' ∧ ((E2 ≠ 0 ∧ q = none) ∨ (E2 = 0 ∧ ∃ tb2 mb2, q = some ⟨tb2, 0, none⟩ ∧ z.heap.size ≤ tb2 ∧ z.heap.size ≤ mb2 ∧ HT w' tb2 mb2 F2 ∧ TI F2 M2))))
 by_cases hE : E1 = 0
 ·have HE1 := Lib.hid hE
  have ne1 : (E1 == 0) = true := by simpa using hE
  by_cases hG : E2 = 0
  ·have HE2 := Lib.hid hG
   have ne2 : (E2 == 0) = true := by simpa using hG
   have hj := apW_join (FT := ftg 3) (T := 3) (f := f) (L := L) (xs := ys.take c) (ys := ys.drop c) (n := l) (by decide) (by decide) hl (hE1.trans hE) (by rw [hF1, hM1]; exact hE2.trans hG)
   rw [List.take_append_drop, hF1, hM1, hF2, hM2] at hj
   obtain ⟨j1, j2, j3⟩ := hj
   have KA3 : Hid (∀ z tb mb, HT z tb mb f → TI f L → RwV TC.cells 15 z bo ys → Calls Tryz.prog 10 #[.pointer (some ⟨tb, 0, none⟩), .int .i64 3, .slice bo l bc] z fun e w' => ∃ tb2 mb2, e = .returned (.tuple #[.pointer (some ⟨tb2, 0, none⟩), .int .i64 0, .int .i64 0]) ∧ Below z.heap.size z w' ∧ HT w' tb2 mb2 F2) := Lib.hid (fun z tb mb h I hr => by
    refine (appl_c (ftg 3) h I 3 ys l hyl hyi bo bc hr (kf_c 3)).mono ?_
    rintro e z' ⟨q, rfl, hb, hc⟩
    rw [j1] at hc ⊢
    rw [j2] at hc
    rcases hc with ⟨h0, -⟩ | ⟨-, tb2, mb2, rfl, -, -, hT, -⟩
    ·exact absurd rfl h0
    ·exact ⟨tb2, mb2, rfl, hb, hT⟩)
   have KTT : Hid (∀ z t1 m1 t2 m2, HT z t1 m1 F2 → HT z t2 m2 F2 → TI F2 M2 → Calls Tryz.prog 13 #[.pointer (some ⟨t1, 0, none⟩), .pointer (some ⟨t2, 0, none⟩)] z fun e z' => ∃ ao cap, e = .returned (.slice ao 0 cap) ∧ Below z.heap.size z z') := Lib.hid (fun z t1 m1 t2 m2 h1 h2 I => by
    refine (ttou_c I I (.inr ⟨t1, m1, rfl, h1⟩) (.inr ⟨t2, m2, rfl, h2⟩)).mono ?_
    rintro e z' ⟨U, ao, cap, rfl, hT, -, hb⟩
    obtain rfl := hT.uniq (tc99 _)
    exact ⟨ao, cap, rfl, hb⟩)
   have KID : Hid (∀ z t1 m1, HT z t1 m1 F2 → TI F2 M2 → Calls Tryz.prog 18 #[.pointer (some ⟨t1, 0, none⟩)] z fun e z' => ∃ ao cap, e = .returned (.slice ao M2.length cap) ∧ IntsV z' ao M2 ∧ Below z.heap.size z z') := Lib.hid (fun z t1 m1 h I => by
    refine (ids_c h M2 I.srt I.mem (Nat.le_trans I.len (by decide)) I.iok).mono ?_
    rintro e z' ⟨v, rfl, hr, hb⟩
    obtain ⟨ao, cap, rfl⟩ := row_form hr
    exact ⟨ao, cap, rfl, (own_ints hr).2, hb⟩)
   have KIN : Hid (∀ (z : World) a1 a2 c1 c2, TI F2 M2 → IntsV z a1 M2 → IntsV z a2 M2 → Calls Tryz.prog 14 #[.slice a1 M2.length c1, .slice a2 M2.length c2] z fun ee w' => ee = .returned (.bool true) ∧ Below z.heap.size z w') := Lib.hid (fun z a1 a2 c1 c2 I h1 h2 => pints_c M2 a1 a2 c1 c2 (Nat.le_trans I.len (by decide)) z h1 h2)
   obtain ⟨m, hm⟩ : ∃ m, M2.length = m := ⟨_, rfl⟩
   rw [hm] at KID KIN
   subst hE hG
   clear hm j1 j2 j3 hc1 hc2 hf hL hI0 hB hyl hi1 hE1 hF1 hM1 hi2 hE2 hF2 hM2 hA hxi hyi hxl ha hl
   go_enter Tryz.func6, Tryz.ntmps6
   go_wp2_with (first
    | go_guarded
    | (go_at_call 8; (with_reducible refine (KTW.out _).mono ?_); rintro _ w9 ⟨rfl, hbel⟩; have HB9 : Hid (Below w.heap.size w w9) := Lib.hid (HB8.out.trans (hbel.mono HB8.out.size)); clear hbel)
    | (go_at_call 14; (with_reducible refine (KIN.out _ _ _ _ _ HI3.out HV6.out HV7.out).mono ?_); rintro _ w8 ⟨rfl, hbel⟩; have HB8 : Hid (Below w.heap.size w w8) := Lib.hid (HB7.out.trans (hbel.mono HB7.out.size)); clear hbel)
    | (go_at_call 18; (with_reducible refine (KID.out _ tb4 mb4 HG6.out HI3.out).mono ?_); rintro _ w7 ⟨ao7, cp7, rfl, hv7, hbel⟩; have HV7 := Lib.hid hv7; have HV6 := Lib.hid (HV5.out.below hbel); have HB7 : Hid (Below w.heap.size w w7) := Lib.hid (HB6.out.trans (hbel.mono HB6.out.size)); clear hbel hv7)
    | (go_at_call 18; (with_reducible refine (KID.out _ tb3 mb3 HT5.out HI3.out).mono ?_); rintro _ w6 ⟨ao6, cp6, rfl, hv6, hbel⟩; have HV5 := Lib.hid hv6; have HG6 := Lib.hid (HG5.out.below hbel); have HB6 : Hid (Below w.heap.size w w6) := Lib.hid (HB5.out.trans (hbel.mono HB5.out.size)); clear hbel hv6)
    | (go_at_call 13; (with_reducible refine (KTT.out _ tb3 mb3 tb4 mb4 HT4.out HG4.out HI3.out).mono ?_); rintro _ w5 ⟨ao5, cp5, rfl, hbel⟩; have HT5 := Lib.hid (HT4.out.below hbel); have HG5 := Lib.hid (HG4.out.below hbel); have HB5 : Hid (Below w.heap.size w w5) := Lib.hid (HB4.out.trans (hbel.mono HB4.out.size)); clear hbel)
    | (go_at_call 10; (with_reducible refine (KA3.out _ tb mb HT3.out HI0.out HR3.out).mono ?_); rintro _ w4 ⟨tb4, mb4, rfl, hbel, hT4⟩; have HG4 := Lib.hid hT4; have HB4 : Hid (Below w.heap.size w w4) := Lib.hid (HB3.out.trans (hbel.mono HB3.out.size)); have HT4 := Lib.hid (HG3.out.below hbel); clear hT4 hbel)
    | (go_at_call 10; (with_reducible refine (KA2.out _ tb2 mb2 HG2.out HI2.out (HC2.out _ HR2.out)).mono ?_); rintro _ w3 ⟨q, rfl, hbel, hor⟩; obtain ⟨-, tb3, mb3, rfl, -, -, hT3, hI3⟩ := hor.resolve_left (fun hx => hx.1 rfl); have HI3 := Lib.hid hI3; have HG3 := Lib.hid hT3; have HT3 := Lib.hid (HT2.out.below hbel); have HR3 := Lib.hid (HR2.out.below hbel); have HB3 : Hid (Below w.heap.size w w3) := Lib.hid (HB2.out.trans (hbel.mono HB2.out.size)); clear hI3 hT3 hbel)
    | (go_at_call 10; (with_reducible refine (KA1.out _ tb mb HT1.out HI0.out (HC1.out _ HR1.out)).mono ?_); rintro _ w2 ⟨q, rfl, hbel, hor⟩; obtain ⟨-, tb2, mb2, rfl, -, -, hT2, hI2⟩ := hor.resolve_left (fun hx => hx.1 rfl); have HI2 := Lib.hid hI2; have HG2 := Lib.hid hT2; have HT2 := Lib.hid (HT1.out.below hbel); have HR2 := Lib.hid (HR1.out.below hbel); have HB2 : Hid (Below w.heap.size w w2) := Lib.hid (HB1.out.trans (hbel.mono HB1.out.size)); clear hI2 hT2 hbel)
    | (go_at_call 9; (with_reducible refine KTR.out.mono ?_); rintro _ w1 ⟨tb, mb, m1, ro, rc, rfl, -, -, hT, -, -, -, hbel⟩; have HT1 := Lib.hid hT; have HB1 := Lib.hid hbel; have HR1 := Lib.hid (HB0.out.below hbel); clear hT hbel))
   go_ret
   exact ⟨rfl, HB9.out⟩
  ·have HE2 := Lib.hid hG
   have ne2 : (E2 == 0) = false := by simpa using hG
   subst hE
   clear hc1 hc2 hf hL hI0 hB hyl hi1 hE1 hF1 hM1 hi2 hE2 hF2 hM2 hA hxi hyi hxl ha hl
   go_enter Tryz.func6, Tryz.ntmps6
   go_wp2_with (first
    | go_guarded
    | (go_at_call 8; (with_reducible refine (KTW.out _).mono ?_); rintro _ w9 ⟨rfl, hbel⟩; have HB9 : Hid (Below w.heap.size w w9) := Lib.hid (HB3.out.trans (hbel.mono HB3.out.size)); clear hbel)
    | (go_at_call 10; (with_reducible refine (KA2.out _ tb2 mb2 HG2.out HI2.out (HC2.out _ HR2.out)).mono ?_); rintro _ w3 ⟨q, rfl, hbel, hor⟩; obtain ⟨-, rfl⟩ := hor.resolve_right (fun hx => absurd hx.1 HE2.out); have HB3 : Hid (Below w.heap.size w w3) := Lib.hid (HB2.out.trans (hbel.mono HB2.out.size)); clear hbel)
    | (go_at_call 10; (with_reducible refine (KA1.out _ tb mb HT1.out HI0.out (HC1.out _ HR1.out)).mono ?_); rintro _ w2 ⟨q, rfl, hbel, hor⟩; obtain ⟨-, tb2, mb2, rfl, -, -, hT2, hI2⟩ := hor.resolve_left (fun hx => hx.1 rfl); have HI2 := Lib.hid hI2; have HG2 := Lib.hid hT2; have HT2 := Lib.hid (HT1.out.below hbel); have HR2 := Lib.hid (HR1.out.below hbel); have HB2 : Hid (Below w.heap.size w w2) := Lib.hid (HB1.out.trans (hbel.mono HB1.out.size)); clear hI2 hT2 hbel)
    | (go_at_call 9; (with_reducible refine KTR.out.mono ?_); rintro _ w1 ⟨tb, mb, m1, ro, rc, rfl, -, -, hT, -, -, -, hbel⟩; have HT1 := Lib.hid hT; have HB1 := Lib.hid hbel; have HR1 := Lib.hid (HB0.out.below hbel); clear hT hbel))
   go_ret
   exact ⟨rfl, HB9.out⟩
 ·have HE1 := Lib.hid hE
  have ne1 : (E1 == 0) = false := by simpa using hE
  clear hc1 hc2 hf hL hI0 hB hyl hi1 hE1 hF1 hM1 hi2 hE2 hF2 hM2 hA hxi hyi hxl ha hl
  go_enter Tryz.func6, Tryz.ntmps6
  go_wp2_with (first
   | go_guarded
   | (go_at_call 8; (with_reducible refine (KTW.out _).mono ?_); rintro _ w9 ⟨rfl, hbel⟩; have HB9 : Hid (Below w.heap.size w w9) := Lib.hid (HB2.out.trans (hbel.mono HB2.out.size)); clear hbel)
   | (go_at_call 10; (with_reducible refine (KA1.out _ tb mb HT1.out HI0.out (HC1.out _ HR1.out)).mono ?_); rintro _ w2 ⟨q, rfl, hbel, hor⟩; obtain ⟨-, rfl⟩ := hor.resolve_right (fun hx => absurd hx.1 HE1.out); have HB2 : Hid (Below w.heap.size w w2) := Lib.hid (HB1.out.trans (hbel.mono HB1.out.size)); clear hbel)
   | (go_at_call 9; (with_reducible refine KTR.out.mono ?_); rintro _ w1 ⟨tb, mb, m1, ro, rc, rfl, -, -, hT, -, -, -, hbel⟩; have HT1 := Lib.hid hT; have HB1 := Lib.hid hbel; have HR1 := Lib.hid (HB0.out.below hbel); clear hT hbel))
  go_ret
  exact ⟨rfl, HB9.out⟩
theorem transJoins_law (v1 v2 : Value) (c : Int) {w : World} (hs : Op.FlatSlice w 15 [.int .i64, .int .i64, .int .i64, .bool, .int .u64, .int .u64, .int .u64, .int .u64, .int .u64, .int .u64, .int .u64, .int .u64, .int .u64, .int .i64, .int .i64] v1) (hs2 : Op.FlatSlice w 15 [.int .i64, .int .i64, .int .i64, .bool, .int .u64, .int .u64, .int .u64, .int .u64, .int .u64, .int .u64, .int .u64, .int .u64, .int .u64, .int .i64, .int .i64] v2) {P : Prop} (_ : P) : Calls Tryz.prog 6 #[v1, v2, .int .i64 c] w fun ee w' => ee = .returned (.bool true) ∧ Below w.heap.size w w' := by
 obtain ⟨ao, xs, ac, rfl, h1, h2, h3, h4⟩ := chgs_of hs
 obtain ⟨bo, ys, bc, rfl, g1, g2, g3, g4⟩ := chgs_of hs2
 by_cases hn : xs.length ≤ 80
 ·by_cases hm : ys.length ≤ 32
  ·by_cases hc : 0 ≤ c ∧ c ≤ ys.length
   ·obtain ⟨d, rfl⟩ : ∃ d : Nat, c = d := ⟨c.toNat, by omega⟩
    exact joins_c xs _ rfl hn h4 ys _ rfl hm g4 d (by omega) ao bo ac bc g1 w h3 g3
   ·exact joins_long _ _ ao bo ac bc c (by omega) w
  ·exact joins_long _ _ ao bo ac bc c (by omega) w
 ·exact joins_long _ _ ao bo ac bc c (by omega) w
end Go.Proofs.YtffaahipgabkhaaGreat
end
