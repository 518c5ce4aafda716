/- Joined texts. -/
import Derived.Test.YtffaahipgabkhaaGreatJn0
import Derived.Test.YtffaahipgabkhaaGreatJn38
set_option linter.unusedVariables false
set_option linter.unusedSimpArgs false
set_option maxRecDepth 100000
set_option maxHeartbeats 16000000
section
namespace Go.Proofs.YtffaahipgabkhaaGreat
open Go.RowKit Fg Reg Go.Maps Go.Shelf
attribute [local irreducible] Reg.wE VR
def c9 : Cls := ⟨1, 0, true, 5, 0, 5, 0, 0, 0, 0, 0, 0, 1, 9⟩
theorem c9_in : CIn c9 := ⟨rfl, rfl, ⟨by decide, by decide⟩, ⟨by decide, by decide⟩, ⟨by decide, by decide⟩, ⟨by decide, by decide⟩, ⟨by decide, by decide⟩, ⟨by decide, by decide⟩, ⟨by decide, by decide⟩, ⟨by decide, by decide⟩, ⟨by decide, by decide⟩, rfl, rfl⟩
def f9 : Int → Option Cls := addF (fun _ => none) [] c9
def l9 : List Int := addL (fun _ => none) [] c9
theorem e9 : addE (fun _ => none) [] c9 = 0 := by decide +kernel
theorem e92 : addE f9 l9 c9 = 8 := by decide +kernel
theorem I9 : TI f9 l9 := TI.nil.addF c9_in
theorem ap1 : app (fun _ => none) [] 0 [⟨1, c9⟩] = (1, 0, f9, l9) := (app_ok (k := 1) (c := c9) [] (show chE 1 (fun _ => none) [] c9 = 0 from e9)).trans rfl
theorem ap2 : app (fun _ => none) [] 0 [⟨1, c9⟩, ⟨1, c9⟩] = (1, 8, f9, l9) := (app_ok (k := 1) (c := c9) _ (show chE 1 (fun _ => none) [] c9 = 0 from e9)).trans (app_no (k := 1) (c := c9) _ (show chE 1 f9 l9 c9 = 8 from e92) (by decide))
theorem r9 : (rls f9 (l9.filter (sel f9 Cls.leaf))).map cvo = [⟨5, 0, 5⟩] := by kernel_rfl
theorem k9 : kns [⟨5, 0, 5⟩] = [] := by
 have h : rawk [⟨5, 0, 5⟩] = [] := by kernel_rfl
 unfold kns
 rw [h]
 unfold srt
 rw [List.mergeSort_nil]
 rfl
theorem fit9 : ftg 1 f9 l9 = 0 := by
 have t1 : tok 1 = true := by decide +kernel
 have t2 : lok [⟨5, 0, 5⟩] = true := by decide +kernel
 have t3 : fe 1 [⟨5, 0, 5⟩] = false := by decide +kernel
 unfold ftg
 rw [r9]
 unfold fitr fullv
 rw [k9, t1, t2]
 simp [t3]
theorem f9_at (x : Int) : f9 x = if x = 1 then some c9 else none := by
 have h : f9 = upd (fun _ => none) 1 c9 := by unfold f9 addF; rw [if_pos e9]; rfl
 rw [h]
 unfold upd
 rfl
theorem tc9 : Tch (fun _ => none) f9 [1] := ⟨List.pairwise_singleton _ _, fun x => by
 rw [f9_at]
 by_cases h : x = 1
 ·simp [h]
 ·simp [h]⟩
theorem tc99 (f : Int → Option Cls) : Tch f f [] := ⟨List.Pairwise.nil, fun x => by simp⟩
theorem trl9 : trl f9 (fun _ => none) 1 = true := by decide +kernel
theorem rw1_new (w : World) : RwV TC.cells 15 (w.alloc (.cells #[.int .i64 1, .int .i64 1, .int .i64 0, .bool true, .int .u64 5, .int .u64 0, .int .u64 5, .int .u64 0, .int .u64 0, .int .u64 0, .int .u64 0, .int .u64 0, .int .u64 0, .int .i64 1, .int .i64 9] 50)) (some ⟨w.heap.size, 0, none⟩) [⟨1, c9⟩] := fun k hk => by
 obtain rfl : k = 0 := by simp at hk; exact hk
 exact ⟨w.heap.size, 0, rfl, by simp, (VR.new w #[.int .i64 1, .int .i64 1, .int .i64 0, .bool true, .int .u64 5, .int .u64 0, .int .u64 5, .int .u64 0, .int .u64 0, .int .u64 0, .int .u64 0, .int .u64 0, .int .u64 0, .int .i64 1, .int .i64 9] 50).part 0 _ (fun j v hv => by
  (rcases j with _ | _ | _ | _ | _ | _ | _ | _ | _ | _ | _ | _ | _ | _ | _ | j) <;> first | exact hv | exact absurd hv (by simp [TC.cells]))⟩
theorem rw2_new (w : World) : RwV TC.cells 15 (w.alloc (.cells #[.int .i64 1, .int .i64 1, .int .i64 0, .bool true, .int .u64 5, .int .u64 0, .int .u64 5, .int .u64 0, .int .u64 0, .int .u64 0, .int .u64 0, .int .u64 0, .int .u64 0, .int .i64 1, .int .i64 9, .int .i64 1, .int .i64 1, .int .i64 0, .bool true, .int .u64 5, .int .u64 0, .int .u64 5, .int .u64 0, .int .u64 0, .int .u64 0, .int .u64 0, .int .u64 0, .int .u64 0, .int .i64 1, .int .i64 9] 50)) (some ⟨w.heap.size, 0, none⟩) [⟨1, c9⟩, ⟨1, c9⟩] := fun k hk => by
 have hk2 : k = 0 ∨ k = 1 := by simp at hk; omega
 rcases hk2 with rfl | rfl
 ·exact ⟨w.heap.size, 0, rfl, by simp, (VR.new w #[.int .i64 1, .int .i64 1, .int .i64 0, .bool true, .int .u64 5, .int .u64 0, .int .u64 5, .int .u64 0, .int .u64 0, .int .u64 0, .int .u64 0, .int .u64 0, .int .u64 0, .int .i64 1, .int .i64 9, .int .i64 1, .int .i64 1, .int .i64 0, .bool true, .int .u64 5, .int .u64 0, .int .u64 5, .int .u64 0, .int .u64 0, .int .u64 0, .int .u64 0, .int .u64 0, .int .u64 0, .int .i64 1, .int .i64 9] 50).part 0 _ (fun j v hv => by
   (rcases j with _ | _ | _ | _ | _ | _ | _ | _ | _ | _ | _ | _ | _ | _ | _ | j) <;> first | exact hv | exact absurd hv (by simp [TC.cells]))⟩
 ·exact ⟨w.heap.size, 0, rfl, by simp, (VR.new w #[.int .i64 1, .int .i64 1, .int .i64 0, .bool true, .int .u64 5, .int .u64 0, .int .u64 5, .int .u64 0, .int .u64 0, .int .u64 0, .int .u64 0, .int .u64 0, .int .u64 0, .int .i64 1, .int .i64 9, .int .i64 1, .int .i64 1, .int .i64 0, .bool true, .int .u64 5, .int .u64 0, .int .u64 5, .int .u64 0, .int .u64 0, .int .u64 0, .int .u64 0, .int .u64 0, .int .u64 0, .int .i64 1, .int .i64 9] 50).part 15 _ (fun j v hv => by
   (rcases j with _ | _ | _ | _ | _ | _ | _ | _ | _ | _ | _ | _ | _ | _ | _ | j) <;> first | exact hv | exact absurd hv (by simp [TC.cells]))⟩
theorem apnil_c (T : Int) (v : Value) (w : World) : Calls Tryz.prog 10 #[.pointer none, .int .i64 T, v] w fun ee w' => ee = .returned (.tuple #[.pointer none, .int .i64 0, .int .i64 7]) ∧ Below w.heap.size w w' := by
 have HB0 := Lib.hid (Below.refl w.heap.size w)
 go_enter Tryz.func10, Tryz.ntmps10
 go_wp2
 refine bodyPost_ret (v := .tuple #[.pointer none, .int .i64 0, .int .i64 7]) (by simp [results, Tryz.results10, go_sem, *]) rfl ⟨rfl, HB0.out⟩
theorem tnil_c (w : World) : Calls Tryz.prog 13 #[.pointer none, .pointer none] w fun e z' => ∃ ao cap, e = .returned (.slice ao 0 cap) ∧ Below w.heap.size w z' := by
 refine (ttou_c TI.nil TI.nil (.inl ⟨rfl, rfl, rfl⟩) (.inl ⟨rfl, rfl, rfl⟩)).mono ?_
 rintro e z' ⟨U, ao, cap, rfl, hT, -, hb⟩
 obtain rfl := hT.uniq (tc99 _)
 exact ⟨ao, cap, rfl, hb⟩
theorem rnil_c (w : World) : Calls Tryz.prog 16 #[.pointer none, .pointer none] w fun ee w' => ee = .returned (.bool false) ∧ Below w.heap.size w w' := by
 refine (trls_c TI.nil TI.nil (.inl ⟨rfl, rfl, rfl⟩) (.inl ⟨rfl, rfl, rfl⟩)).mono ?_
 rintro e z' ⟨U, hT, rfl, hb⟩
 obtain rfl := hT.uniq (tc99 _)
 exact ⟨rfl, hb⟩
theorem twice_c (w : World) : Calls Tryz.prog 8 #[] w fun ee w' => ee = .returned (.bool true) ∧ Below w.heap.size w w' := by
 have KN := Lib.hid hnew_c
 have KA2 : Hid (∀ z tb mb ao cap, HT z tb mb (fun _ => none) → RwV TC.cells 15 z ao [⟨1, c9⟩, ⟨1, c9⟩] → Calls Tryz.prog 10 #[.pointer (some ⟨tb, 0, none⟩), .int .i64 1, .slice ao 2 cap] z fun e z' => e = .returned (.tuple #[.pointer none, .int .i64 1, .int .i64 8]) ∧ Below z.heap.size z z') := Lib.hid (fun z tb mb ao cap h hr => by
  refine (appl_c (ftg 1) h TI.nil 1 [⟨1, c9⟩, ⟨1, c9⟩] 2 rfl (fun k hk => by rcases k with _ | _ | k <;> first | exact c9_in | (exfalso; simp only [List.length_cons, List.length_nil] at hk; omega)) ao cap hr (kf_c 1)).mono ?_
  rintro e z' ⟨q, rfl, hb, hc⟩
  have hW := apW_err (ftg 1) (T := 1) (n := 2) (by decide) (by decide) (by decide) 1 8 (by decide) _ _ ap2
  rw [hW] at hc ⊢
  rcases hc with ⟨-, rfl⟩ | ⟨h0, -⟩
  ·exact ⟨rfl, hb⟩
  ·exact absurd h0 (by decide))
 have KA1 : Hid (∀ z tb mb ao cap, HT z tb mb (fun _ => none) → RwV TC.cells 15 z ao [⟨1, c9⟩] → Calls Tryz.prog 10 #[.pointer (some ⟨tb, 0, none⟩), .int .i64 1, .slice ao 1 cap] z fun e z' => ∃ tb2 mb2, e = .returned (.tuple #[.pointer (some ⟨tb2, 0, none⟩), .int .i64 0, .int .i64 0]) ∧ HT z' tb2 mb2 f9 ∧ Below z.heap.size z z') := Lib.hid (fun z tb mb ao cap h hr => by
  refine (appl_c (ftg 1) h TI.nil 1 [⟨1, c9⟩] 1 rfl (fun k hk => by rcases k with _ | k <;> first | exact c9_in | (exfalso; simp only [List.length_cons, List.length_nil] at hk; omega)) ao cap hr (kf_c 1)).mono ?_
  rintro e z' ⟨q, rfl, hb, hc⟩
  have hW := apW_ok (ftg 1) (T := 1) (n := 1) (by decide) (by decide) (by decide) 1 _ _ ap1 fit9
  rw [hW] at hc ⊢
  rcases hc with ⟨h0, -⟩ | ⟨-, tb2, mb2, rfl, -, -, hT, -⟩
  ·exact absurd rfl h0
  ·rw [ap1] at hT
   exact ⟨tb2, mb2, rfl, hT, hb⟩)
 have KI : Hid (∀ z tb mb, HT z tb mb (fun _ => none) → Calls Tryz.prog 18 #[.pointer (some ⟨tb, 0, none⟩)] z fun e z' => ∃ ao cap, e = .returned (.slice ao 0 cap) ∧ Below z.heap.size z z') := Lib.hid (fun z tb mb h => by
  refine (ids_c h [] TI.nil.srt TI.nil.mem (by decide) TI.nil.iok).mono ?_
  rintro e z' ⟨v, rfl, hr, hb⟩
  obtain ⟨ao, cap, rfl⟩ := row_form hr
  exact ⟨ao, cap, rfl, hb⟩)
 have KT : Hid (∀ z tb mb tb2 mb2, HT z tb mb (fun _ => none) → HT z tb2 mb2 f9 → Calls Tryz.prog 13 #[.pointer (some ⟨tb, 0, none⟩), .pointer (some ⟨tb2, 0, none⟩)] z fun e z' => ∃ ao cap, e = .returned (.slice ao 1 cap) ∧ IntsV z' ao [1] ∧ Below z.heap.size z z') := Lib.hid (fun z tb mb tb2 mb2 h h2 => by
  refine (ttou_c TI.nil I9 (.inr ⟨tb, mb, rfl, h⟩) (.inr ⟨tb2, mb2, rfl, h2⟩)).mono ?_
  rintro e z' ⟨U, ao, cap, rfl, hT, hw, hb⟩
  obtain rfl := hT.uniq tc9
  exact ⟨ao, cap, rfl, hw.ints, hb⟩)
 have KR1 : Hid (∀ z tb mb tb2 mb2, HT z tb mb (fun _ => none) → HT z tb2 mb2 f9 → Calls Tryz.prog 16 #[.pointer (some ⟨tb2, 0, none⟩), .pointer (some ⟨tb, 0, none⟩)] z fun ee w' => ee = .returned (.bool true) ∧ Below z.heap.size z w') := Lib.hid (fun z tb mb tb2 mb2 h h2 => by
  refine (trls_c I9 TI.nil (.inr ⟨tb2, mb2, rfl, h2⟩) (.inr ⟨tb, mb, rfl, h⟩)).mono ?_
  rintro e z' ⟨U, hT, rfl, hb⟩
  obtain rfl := hT.uniq tc9.swap
  exact ⟨by rw [List.any_cons, trl9]; rfl, hb⟩)
 have KR2 : Hid (∀ z tb2 mb2, HT z tb2 mb2 f9 → Calls Tryz.prog 16 #[.pointer (some ⟨tb2, 0, none⟩), .pointer (some ⟨tb2, 0, none⟩)] z fun ee w' => ee = .returned (.bool false) ∧ Below z.heap.size z w') := Lib.hid (fun z tb2 mb2 h2 => by
  refine (trls_c I9 I9 (.inr ⟨tb2, mb2, rfl, h2⟩) (.inr ⟨tb2, mb2, rfl, h2⟩)).mono ?_
  rintro e z' ⟨U, hT, rfl, hb⟩
  obtain rfl := hT.uniq (tc99 _)
  exact ⟨rfl, hb⟩)
 have KP : Hid (∀ z a1 a2 c1 c2, IntsV z a1 [1] → IntsV z a2 [1] → Calls Tryz.prog 14 #[.slice a1 1 c1, .slice a2 1 c2] z fun ee w' => ee = .returned (.bool true) ∧ Below z.heap.size z w') := Lib.hid (fun z a1 a2 c1 c2 h1 h2 => pints_c [1] a1 a2 c1 c2 (by decide) z h1 h2)
 have ALL := Lib.hid cl_alloc
 have INF := Lib.hid cl_info
 have ONE : Hid ((#[.int .i64 1, .int .i64 0, .bool true, .int .u64 5, .int .u64 0, .int .u64 5, .int .u64 0, .int .u64 0, .int .u64 0, .int .u64 0, .int .u64 0, .int .u64 0, .int .i64 1, .int .i64 9] : Array Value).all (·.oneCell') = true) := Lib.hid (cla_one c9)
 go_enter Tryz.func8, Tryz.ntmps8
 go_wp2_with (first
  | go_guarded
  | (go_at_call 16; (with_reducible refine (KR2.out _ tb2 mb2 HB8T.out).mono ?_); rintro _ w9 ⟨rfl, hbel⟩; have HB9 : Hid (Below w.heap.size w w9) := Lib.hid (HB8.out.trans (hbel.mono HB8.out.size)); clear hbel)
  | (go_at_call 16; (with_reducible refine (KR1.out _ tb mb tb2 mb2 HA7.out HB7T.out).mono ?_); rintro _ w8 ⟨rfl, hbel⟩; have HB8 : Hid (Below w.heap.size w w8) := Lib.hid (HB7.out.trans (hbel.mono HB7.out.size)); have HB8T := Lib.hid (HB7T.out.below hbel); clear hbel)
  | (go_at_call 14; (with_reducible refine (KP.out _ _ _ _ _ (HI6.out.below (Below.alloc (Below.refl _ _) (Nat.le_refl _) _)) (ints_block [1] (heap_alloc_new w6 (.cells #[.int .i64 1] 3)) rfl)).mono ?_); rintro _ w7 ⟨rfl, hbel⟩; have hA := (Below.alloc (Below.refl w6.heap.size w6) (Nat.le_refl _) (.cells #[.int .i64 1] 3)).trans (hbel.mono (by simp)); have HB7 : Hid (Below w.heap.size w w7) := Lib.hid (HB6.out.trans (hA.mono HB6.out.size)); have HA7 := Lib.hid (HA6.out.below hA); have HB7T := Lib.hid (HB6T.out.below hA); clear hbel hA)
  | (go_at_call 13; (with_reducible refine (KT.out _ tb mb tb2 mb2 HA5.out HB5T.out).mono ?_); rintro _ w6 ⟨ao6, cp6, rfl, hi, hbel⟩; have HI6 := Lib.hid hi; have HB6 : Hid (Below w.heap.size w w6) := Lib.hid (HB5.out.trans (hbel.mono HB5.out.size)); have HA6 := Lib.hid (HA5.out.below hbel); have HB6T := Lib.hid (HB5T.out.below hbel); clear hbel hi)
  | (go_at_call 18; (with_reducible refine (KI.out _ tb mb HA4.out).mono ?_); rintro _ w5 ⟨ao5, cp5, rfl, hbel⟩; have HB5 : Hid (Below w.heap.size w w5) := Lib.hid (HB4.out.trans (hbel.mono HB4.out.size)); have HA5 := Lib.hid (HA4.out.below hbel); have HB5T := Lib.hid (HB4T.out.below hbel); clear hbel)
  | (go_at_call 10; have hA0 := Below.alloc (Below.refl w3.heap.size w3) (Nat.le_refl _) (.cells #[.int .i64 1, .int .i64 1, .int .i64 0, .bool true, .int .u64 5, .int .u64 0, .int .u64 5, .int .u64 0, .int .u64 0, .int .u64 0, .int .u64 0, .int .u64 0, .int .u64 0, .int .i64 1, .int .i64 9] 50); (with_reducible refine (KA1.out _ tb mb _ _ (HA3.out.below hA0) (rw1_new w3)).mono ?_); rintro _ w4 ⟨tb2, mb2, rfl, hT, hbel⟩; have hA := hA0.trans (hbel.mono (by simp)); have HB4 : Hid (Below w.heap.size w w4) := Lib.hid (HB3.out.trans (hA.mono HB3.out.size)); have HA4 := Lib.hid (HA3.out.below hA); have HB4T := Lib.hid hT; clear hbel hA hA0 hT)
  | (go_at_call 10; have hA0 := Below.alloc (Below.refl w2.heap.size w2) (Nat.le_refl _) (.cells #[.int .i64 1, .int .i64 1, .int .i64 0, .bool true, .int .u64 5, .int .u64 0, .int .u64 5, .int .u64 0, .int .u64 0, .int .u64 0, .int .u64 0, .int .u64 0, .int .u64 0, .int .i64 1, .int .i64 9, .int .i64 1, .int .i64 1, .int .i64 0, .bool true, .int .u64 5, .int .u64 0, .int .u64 5, .int .u64 0, .int .u64 0, .int .u64 0, .int .u64 0, .int .u64 0, .int .u64 0, .int .i64 1, .int .i64 9] 50); (with_reducible refine (KA2.out _ tb mb _ _ (HA2.out.below hA0) (rw2_new w2)).mono ?_); rintro _ w3 ⟨rfl, hbel⟩; have hA := hA0.trans (hbel.mono (by simp)); have HB3 : Hid (Below w.heap.size w w3) := Lib.hid (HB2.out.trans (hA.mono HB2.out.size)); have HA3 := Lib.hid (HA2.out.below hA); have HV3 := Lib.hid (HV2.out.bel hA); clear hbel hA hA0)
  | (refine wpList_var_get rfl 48 _ rfl _ #[.int .i64 1, .int .i64 0, .bool true, .int .u64 5, .int .u64 0, .int .u64 5, .int .u64 0, .int .u64 0, .int .u64 0, .int .u64 0, .int .u64 0, .int .u64 0, .int .i64 1, .int .i64 9] _ HV3.out rfl Tryz.underlying48 rfl INF.out ?_)
  | (refine wpList_var_get rfl 48 _ rfl _ #[.int .i64 1, .int .i64 0, .bool true, .int .u64 5, .int .u64 0, .int .u64 5, .int .u64 0, .int .u64 0, .int .u64 0, .int .u64 0, .int .u64 0, .int .u64 0, .int .i64 1, .int .i64 9] _ HV2.out rfl Tryz.underlying48 rfl INF.out ?_)
  | (go_at_call 19; (with_reducible refine (KN.out _).mono ?_); rintro _ w2 ⟨tb, mb, rfl, ht, hm, hT, hbel⟩; have HA2 := Lib.hid hT; have HB2 : Hid (Below w.heap.size w w2) := Lib.hid (HB1.out.trans (hbel.mono HB1.out.size)); have HV2 := Lib.hid (HV1.out.bel hbel); clear hT hbel ht hm)
  | (refine wpList_var_new rfl rfl 48 #[.int .i64 0, .int .i64 0, .bool false, .int .u64 0, .int .u64 0, .int .u64 0, .int .u64 0, .int .u64 0, .int .u64 0, .int .u64 0, .int .u64 0, .int .u64 0, .int .i64 0, .int .i64 0] ALL.out rfl _ _ rfl #[.int .i64 1, .int .i64 0, .bool true, .int .u64 5, .int .u64 0, .int .u64 5, .int .u64 0, .int .u64 0, .int .u64 0, .int .u64 0, .int .u64 0, .int .u64 0, .int .i64 1, .int .i64 9] rfl rfl INF.out rfl ONE.out ?_; intro w1 hs1 hb1 hv1; have HV1 := Lib.hid hv1; have HB1 := Lib.hid hb1; clear hb1 hv1))
 go_ret
 exact ⟨rfl, HB9.out⟩
theorem transNil_law (T : Int) (v : Value) (w : World) : Calls Tryz.prog 7 #[.int .i64 T, v] w fun ee w' => ee = .returned (.bool true) ∧ Below w.heap.size w w' := by
 have K1 := Lib.hid apnil_c
 have K2 := Lib.hid tnil_c
 have K3 := Lib.hid rnil_c
 have K4 := Lib.hid twice_c
 go_enter Tryz.func7, Tryz.ntmps7
 go_wp2_with (first
  | go_guarded
  | (go_at_call 8; (with_reducible refine (K4.out _).mono ?_); rintro _ w4 ⟨rfl, hbel⟩; have HB4 : Hid (Below w.heap.size w w4) := Lib.hid (HB3.out.trans (hbel.mono HB3.out.size)); clear hbel)
  | (go_at_call 16; (with_reducible refine (K3.out _).mono ?_); rintro _ w3 ⟨rfl, hbel⟩; have HB3 : Hid (Below w.heap.size w w3) := Lib.hid (HB2.out.trans (hbel.mono HB2.out.size)); clear hbel)
  | (go_at_call 13; (with_reducible refine (K2.out _).mono ?_); rintro _ w2 ⟨ao2, cp2, rfl, hbel⟩; have HB2 : Hid (Below w.heap.size w w2) := Lib.hid (HB1.out.trans (hbel.mono HB1.out.size)); clear hbel)
  | (go_at_call 10; (with_reducible refine (K1.out _ _ _).mono ?_); rintro _ w1 ⟨rfl, hbel⟩; have HB1 := Lib.hid hbel; clear hbel))
 go_ret
 exact ⟨rfl, HB4.out⟩
end Go.Proofs.YtffaahipgabkhaaGreat
end
