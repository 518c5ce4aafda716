/- Copy; the laws' example; HierNil. -/
import Derived.Test.YtlenmhbhakeonaaHi17
import Derived.Test.YtlenmhbhakeonaaHi2
namespace Go.Proofs.Ytlenmhbhakeonaa
set_option linter.unusedVariables false
set_option linter.unusedSimpArgs false
set_option maxRecDepth 100000
open Go.RowKit Fg Reg Go.Maps
attribute [local irreducible] Reg.wE VR

theorem mclo_c {w : World} {mb n : Nat} {f : Int → Option Cls} (h : Mp ikv clv iok f n w mb) : Calls Try.prog 67 #[.map (some mb)] w fun e w' => e = .returned (.map (some w.heap.size)) ∧ Mp ikv clv iok f n w' w.heap.size ∧ Below w.heap.size w w' ∧ w'.heap.size = w.heap.size + 1 := by
  obtain ⟨es, ck, hb, hE⟩ := h
  have K : Calls Try.prog 67 #[.map (some mb)] w fun e w' => e = .returned (.map (some w.heap.size)) ∧ w' = w.alloc (.map es ck) := AnyW.maps_Clone (ρ := cloneM_ren) cloneM mb es ck w hb
  refine K.mono ?_
  rintro e w' ⟨rfl, rfl⟩
  exact ⟨rfl, ⟨es, ck, heap_alloc_new w _, hE⟩, Below.alloc (Below.refl _ _) (Nat.le_refl _) _, by simp⟩
theorem hcop_c {w : World} {tb mb : Nat} {f : Int → Option Cls} (h : HT w tb mb f) : Calls Try.prog 17 #[.pointer (some ⟨tb, 0, none⟩)] w fun e w' => ∃ tb2 mb2, e = .returned (.pointer (some ⟨tb2, 0, none⟩)) ∧ w.heap.size ≤ tb2 ∧ w.heap.size ≤ mb2 ∧ HT w' tb2 mb2 f ∧ Below w.heap.size w w' := by
  obtain ⟨n, hn⟩ := h.mp
  have K := Lib.hid (mclo_c hn)
  have c0 := h.c0
  have lt := h.lt
  clear h hn
  go_enter Try.func17, Try.ntmps17
  go_wp2_with (first | go_guarded | (go_at_call 67; (with_reducible refine K.out.mono ?_); rintro _ w1 ⟨rfl, hm, hbel, hsz⟩; have HM := Lib.hid hm; have HB := Lib.hid hbel; have HS := Lib.hid hsz; clear hm hbel hsz))
  refine bodyPost_ret (v := .pointer (some ⟨w1.heap.size, 0, none⟩)) (by simp [results, Try.results17, go_sem, *]) rfl ⟨_, _, rfl, HB.out.size, Nat.le_refl _, ⟨?_, by simp, ?_, _, HM.out.alloc _⟩, HB.out.alloc HB.out.size _⟩
  · simp [go_sem]
  · have := HS.out; omega
def t1c : Cls := ⟨1, 0, false, 0, 0, 0, 5, 0, 5, 0, 0, 0, 0, 0⟩
def t2c : Cls := ⟨2, 1, true, 5, 0, 5, 5, 0, 5, 0, 0, 0, 1, 9⟩
theorem t1_in : CIn t1c := ⟨rfl, rfl, ⟨by decide, by decide⟩, ⟨by decide, by decide⟩, ⟨by decide, by decide⟩, ⟨by decide, by decide⟩, ⟨by decide, by decide⟩, ⟨by decide, by decide⟩, ⟨by decide, by decide⟩, ⟨by decide, by decide⟩, ⟨by decide, by decide⟩, rfl, rfl⟩
theorem t2_in : CIn t2c := ⟨rfl, rfl, ⟨by decide, by decide⟩, ⟨by decide, by decide⟩, ⟨by decide, by decide⟩, ⟨by decide, by decide⟩, ⟨by decide, by decide⟩, ⟨by decide, by decide⟩, ⟨by decide, by decide⟩, ⟨by decide, by decide⟩, ⟨by decide, by decide⟩, rfl, rfl⟩
def f1t : Int → Option Cls := addF (fun _ => none) [] t1c
def l1t : List Int := addL (fun _ => none) [] t1c
def f2t : Int → Option Cls := addF f1t l1t t2c
def l2t : List Int := addL f1t l1t t2c
theorem e1t : addE (fun _ => none) [] t1c = 0 := by decide +kernel
theorem e2t : addE f1t l1t t2c = 0 := by decide +kernel
theorem u2t : upl f2t 16 2 = [2, 1] := by decide +kernel
theorem k2t : l2t.filter (sel f2t (fun c => c.par == 0)) = [1] := by decide +kernel
theorem r2t : (rls f2t (l2t.filter (sel f2t Cls.leaf))).length = 1 := by decide +kernel
theorem I1t : TI f1t l1t := TI.nil.addF t1_in
theorem I2t : TI f2t l2t := I1t.addF t2_in
theorem pints_m (zs : List Int) (m : Nat) (hm : zs.length = m) (a1 a2 : Option Addr) (c1 c2 : Nat) (hn : m ≤ 100000) (w : World) (h1 : IntsV w a1 zs) (h2 : IntsV w a2 zs) : Calls Try.prog 41 #[.slice a1 m c1, .slice a2 m c2] w fun ee w' => ee = .returned (.bool true) ∧ Below w.heap.size w w' := by
  subst hm
  exact pints_c zs a1 a2 c1 c2 hn w h1 h2
theorem cv_info : (Try.prog.info? 29).map (·.size) = some 3 := by kernel_rfl
theorem cv_alloc (w : World) : (Instr.alloc 29 true (.tuple #[])).run Try.prog w = .ok (.pointer (some ⟨w.heap.size, 0, none⟩)) (w.alloc (.cells #[.int .u64 0, .int .u64 0, .int .u64 0] 29)) := by kernel_rfl
theorem cv_one : (#[.int .u64 5, .int .u64 0, .int .u64 5] : Array Value).all (·.oneCell') = true := by kernel_rfl
set_option maxHeartbeats 8000000 in
theorem two_c (w : World) : Calls Try.prog 12 #[] w fun ee w' => ee = .returned (.bool true) ∧ Below w.heap.size w w' := by
  have KA1 : Hid (∀ z tb mb, HT z tb mb (fun _ => none) → Calls Try.prog 23 #[.pointer (some ⟨tb, 0, none⟩), .agg #[.int .i64 1, .int .i64 0, .bool false, .int .u64 0, .int .u64 0, .int .u64 0, .int .u64 5, .int .u64 0, .int .u64 5, .int .u64 0, .int .u64 0, .int .u64 0, .int .i64 0, .int .i64 0]] z fun e z' => e = .returned (.int .i64 0) ∧ HT z' tb mb f1t ∧ Only (fun k => k = mb) z z') := Lib.hid (fun z tb mb h => by
    have := hadd_c h TI.nil t1_in
    rw [e1t] at this
    exact this)
  have KA2 : Hid (∀ z tb mb, HT z tb mb f1t → Calls Try.prog 23 #[.pointer (some ⟨tb, 0, none⟩), .agg #[.int .i64 2, .int .i64 1, .bool true, .int .u64 5, .int .u64 0, .int .u64 5, .int .u64 5, .int .u64 0, .int .u64 5, .int .u64 0, .int .u64 0, .int .u64 0, .int .i64 1, .int .i64 9]] z fun e z' => e = .returned (.int .i64 0) ∧ HT z' tb mb f2t ∧ Only (fun k => k = mb) z z') := Lib.hid (fun z tb mb h => by
    have := hadd_c h I1t t2_in
    rw [e2t] at this
    exact this)
  have KU : Hid (∀ z tb mb, HT z tb mb f2t → Calls Try.prog 22 #[.pointer (some ⟨tb, 0, none⟩), .int .i64 2] z fun e z' => ∃ ao cap, e = .returned (.slice ao 2 cap) ∧ IntsV z' ao [2, 1] ∧ Below z.heap.size z z') := Lib.hid (fun z tb mb h => by
    refine (hup_c h (fun x cc hcc => ⟨(I2t.cls x cc hcc).1, (I2t.cls x cc hcc).2.1.par⟩) 16 (by decide) 2 rfl (I2t.dep 2)).mono ?_
    rintro e z' ⟨v, rfl, hr, hb⟩
    rw [u2t] at hr
    obtain ⟨ao, cap, rfl⟩ := row_form hr
    exact ⟨ao, cap, rfl, (own_ints hr).2, hb⟩)
  have KD : Hid (∀ z tb mb, HT z tb mb f2t → Calls Try.prog 26 #[.pointer (some ⟨tb, 0, none⟩), .int .i64 2] z fun ee w' => ee = .returned (.int .i64 2) ∧ Below z.heap.size z w') := Lib.hid (fun z tb mb h => by
    have := hdep_c h (fun x cc hcc => ⟨(I2t.cls x cc hcc).1, (I2t.cls x cc hcc).2.1.par⟩) 16 (by decide) 2 rfl (I2t.dep 2)
    rw [u2t] at this
    exact this)
  have KR : Hid (∀ z tb mb, HT z tb mb f2t → Calls Try.prog 27 #[.pointer (some ⟨tb, 0, none⟩)] z fun e z' => ∃ ao cap, e = .returned (.slice ao 1 cap) ∧ Below z.heap.size z z') := Lib.hid (fun z tb mb h => by
    refine (hrea_c h I2t).mono ?_
    rintro e z' ⟨v, rfl, hr, hb⟩
    rw [r2t] at hr
    obtain ⟨ao, cap, rfl⟩ := row_form hr
    exact ⟨ao, cap, rfl, hb⟩)
  have KC : Hid (∀ z tb mb, HT z tb mb f2t → Calls Try.prog 25 #[.pointer (some ⟨tb, 0, none⟩), .int .i64 0] z fun e z' => ∃ ao cap, e = .returned (.slice ao 1 cap) ∧ IntsV z' ao [1] ∧ Below z.heap.size z z') := Lib.hid (fun z tb mb h => by
    refine (children_c h 0 l2t I2t.srt I2t.mem (Nat.le_trans I2t.len (by decide)) I2t.iok).mono ?_
    rintro e z' ⟨v, rfl, hr, hb⟩
    rw [k2t] at hr
    obtain ⟨ao, cap, rfl⟩ := row_form hr
    exact ⟨ao, cap, rfl, (own_ints hr).2, hb⟩)
  have KN := Lib.hid hnew_c
  have ALL := Lib.hid cv_alloc
  have INF := Lib.hid cv_info
  go_enter Try.func12, Try.ntmps12
  go_wp2_with (first
    | go_guarded
    | (go_at_call 41; (with_reducible refine (pints_m [1] 1 rfl _ _ _ _ (by decide) _ (HI9.out.below (Below.alloc (Below.refl _ _) (Nat.le_refl _) _)) (ints_block [1] (heap_alloc_new w9 (.cells #[.int .i64 1] 3)) rfl)).mono ?_); rintro _ w10 ⟨rfl, hbel⟩; have HB10 : Hid (Below w.heap.size w w10) := Lib.hid ((HB9.out.alloc HB9.out.size _).trans (hbel.mono (by have := HB9.out.size; simp; omega))); clear hbel)
    | (go_at_call 25; (have mk := HB8); (with_reducible refine (KC.out _ tb mb HT8.out).mono ?_); rintro _ w9 ⟨ao9, cp9, rfl, hi, hbel⟩; have HI9 := Lib.hid hi; have HB9 : Hid (Below w.heap.size w w9) := Lib.hid (HB8.out.trans (hbel.mono HB8.out.size)); clear hbel hi)
    | (go_at_call 27; (with_reducible refine (KR.out _ tb mb HT7.out).mono ?_); rintro _ w8 ⟨ao8, cp8, rfl, hbel⟩; have HB8 : Hid (Below w.heap.size w w8) := Lib.hid (HB7.out.trans (hbel.mono HB7.out.size)); have HT8 := Lib.hid (HT7.out.below hbel); clear hbel)
    | (go_at_call 26; (with_reducible refine (KD.out _ tb mb HT6.out).mono ?_); rintro _ w7 ⟨rfl, hbel⟩; have HB7 : Hid (Below w.heap.size w w7) := Lib.hid (HB6.out.trans (hbel.mono HB6.out.size)); have HT7 := Lib.hid (HT6.out.below hbel); clear hbel)
    | (go_at_call 41; (with_reducible refine (pints_m [2, 1] 2 rfl _ _ _ _ (by decide) _ (HI5.out.below (Below.alloc (Below.refl _ _) (Nat.le_refl _) _)) (ints_block [2, 1] (heap_alloc_new w5 (.cells #[.int .i64 2, .int .i64 1] 3)) rfl)).mono ?_); rintro _ w6 ⟨rfl, hbel⟩; have hA := Below.alloc (Below.refl w5.heap.size w5) (Nat.le_refl _) (.cells #[.int .i64 2, .int .i64 1] 3); have HB6 : Hid (Below w.heap.size w w6) := Lib.hid ((HB5.out.trans (hA.mono HB5.out.size)).trans (hbel.mono (by have := HB5.out.size; simp; omega))); have HT6 := Lib.hid ((HT5.out.below hA).below hbel); clear hbel hA)
    | (go_at_call 22; (with_reducible refine (KU.out _ tb mb HT4.out).mono ?_); rintro _ w5 ⟨ao5, cp5, rfl, hi, hbel⟩; have HI5 := Lib.hid hi; have HB5 : Hid (Below w.heap.size w w5) := Lib.hid (HB4.out.trans (hbel.mono HB4.out.size)); have HT5 := Lib.hid (HT4.out.below hbel); clear hbel hi)
    | (go_at_call 23; (with_reducible refine (KA2.out _ tb mb HT3.out).mono ?_); rintro _ w4 ⟨rfl, hT, hO⟩; have HT4 := Lib.hid hT; have HB4 : Hid (Below w.heap.size w w4) := Lib.hid (HB3.out.trans ⟨hO.1, hO.2, hO.3, hO.4, fun k hk => hO.5 k (Nat.lt_of_lt_of_le hk HB3.out.size) (by have := HMB.out; omega)⟩); clear hO hT)
    | (go_at_call 23; (with_reducible refine (KA1.out _ tb mb HT2.out).mono ?_); rintro _ w3 ⟨rfl, hT, hO⟩; have HT3 := Lib.hid hT; have HV3 := Lib.hid (HV2.out.only hO (by have := HLT.out; omega)); have HB3 : Hid (Below w.heap.size w w3) := Lib.hid (HB2.out.trans ⟨hO.1, hO.2, hO.3, hO.4, fun k hk => hO.5 k (Nat.lt_of_lt_of_le hk HB2.out.size) (by have := HMB.out; omega)⟩); clear hO hT)
    | (refine wpList_var_get rfl 29 _ rfl _ #[.int .u64 5, .int .u64 0, .int .u64 5] _ HV3.out rfl Try.underlying29 rfl INF.out ?_)
    | (refine wpList_var_get rfl 29 _ rfl _ #[.int .u64 5, .int .u64 0, .int .u64 5] _ HV2.out rfl Try.underlying29 rfl INF.out ?_)
    | (refine wpList_var_new rfl rfl 29 #[.int .u64 0, .int .u64 0, .int .u64 0] ALL.out rfl _ _ rfl #[.int .u64 5, .int .u64 0, .int .u64 5] rfl rfl INF.out rfl cv_one ?_; intro w2 hs2 hb2 hv2; have HV2 := Lib.hid hv2; have HB2 := Lib.hid (HB1.out.trans (hb2.mono HB1.out.size)); have HT2 := Lib.hid (HT1.out.below hb2); clear hb2 hv2)
    | (go_at_call 13; (with_reducible refine (KN.out _).mono ?_); rintro _ w1 ⟨tb, mb, rfl, ht, hm, hT, hbel⟩; have HT1 := Lib.hid hT; have HB1 := Lib.hid hbel; have HMB := Lib.hid hm; have HLT := Lib.hid hT.mlt; clear hT hbel ht hm))
  go_ret
  exact ⟨rfl, HB10.out⟩
theorem hierNil_law (a0 a1 a2 : Int) (a3 : Bool) (a4 a5 a6 a7 a8 a9 a10 a11 a12 a13 a14 : Int) {P0 P1 P2 P4 P5 P6 P7 P8 P9 P10 P11 P12 P13 P14 : Prop} (w0 : P0) (w1 : P1) (w2 : P2) (w4 : P4) (w5 : P5) (w6 : P6) (w7 : P7) (w8 : P8) (w9 : P9) (w10 : P10) (w11 : P11) (w12 : P12) (w13 : P13) (w14 : P14) (w : World) :
    Calls Try.prog 5 #[.agg #[.int .i64 a0, .int .i64 a1, .int .i64 a2, .bool a3, .int .u64 a4, .int .u64 a5, .int .u64 a6, .int .u64 a7, .int .u64 a8, .int .u64 a9, .int .u64 a10, .int .u64 a11, .int .u64 a12, .int .i64 a13, .int .i64 a14]] w fun ee w' => ee = .returned (.bool true) ∧ Below w.heap.size w w' := hierNil_of two_c a0 ⟨a1, a2, a3, a4, a5, a6, a7, a8, a9, a10, a11, a12, a13, a14⟩ w
end Go.Proofs.Ytlenmhbhakeonaa
