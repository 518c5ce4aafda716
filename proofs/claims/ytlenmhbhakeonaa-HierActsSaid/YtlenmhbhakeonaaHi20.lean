/- HierLaid. -/
import Derived.Test.YtlenmhbhakeonaaHi19
namespace Go.Proofs.Ytlenmhbhakeonaa
set_option linter.unusedVariables false
set_option linter.unusedSimpArgs false
set_option maxRecDepth 100000
open Go.RowKit Fg Reg Go.Maps
attribute [local irreducible] Reg.wE VR

theorem kind_zero {a b c : Int} (h : a = 0 ∧ b = 0 ∧ c = 0) : kind a b c = 1 := by
  obtain ⟨rfl, rfl, rfl⟩ := h
  rfl
theorem sh_nz {c : Cls} (hw : wrC c = 0) (h : ¬ (c.la = 0 ∧ c.lb = 0 ∧ c.lc = 0)) : sh1 c = true := by
  unfold sh1
  rw [decide_eq_true_eq]
  have hk : kind c.la c.lb c.lc ≠ 0 := by
    unfold wrC wr at hw
    split at hw
    · cases hw
    · split at hw
      · cases hw
      · rename_i h2
        intro g
        apply h2
        unfold cr
        rw [g]
        simp
  unfold kind at hk ⊢
  by_cases g1 : 4294967295 < c.la ∨ 4294967295 < c.lc ∨ 1048576 < c.lb
  · rw [if_pos g1] at hk; exact absurd rfl hk
  · rw [if_neg g1, if_neg h] at hk ⊢
    by_cases g3 : c.la = c.lc ∧ c.lb = 0
    · rw [if_pos g3]; decide
    · rw [if_neg g3] at hk ⊢
      by_cases g4 : c.lc < c.la ∧ 0 < c.lb
      · rw [if_pos g4]; decide
      · rw [if_neg g4] at hk ⊢
        by_cases g5 : c.la = 0 ∧ 0 < c.lc ∧ 0 < c.lb
        · rw [if_pos g5]; decide
        · rw [if_neg g5] at hk; exact absurd rfl hk
theorem nz_sh {c : Cls} (h : sh1 c = true) : ¬ (c.la = 0 ∧ c.lb = 0 ∧ c.lc = 0) := fun g => by
  unfold sh1 at h
  rw [kind_zero g] at h
  cases h
theorem laid_long (v : Value) (n : Nat) (ao : Option Addr) (cap : Nat) (hv : v = .slice ao n cap) (hn : 200 < n) (w : World) : Calls Try.prog 4 #[v] w fun ee w' => ee = .returned (.bool true) ∧ Below w.heap.size w w' := by
  subst hv
  have K := Lib.hid two_c
  have q1 : decide ((200 : Int) < (n : Int)) = true := decide_eq_true (by omega)
  have q2 : decide (200 < n) = true := decide_eq_true (by omega)
  clear hn
  go_enter Try.func4, Try.ntmps4
  go_wp2_with (first | go_guarded | (go_at_call 12; (with_reducible refine (K.out _).mono ?_); rintro _ w1 ⟨rfl, hbel⟩; have HB := Lib.hid hbel; clear hbel))
  go_ret
  exact ⟨rfl, HB.out⟩
set_option maxHeartbeats 16000000 in
theorem laid_c (xs : List HA) (n : Nat) (hln : xs.length = n) (hn : n ≤ 200) (hin : ∀ k (h : k < xs.length), CIn xs[k].c) (ao : Option Addr) (cap : Nat) (w : World) (hA : RwV HA.cells 15 w ao xs) :
    Calls Try.prog 4 #[.slice ao n cap] w fun ee w' => ee = .returned (.bool true) ∧ Below w.heap.size w w' := by
  have K2 := Lib.hid two_c
  have KN := Lib.hid hnew_c
  have KD := Lib.hid (fun (z : World) (tb mb : Nat) (f : Int → Option Cls) (L : List Int) (h : HT z tb mb f) (I : TI f L) (k : Int) (c : Cls) (hi : CIn c) => done_c h I k hi)
  have q1 : decide ((200 : Int) < (n : Int)) = false := decide_eq_false (by omega)
  have q2 : decide (200 < n) = false := decide_eq_false (by omega)
  have HA := Lib.hid hA
  have HIN := Lib.hid hin
  have HLN := Lib.hid hln
  have ALL := Lib.hid ac_alloc
  have INF := Lib.hid ac_info
  have ONE := Lib.hid aca_one
  have CALL := Lib.hid cl_alloc
  have CINF := Lib.hid cl_info
  have CONE := Lib.hid cla_one
  have EQC := eqCv0
  clear hA hin hln
  go_enter Try.func4, Try.ntmps4
  go_wp2_with (first
    | go_guarded
    | (go_at_call 13; (with_reducible refine (KN.out _).mono ?_); rintro _ w1 ⟨tb, mb, rfl, ht, hm, hT, hbel⟩; have HT1 := Lib.hid hT; have HB1 := Lib.hid hbel; have HTB := Lib.hid ht; have HMB := Lib.hid hm; clear hT hbel ht hm))
  try go_frame
  go_loopg [23] n (fun k9 s23 wr => ∃ (k : Nat) (f : Int → Option Cls) (L : List Int), s23 = .int .i64 k ∧ k ≤ n ∧ HT wr tb mb f ∧ TI f L ∧ Below w.heap.size w wr ∧ n - k ≤ k9)
  case atStart => exact ⟨0, _, [], rfl, Nat.zero_le _, HT1.out, TI.nil, HB1.out, by omega⟩
  case round =>
    obtain ⟨k, f, L, rfl, hk, hT, hI, hB, hk9⟩ := hrel
    have HTR := Lib.hid hT
    have HI := Lib.hid hI
    have HB := Lib.hid hB
    by_cases hlt : k < n
    · have hlC : k < xs.length := by rw [HLN.out]; exact hlt
      obtain ⟨b, o, rfl, hb, hra⟩ := (HA.out.below hB) k hlC
      have hci := HIN.out k hlC
      obtain ⟨a, hae⟩ : ∃ a, xs[k] = a := ⟨_, rfl⟩
      rw [hae] at hra hci
      have HR := Lib.hid (show wr.rangeAt b (o + k * 15) (#[.int .i64 (a.k), .int .i64 (a.c).id, .int .i64 (a.c).par, .bool (a.c).leaf, .int .u64 (a.c).ra, .int .u64 (a.c).rb, .int .u64 (a.c).rc, .int .u64 (a.c).la, .int .u64 (a.c).lb, .int .u64 (a.c).lc, .int .u64 (a.c).ua, .int .u64 (a.c).ub, .int .u64 (a.c).uc, .int .i64 (a.c).pk, .int .i64 (a.c).bt] : Array Value).toList from hra)
      have HCI := Lib.hid hci
      clear hT hI hB hra hci hae
      go_wp2_with (first
        | go_guarded
        | (go_at_call 15; (with_reducible refine (KD.out _ tb mb f L (HTR.out.below HBE.out) HI.out a.k a.c HCI.out).mono ?_); rintro _ w6 ⟨rfl, hT6, hO6⟩; have HT6 := Lib.hid hT6; have HB6 : Hid (Below w.heap.size w w6) := Lib.hid (HB.out.trans ((HBE.out.mono HB.out.size).trans ⟨hO6.1, hO6.2, hO6.3, hO6.4, fun q hq => hO6.5 q (Nat.lt_of_lt_of_le hq (Nat.le_trans HB.out.size HBE.out.size)) (by have := HMB.out; omega)⟩)); clear hT6 hO6)
        | (refine wpList_var_get rfl 33 _ rfl _ #[.int .i64 (a.k), .int .i64 (a.c).id, .int .i64 (a.c).par, .bool (a.c).leaf, .int .u64 (a.c).ra, .int .u64 (a.c).rb, .int .u64 (a.c).rc, .int .u64 (a.c).la, .int .u64 (a.c).lb, .int .u64 (a.c).lc, .int .u64 (a.c).ua, .int .u64 (a.c).ub, .int .u64 (a.c).uc, .int .i64 (a.c).pk, .int .i64 (a.c).bt] _ HV5.out rfl Try.underlying33 rfl INF.out ?_)
        | (refine wpList_var_new rfl rfl 33 #[.int .i64 0, .int .i64 0, .int .i64 0, .bool false, .int .u64 0, .int .u64 0, .int .u64 0, .int .u64 0, .int .u64 0, .int .u64 0, .int .u64 0, .int .u64 0, .int .u64 0, .int .i64 0, .int .i64 0] ALL.out rfl _ _ rfl #[.int .i64 (a.k), .int .i64 (a.c).id, .int .i64 (a.c).par, .bool (a.c).leaf, .int .u64 (a.c).ra, .int .u64 (a.c).rb, .int .u64 (a.c).rc, .int .u64 (a.c).la, .int .u64 (a.c).lb, .int .u64 (a.c).lc, .int .u64 (a.c).ua, .int .u64 (a.c).ub, .int .u64 (a.c).uc, .int .i64 (a.c).pk, .int .i64 (a.c).bt] rfl rfl INF.out rfl (ONE.out _ _) ?_; intro w5 hs5 hb5 hv5; have HV5 := Lib.hid hv5; have HBE := Lib.hid hb5; clear hb5 hv5)
        | (refine wpList_part_get rfl 33 _ rfl b (o + k * 15) #[.int .i64 (a.k), .int .i64 (a.c).id, .int .i64 (a.c).par, .bool (a.c).leaf, .int .u64 (a.c).ra, .int .u64 (a.c).rb, .int .u64 (a.c).rc, .int .u64 (a.c).la, .int .u64 (a.c).lb, .int .u64 (a.c).lc, .int .u64 (a.c).ua, .int .u64 (a.c).ub, .int .u64 (a.c).uc, .int .i64 (a.c).pk, .int .i64 (a.c).bt] _ HR.out rfl Try.underlying33 rfl INF.out ?_))
      go_roundg (n - (k + 1))
      case rel => exact ⟨k + 1, _, _, by go_num, by omega, HT6.out, HI.out.doF a.k HCI.out, HB6.out, Nat.le_refl _⟩
      case measure => omega
    · obtain rfl : k = n := by omega
      clear hT hI hB hlt
      have KI := Lib.hid (fun (z : World) (hz : HT z tb mb f) => ids_c hz L HI.out.srt HI.out.mem (Nat.le_trans HI.out.len (by decide)) HI.out.iok)
      obtain ⟨m, hm⟩ : ∃ m, L.length = m := ⟨_, rfl⟩
      have hm64 : m ≤ 64 := by rw [← hm]; exact HI.out.len
      have HM := Lib.hid hm
      rw [hm] at KI
      clear hm
      have q3 : decide ((m : Int) ≤ 64) = true := decide_eq_true (by omega)
      have q4 : decide (m ≤ 64) = true := decide_eq_true hm64
      go_wp2_with (first
        | go_guarded
        | (go_at_call 20; (with_reducible refine (KI.out _ HTR.out).mono ?_); rintro _ w7 ⟨v, rfl, hrow, hbel⟩; obtain ⟨io, ic, rfl⟩ := row_form hrow; have HIV := Lib.hid (own_ints hrow).2; have HB7 := Lib.hid (HB.out.trans (hbel.mono HB.out.size)); have HT7 := Lib.hid (HTR.out.below hbel); clear hbel hrow))
      try go_frame
      go_loopg [35] m (fun k9 s35 wr => ∃ (i : Nat), s35 = .int .i64 i ∧ i ≤ m ∧ Below w7.heap.size w7 wr ∧ m - i ≤ k9)
      case atStart => exact ⟨0, rfl, Nat.zero_le _, Below.refl _ _, by omega⟩
      case round =>
        obtain ⟨i, rfl, hi, hBz, hi9⟩ := hrel
        have HBZ := Lib.hid hBz
        by_cases hlt : i < m
        · have hlC : i < L.length := by rw [HM.out]; exact hlt
          obtain ⟨b, o, rfl, hb, hcell⟩ := HIV.out i hlC
          have hce := (hBz.cell (p := ⟨b, o + i, none⟩) hb).trans hcell
          have hb2 : b < wr.heap.size := Nat.lt_of_lt_of_le hb hBz.size
          have hxm : L[i] ∈ L := List.getElem_mem hlC
          obtain ⟨x, hxe⟩ : ∃ x, L[i] = x := ⟨_, rfl⟩
          rw [hxe] at hce hxm
          obtain ⟨c, hc⟩ := Option.isSome_iff_exists.1 ((HI.out.mem x).2 hxm)
          have hci := HI.out.cls x c hc
          have hxi : iok x := HI.out.iok x hxm
          obtain ⟨u, y, cl, hu1, hu2, hu3, hy, hyp⟩ := upl_last HI.out 16 x c hc (HI.out.dep x)
          have hul : u < 16 := by have := upl_len f 16 x; omega
          have hT0 : HT wr tb mb f := HT7.out.below hBz
          have KG := Lib.hid (fun (z : World) (hz : HT z tb mb f) => (by have := hget_c hz hxi; rw [hc] at this; exact this : Calls Try.prog 21 #[.pointer (some ⟨tb, 0, none⟩), .int .i64 x] z fun ee w' => ee = .returned (.tuple #[.agg #[.int .i64 (c).id, .int .i64 (c).par, .bool (c).leaf, .int .u64 (c).ra, .int .u64 (c).rb, .int .u64 (c).rc, .int .u64 (c).la, .int .u64 (c).lb, .int .u64 (c).lc, .int .u64 (c).ua, .int .u64 (c).ub, .int .u64 (c).uc, .int .i64 (c).pk, .int .i64 (c).bt], .int .i64 0]) ∧ Below z.heap.size z w'))
          have hyi : iok y := by have := HI.out.cls y cl hy; rw [← this.1]; exact this.2.1.id
          have KL := Lib.hid (fun (z : World) (hz : HT z tb mb f) => (by have := hget_c hz hyi; rw [hy] at this; exact this : Calls Try.prog 21 #[.pointer (some ⟨tb, 0, none⟩), .int .i64 y] z fun ee w' => ee = .returned (.tuple #[.agg #[.int .i64 (cl).id, .int .i64 (cl).par, .bool (cl).leaf, .int .u64 (cl).ra, .int .u64 (cl).rb, .int .u64 (cl).rc, .int .u64 (cl).la, .int .u64 (cl).lb, .int .u64 (cl).lc, .int .u64 (cl).ua, .int .u64 (cl).ub, .int .u64 (cl).uc, .int .i64 (cl).pk, .int .i64 (cl).bt], .int .i64 0]) ∧ Below z.heap.size z w'))
          have KU : Hid (∀ z, HT z tb mb f → Calls Try.prog 22 #[.pointer (some ⟨tb, 0, none⟩), .int .i64 x] z fun e z' => ∃ b o cp, e = .returned (.slice (some ⟨b, o, none⟩) (u + 1) cp) ∧ b < z'.heap.size ∧ z'.cell? ⟨b, o, none⟩ = some (.int .i64 x) ∧ z'.cell? ⟨b, o + u, none⟩ = some (.int .i64 y) ∧ Below z.heap.size z z') := Lib.hid (fun z hz => by
            refine (hup_c hz (fun x cc hcc => ⟨(HI.out.cls x cc hcc).1, (HI.out.cls x cc hcc).2.1.par⟩) 16 (by decide) x hxi (HI.out.dep x)).mono ?_
            rintro e z' ⟨v, rfl, hr, hb⟩
            rw [hu1] at hr
            obtain ⟨ao, cap, rfl⟩ := row_form hr
            have hiv := (own_ints hr).2
            obtain ⟨b, o, rfl, hb1, h0⟩ := hiv 0 (by omega)
            obtain ⟨b', o', e', _, h1⟩ := hiv u (by omega)
            cases e'
            refine ⟨b, o, cap, rfl, hb1, ?_, ?_, hb⟩
            · rw [Nat.add_zero] at h0
              rw [h0]
              rw [List.getElem?_eq_getElem (by omega)] at hu2
              injection hu2 with hu2
              rw [hu2]
            · rw [h1]
              rw [List.getElem?_eq_getElem (by omega)] at hu3
              injection hu3 with hu3
              rw [hu3])
          have HT0 := Lib.hid hT0
          have q5 : decide ((u : Int) + 1 < 1) = false := decide_eq_false (by omega)
          have q6 : decide ((16 : Int) < (u : Int) + 1) = false := decide_eq_false (by omega)
          have q7 : decide (16 < u + 1) = false := decide_eq_false (by omega)
          have q8 : decide (u + 1 < 1) = false := decide_eq_false (by omega)
          have q9 : decide (16 ≤ u) = false := decide_eq_false (by omega)
          have q10 : decide ((16 : Int) ≤ (u : Int)) = false := decide_eq_false (by omega)
          have q11 : (u : Int) < (u : Int) + 1 := by omega
          have hcp := hci.2.1.par
          have HYP := Lib.hid hyp
          by_cases hp0 : c.par = 0
          · have HP0 := Lib.hid hp0
            clear hcell hxe hxm hc hci hu1 hu2 hu3 hy hyp hT0 hBz hlC hb hp0 hcp hxi hyi
            go_wp2_with (first
              | go_guarded
              | (refine wpList_var_new rfl rfl 31 #[.int .i64 0, .int .i64 0, .bool false, .int .u64 0, .int .u64 0, .int .u64 0, .int .u64 0, .int .u64 0, .int .u64 0, .int .u64 0, .int .u64 0, .int .u64 0, .int .i64 0, .int .i64 0] CALL.out rfl _ _ rfl #[.int .i64 (cl).id, .int .i64 (cl).par, .bool (cl).leaf, .int .u64 (cl).ra, .int .u64 (cl).rb, .int .u64 (cl).rc, .int .u64 (cl).la, .int .u64 (cl).lb, .int .u64 (cl).lc, .int .u64 (cl).ua, .int .u64 (cl).ub, .int .u64 (cl).uc, .int .i64 (cl).pk, .int .i64 (cl).bt] rfl rfl CINF.out rfl (CONE.out _) ?_; (have mk := HB12); intro w13 hs13 hb13 hv13; have hc13 := HV12.out.bel hb13; have g1 := hc13.cell 1 rfl; have gl := hc13.lt; rw [HP0.out] at g1; have y1 := hv13.cell 1 rfl; rw [HYP.out] at y1; have yl := hv13.lt; have HB13 := Lib.hid (HB12.out.trans (hb13.mono HB12.out.size)); clear hb13 hv13 hc13)
              | (go_at_call 21; (have mk := HB11); (with_reducible refine (KL.out _ HT11.out).mono ?_); rintro _ w12 ⟨rfl, hbel⟩; have HB12 := Lib.hid (HB11.out.trans (hbel.mono HB11.out.size)); have HV12 := Lib.hid (HV11.out.bel hbel); clear hbel)
              | (go_at_call 22; (with_reducible refine (KU.out _ HT10.out).mono ?_); rintro _ w11 ⟨bu, ou, cu, rfl, hbu, hu0, hu1, hbel⟩; have HB11 := Lib.hid (HB10.out.trans (hbel.mono HB10.out.size)); have HV11 := Lib.hid (HV10.out.bel hbel); have HT11 := Lib.hid (HT7.out.below HB11.out); clear hbel)
              | (refine wpList_var_new rfl rfl 31 #[.int .i64 0, .int .i64 0, .bool false, .int .u64 0, .int .u64 0, .int .u64 0, .int .u64 0, .int .u64 0, .int .u64 0, .int .u64 0, .int .u64 0, .int .u64 0, .int .i64 0, .int .i64 0] CALL.out rfl _ _ rfl #[.int .i64 (c).id, .int .i64 (c).par, .bool (c).leaf, .int .u64 (c).ra, .int .u64 (c).rb, .int .u64 (c).rc, .int .u64 (c).la, .int .u64 (c).lb, .int .u64 (c).lc, .int .u64 (c).ua, .int .u64 (c).ub, .int .u64 (c).uc, .int .i64 (c).pk, .int .i64 (c).bt] rfl rfl CINF.out rfl (CONE.out _) ?_; (have mk := HB9); intro w10 hs10 hb10 hv10; have HV10 := Lib.hid hv10; have HB10 := Lib.hid (HB9.out.trans (hb10.mono HB9.out.size)); have HT10 := Lib.hid (HT7.out.below HB10.out); clear hb10 hv10)
              | (go_at_call 21; (with_reducible refine (KG.out _ HT0.out).mono ?_); rintro _ w9 ⟨rfl, hbel⟩; have HB9 := Lib.hid (HBZ.out.trans (hbel.mono HBZ.out.size)); clear hbel))
            go_roundg (m - (i + 1))
            case rel => exact ⟨i + 1, by go_num, by omega, HB13.out, Nat.le_refl _⟩
            case measure => omega
          · obtain ⟨p, hp, hplf, hpsh⟩ := HI.out.par x c hc hp0
            have hpi : iok c.par := hci.2.1.par
            have KP := Lib.hid (fun (z : World) (hz : HT z tb mb f) => (by have := hget_c hz hpi; rw [hp] at this; exact this : Calls Try.prog 21 #[.pointer (some ⟨tb, 0, none⟩), .int .i64 c.par] z fun ee w' => ee = .returned (.tuple #[.agg #[.int .i64 (p).id, .int .i64 (p).par, .bool (p).leaf, .int .u64 (p).ra, .int .u64 (p).rb, .int .u64 (p).rc, .int .u64 (p).la, .int .u64 (p).lb, .int .u64 (p).lc, .int .u64 (p).ua, .int .u64 (p).ub, .int .u64 (p).uc, .int .i64 (p).pk, .int .i64 (p).bt], .int .i64 0]) ∧ Below z.heap.size z w'))
            have HPL := Lib.hid hplf
            have r1 : (c.par == 0) = false := by simpa using hp0
            have r2 : (c.par != 0) = true := by simpa using hp0
            by_cases hz0 : c.la = 0 ∧ c.lb = 0 ∧ c.lc = 0
            · have r3 : decide (c.la = 0 ∧ c.lb = 0 ∧ c.lc = 0) = true := decide_eq_true hz0
              have EC : ∀ z, (Op.equalIn 10000 29 (.agg #[.int .u64 c.la, .int .u64 c.lb, .int .u64 c.lc]) (.agg #[.int .u64 0, .int .u64 0, .int .u64 0])).run Try.prog z = .ok true z := fun z => by rw [EQC, r3]
              clear hcell hxe hxm hc hci hu1 hu2 hu3 hy hyp hT0 hBz hlC hb hp0 hcp hxi hyi hp hplf hpsh hpi hz0 r3 EQC
              go_wp2_with (first
                | go_guarded
                | (refine wpList_var_new rfl rfl 31 #[.int .i64 0, .int .i64 0, .bool false, .int .u64 0, .int .u64 0, .int .u64 0, .int .u64 0, .int .u64 0, .int .u64 0, .int .u64 0, .int .u64 0, .int .u64 0, .int .i64 0, .int .i64 0] CALL.out rfl _ _ rfl #[.int .i64 (p).id, .int .i64 (p).par, .bool (p).leaf, .int .u64 (p).ra, .int .u64 (p).rb, .int .u64 (p).rc, .int .u64 (p).la, .int .u64 (p).lb, .int .u64 (p).lc, .int .u64 (p).ua, .int .u64 (p).ub, .int .u64 (p).uc, .int .i64 (p).pk, .int .i64 (p).bt] rfl rfl CINF.out rfl (CONE.out _) ?_; (have mk := HB14); intro w15 hs15 hb15 hv15; have hc15 := HV14.out.bel hb15; have k6 := hc15.cell 6 rfl; have k7 := hc15.cell 7 rfl; have k8 := hc15.cell 8 rfl; have kl := hc15.lt; have p2 := hv15.cell 2 rfl; rw [HPL.out] at p2; have p6 := hv15.cell 6 rfl; have p7 := hv15.cell 7 rfl; have p8 := hv15.cell 8 rfl; have pl := hv15.lt; have HB15 := Lib.hid (HB14.out.trans (hb15.mono HB14.out.size)); clear hb15 hv15 hc15)
                | (go_at_call 21; (have mk := HB13); (with_reducible refine (KP.out _ HT13.out).mono ?_); rintro _ w14 ⟨rfl, hbel⟩; have HB14 := Lib.hid (HB13.out.trans (hbel.mono HB13.out.size)); have HV14 := Lib.hid (HV13.out.bel hbel); clear hbel)
                | (refine wpList_var_new rfl rfl 31 #[.int .i64 0, .int .i64 0, .bool false, .int .u64 0, .int .u64 0, .int .u64 0, .int .u64 0, .int .u64 0, .int .u64 0, .int .u64 0, .int .u64 0, .int .u64 0, .int .i64 0, .int .i64 0] CALL.out rfl _ _ rfl #[.int .i64 (cl).id, .int .i64 (cl).par, .bool (cl).leaf, .int .u64 (cl).ra, .int .u64 (cl).rb, .int .u64 (cl).rc, .int .u64 (cl).la, .int .u64 (cl).lb, .int .u64 (cl).lc, .int .u64 (cl).ua, .int .u64 (cl).ub, .int .u64 (cl).uc, .int .i64 (cl).pk, .int .i64 (cl).bt] rfl rfl CINF.out rfl (CONE.out _) ?_; (have mk := HB12); intro w13 hs13 hb13 hv13; have HV13 := Lib.hid (HV12.out.bel hb13); have g1 := HV13.out.cell 1 rfl; have gl := HV13.out.lt; have y1 := hv13.cell 1 rfl; rw [HYP.out] at y1; have yl := hv13.lt; have HB13 := Lib.hid (HB12.out.trans (hb13.mono HB12.out.size)); have HT13 := Lib.hid (HT7.out.below HB13.out); clear hb13 hv13)
                | (go_at_call 21; (have mk := HB11); (with_reducible refine (KL.out _ HT11.out).mono ?_); rintro _ w12 ⟨rfl, hbel⟩; have HB12 := Lib.hid (HB11.out.trans (hbel.mono HB11.out.size)); have HV12 := Lib.hid (HV11.out.bel hbel); clear hbel)
                | (go_at_call 22; (with_reducible refine (KU.out _ HT10.out).mono ?_); rintro _ w11 ⟨bu, ou, cu, rfl, hbu, hu0, hu1, hbel⟩; have HB11 := Lib.hid (HB10.out.trans (hbel.mono HB10.out.size)); have HV11 := Lib.hid (HV10.out.bel hbel); have HT11 := Lib.hid (HT7.out.below HB11.out); clear hbel)
                | (refine wpList_var_new rfl rfl 31 #[.int .i64 0, .int .i64 0, .bool false, .int .u64 0, .int .u64 0, .int .u64 0, .int .u64 0, .int .u64 0, .int .u64 0, .int .u64 0, .int .u64 0, .int .u64 0, .int .i64 0, .int .i64 0] CALL.out rfl _ _ rfl #[.int .i64 (c).id, .int .i64 (c).par, .bool (c).leaf, .int .u64 (c).ra, .int .u64 (c).rb, .int .u64 (c).rc, .int .u64 (c).la, .int .u64 (c).lb, .int .u64 (c).lc, .int .u64 (c).ua, .int .u64 (c).ub, .int .u64 (c).uc, .int .i64 (c).pk, .int .i64 (c).bt] rfl rfl CINF.out rfl (CONE.out _) ?_; (have mk := HB9); intro w10 hs10 hb10 hv10; have HV10 := Lib.hid hv10; have HB10 := Lib.hid (HB9.out.trans (hb10.mono HB9.out.size)); have HT10 := Lib.hid (HT7.out.below HB10.out); clear hb10 hv10)
                | (go_at_call 21; (with_reducible refine (KG.out _ HT0.out).mono ?_); rintro _ w9 ⟨rfl, hbel⟩; have HB9 := Lib.hid (HBZ.out.trans (hbel.mono HBZ.out.size)); clear hbel))
              go_roundg (m - (i + 1))
              case rel => exact ⟨i + 1, by go_num, by omega, HB15.out, Nat.le_refl _⟩
              case measure => omega
            · have r3 : decide (c.la = 0 ∧ c.lb = 0 ∧ c.lc = 0) = false := decide_eq_false hz0
              have EC : ∀ z, (Op.equalIn 10000 29 (.agg #[.int .u64 c.la, .int .u64 c.lb, .int .u64 c.lc]) (.agg #[.int .u64 0, .int .u64 0, .int .u64 0])).run Try.prog z = .ok false z := fun z => by rw [EQC, r3]
              have r4 : decide (p.la = 0 ∧ p.lb = 0 ∧ p.lc = 0) = false := decide_eq_false (nz_sh (hpsh (sh_nz hci.2.2 hz0)))
              have EP : ∀ z, (Op.equalIn 10000 29 (.agg #[.int .u64 p.la, .int .u64 p.lb, .int .u64 p.lc]) (.agg #[.int .u64 0, .int .u64 0, .int .u64 0])).run Try.prog z = .ok false z := fun z => by rw [EQC, r4]
              clear hcell hxe hxm hc hci hu1 hu2 hu3 hy hyp hT0 hBz hlC hb hp0 hcp hxi hyi hp hplf hpsh hpi hz0 r3 r4 EQC
              go_wp2_with (first
                | go_guarded
                | (refine wpList_var_new rfl rfl 31 #[.int .i64 0, .int .i64 0, .bool false, .int .u64 0, .int .u64 0, .int .u64 0, .int .u64 0, .int .u64 0, .int .u64 0, .int .u64 0, .int .u64 0, .int .u64 0, .int .i64 0, .int .i64 0] CALL.out rfl _ _ rfl #[.int .i64 (p).id, .int .i64 (p).par, .bool (p).leaf, .int .u64 (p).ra, .int .u64 (p).rb, .int .u64 (p).rc, .int .u64 (p).la, .int .u64 (p).lb, .int .u64 (p).lc, .int .u64 (p).ua, .int .u64 (p).ub, .int .u64 (p).uc, .int .i64 (p).pk, .int .i64 (p).bt] rfl rfl CINF.out rfl (CONE.out _) ?_; (have mk := HB14); intro w15 hs15 hb15 hv15; have hc15 := HV14.out.bel hb15; have k6 := hc15.cell 6 rfl; have k7 := hc15.cell 7 rfl; have k8 := hc15.cell 8 rfl; have kl := hc15.lt; have p2 := hv15.cell 2 rfl; rw [HPL.out] at p2; have p6 := hv15.cell 6 rfl; have p7 := hv15.cell 7 rfl; have p8 := hv15.cell 8 rfl; have pl := hv15.lt; have HB15 := Lib.hid (HB14.out.trans (hb15.mono HB14.out.size)); clear hb15 hv15 hc15)
                | (go_at_call 21; (have mk := HB13); (with_reducible refine (KP.out _ HT13.out).mono ?_); rintro _ w14 ⟨rfl, hbel⟩; have HB14 := Lib.hid (HB13.out.trans (hbel.mono HB13.out.size)); have HV14 := Lib.hid (HV13.out.bel hbel); clear hbel)
                | (refine wpList_var_new rfl rfl 31 #[.int .i64 0, .int .i64 0, .bool false, .int .u64 0, .int .u64 0, .int .u64 0, .int .u64 0, .int .u64 0, .int .u64 0, .int .u64 0, .int .u64 0, .int .u64 0, .int .i64 0, .int .i64 0] CALL.out rfl _ _ rfl #[.int .i64 (cl).id, .int .i64 (cl).par, .bool (cl).leaf, .int .u64 (cl).ra, .int .u64 (cl).rb, .int .u64 (cl).rc, .int .u64 (cl).la, .int .u64 (cl).lb, .int .u64 (cl).lc, .int .u64 (cl).ua, .int .u64 (cl).ub, .int .u64 (cl).uc, .int .i64 (cl).pk, .int .i64 (cl).bt] rfl rfl CINF.out rfl (CONE.out _) ?_; (have mk := HB12); intro w13 hs13 hb13 hv13; have HV13 := Lib.hid (HV12.out.bel hb13); have g1 := HV13.out.cell 1 rfl; have gl := HV13.out.lt; have y1 := hv13.cell 1 rfl; rw [HYP.out] at y1; have yl := hv13.lt; have HB13 := Lib.hid (HB12.out.trans (hb13.mono HB12.out.size)); have HT13 := Lib.hid (HT7.out.below HB13.out); clear hb13 hv13)
                | (go_at_call 21; (have mk := HB11); (with_reducible refine (KL.out _ HT11.out).mono ?_); rintro _ w12 ⟨rfl, hbel⟩; have HB12 := Lib.hid (HB11.out.trans (hbel.mono HB11.out.size)); have HV12 := Lib.hid (HV11.out.bel hbel); clear hbel)
                | (go_at_call 22; (with_reducible refine (KU.out _ HT10.out).mono ?_); rintro _ w11 ⟨bu, ou, cu, rfl, hbu, hu0, hu1, hbel⟩; have HB11 := Lib.hid (HB10.out.trans (hbel.mono HB10.out.size)); have HV11 := Lib.hid (HV10.out.bel hbel); have HT11 := Lib.hid (HT7.out.below HB11.out); clear hbel)
                | (refine wpList_var_new rfl rfl 31 #[.int .i64 0, .int .i64 0, .bool false, .int .u64 0, .int .u64 0, .int .u64 0, .int .u64 0, .int .u64 0, .int .u64 0, .int .u64 0, .int .u64 0, .int .u64 0, .int .i64 0, .int .i64 0] CALL.out rfl _ _ rfl #[.int .i64 (c).id, .int .i64 (c).par, .bool (c).leaf, .int .u64 (c).ra, .int .u64 (c).rb, .int .u64 (c).rc, .int .u64 (c).la, .int .u64 (c).lb, .int .u64 (c).lc, .int .u64 (c).ua, .int .u64 (c).ub, .int .u64 (c).uc, .int .i64 (c).pk, .int .i64 (c).bt] rfl rfl CINF.out rfl (CONE.out _) ?_; (have mk := HB9); intro w10 hs10 hb10 hv10; have HV10 := Lib.hid hv10; have HB10 := Lib.hid (HB9.out.trans (hb10.mono HB9.out.size)); have HT10 := Lib.hid (HT7.out.below HB10.out); clear hb10 hv10)
                | (go_at_call 21; (with_reducible refine (KG.out _ HT0.out).mono ?_); rintro _ w9 ⟨rfl, hbel⟩; have HB9 := Lib.hid (HBZ.out.trans (hbel.mono HBZ.out.size)); clear hbel))
              go_roundg (m - (i + 1))
              case rel => exact ⟨i + 1, by go_num, by omega, HB15.out, Nat.le_refl _⟩
              case measure => omega
        · obtain rfl : i = m := by omega
          clear hlt hBz
          go_wp2_with (first
            | go_guarded
            | (go_at_call 12; (with_reducible refine (K2.out _).mono ?_); rintro _ w20 ⟨rfl, hbel⟩; have HB20 := Lib.hid ((HB7.out.trans (HBZ.out.mono HB7.out.size)).trans (hbel.mono (Nat.le_trans HB7.out.size HBZ.out.size))); clear hbel))
          go_ret
          exact ⟨rfl, HB20.out⟩
theorem hierLaid_law (v : Value) {w : World} (hs : Op.FlatSlice w 15 [.int .i64, .int .i64, .int .i64, .bool, .int .u64, .int .u64, .int .u64, .int .u64, .int .u64, .int .u64, .int .u64, .int .u64, .int .u64, .int .i64, .int .i64] v) : Calls Try.prog 4 #[v] w fun ee w' => ee = .returned (.bool true) ∧ Below w.heap.size w w' := by
  obtain ⟨ao, xs, cap, rfl, h1, h2, h3, h4⟩ := acts_of hs
  by_cases hn : xs.length ≤ 200
  · exact laid_c xs _ rfl hn h4 ao cap w h3
  · exact laid_long _ xs.length ao cap rfl (by omega) w
end Go.Proofs.Ytlenmhbhakeonaa
