/- HierActs. -/
import Derived.Test.YtlenmhbhakeonaaHa7
namespace Go.Proofs.Ytlenmhbhakeonaa
set_option linter.unusedVariables false
set_option linter.unusedSimpArgs false
set_option maxRecDepth 100000
open Go.RowKit Fg Reg Go.Maps
attribute [local irreducible] Reg.wE VR

theorem dd_alloc (w : World) : (Instr.alloc 35 true (.tuple #[])).run Try.prog w = .ok (.pointer (some ⟨w.heap.size, 0, none⟩)) (w.alloc (.cells #[.slice none 0 0, .int .i64 0] 35)) := by kernel_rfl
theorem HT.map {z : World} {tb mb : Nat} {f : Int → Option Cls} (h : HT z tb mb f) : ∃ es ck, z.heap[mb]? = some (.map es ck) := by
  obtain ⟨n, es, ck, hb, _⟩ := h.mp
  exact ⟨es, ck, hb⟩
theorem HT.only {S : Nat → Prop} {z z' : World} {tb mb : Nat} {f : Int → Option Cls} (h : HT z tb mb f) (ho : Only S z z') (h1 : ¬ S tb) (h2 : ¬ S mb) : HT z' tb mb f := by
  obtain ⟨n, hn⟩ := h.mp
  exact ⟨(ho.cell h.lt h1).trans h.c0, Nat.lt_of_lt_of_le h.lt ho.size, h.ne, n, hn.frame (ho.block mb hn.lt h2)⟩
theorem ints_map_only {z z' : World} {ao : Option Addr} {C : List Int} (h : IntsV z ao C) {mb : Nat} (hm : ∃ es ck, z.heap[mb]? = some (.map es ck)) (ho : Only (fun k => k = mb) z z') : IntsV z' ao C := fun k hk => by
  obtain ⟨b, o, e, h1, h2⟩ := h k hk
  have hne : b ≠ mb := by
    rintro rfl
    obtain ⟨es, ck, hb⟩ := hm
    simp [World.cell?, hb] at h2
  exact ⟨b, o, e, Nat.lt_of_lt_of_le h1 ho.size, by rw [World.cell?_of_block (ho.block b h1 hne)]; exact h2⟩
theorem a9_bel {w z z' : World} {p6 p7 : Nat} {a : HA} {ao1 : Option Addr} {n1 cap1 : Nat} {E1 : Int} {F1 : Int → Option Cls} {L1 : List Int} (h : VR z p6 33 #[.int .i64 (a.k), .int .i64 (a.c).id, .int .i64 (a.c).par, .bool (a.c).leaf, .int .u64 (a.c).ra, .int .u64 (a.c).rb, .int .u64 (a.c).rc, .int .u64 (a.c).la, .int .u64 (a.c).lb, .int .u64 (a.c).lc, .int .u64 (a.c).ua, .int .u64 (a.c).ub, .int .u64 (a.c).uc, .int .i64 (a.c).pk, .int .i64 (a.c).bt] ∧ VR z p7 35 #[.slice ao1 n1 cap1, .int .i64 E1] ∧ z.cell? ⟨p7, 0, none⟩ = some (.slice ao1 n1 cap1) ∧ z.cell? ⟨p7, 1, none⟩ = some (.int .i64 E1) ∧ p7 < z.heap.size ∧ Below w.heap.size w z ∧ RwV crow 14 z ao1 (rowsX F1 L1)) (hb : Below z.heap.size z z') : VR z' p6 33 #[.int .i64 (a.k), .int .i64 (a.c).id, .int .i64 (a.c).par, .bool (a.c).leaf, .int .u64 (a.c).ra, .int .u64 (a.c).rb, .int .u64 (a.c).rc, .int .u64 (a.c).la, .int .u64 (a.c).lb, .int .u64 (a.c).lc, .int .u64 (a.c).ua, .int .u64 (a.c).ub, .int .u64 (a.c).uc, .int .i64 (a.c).pk, .int .i64 (a.c).bt] ∧ VR z' p7 35 #[.slice ao1 n1 cap1, .int .i64 E1] ∧ z'.cell? ⟨p7, 0, none⟩ = some (.slice ao1 n1 cap1) ∧ z'.cell? ⟨p7, 1, none⟩ = some (.int .i64 E1) ∧ p7 < z'.heap.size ∧ Below w.heap.size w z' ∧ RwV crow 14 z' ao1 (rowsX F1 L1) :=
  ⟨h.1.bel hb, h.2.1.bel hb, (h.2.1.bel hb).cell 0 rfl, (h.2.1.bel hb).cell 1 rfl, (h.2.1.bel hb).lt, h.2.2.2.2.2.1.trans (hb.mono h.2.2.2.2.2.1.size), h.2.2.2.2.2.2.below hb⟩
theorem a9_map {w z z' : World} {p6 p7 mb : Nat} {a : HA} {ao1 : Option Addr} {n1 cap1 : Nat} {E1 : Int} {F1 : Int → Option Cls} {L1 : List Int} (h : VR z p6 33 #[.int .i64 (a.k), .int .i64 (a.c).id, .int .i64 (a.c).par, .bool (a.c).leaf, .int .u64 (a.c).ra, .int .u64 (a.c).rb, .int .u64 (a.c).rc, .int .u64 (a.c).la, .int .u64 (a.c).lb, .int .u64 (a.c).lc, .int .u64 (a.c).ua, .int .u64 (a.c).ub, .int .u64 (a.c).uc, .int .i64 (a.c).pk, .int .i64 (a.c).bt] ∧ VR z p7 35 #[.slice ao1 n1 cap1, .int .i64 E1] ∧ z.cell? ⟨p7, 0, none⟩ = some (.slice ao1 n1 cap1) ∧ z.cell? ⟨p7, 1, none⟩ = some (.int .i64 E1) ∧ p7 < z.heap.size ∧ Below w.heap.size w z ∧ RwV crow 14 z ao1 (rowsX F1 L1)) (hm : ∃ es ck, z.heap[mb]? = some (.map es ck)) (hw : w.heap.size ≤ mb) (ho : Only (fun k => k = mb) z z') : VR z' p6 33 #[.int .i64 (a.k), .int .i64 (a.c).id, .int .i64 (a.c).par, .bool (a.c).leaf, .int .u64 (a.c).ra, .int .u64 (a.c).rb, .int .u64 (a.c).rc, .int .u64 (a.c).la, .int .u64 (a.c).lb, .int .u64 (a.c).lc, .int .u64 (a.c).ua, .int .u64 (a.c).ub, .int .u64 (a.c).uc, .int .i64 (a.c).pk, .int .i64 (a.c).bt] ∧ VR z' p7 35 #[.slice ao1 n1 cap1, .int .i64 E1] ∧ z'.cell? ⟨p7, 0, none⟩ = some (.slice ao1 n1 cap1) ∧ z'.cell? ⟨p7, 1, none⟩ = some (.int .i64 E1) ∧ p7 < z'.heap.size ∧ Below w.heap.size w z' ∧ RwV crow 14 z' ao1 (rowsX F1 L1) := by
  obtain ⟨h1, h2, _, _, _, h6, h7⟩ := h
  obtain ⟨es, ck, hb⟩ := hm
  have g1 := h1.only ho (fun g => h1.ne_map hb g.symm)
  have g2 := h2.only ho (fun g => h2.ne_map hb g.symm)
  exact ⟨g1, g2, g2.cell 0 rfl, g2.cell 1 rfl, g2.lt, h6.trans ⟨ho.1, ho.2, ho.3, ho.4, fun k hk => ho.5 k (Nat.lt_of_lt_of_le hk h6.size) (by omega)⟩, h7.map_only (fun _ => by rw [crow_len]; decide) ⟨es, ck, hb⟩ ho⟩
theorem acts_long (v : Value) (n : Nat) (ao : Option Addr) (cap : Nat) (hv : v = .slice ao n cap) (hn : 80 < n) (w : World) : Calls Try.prog 3 #[v] w fun ee w' => ee = .returned (.bool true) ∧ Below w.heap.size w w' := by
  subst hv
  have K := Lib.hid two_c
  have q1 : decide ((80 : Int) < (n : Int)) = true := decide_eq_true (by omega)
  have q2 : decide (80 < n) = true := decide_eq_true (by omega)
  clear hn
  go_enter Try.func3, Try.ntmps3
  go_wp2_with (first | go_guarded | (go_at_call 12; (with_reducible refine (K.out _).mono ?_); rintro _ w1 ⟨rfl, hbel⟩; have HB := Lib.hid hbel; clear hbel))
  go_ret
  exact ⟨rfl, HB.out⟩
set_option maxHeartbeats 32000000 in
theorem acts_c (xs : List HA) (n : Nat) (hln : xs.length = n) (hn : n ≤ 80) (hin : ∀ k (h : k < xs.length), CIn xs[k].c) (ao : Option Addr) (cap : Nat) (w : World) (hA : RwV HA.cells 15 w ao xs) :
    Calls Try.prog 3 #[.slice ao n cap] w fun ee w' => ee = .returned (.bool true) ∧ Below w.heap.size w w' := by
  have K2 := Lib.hid two_c
  have KN := Lib.hid hnew_c
  have q1 : decide ((80 : Int) < (n : Int)) = false := decide_eq_false (by omega)
  have q2 : decide (80 < n) = false := decide_eq_false (by omega)
  have HA := Lib.hid hA
  have HIN := Lib.hid hin
  have HLN := Lib.hid hln
  have ALL := Lib.hid ac_alloc
  have AINF := Lib.hid ac_info
  have ONE := Lib.hid aca_one
  have DALL := Lib.hid dd_alloc
  have DINF := Lib.hid dd_info
  have DONE := Lib.hid dd_one
  clear hA hin hln
  go_enter Try.func3, Try.ntmps3
  go_wp2_with (first
    | go_guarded
    | (go_at_call 13; (with_reducible refine (KN.out _).mono ?_); rintro _ w1 ⟨tb, mb, rfl, ht, hm, hT, hbel⟩; have HT1 := Lib.hid hT; have HB1 := Lib.hid hbel; have HTB := Lib.hid ht; have HMB := Lib.hid hm; clear hT hbel ht hm))
  try go_frame
  go_loopg [4, 18] n (fun k9 s4 s18 wr => ∃ (k : Nat) (f : Int → Option Cls) (L : List Int) (n4 : Nat) (a4 : Option Addr) (c4 : Nat), s4 = .slice a4 n4 c4 ∧ s18 = .int .i64 k ∧ k ≤ n ∧ HT wr tb mb f ∧ TI f L ∧ L.length = n4 ∧ RwV crow 14 wr a4 (rowsX f L) ∧ Below w.heap.size w wr ∧ n - k ≤ k9)
  case atStart => exact ⟨0, _, [], 0, none, 0, rfl, rfl, Nat.zero_le _, HT1.out, TI.nil, rfl, RwV.nil _ _, HB1.out, by omega⟩
  case round =>
    obtain ⟨k, f, L, n4, a4, c4, rfl, rfl, hk, hT, hI, hL, hR, hB, hk9⟩ := hrel
    have HTR := Lib.hid hT
    have HI := Lib.hid hI
    have HLL := Lib.hid hL
    have HRR := Lib.hid hR
    have HB := Lib.hid hB
    by_cases hlt : k < n
    · have hlC : k < xs.length := by rw [HLN.out]; exact hlt
      obtain ⟨b, o, rfl, hb, hra⟩ := (HA.out.below hB) k hlC
      have hci := HIN.out k hlC
      obtain ⟨a, hae⟩ : ∃ a, xs[k] = a := ⟨_, rfl⟩
      rw [hae] at hra hci
      have HR := Lib.hid (show wr.rangeAt b (o + k * 15) (#[.int .i64 (a.k), .int .i64 (a.c).id, .int .i64 (a.c).par, .bool (a.c).leaf, .int .u64 (a.c).ra, .int .u64 (a.c).rb, .int .u64 (a.c).rc, .int .u64 (a.c).la, .int .u64 (a.c).lb, .int .u64 (a.c).lc, .int .u64 (a.c).ua, .int .u64 (a.c).ub, .int .u64 (a.c).uc, .int .i64 (a.c).pk, .int .i64 (a.c).bt] : Array Value).toList from hra)
      have HCI := Lib.hid hci
      obtain ⟨E1, hE⟩ : ∃ E, doE a.k f L a.c = E := ⟨_, rfl⟩
      obtain ⟨F1, hF⟩ : ∃ F, doF a.k f L a.c = F := ⟨_, rfl⟩
      obtain ⟨L1, hM⟩ : ∃ M, doL a.k f L a.c = M := ⟨_, rfl⟩
      have HI1 : Hid (TI F1 L1) := Lib.hid (by rw [← hF, ← hM]; exact hI.doF a.k hci)
      have KW := Lib.hid (fun (z : World) (hz : RwV crow 14 z a4 (rowsX f L)) => (by have := want_c hI a.k hci n4 hL a4 c4 z hz; rw [hE, hF, hM] at this; exact this : Calls Try.prog 14 #[.slice a4 n4 c4, .agg #[.int .i64 (a.k), .int .i64 (a.c).id, .int .i64 (a.c).par, .bool (a.c).leaf, .int .u64 (a.c).ra, .int .u64 (a.c).rb, .int .u64 (a.c).rc, .int .u64 (a.c).la, .int .u64 (a.c).lb, .int .u64 (a.c).lc, .int .u64 (a.c).ua, .int .u64 (a.c).ub, .int .u64 (a.c).uc, .int .i64 (a.c).pk, .int .i64 (a.c).bt]] z (DidP z E1 F1 L1)))
      have KD := Lib.hid (fun (z : World) (hz : HT z tb mb f) => (by have := done_c hz hI a.k hci; rw [hE, hF] at this; exact this : Calls Try.prog 15 #[.pointer (some ⟨tb, 0, none⟩), .agg #[.int .i64 (a.k), .int .i64 (a.c).id, .int .i64 (a.c).par, .bool (a.c).leaf, .int .u64 (a.c).ra, .int .u64 (a.c).rb, .int .u64 (a.c).rc, .int .u64 (a.c).la, .int .u64 (a.c).lb, .int .u64 (a.c).lc, .int .u64 (a.c).ua, .int .u64 (a.c).ub, .int .u64 (a.c).uc, .int .i64 (a.c).pk, .int .i64 (a.c).bt]] z fun e z' => e = .returned (.int .i64 E1) ∧ HT z' tb mb F1 ∧ Only (fun k => k = mb) z z'))
      clear hT hI hL hR hB hra hci hae hlC hb hE hF hM
      go_wp2_with (first
        | go_guarded
        | (refine wpList_var_new rfl rfl 35 #[.slice none 0 0, .int .i64 0] DALL.out rfl _ _ rfl #[.slice ao1 n1 cap1, .int .i64 E1] rfl rfl DINF.out rfl (DONE.out _ _ _ _) ?_; (have mk := HB6); intro w7 hs7 hb7 hv7; have HV7 := Lib.hid hv7; have HV6 := Lib.hid (HV5b.out.bel hb7); have HR7 := Lib.hid (HR6.out.below hb7); have HB7 := Lib.hid (HB6.out.trans (hb7.mono HB6.out.size)); have HBY := Lib.hid (HBX.out.trans (hb7.mono HBX.out.size)); clear hb7 hv7)
        | (go_at_call 14; (with_reducible refine (KW.out _ (HRR.out.below HBE.out)).mono ?_); rintro _ w6 ⟨ao1, n1, cap1, rfl, hn1, hr1, hbel⟩; have HN1 := Lib.hid hn1; have HR6 := Lib.hid hr1; have HV5b := Lib.hid (HV5.out.bel hbel); have HBX := Lib.hid (HBE.out.trans (hbel.mono HBE.out.size)); have HB6 := Lib.hid (HB.out.trans (HBX.out.mono HB.out.size)); clear hn1 hr1 hbel)
        | (refine wpList_var_get rfl 33 _ rfl _ #[.int .i64 (a.k), .int .i64 (a.c).id, .int .i64 (a.c).par, .bool (a.c).leaf, .int .u64 (a.c).ra, .int .u64 (a.c).rb, .int .u64 (a.c).rc, .int .u64 (a.c).la, .int .u64 (a.c).lb, .int .u64 (a.c).lc, .int .u64 (a.c).ua, .int .u64 (a.c).ub, .int .u64 (a.c).uc, .int .i64 (a.c).pk, .int .i64 (a.c).bt] _ HV5.out rfl Try.underlying33 rfl AINF.out ?_)
        | (refine wpList_var_new rfl rfl 33 #[.int .i64 0, .int .i64 0, .int .i64 0, .bool false, .int .u64 0, .int .u64 0, .int .u64 0, .int .u64 0, .int .u64 0, .int .u64 0, .int .u64 0, .int .u64 0, .int .u64 0, .int .i64 0, .int .i64 0] ALL.out rfl _ _ rfl #[.int .i64 (a.k), .int .i64 (a.c).id, .int .i64 (a.c).par, .bool (a.c).leaf, .int .u64 (a.c).ra, .int .u64 (a.c).rb, .int .u64 (a.c).rc, .int .u64 (a.c).la, .int .u64 (a.c).lb, .int .u64 (a.c).lc, .int .u64 (a.c).ua, .int .u64 (a.c).ub, .int .u64 (a.c).uc, .int .i64 (a.c).pk, .int .i64 (a.c).bt] rfl rfl AINF.out rfl (ONE.out _ _) ?_; intro w5 hs5 hb5 hv5; have HV5 := Lib.hid hv5; have HBE := Lib.hid hb5; clear hb5 hv5)
        | (refine wpList_part_get rfl 33 _ rfl b (o + k * 15) #[.int .i64 (a.k), .int .i64 (a.c).id, .int .i64 (a.c).par, .bool (a.c).leaf, .int .u64 (a.c).ra, .int .u64 (a.c).rb, .int .u64 (a.c).rc, .int .u64 (a.c).la, .int .u64 (a.c).lb, .int .u64 (a.c).lc, .int .u64 (a.c).ua, .int .u64 (a.c).ub, .int .u64 (a.c).uc, .int .i64 (a.c).pk, .int .i64 (a.c).bt] _ HR.out rfl Try.underlying33 rfl AINF.out ?_))
      obtain ⟨p7, hp7⟩ : ∃ p, w6.heap.size = p := ⟨_, rfl⟩
      obtain ⟨p6, hp6⟩ : ∃ p, wr.heap.size = p := ⟨_, rfl⟩
      have hv7 := HV7.out
      have hv6 := HV6.out
      have hby := HBY.out
      rw [hp7] at hv7
      rw [hp6] at hv6
      have HTY := Lib.hid (HTR.out.below HBY.out)
      have HMW := Lib.hid HMB.out
      (try simp only [hp6, hp7])
      clear hp6 hp7 hby
      have hbq : Below w7.heap.size w7 w7.drew := Below.drew (Below.refl _ _)
      obtain ⟨Cl, hCl⟩ : ∃ Cl : List (Nat × Value) → World → Prop, Cl = ((fun ps wz => (VR wz p6 33 #[.int .i64 (a.k), .int .i64 (a.c).id, .int .i64 (a.c).par, .bool (a.c).leaf, .int .u64 (a.c).ra, .int .u64 (a.c).rb, .int .u64 (a.c).rc, .int .u64 (a.c).la, .int .u64 (a.c).lb, .int .u64 (a.c).lc, .int .u64 (a.c).ua, .int .u64 (a.c).ub, .int .u64 (a.c).uc, .int .i64 (a.c).pk, .int .i64 (a.c).bt] ∧ VR wz p7 35 #[.slice ao1 n1 cap1, .int .i64 E1] ∧ wz.cell? ⟨p7, 0, none⟩ = some (.slice ao1 n1 cap1) ∧ wz.cell? ⟨p7, 1, none⟩ = some (.int .i64 E1) ∧ p7 < wz.heap.size ∧ Below w.heap.size w wz ∧ RwV crow 14 wz ao1 (rowsX F1 L1)) ∧ (match ps with
        | [] => HT wz tb mb f
        | [(_, v)] => v = .int .i64 E1 ∧ HT wz tb mb F1
        | [_, (_, v)] => v = .bool true ∧ HT wz tb mb F1
        | _ => True))) := ⟨_, rfl⟩; have HCl := Lib.hid hCl; clear hCl; refine Reg2.wp_region_lineS [(0, false), (1, false), (3, false), (4, false), (2, false), (5, false), (6, false), (7, false), (8, false), (9, false), (10, false), (11, false), (12, false)] [2, 10] Cl (by kernel_rfl) (by kernel_rfl) (by kernel_rfl) (by rw [HCl.out]; (try simp only [List.nil_append, List.cons_append]); (try dsimp only); exact ⟨a9_bel ⟨hv6, hv7, hv7.cell 0 rfl, hv7.cell 1 rfl, hv7.lt, HB7.out, HR7.out⟩ hbq, HTY.out.below hbq⟩) ?_
      clear hbq hv6 hv7
      (repeat (first | (refine Reg2.wS_skip (by (simp only [List.getElem?_toArray, List.getElem?_cons_succ, List.getElem?_cons_zero]) <;> rfl) (by rfl) ?_; simp only [Act.put, Nat.reduceAdd, List.setIfInBounds_toArray, List.set_cons_zero, List.set_cons_succ, List.nil_append, List.cons_append]) | (refine Reg2.wS_open (by (simp only [List.getElem?_toArray, List.getElem?_cons_succ, List.getElem?_cons_zero]) <;> rfl) (by rfl) (by rfl) ⟨.agg #[.int .i64 (a.k), .int .i64 (a.c).id, .int .i64 (a.c).par, .bool (a.c).leaf, .int .u64 (a.c).ra, .int .u64 (a.c).rb, .int .u64 (a.c).rc, .int .u64 (a.c).la, .int .u64 (a.c).lb, .int .u64 (a.c).lc, .int .u64 (a.c).ua, .int .u64 (a.c).ub, .int .u64 (a.c).uc, .int .i64 (a.c).pk, .int .i64 (a.c).bt], fun vs wq hw => ?_, ?_⟩; (focus (rw [HCl.out] at hw; (try simp only [List.nil_append, List.cons_append] at hw); (try dsimp only at hw); exact quiet_var 33 _ rfl p6 #[.int .i64 (a.k), .int .i64 (a.c).id, .int .i64 (a.c).par, .bool (a.c).leaf, .int .u64 (a.c).ra, .int .u64 (a.c).rb, .int .u64 (a.c).rc, .int .u64 (a.c).la, .int .u64 (a.c).lb, .int .u64 (a.c).lc, .int .u64 (a.c).ua, .int .u64 (a.c).ub, .int .u64 (a.c).uc, .int .i64 (a.c).pk, .int .i64 (a.c).bt] _ hw.1.1 rfl Try.underlying33 rfl AINF.out)); simp only [Act.put, Nat.reduceAdd, List.setIfInBounds_toArray, List.set_cons_zero, List.set_cons_succ, List.nil_append, List.cons_append]) | (refine Reg2.wS_open (by (simp only [List.getElem?_toArray, List.getElem?_cons_succ, List.getElem?_cons_zero]) <;> rfl) (by rfl) (by rfl) ?_; apply Exists.intro; refine ⟨fun vs wq hw => ?_, ?_⟩; (focus (rw [HCl.out] at hw; (try simp only [List.nil_append, List.cons_append] at hw); (try dsimp only at hw); go_split_ands; go_simp <;> first | with_reducible exact (rfl : Value.bool false = _) | with_reducible exact (rfl : Value.bool true = _) | ((try go_bits) <;> exact rfl))); simp only [Act.put, Nat.reduceAdd, List.setIfInBounds_toArray, List.set_cons_zero, List.set_cons_succ, List.nil_append, List.cons_append])))
      refine Reg2.wS_eff (by (simp only [List.getElem?_toArray, List.getElem?_cons_succ, List.getElem?_cons_zero]) <;> rfl) (by rfl) (by rfl) (fun wq hw => ?_) (fun u9 hu => ?_)
      focus
        rw [HCl.out] at hw; (try simp only [List.nil_append, List.cons_append] at hw); (try dsimp only at hw)
        obtain ⟨hA, hT⟩ := hw
        have hm := hT.map
        go_simp
        go_at_call 15
        (with_reducible refine (KD.out _ hT).mono ?_)
        rintro e w9 ⟨rfl, hT2, ho⟩
        refine ⟨_, rfl, ?_⟩
        rw [HCl.out]; (try simp only [List.nil_append, List.cons_append]); (try dsimp only)
        exact ⟨a9_map hA hm HMW.out ho, by first | exact hT2 | exact ⟨rfl, hT2⟩ | exact ⟨trivial, hT2⟩⟩
      (obtain ⟨wz, hz⟩ := hu; rw [HCl.out] at hz; (try simp only [List.nil_append, List.cons_append] at hz); (try dsimp only at hz))
      obtain ⟨-, rfl, -⟩ := hz
      clear wz
      simp only [Act.put, Nat.reduceAdd, List.setIfInBounds_toArray, List.set_cons_zero, List.set_cons_succ, List.nil_append, List.cons_append]
      (repeat (first | (refine Reg2.wS_skip (by (simp only [List.getElem?_toArray, List.getElem?_cons_succ, List.getElem?_cons_zero]) <;> rfl) (by rfl) ?_; simp only [Act.put, Nat.reduceAdd, List.setIfInBounds_toArray, List.set_cons_zero, List.set_cons_succ, List.nil_append, List.cons_append]) | (refine Reg2.wS_open (by (simp only [List.getElem?_toArray, List.getElem?_cons_succ, List.getElem?_cons_zero]) <;> rfl) (by rfl) (by rfl) ⟨.agg #[.int .i64 (a.k), .int .i64 (a.c).id, .int .i64 (a.c).par, .bool (a.c).leaf, .int .u64 (a.c).ra, .int .u64 (a.c).rb, .int .u64 (a.c).rc, .int .u64 (a.c).la, .int .u64 (a.c).lb, .int .u64 (a.c).lc, .int .u64 (a.c).ua, .int .u64 (a.c).ub, .int .u64 (a.c).uc, .int .i64 (a.c).pk, .int .i64 (a.c).bt], fun vs wq hw => ?_, ?_⟩; (focus (rw [HCl.out] at hw; (try simp only [List.nil_append, List.cons_append] at hw); (try dsimp only at hw); exact quiet_var 33 _ rfl p6 #[.int .i64 (a.k), .int .i64 (a.c).id, .int .i64 (a.c).par, .bool (a.c).leaf, .int .u64 (a.c).ra, .int .u64 (a.c).rb, .int .u64 (a.c).rc, .int .u64 (a.c).la, .int .u64 (a.c).lb, .int .u64 (a.c).lc, .int .u64 (a.c).ua, .int .u64 (a.c).ub, .int .u64 (a.c).uc, .int .i64 (a.c).pk, .int .i64 (a.c).bt] _ hw.1.1 rfl Try.underlying33 rfl AINF.out)); simp only [Act.put, Nat.reduceAdd, List.setIfInBounds_toArray, List.set_cons_zero, List.set_cons_succ, List.nil_append, List.cons_append]) | (refine Reg2.wS_open (by (simp only [List.getElem?_toArray, List.getElem?_cons_succ, List.getElem?_cons_zero]) <;> rfl) (by rfl) (by rfl) ?_; apply Exists.intro; refine ⟨fun vs wq hw => ?_, ?_⟩; (focus (rw [HCl.out] at hw; (try simp only [List.nil_append, List.cons_append] at hw); (try dsimp only at hw); go_split_ands; go_simp <;> first | with_reducible exact (rfl : Value.bool false = _) | with_reducible exact (rfl : Value.bool true = _) | ((try go_bits) <;> exact rfl))); simp only [Act.put, Nat.reduceAdd, List.setIfInBounds_toArray, List.set_cons_zero, List.set_cons_succ, List.nil_append, List.cons_append])))
      refine Reg2.wS_eff (by (simp only [List.getElem?_toArray, List.getElem?_cons_succ, List.getElem?_cons_zero]) <;> rfl) (by rfl) (by rfl) (fun wq hw => ?_) (fun u9 hu => ?_)
      focus
        rw [HCl.out] at hw; (try simp only [List.nil_append, List.cons_append] at hw); (try dsimp only at hw)
        obtain ⟨hA, -, hT⟩ := hw
        go_simp
        go_at_call 16
        (with_reducible refine (same18_c HI1.out n1 HN1.out ao1 cap1 _ hT hA.2.2.2.2.2.2).mono ?_)
        rintro e w9 ⟨rfl, hbel⟩
        refine ⟨_, rfl, ?_⟩
        rw [HCl.out]; (try simp only [List.nil_append, List.cons_append]); (try dsimp only)
        exact ⟨a9_bel hA hbel, by first | exact hT.below hbel | exact ⟨rfl, hT.below hbel⟩ | exact ⟨trivial, hT.below hbel⟩⟩
      (obtain ⟨wz, hz⟩ := hu; rw [HCl.out] at hz; (try simp only [List.nil_append, List.cons_append] at hz); (try dsimp only at hz))
      obtain ⟨-, rfl, -⟩ := hz
      clear wz
      simp only [Act.put, Nat.reduceAdd, List.setIfInBounds_toArray, List.set_cons_zero, List.set_cons_succ, List.nil_append, List.cons_append]
      (repeat (first | (refine Reg2.wS_skip (by (simp only [List.getElem?_toArray, List.getElem?_cons_succ, List.getElem?_cons_zero]) <;> rfl) (by rfl) ?_; simp only [Act.put, Nat.reduceAdd, List.setIfInBounds_toArray, List.set_cons_zero, List.set_cons_succ, List.nil_append, List.cons_append]) | (refine Reg2.wS_open (by (simp only [List.getElem?_toArray, List.getElem?_cons_succ, List.getElem?_cons_zero]) <;> rfl) (by rfl) (by rfl) ⟨.agg #[.int .i64 (a.k), .int .i64 (a.c).id, .int .i64 (a.c).par, .bool (a.c).leaf, .int .u64 (a.c).ra, .int .u64 (a.c).rb, .int .u64 (a.c).rc, .int .u64 (a.c).la, .int .u64 (a.c).lb, .int .u64 (a.c).lc, .int .u64 (a.c).ua, .int .u64 (a.c).ub, .int .u64 (a.c).uc, .int .i64 (a.c).pk, .int .i64 (a.c).bt], fun vs wq hw => ?_, ?_⟩; (focus (rw [HCl.out] at hw; (try simp only [List.nil_append, List.cons_append] at hw); (try dsimp only at hw); exact quiet_var 33 _ rfl p6 #[.int .i64 (a.k), .int .i64 (a.c).id, .int .i64 (a.c).par, .bool (a.c).leaf, .int .u64 (a.c).ra, .int .u64 (a.c).rb, .int .u64 (a.c).rc, .int .u64 (a.c).la, .int .u64 (a.c).lb, .int .u64 (a.c).lc, .int .u64 (a.c).ua, .int .u64 (a.c).ub, .int .u64 (a.c).uc, .int .i64 (a.c).pk, .int .i64 (a.c).bt] _ hw.1.1 rfl Try.underlying33 rfl AINF.out)); simp only [Act.put, Nat.reduceAdd, List.setIfInBounds_toArray, List.set_cons_zero, List.set_cons_succ, List.nil_append, List.cons_append]) | (refine Reg2.wS_open (by (simp only [List.getElem?_toArray, List.getElem?_cons_succ, List.getElem?_cons_zero]) <;> rfl) (by rfl) (by rfl) ?_; apply Exists.intro; refine ⟨fun vs wq hw => ?_, ?_⟩; (focus (rw [HCl.out] at hw; (try simp only [List.nil_append, List.cons_append] at hw); (try dsimp only at hw); go_split_ands; go_simp <;> first | with_reducible exact (rfl : Value.bool false = _) | with_reducible exact (rfl : Value.bool true = _) | ((try go_bits) <;> exact rfl))); simp only [Act.put, Nat.reduceAdd, List.setIfInBounds_toArray, List.set_cons_zero, List.set_cons_succ, List.nil_append, List.cons_append])))
      refine Reg2.wS_nil ?_; intro w' hw; rw [HCl.out] at hw; (try simp only [List.nil_append, List.cons_append] at hw); (try dsimp only at hw); clear HCl
      obtain ⟨⟨-, -, hc7, -, hl7, hb7, hr7⟩, hT7⟩ := hw
      have HT9 : Hid (HT w' tb mb F1) := Lib.hid (by first | exact hT7 | exact hT7.2)
      have HB9 := Lib.hid hb7
      have HR9 := Lib.hid hr7
      clear hb7 hr7 hT7
      go_wp2_with (first | go_guarded)
      go_roundg (n - (k + 1))
      case rel => exact ⟨k + 1, F1, L1, n1, ao1, cap1, rfl, by go_num, by omega, HT9.out, HI1.out, HN1.out, HR9.out, HB9.out, Nat.le_refl _⟩
      case measure => omega
    · obtain rfl : k = n := by omega
      have KCO := Lib.hid (hcop_c hT)
      obtain ⟨M, hM⟩ : ∃ M, L.filter (sel f Cls.leaf) = M := ⟨_, rfl⟩
      obtain ⟨m, hm⟩ : ∃ m, M.length = m := ⟨_, rfl⟩
      have hm64 : m ≤ 64 := by rw [← hm, ← hM]; exact Nat.le_trans (List.length_filter_le _ _) hI.len
      have hMi : ∀ x ∈ M, iok x := fun x hx => hI.iok x (by rw [← hM] at hx; exact (List.mem_filter.1 hx).1)
      have HMI := Lib.hid hMi
      have HML := Lib.hid hm
      have KLE : Hid (∀ z, HT z tb mb f → Calls Try.prog 18 #[.pointer (some ⟨tb, 0, none⟩)] z fun e z' => ∃ io ic, e = .returned (.slice io m ic) ∧ IntsV z' io M ∧ Below z.heap.size z z') := Lib.hid (fun z hz => by
        refine (leaves_c hz L hI.srt hI.mem (Nat.le_trans hI.len (by decide)) hI.iok).mono ?_
        rintro e z' ⟨v, rfl, hrr, hb⟩
        rw [hM, hm] at hrr
        obtain ⟨io, ic, rfl⟩ := row_form hrr
        exact ⟨io, ic, rfl, (own_ints hrr).2, hb⟩)
      have KDL := Lib.hid (fun (z : World) (g : Int → Option Cls) (N : List Int) (hz : HT z tb mb g) (J : TI g N) (x : Int) (hx : iok x) => hdel_c hz J hx)
      clear hT hI hL hR hB hlt hM hm hMi
      go_wp2_with (first
        | go_guarded
        | (go_at_call 18; (with_reducible refine (KLE.out _ HT12.out).mono ?_); rintro _ w13 ⟨io, ic, rfl, hiv, hbel⟩; have HIV := Lib.hid hiv; have HT13 := Lib.hid (HT12.out.below hbel); have HC13 := Lib.hid (HC12.out.below hbel); have HR13 := Lib.hid (HR12.out.below hbel); have HB13 := Lib.hid (HB12.out.trans (hbel.mono HB12.out.size)); clear hiv hbel)
        | (go_at_call 17; (with_reducible refine KCO.out.mono ?_); rintro _ w12 ⟨tb2, mb2, rfl, h1, h2, hT2, hbel⟩; have HC12 := Lib.hid hT2; have hn1 : ¬ tb2 = mb := (by have := HTR.out.mlt; omega); have hn2 : ¬ mb2 = mb := (by have := HTR.out.mlt; omega); have HT12 := Lib.hid (HTR.out.below hbel); have HR12 := Lib.hid (HRR.out.below hbel); have HB12 := Lib.hid (HB.out.trans (hbel.mono HB.out.size)); clear h1 h2 hT2 hbel))
      try go_frame
      go_loopg [46] m (fun k9 s46 wr => ∃ (i : Nat) (g : Int → Option Cls) (N : List Int), s46 = .int .i64 i ∧ i ≤ m ∧ HT wr tb mb g ∧ TI g N ∧ HT wr tb2 mb2 f ∧ RwV crow 14 wr a4 (rowsX f L) ∧ IntsV wr io M ∧ Below w.heap.size w wr ∧ m - i ≤ k9)
      case atStart => exact ⟨0, f, L, rfl, Nat.zero_le _, HT13.out, HI.out, HC13.out, HR13.out, HIV.out, HB13.out, by omega⟩
      case round =>
        obtain ⟨i, g, N, rfl, hi, hTg, hJ, hC, hRw, hIv, hBw, hi9⟩ := hrel
        have HTG := Lib.hid hTg
        have HJ := Lib.hid hJ
        have HC := Lib.hid hC
        have HRW := Lib.hid hRw
        have HIW := Lib.hid hIv
        have HBW := Lib.hid hBw
        by_cases hlt : i < m
        · have hlC : i < M.length := by rw [HML.out]; exact hlt
          obtain ⟨b, of, rfl, hb, hce⟩ := hIv i hlC
          have hxi := HMI.out M[i] (List.getElem_mem hlC)
          obtain ⟨x, hxe⟩ : ∃ x, M[i] = x := ⟨_, rfl⟩
          rw [hxe] at hce hxi
          have HXI := Lib.hid hxi
          clear hTg hJ hC hRw hIv hBw hlC hxe hxi
          go_wp2_with (first
            | go_guarded
            | (go_at_call 19; (with_reducible refine (KDL.out _ g N HTG.out HJ.out _ HXI.out).mono ?_); rintro _ w14 ⟨rfl, hT4, ho⟩; have HT14 := Lib.hid hT4; have HC14 := Lib.hid (HC.out.only ho hn1 hn2); have HR14 := Lib.hid (HRW.out.map_only (fun _ => by rw [crow_len]; decide) HTG.out.map ho); have HI14 := Lib.hid (ints_map_only HIW.out HTG.out.map ho); have HB14 : Hid (Below w.heap.size w w14) := Lib.hid (HBW.out.trans ⟨ho.1, ho.2, ho.3, ho.4, fun k hk => ho.5 k (Nat.lt_of_lt_of_le hk HBW.out.size) (by have := HMB.out; omega)⟩); clear hT4 ho))
          go_roundg (m - (i + 1))
          case rel => exact ⟨i + 1, _, _, by go_num, by omega, HT14.out, HJ.out.delF x, HC14.out, HR14.out, HI14.out, HB14.out, Nat.le_refl _⟩
          case measure => omega
        · obtain rfl : i = m := by omega
          clear hTg hJ hC hRw hIv hBw hlt
          go_wp2_with (first
            | go_guarded
            | (go_at_call 12; (have mk := HB15); (with_reducible refine (K2.out _).mono ?_); rintro _ w16 ⟨rfl, hbel⟩; have HB16 := Lib.hid (HB15.out.trans (hbel.mono HB15.out.size)); clear hbel)
            | (go_at_call 16; (with_reducible refine (same18_c HI.out n4 HLL.out a4 c4 _ HC.out HRW.out).mono ?_); rintro _ w15 ⟨rfl, hbel⟩; have HB15 := Lib.hid (HBW.out.trans (hbel.mono HBW.out.size)); clear hbel))
          go_ret
          exact ⟨rfl, HB16.out⟩
theorem hierActs_law (v : Value) {w : World} (hs : Op.FlatSlice w 15 [.int .i64, .int .i64, .int .i64, .bool, .int .u64, .int .u64, .int .u64, .int .u64, .int .u64, .int .u64, .int .u64, .int .u64, .int .u64, .int .i64, .int .i64] v) : Calls Try.prog 3 #[v] w fun ee w' => ee = .returned (.bool true) ∧ Below w.heap.size w w' := by
  obtain ⟨ao, xs, cap, rfl, h1, h2, h3, h4⟩ := acts_of hs
  by_cases hn : xs.length ≤ 80
  · exact acts_c xs _ rfl hn h4 ao cap w h3
  · exact acts_long _ xs.length ao cap rfl (by omega) w
end Go.Proofs.Ytlenmhbhakeonaa
