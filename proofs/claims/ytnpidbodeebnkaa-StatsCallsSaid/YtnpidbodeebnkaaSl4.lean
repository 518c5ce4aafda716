/- StatsCalls. -/
import Derived.Test.YtnpidbodeebnkaaSl3
import Derived.Test.YtnpidbodeebnkaaRf3
namespace Go.Proofs.Ytnpidbodeebnkaa
set_option linter.unusedVariables false
set_option linter.unusedSimpArgs false
set_option maxRecDepth 100000
open Go.RowKit Fg Reg Go.Maps
attribute [local irreducible] Reg.wN Reg.wE QR

theorem cv7_bel {b z z' : World} {p5 : Nat} {kk cl ta ln : Int} {rl : Bool} (h : VR z p5 29 #[.int .i64 kk, .int .i64 cl, .int .u64 ta, .int .i64 ln, .bool rl] ∧ z.cell? ⟨p5, 1, none⟩ = some (.int .i64 cl) ∧ z.cell? ⟨p5, 2, none⟩ = some (.int .u64 ta) ∧ z.cell? ⟨p5, 3, none⟩ = some (.int .i64 ln) ∧ z.cell? ⟨p5, 4, none⟩ = some (.bool rl) ∧ p5 < z.heap.size ∧ Below b.heap.size b z) (hb : Below z.heap.size z z') : VR z' p5 29 #[.int .i64 kk, .int .i64 cl, .int .u64 ta, .int .i64 ln, .bool rl] ∧ z'.cell? ⟨p5, 1, none⟩ = some (.int .i64 cl) ∧ z'.cell? ⟨p5, 2, none⟩ = some (.int .u64 ta) ∧ z'.cell? ⟨p5, 3, none⟩ = some (.int .i64 ln) ∧ z'.cell? ⟨p5, 4, none⟩ = some (.bool rl) ∧ p5 < z'.heap.size ∧ Below b.heap.size b z' :=
  ⟨h.1.bel hb, (h.1.bel hb).cell 1 rfl, (h.1.bel hb).cell 2 rfl, (h.1.bel hb).cell 3 rfl, (h.1.bel hb).cell 4 rfl, (h.1.bel hb).lt, h.2.2.2.2.2.2.trans (hb.mono h.2.2.2.2.2.2.size)⟩
set_option maxHeartbeats 32000000 in
theorem law7_c (xs : List C7) (m : Nat) (hm : xs.length = m) (hle : m ≤ 100) (hwfs : ∀ k (h : k < xs.length), xs[k].wf) (aox : Option Addr) (capx : Nat) (c0 : Int) (hc0 : iok c0) (w : World) (hX : RwV C7.cells 5 w aox xs) : Calls Try.prog 3 #[.slice aox m capx, .int .i64 c0] w fun ee w' => ee = .returned (.bool true) ∧ Below w.heap.size w w' := by
  have q1 : decide ((100 : Int) < (m : Int)) = false := decide_eq_false (by omega)
  have q2 : decide (100 < m) = false := decide_eq_false (by omega)
  obtain ⟨ip, ci0, cz0, cz1, cz2⟩ := pk7_parts
  have CI0 := Lib.hid ci0
  have CZ0 := Lib.hid cz0
  have CZ1 := Lib.hid cz1
  have CZ2 := Lib.hid cz2
  have KFF := Lib.hid fifteen_c
  have KNW := Lib.hid (lw_new w)
  have HXS := Lib.hid hX
  have HWF := Lib.hid hwfs
  have HXM := Lib.hid hm
  have HC0 := Lib.hid hc0
  have ALL := Lib.hid c7_all
  have INF := Lib.hid c7_info
  have ONE := Lib.hid c7_one
  clear hX hwfs hm hc0 ci0 cz0 cz1 cz2
  go_enter Try.func3, Try.ntmps3
  go_wp2_with (first
    | go_guarded
    | (go_at_call 5; (with_reducible refine KNW.out.mono ?_); rintro _ w1 ⟨p, mw, mr, B, rfl, hlw⟩; have HL0 := Lib.hid hlw; clear hlw))
  try go_frame
  go_loopg [6, 17] m (fun k9 s6 s17 wr => ∃ (k : Nat) (f : Int → Option Value) (W : Int → List Int) (bk : Int → Option Nat) (R : Int → Option R5) (l : List PK) (ao : Option Addr) (n6 c6 : Nat) (rb : Option Nat), s6 = .slice ao n6 c6 ∧ s17 = .int .i64 k ∧ k ≤ m ∧ LW wr w B p mw mr f W bk R l ao n6 c6 rb ∧ SL f W R l ∧ n6 ≤ k ∧ m - k ≤ k9)
  case atStart => exact ⟨0, _, _, _, _, [], none, 0, 0, none, rfl, rfl, Nat.zero_le _, HL0.out, SL.zero, Nat.le_refl _, by omega⟩
  case round =>
    obtain ⟨k, f, W, bk, R, l, ao, n6, c6, rb, rfl, rfl, hk, hlw, hsl, hnk, hk9⟩ := hrel
    have HLW := Lib.hid hlw
    have HSL := Lib.hid hsl
    by_cases hlt : k < m
    · have HLT : Hid (k + 1 ≤ m) := Lib.hid hlt
      have hlC : k < xs.length := by rw [HXM.out]; exact hlt
      have hn6 : n6 ≤ 100 := by omega
      obtain ⟨b, o, rfl, hb, hra⟩ := (HXS.out.below hlw.bel) k hlC
      have hwf := HWF.out k hlC
      obtain ⟨a, hae⟩ : ∃ a, xs[k] = a := ⟨_, rfl⟩
      rw [hae] at hra hwf
      obtain ⟨kk, cl, ta, ln, rl⟩ := a
      have HR1 := Lib.hid (show wr.rangeAt b (o + k * 5) (#[.int .i64 kk, .int .i64 cl, .int .u64 ta, .int .i64 ln, .bool rl] : Array Value).toList from hra)
      have HCL := Lib.hid (show iok cl from hwf.cl)
      have hwl : (W cl).length ≤ 1000 := Nat.le_trans (wait_len hlw hsl cl) (by omega)
      have HNV : Hid (¬ (wr.heap.size = mw ∨ bk cl = some wr.heap.size)) := Lib.hid (fun g => by
        have h1 := hlw.sg.ltw
        have h2 := hlw.sg.hB
        rcases g with g | g
        · omega
        · have := (hlw.bkl cl _ g).2; omega)
      have HNW : Hid (¬ (wr.heap.size = mw ∨ wr.heap.size = mr)) := Lib.hid (fun g => by
        have h1 := hlw.sg.ltw
        have h3 := hlw.sg.ltr
        have h2 := hlw.sg.hB
        rcases g with g | g <;> omega)
      have HNB : Hid (¬ rb = some wr.heap.size) := Lib.hid (fun g => by have := (hlw.qr.lt _ g).2; omega)
      clear hlw hsl hra hae hlC hb
      by_cases h0 : kk = 0
      · subst h0
        have KCM : Hid (∀ z, SG z B p mw mr f W bk R → Calls Try.prog 6 #[.pointer (some ⟨p, 0, none⟩), .int .i64 cl, .int .u64 ta] z (CamP z B p mw mr f W bk R cl ta)) := Lib.hid (fun z hz => cam_c hz HCL.out hwl ta)
        have HSC := Lib.hid (fun v => HSL.out.came v HCL.out hwf.t0 hwf.t1)
        clear hwf hwl
        go_wp2_with (first
          | go_guarded
          | (at_builtin; refine wpList_append_qr rfl _ _ 26 rfl B 33 ip (.agg #[.int .i64 0, .int .u64 0, .int .u64 0, .int .i64 0, .bool false, .bool false]) 6 40 Try.underlying26 CI0.out CZ0.out CZ1.out CZ2.out rfl (by decide) (.slice ao n6 c6) _ _ _ rfl (QR.below HL6.out.qr (Below.alloc (Below.refl _ _) (Nat.le_refl _) _)) ⟨_, 0, none⟩ 1 (PK.cells ⟨cl, ta, 0, 0, false, false⟩) rfl rfl ?c1 ?c2 ?c3 ?c4 ?c5 ?_; (case c1 => (intro q9 u9 hu9; (rcases q9 with _ | _ | _ | _ | _ | _ | q9 <;> simp [PK.cells] at hu9 <;> (try subst hu9) <;> simp [Addr.add, go_sem, *]))); (case c2 => exact pkcC.one _); (case c3 => (unfold maxLen; omega)); (case c4 => omega); (case c5 => (have := HL6.out.sg.hB; simp; omega)); intro v9 w9 b9 hq9 ho9 hb9; obtain ⟨oq, cq, rfl⟩ := hq9.form; have HL9 := Lib.hid ((HL6.out.below (Below.alloc (Below.refl _ _) (Nat.le_refl _) _)).app hq9 ho9 hb9); have HV9 := Lib.hid ((HV6.out.alloc _).only ho9 HNB.out); have e09 := HV9.out.cell 0 rfl; have e19 := HV9.out.cell 1 rfl; have e29 := HV9.out.cell 2 rfl; have e39 := HV9.out.cell 3 rfl; have e49 := HV9.out.cell 4 rfl; have l9 := HV9.out.lt; clear hq9 ho9 hb9)
          | (go_at_call 6; (with_reducible refine (KCM.out _ HL5.out.sg).mono ?_); rintro _ w6 ⟨rfl, v6, b6, hs6, hb6, ho6⟩; have HL6 := Lib.hid (HL5.out.came hs6 hb6 ho6); have HV6 := Lib.hid (HV5.out.only ho6 HNV.out); have e06 := HV6.out.cell 0 rfl; have e16 := HV6.out.cell 1 rfl; have e26 := HV6.out.cell 2 rfl; have e36 := HV6.out.cell 3 rfl; have e46 := HV6.out.cell 4 rfl; have l6 := HV6.out.lt; clear hs6 hb6 ho6)
          | (refine wpList_var_new rfl rfl 29 #[.int .i64 0, .int .i64 0, .int .u64 0, .int .i64 0, .bool false] ALL.out rfl _ _ rfl #[.int .i64 0, .int .i64 cl, .int .u64 ta, .int .i64 ln, .bool rl] rfl rfl INF.out rfl (ONE.out ⟨0, cl, ta, ln, rl⟩) ?_; intro w5 hs5 hb5 hv5; have HV5 := Lib.hid hv5; have HL5 := Lib.hid (HLW.out.below hb5); have e05 := HV5.out.cell 0 rfl; have e15 := HV5.out.cell 1 rfl; have e25 := HV5.out.cell 2 rfl; have e35 := HV5.out.cell 3 rfl; have e45 := HV5.out.cell 4 rfl; have l5 := HV5.out.lt; clear hb5 hv5)
          | (refine wpList_part_get rfl 29 _ rfl b (o + k * 5) #[.int .i64 0, .int .i64 cl, .int .u64 ta, .int .i64 ln, .bool rl] _ HR1.out rfl Try.underlying29 rfl INF.out ?_))
        have HS9 := Lib.hid (HSC.out v6)
        obtain ⟨p5, hp5⟩ : ∃ p, wr.heap.size = p := ⟨_, rfl⟩
        rw [hp5] at HV9
        (try rw [hp5])
        (try simp only [hp5])
        clear hp5
        have hbq : Below w9.heap.size w9 w9.drew := Below.drew (Below.refl _ _)
        have hvq := HV9.out.bel hbq
        have HLZ := Lib.hid (fun z (hz : Below w9.heap.size w9 z) => HL9.out.below hz)
        obtain ⟨X, hX⟩ : ∃ X, cntC cl (l ++ [⟨cl, ta, 0, 0, false, false⟩]) = X := ⟨_, rfl⟩
        obtain ⟨u, hu⟩ : ∃ u, (waitC cl (l ++ [⟨cl, ta, 0, 0, false, false⟩])).length = u := ⟨_, rfl⟩
        have KRW : Hid (∀ z, Below w9.heap.size w9 z → Calls Try.prog 11 #[.pointer (some ⟨p, 0, none⟩), .int .i64 cl] z fun e z' => e = .returned (.agg #[.int .u64 (X).a, .int .u64 (X).b, .int .u64 (X).c, .int .u64 (X).d, .int .u64 (X).e]) ∧ Below z.heap.size z z') := Lib.hid (fun z hz => by have h9 := k_row (HLZ.out z hz) HS9.out HCL.out; rw [hX] at h9; exact h9)
        have KCN : Hid (∀ z, Below w9.heap.size w9 z → Calls Try.prog 13 #[.slice oq (n6 + 1) cq, .int .i64 cl, .bool false] z fun e z' => e = .returned (.agg #[.int .u64 (X).a, .int .u64 (X).b, .int .u64 (X).c, .int .u64 (X).d, .int .u64 (X).e]) ∧ Below z.heap.size z z') := Lib.hid (fun z hz => by have h9 := k_cnt (HLZ.out z hz) (by omega) cl; rw [hX] at h9; exact h9)
        have KRO : Hid (∀ z, Calls Try.prog 12 #[.agg #[.int .u64 (X).a, .int .u64 (X).b, .int .u64 (X).c, .int .u64 (X).d, .int .u64 (X).e]] z fun e z' => e = .returned (.agg #[.int .u64 (X).a, .int .u64 (X).b, .int .u64 (X).c, .int .u64 (X).d, .int .u64 (X).e]) ∧ Below z.heap.size z z') := Lib.hid (fun z => row7_c X z)
        have KWT : Hid (∀ z, Below w9.heap.size w9 z → Calls Try.prog 14 #[.pointer (some ⟨p, 0, none⟩), .int .i64 cl] z fun e z' => e = .returned (.int .i64 (u : Int)) ∧ Below z.heap.size z z') := Lib.hid (fun z hz => by have h9 := k_wait (HLZ.out z hz) HS9.out HCL.out; rw [hu] at h9; exact h9)
        have KRN : Hid (∀ z, Below w9.heap.size w9 z → Calls Try.prog 15 #[.slice oq (n6 + 1) cq, .int .i64 cl] z fun e z' => e = .returned (.int .i64 (u : Int)) ∧ Below z.heap.size z z') := Lib.hid (fun z hz => by have h9 := k_rn (HLZ.out z hz) (by omega) cl; rw [hu] at h9; exact h9)
        have EQX := eqR5S X
        clear hX hu
        obtain ⟨Cl, hCl⟩ : ∃ Cl : List (Nat × Value) → World → Prop, Cl = ((fun ps wz => (VR wz p5 29 #[.int .i64 0, .int .i64 cl, .int .u64 ta, .int .i64 ln, .bool rl] ∧ wz.cell? ⟨p5, 1, none⟩ = some (.int .i64 cl) ∧ wz.cell? ⟨p5, 2, none⟩ = some (.int .u64 ta) ∧ wz.cell? ⟨p5, 3, none⟩ = some (.int .i64 ln) ∧ wz.cell? ⟨p5, 4, none⟩ = some (.bool rl) ∧ p5 < wz.heap.size ∧ Below w9.heap.size w9 wz) ∧ (match ps with
          | [] => True
          | [(_, v)] => v = .agg #[.int .u64 (X).a, .int .u64 (X).b, .int .u64 (X).c, .int .u64 (X).d, .int .u64 (X).e]
          | [_, (_, v)] => v = .agg #[.int .u64 (X).a, .int .u64 (X).b, .int .u64 (X).c, .int .u64 (X).d, .int .u64 (X).e]
          | [_, _, (_, v)] => v = .agg #[.int .u64 (X).a, .int .u64 (X).b, .int .u64 (X).c, .int .u64 (X).d, .int .u64 (X).e]
          | [_, _, _, (_, v)] => v = .int .i64 (u : Int)
          | [_, _, _, _, (_, v)] => v = .int .i64 (u : Int)
          | _ => True))) := ⟨_, rfl⟩; have HCl := Lib.hid hCl; clear hCl; refine Reg2.wp_region_lineS [(0, false), (1, false), (2, false), (4, false), (5, false), (6, false), (3, false), (7, false), (8, false), (9, false), (10, false), (11, false), (12, false), (13, false), (15, false), (16, false), (17, false), (14, false), (18, false), (19, false), (20, false)] [3, 7, 8, 14, 18] Cl (by kernel_rfl) (by kernel_rfl) (by kernel_rfl) (by rw [HCl.out]; (try simp only [List.nil_append, List.cons_append]); (try dsimp only); exact ⟨⟨hvq, hvq.cell 1 rfl, hvq.cell 2 rfl, hvq.cell 3 rfl, hvq.cell 4 rfl, hvq.lt, hbq⟩, trivial⟩) ?_
        clear hbq hvq
        (repeat (first | (refine Reg2.wS_skip (by (simp only [List.getElem?_toArray, List.getElem?_cons_succ, List.getElem?_cons_zero]) <;> rfl) (by rfl) ?_; simp only [Act.put, Nat.reduceAdd, List.setIfInBounds_toArray, List.set_cons_zero, List.set_cons_succ, List.nil_append, List.cons_append]) | (refine Reg2.wS_open (by (simp only [List.getElem?_toArray, List.getElem?_cons_succ, List.getElem?_cons_zero]) <;> rfl) (by rfl) (by rfl) ?_; apply Exists.intro; refine ⟨fun vs wq hw => ?_, ?_⟩; (focus (rw [HCl.out] at hw; (try simp only [List.nil_append, List.cons_append] at hw); (try dsimp only at hw); go_split_ands; go_simp <;> first | with_reducible exact (rfl : Value.bool false = _) | with_reducible exact (rfl : Value.bool true = _) | ((try go_bits) <;> exact rfl))); simp only [Act.put, Nat.reduceAdd, List.setIfInBounds_toArray, List.set_cons_zero, List.set_cons_succ, List.nil_append, List.cons_append])))
        refine Reg2.wS_eff (by (simp only [List.getElem?_toArray, List.getElem?_cons_succ, List.getElem?_cons_zero]) <;> rfl) (by rfl) (by rfl) (fun wq hw => ?_) (fun u9 hu => ?_)
        focus
          rw [HCl.out] at hw; (try simp only [List.nil_append, List.cons_append] at hw); (try dsimp only at hw)
          obtain ⟨hA, -⟩ := hw
          go_simp
          go_at_call 11
          (with_reducible refine (KRW.out _ hA.2.2.2.2.2.2).mono ?_)
          rintro e wy ⟨rfl, hbel⟩
          refine ⟨_, rfl, ?_⟩
          rw [HCl.out]; (try simp only [List.nil_append, List.cons_append]); (try dsimp only)
          exact ⟨cv7_bel hA hbel, by first | rfl | trivial⟩
        (obtain ⟨wz, hz⟩ := hu; rw [HCl.out] at hz; (try simp only [List.nil_append, List.cons_append] at hz); (try dsimp only at hz))
        obtain ⟨-, rfl⟩ := hz
        clear wz
        simp only [Act.put, Nat.reduceAdd, List.setIfInBounds_toArray, List.set_cons_zero, List.set_cons_succ, List.nil_append, List.cons_append]
        (repeat (first | (refine Reg2.wS_skip (by (simp only [List.getElem?_toArray, List.getElem?_cons_succ, List.getElem?_cons_zero]) <;> rfl) (by rfl) ?_; simp only [Act.put, Nat.reduceAdd, List.setIfInBounds_toArray, List.set_cons_zero, List.set_cons_succ, List.nil_append, List.cons_append]) | (refine Reg2.wS_open (by (simp only [List.getElem?_toArray, List.getElem?_cons_succ, List.getElem?_cons_zero]) <;> rfl) (by rfl) (by rfl) ?_; apply Exists.intro; refine ⟨fun vs wq hw => ?_, ?_⟩; (focus (rw [HCl.out] at hw; (try simp only [List.nil_append, List.cons_append] at hw); (try dsimp only at hw); go_split_ands; go_simp <;> first | with_reducible exact (rfl : Value.bool false = _) | with_reducible exact (rfl : Value.bool true = _) | ((try go_bits) <;> exact rfl))); simp only [Act.put, Nat.reduceAdd, List.setIfInBounds_toArray, List.set_cons_zero, List.set_cons_succ, List.nil_append, List.cons_append])))
        refine Reg2.wS_eff (by (simp only [List.getElem?_toArray, List.getElem?_cons_succ, List.getElem?_cons_zero]) <;> rfl) (by rfl) (by rfl) (fun wq hw => ?_) (fun u9 hu => ?_)
        focus
          rw [HCl.out] at hw; (try simp only [List.nil_append, List.cons_append] at hw); (try dsimp only at hw)
          obtain ⟨hA, -⟩ := hw
          go_simp
          go_at_call 13
          (with_reducible refine (KCN.out _ hA.2.2.2.2.2.2).mono ?_)
          rintro e wy ⟨rfl, hbel⟩
          refine ⟨_, rfl, ?_⟩
          rw [HCl.out]; (try simp only [List.nil_append, List.cons_append]); (try dsimp only)
          exact ⟨cv7_bel hA hbel, by first | rfl | trivial⟩
        (obtain ⟨wz, hz⟩ := hu; rw [HCl.out] at hz; (try simp only [List.nil_append, List.cons_append] at hz); (try dsimp only at hz))
        obtain ⟨-, rfl⟩ := hz
        clear wz
        simp only [Act.put, Nat.reduceAdd, List.setIfInBounds_toArray, List.set_cons_zero, List.set_cons_succ, List.nil_append, List.cons_append]
        (repeat (first | (refine Reg2.wS_skip (by (simp only [List.getElem?_toArray, List.getElem?_cons_succ, List.getElem?_cons_zero]) <;> rfl) (by rfl) ?_; simp only [Act.put, Nat.reduceAdd, List.setIfInBounds_toArray, List.set_cons_zero, List.set_cons_succ, List.nil_append, List.cons_append]) | (refine Reg2.wS_open (by (simp only [List.getElem?_toArray, List.getElem?_cons_succ, List.getElem?_cons_zero]) <;> rfl) (by rfl) (by rfl) ?_; apply Exists.intro; refine ⟨fun vs wq hw => ?_, ?_⟩; (focus (rw [HCl.out] at hw; (try simp only [List.nil_append, List.cons_append] at hw); (try dsimp only at hw); go_split_ands; go_simp <;> first | with_reducible exact (rfl : Value.bool false = _) | with_reducible exact (rfl : Value.bool true = _) | ((try go_bits) <;> exact rfl))); simp only [Act.put, Nat.reduceAdd, List.setIfInBounds_toArray, List.set_cons_zero, List.set_cons_succ, List.nil_append, List.cons_append])))
        refine Reg2.wS_eff (by (simp only [List.getElem?_toArray, List.getElem?_cons_succ, List.getElem?_cons_zero]) <;> rfl) (by rfl) (by rfl) (fun wq hw => ?_) (fun u9 hu => ?_)
        focus
          rw [HCl.out] at hw; (try simp only [List.nil_append, List.cons_append] at hw); (try dsimp only at hw)
          obtain ⟨hA, -⟩ := hw
          go_simp
          go_at_call 12
          (with_reducible refine (KRO.out _).mono ?_)
          rintro e wy ⟨rfl, hbel⟩
          refine ⟨_, rfl, ?_⟩
          rw [HCl.out]; (try simp only [List.nil_append, List.cons_append]); (try dsimp only)
          exact ⟨cv7_bel hA hbel, by first | rfl | trivial⟩
        (obtain ⟨wz, hz⟩ := hu; rw [HCl.out] at hz; (try simp only [List.nil_append, List.cons_append] at hz); (try dsimp only at hz))
        obtain ⟨-, rfl⟩ := hz
        clear wz
        simp only [Act.put, Nat.reduceAdd, List.setIfInBounds_toArray, List.set_cons_zero, List.set_cons_succ, List.nil_append, List.cons_append]
        (repeat (first | (refine Reg2.wS_skip (by (simp only [List.getElem?_toArray, List.getElem?_cons_succ, List.getElem?_cons_zero]) <;> rfl) (by rfl) ?_; simp only [Act.put, Nat.reduceAdd, List.setIfInBounds_toArray, List.set_cons_zero, List.set_cons_succ, List.nil_append, List.cons_append]) | (refine Reg2.wS_open (by (simp only [List.getElem?_toArray, List.getElem?_cons_succ, List.getElem?_cons_zero]) <;> rfl) (by rfl) (by rfl) ?_; apply Exists.intro; refine ⟨fun vs wq hw => ?_, ?_⟩; (focus (rw [HCl.out] at hw; (try simp only [List.nil_append, List.cons_append] at hw); (try dsimp only at hw); go_split_ands; go_simp <;> first | with_reducible exact (rfl : Value.bool false = _) | with_reducible exact (rfl : Value.bool true = _) | ((try go_bits) <;> exact rfl))); simp only [Act.put, Nat.reduceAdd, List.setIfInBounds_toArray, List.set_cons_zero, List.set_cons_succ, List.nil_append, List.cons_append])))
        refine Reg2.wS_eff (by (simp only [List.getElem?_toArray, List.getElem?_cons_succ, List.getElem?_cons_zero]) <;> rfl) (by rfl) (by rfl) (fun wq hw => ?_) (fun u9 hu => ?_)
        focus
          rw [HCl.out] at hw; (try simp only [List.nil_append, List.cons_append] at hw); (try dsimp only at hw)
          obtain ⟨hA, -⟩ := hw
          go_simp
          go_at_call 14
          (with_reducible refine (KWT.out _ hA.2.2.2.2.2.2).mono ?_)
          rintro e wy ⟨rfl, hbel⟩
          refine ⟨_, rfl, ?_⟩
          rw [HCl.out]; (try simp only [List.nil_append, List.cons_append]); (try dsimp only)
          exact ⟨cv7_bel hA hbel, by first | rfl | trivial⟩
        (obtain ⟨wz, hz⟩ := hu; rw [HCl.out] at hz; (try simp only [List.nil_append, List.cons_append] at hz); (try dsimp only at hz))
        obtain ⟨-, rfl⟩ := hz
        clear wz
        simp only [Act.put, Nat.reduceAdd, List.setIfInBounds_toArray, List.set_cons_zero, List.set_cons_succ, List.nil_append, List.cons_append]
        (repeat (first | (refine Reg2.wS_skip (by (simp only [List.getElem?_toArray, List.getElem?_cons_succ, List.getElem?_cons_zero]) <;> rfl) (by rfl) ?_; simp only [Act.put, Nat.reduceAdd, List.setIfInBounds_toArray, List.set_cons_zero, List.set_cons_succ, List.nil_append, List.cons_append]) | (refine Reg2.wS_open (by (simp only [List.getElem?_toArray, List.getElem?_cons_succ, List.getElem?_cons_zero]) <;> rfl) (by rfl) (by rfl) ?_; apply Exists.intro; refine ⟨fun vs wq hw => ?_, ?_⟩; (focus (rw [HCl.out] at hw; (try simp only [List.nil_append, List.cons_append] at hw); (try dsimp only at hw); go_split_ands; go_simp <;> first | with_reducible exact (rfl : Value.bool false = _) | with_reducible exact (rfl : Value.bool true = _) | ((try go_bits) <;> exact rfl))); simp only [Act.put, Nat.reduceAdd, List.setIfInBounds_toArray, List.set_cons_zero, List.set_cons_succ, List.nil_append, List.cons_append])))
        refine Reg2.wS_eff (by (simp only [List.getElem?_toArray, List.getElem?_cons_succ, List.getElem?_cons_zero]) <;> rfl) (by rfl) (by rfl) (fun wq hw => ?_) (fun u9 hu => ?_)
        focus
          rw [HCl.out] at hw; (try simp only [List.nil_append, List.cons_append] at hw); (try dsimp only at hw)
          obtain ⟨hA, -⟩ := hw
          go_simp
          go_at_call 15
          (with_reducible refine (KRN.out _ hA.2.2.2.2.2.2).mono ?_)
          rintro e wy ⟨rfl, hbel⟩
          refine ⟨_, rfl, ?_⟩
          rw [HCl.out]; (try simp only [List.nil_append, List.cons_append]); (try dsimp only)
          exact ⟨cv7_bel hA hbel, by first | rfl | trivial⟩
        (obtain ⟨wz, hz⟩ := hu; rw [HCl.out] at hz; (try simp only [List.nil_append, List.cons_append] at hz); (try dsimp only at hz))
        obtain ⟨-, rfl⟩ := hz
        clear wz
        simp only [Act.put, Nat.reduceAdd, List.setIfInBounds_toArray, List.set_cons_zero, List.set_cons_succ, List.nil_append, List.cons_append]
        (repeat (first | (refine Reg2.wS_skip (by (simp only [List.getElem?_toArray, List.getElem?_cons_succ, List.getElem?_cons_zero]) <;> rfl) (by rfl) ?_; simp only [Act.put, Nat.reduceAdd, List.setIfInBounds_toArray, List.set_cons_zero, List.set_cons_succ, List.nil_append, List.cons_append]) | (refine Reg2.wS_open (by (simp only [List.getElem?_toArray, List.getElem?_cons_succ, List.getElem?_cons_zero]) <;> rfl) (by rfl) (by rfl) ?_; apply Exists.intro; refine ⟨fun vs wq hw => ?_, ?_⟩; (focus (rw [HCl.out] at hw; (try simp only [List.nil_append, List.cons_append] at hw); (try dsimp only at hw); go_split_ands; go_simp <;> first | with_reducible exact (rfl : Value.bool false = _) | with_reducible exact (rfl : Value.bool true = _) | ((try go_bits) <;> exact rfl))); simp only [Act.put, Nat.reduceAdd, List.setIfInBounds_toArray, List.set_cons_zero, List.set_cons_succ, List.nil_append, List.cons_append])))
        refine Reg2.wS_nil ?_; intro w' hw; rw [HCl.out] at hw; (try simp only [List.nil_append, List.cons_append] at hw); (try dsimp only at hw); clear HCl
        obtain ⟨⟨-, -, -, -, -, -, hbz⟩, -⟩ := hw
        have HLE := Lib.hid (HLZ.out _ hbz)
        clear hbz
        go_wp2_with (first | go_guarded)
        go_roundg (m - (k + 1))
        case rel => exact ⟨k + 1, _, _, _, _, _, _, _, _, _, rfl, (by go_num), HLT.out, HLE.out, HS9.out, (by omega), Nat.le_refl _⟩
        case measure => omega
      · have q5 : (kk == 0) = false := by simpa using h0
        have KW7 : Hid (∀ z, LW z w B p mw mr f W bk R l ao n6 c6 rb → Calls Try.prog 7 #[.slice ao n6 c6, .int .i64 cl, .int .u64 ta, .int .i64 ln] z fun ee w' => ee = .returned (.int .i64 (wnv cl ta ln l)) ∧ Below z.heap.size z w') := Lib.hid (fun z hz => rw7_c l n6 hz.ln (by omega) cl ta ln ao c6 z hz.rw)
        obtain ⟨E, hE⟩ : ∃ E, wnv cl ta ln l = E := ⟨_, rfl⟩
        rw [hE] at KW7
        by_cases hE0 : E = 0
        · subst hE0
          obtain ⟨i, hi, hfi, hK⟩ : ∃ (i : Nat) (hi : i < l.length), fsv cl l = i ∧ ∀ z, LW z w B p mw mr f W bk R l ao n6 c6 rb → Calls Try.prog 8 #[.pointer (some ⟨p, 0, none⟩), .int .i64 cl, .int .u64 ta, .int .i64 ln, .bool rl] z (WenQ z B p mw mr bk (goneL l i (gone1 l[i] ta ln rl))) := by
            obtain ⟨i, hi, h1, -⟩ := k_wok HLW.out HSL.out hn6 rl HCL.out hwf.t1 hwf.l1 hE
            refine ⟨i, hi, h1, fun z hz => ?_⟩
            obtain ⟨j, hj, h2, h3⟩ := k_wok hz HSL.out hn6 rl HCL.out hwf.t1 hwf.l1 hE
            obtain rfl : i = j := by rw [h1] at h2; exact Int.ofNat.inj h2
            exact h3
          have KWE := Lib.hid hK
          obtain ⟨l2, hl2⟩ : ∃ y, goneL l i (gone1 l[i] ta ln rl) = y := ⟨_, rfl⟩
          have hl2n : l2.length = n6 := by rw [← hl2, goneL_len hi]; exact HLW.out.ln
          have hn0 : 0 < n6 := by have := HLW.out.ln; omega
          have KFS : Hid (∀ z f' W' R', LW z w B p mw mr f' W' bk R' l ao n6 c6 rb → Calls Try.prog 10 #[.slice ao n6 c6, .int .i64 cl] z fun ee w' => ee = .returned (.int .i64 (i : Int)) ∧ Below z.heap.size z w') := Lib.hid (fun z f' W' R' hz => by have h9 := rf7_c l n6 hz.ln (by omega) cl ao c6 z hz.rw; rw [hfi] at h9; exact h9)
          have KGO : Hid (∀ z f' W' R', LW z w B p mw mr f' W' bk R' l ao n6 c6 rb → Calls Try.prog 9 #[.slice ao n6 c6, .int .i64 (i : Int), .int .u64 ta, .int .i64 ln, .bool rl] z fun e z' => ∃ ao2 c2 b9, e = .returned (.slice ao2 n6 c2) ∧ LW z' w B p mw mr f' W' bk R' l2 ao2 n6 c2 (some b9) ∧ Below z.heap.size z z') := Lib.hid (fun z f' W' R' hz => by
            refine (rg7_c l n6 hz.ln (by omega) i hi ta ln rl ao c6 hz.cap z hz.rw).mono ?_
            rintro e z' ⟨v, rfl, ho, hb⟩
            rw [hl2] at ho
            obtain ⟨ao2, c2, b9, rfl, h9⟩ := hz.gone hn0 ho hl2n hb
            exact ⟨ao2, c2, b9, rfl, h9, hb⟩)
          rw [hl2] at KWE
          clear hwf hwl hE hi hfi hK hl2 hl2n hn0
          go_wp2_with (first
            | go_guarded
            | (go_at_call 8; (with_reducible refine (KWE.out _ HL6.out).mono ?_); rintro _ w7 ⟨rfl, f7, W7, R7, hs7, hsl7, ho7⟩; have HL7 := Lib.hid (HL6.out.went hs7 ho7); have HS7 := Lib.hid hsl7; have HV7 := Lib.hid (HV6.out.only ho7 HNW.out); have e07 := HV7.out.cell 0 rfl; have e17 := HV7.out.cell 1 rfl; have e27 := HV7.out.cell 2 rfl; have e37 := HV7.out.cell 3 rfl; have e47 := HV7.out.cell 4 rfl; have l7 := HV7.out.lt; clear hs7 hsl7 ho7)
            | (go_at_call 7; (with_reducible refine (KW7.out _ HL5.out).mono ?_); rintro _ w6 ⟨rfl, hbel⟩; have HL6 := Lib.hid (HL5.out.below hbel); have HV6 := Lib.hid (HV5.out.bel hbel); have e06 := HV6.out.cell 0 rfl; have e16 := HV6.out.cell 1 rfl; have e26 := HV6.out.cell 2 rfl; have e36 := HV6.out.cell 3 rfl; have e46 := HV6.out.cell 4 rfl; have l6 := HV6.out.lt; clear hbel)
            | (refine wpList_var_new rfl rfl 29 #[.int .i64 0, .int .i64 0, .int .u64 0, .int .i64 0, .bool false] ALL.out rfl _ _ rfl #[.int .i64 kk, .int .i64 cl, .int .u64 ta, .int .i64 ln, .bool rl] rfl rfl INF.out rfl (ONE.out ⟨kk, cl, ta, ln, rl⟩) ?_; intro w5 hs5 hb5 hv5; have HV5 := Lib.hid hv5; have HL5 := Lib.hid (HLW.out.below hb5); have e05 := HV5.out.cell 0 rfl; have e15 := HV5.out.cell 1 rfl; have e25 := HV5.out.cell 2 rfl; have e35 := HV5.out.cell 3 rfl; have e45 := HV5.out.cell 4 rfl; have l5 := HV5.out.lt; clear hb5 hv5)
            | (refine wpList_part_get rfl 29 _ rfl b (o + k * 5) #[.int .i64 kk, .int .i64 cl, .int .u64 ta, .int .i64 ln, .bool rl] _ HR1.out rfl Try.underlying29 rfl INF.out ?_))
          obtain ⟨p5, hp5⟩ : ∃ p, wr.heap.size = p := ⟨_, rfl⟩
          rw [hp5] at HV7
          (try rw [hp5])
          (try simp only [hp5])
          clear hp5
          have hbq : Below w7.heap.size w7 w7.drew := Below.drew (Below.refl _ _)
          have hvq := HV7.out.bel hbq
          have HLY := Lib.hid (fun z (hz : Below w7.heap.size w7 z) => HL7.out.below hz)
          obtain ⟨Cl, hCl⟩ : ∃ Cl : List (Nat × Value) → World → Prop, Cl = ((fun ps wz => (VR wz p5 29 #[.int .i64 kk, .int .i64 cl, .int .u64 ta, .int .i64 ln, .bool rl] ∧ wz.cell? ⟨p5, 1, none⟩ = some (.int .i64 cl) ∧ wz.cell? ⟨p5, 2, none⟩ = some (.int .u64 ta) ∧ wz.cell? ⟨p5, 3, none⟩ = some (.int .i64 ln) ∧ wz.cell? ⟨p5, 4, none⟩ = some (.bool rl) ∧ p5 < wz.heap.size ∧ Below w7.heap.size w7 wz) ∧ (match ps with
            | [] => True
            | [(_, v)] => v = .int .i64 (i : Int)
            | [_, (_, v)] => ∃ ao2 c2 b9, v = .slice ao2 n6 c2 ∧ LW wz w B p mw mr f7 W7 bk R7 l2 ao2 n6 c2 (some b9)
            | _ => True))) := ⟨_, rfl⟩; have HCl := Lib.hid hCl; clear hCl; refine Reg2.wp_region_lineS [(0, false), (1, false), (2, false), (3, false), (5, false), (6, false), (7, false), (8, false), (9, false), (10, false), (4, false), (11, false), (12, false)] [4, 11] Cl (by kernel_rfl) (by kernel_rfl) (by kernel_rfl) (by rw [HCl.out]; (try simp only [List.nil_append, List.cons_append]); (try dsimp only); exact ⟨⟨hvq, hvq.cell 1 rfl, hvq.cell 2 rfl, hvq.cell 3 rfl, hvq.cell 4 rfl, hvq.lt, hbq⟩, trivial⟩) ?_
          clear hbq hvq
          (repeat (first | (refine Reg2.wS_skip (by (simp only [List.getElem?_toArray, List.getElem?_cons_succ, List.getElem?_cons_zero]) <;> rfl) (by rfl) ?_; simp only [Act.put, Nat.reduceAdd, List.setIfInBounds_toArray, List.set_cons_zero, List.set_cons_succ, List.nil_append, List.cons_append]) | (refine Reg2.wS_open (by (simp only [List.getElem?_toArray, List.getElem?_cons_succ, List.getElem?_cons_zero]) <;> rfl) (by rfl) (by rfl) ?_; apply Exists.intro; refine ⟨fun vs wq hw => ?_, ?_⟩; (focus (rw [HCl.out] at hw; (try simp only [List.nil_append, List.cons_append] at hw); (try dsimp only at hw); go_split_ands; go_simp <;> first | with_reducible exact (rfl : Value.bool false = _) | with_reducible exact (rfl : Value.bool true = _) | ((try go_bits) <;> exact rfl))); simp only [Act.put, Nat.reduceAdd, List.setIfInBounds_toArray, List.set_cons_zero, List.set_cons_succ, List.nil_append, List.cons_append])))
          refine Reg2.wS_eff (by (simp only [List.getElem?_toArray, List.getElem?_cons_succ, List.getElem?_cons_zero]) <;> rfl) (by rfl) (by rfl) (fun wq hw => ?_) (fun u9 hu => ?_)
          focus
            rw [HCl.out] at hw; (try simp only [List.nil_append, List.cons_append] at hw); (try dsimp only at hw)
            obtain ⟨hA, -⟩ := hw
            go_simp
            go_at_call 10
            (with_reducible refine (KFS.out _ _ _ _ (HLY.out _ hA.2.2.2.2.2.2)).mono ?_)
            rintro e wy ⟨rfl, hbel⟩
            refine ⟨_, rfl, ?_⟩
            rw [HCl.out]; (try simp only [List.nil_append, List.cons_append]); (try dsimp only)
            exact ⟨cv7_bel hA hbel, by first | rfl | trivial⟩
          (obtain ⟨wz, hz⟩ := hu; rw [HCl.out] at hz; (try simp only [List.nil_append, List.cons_append] at hz); (try dsimp only at hz))
          obtain ⟨-, rfl⟩ := hz
          clear wz
          simp only [Act.put, Nat.reduceAdd, List.setIfInBounds_toArray, List.set_cons_zero, List.set_cons_succ, List.nil_append, List.cons_append]
          (repeat (first | (refine Reg2.wS_skip (by (simp only [List.getElem?_toArray, List.getElem?_cons_succ, List.getElem?_cons_zero]) <;> rfl) (by rfl) ?_; simp only [Act.put, Nat.reduceAdd, List.setIfInBounds_toArray, List.set_cons_zero, List.set_cons_succ, List.nil_append, List.cons_append]) | (refine Reg2.wS_open (by (simp only [List.getElem?_toArray, List.getElem?_cons_succ, List.getElem?_cons_zero]) <;> rfl) (by rfl) (by rfl) ?_; apply Exists.intro; refine ⟨fun vs wq hw => ?_, ?_⟩; (focus (rw [HCl.out] at hw; (try simp only [List.nil_append, List.cons_append] at hw); (try dsimp only at hw); go_split_ands; go_simp <;> first | with_reducible exact (rfl : Value.bool false = _) | with_reducible exact (rfl : Value.bool true = _) | ((try go_bits) <;> exact rfl))); simp only [Act.put, Nat.reduceAdd, List.setIfInBounds_toArray, List.set_cons_zero, List.set_cons_succ, List.nil_append, List.cons_append])))
          refine Reg2.wS_eff (by (simp only [List.getElem?_toArray, List.getElem?_cons_succ, List.getElem?_cons_zero]) <;> rfl) (by rfl) (by rfl) (fun wq hw => ?_) (fun u9 hu => ?_)
          focus
            rw [HCl.out] at hw; (try simp only [List.nil_append, List.cons_append] at hw); (try dsimp only at hw)
            obtain ⟨hA, -⟩ := hw
            go_simp
            go_at_call 9
            (with_reducible refine (KGO.out _ _ _ _ (HLY.out _ hA.2.2.2.2.2.2)).mono ?_)
            rintro e wy ⟨a8, c8, b8, rfl, h8, hbel⟩
            refine ⟨_, rfl, ?_⟩
            rw [HCl.out]; (try simp only [List.nil_append, List.cons_append]); (try dsimp only)
            exact ⟨cv7_bel hA hbel, a8, c8, b8, rfl, h8⟩
          (obtain ⟨wz, hz⟩ := hu; rw [HCl.out] at hz; (try simp only [List.nil_append, List.cons_append] at hz); (try dsimp only at hz))
          obtain ⟨-, a8, c8, b8, rfl, -⟩ := hz
          clear wz
          simp only [Act.put, Nat.reduceAdd, List.setIfInBounds_toArray, List.set_cons_zero, List.set_cons_succ, List.nil_append, List.cons_append]
          (repeat (first | (refine Reg2.wS_skip (by (simp only [List.getElem?_toArray, List.getElem?_cons_succ, List.getElem?_cons_zero]) <;> rfl) (by rfl) ?_; simp only [Act.put, Nat.reduceAdd, List.setIfInBounds_toArray, List.set_cons_zero, List.set_cons_succ, List.nil_append, List.cons_append]) | (refine Reg2.wS_open (by (simp only [List.getElem?_toArray, List.getElem?_cons_succ, List.getElem?_cons_zero]) <;> rfl) (by rfl) (by rfl) ?_; apply Exists.intro; refine ⟨fun vs wq hw => ?_, ?_⟩; (focus (rw [HCl.out] at hw; (try simp only [List.nil_append, List.cons_append] at hw); (try dsimp only at hw); go_split_ands; go_simp <;> first | with_reducible exact (rfl : Value.bool false = _) | with_reducible exact (rfl : Value.bool true = _) | ((try go_bits) <;> exact rfl))); simp only [Act.put, Nat.reduceAdd, List.setIfInBounds_toArray, List.set_cons_zero, List.set_cons_succ, List.nil_append, List.cons_append])))
          refine Reg2.wS_nil ?_; intro w' hw; rw [HCl.out] at hw; (try simp only [List.nil_append, List.cons_append] at hw); (try dsimp only at hw); clear HCl
          obtain ⟨⟨hv8, -, -, -, -, -, hb8⟩, a9, c9, b9, he9, hL8⟩ := hw
          (injection he9 with h1 h2 h3)
          subst h1 h3
          have HL8 := Lib.hid hL8
          have HV8 := Lib.hid hv8
          clear hL8 hv8 hb8
          obtain ⟨w8, hw8⟩ : ∃ y, w' = y := ⟨_, rfl⟩
          subst hw8
          have e08 := HV8.out.cell 0 rfl
          have e18 := HV8.out.cell 1 rfl
          have e28 := HV8.out.cell 2 rfl
          have e38 := HV8.out.cell 3 rfl
          have e48 := HV8.out.cell 4 rfl
          have l8 := HV8.out.lt
          go_wp2_with fail
          have hbq : Below w'.heap.size w' w'.drew := Below.drew (Below.refl _ _)
          have hvq := HV8.out.bel hbq
          have HLZ := Lib.hid (fun z (hz : Below w'.heap.size w' z) => HL8.out.below hz)
          obtain ⟨X, hX⟩ : ∃ X, cntC cl l2 = X := ⟨_, rfl⟩
          obtain ⟨u, hu⟩ : ∃ u, (waitC cl l2).length = u := ⟨_, rfl⟩
          have KRW : Hid (∀ z, Below w'.heap.size w' z → Calls Try.prog 11 #[.pointer (some ⟨p, 0, none⟩), .int .i64 cl] z fun e z' => e = .returned (.agg #[.int .u64 (X).a, .int .u64 (X).b, .int .u64 (X).c, .int .u64 (X).d, .int .u64 (X).e]) ∧ Below z.heap.size z z') := Lib.hid (fun z hz => by have h9 := k_row (HLZ.out z hz) HS7.out HCL.out; rw [hX] at h9; exact h9)
          have KCN : Hid (∀ z, Below w'.heap.size w' z → Calls Try.prog 13 #[.slice a8 n6 c8, .int .i64 cl, .bool false] z fun e z' => e = .returned (.agg #[.int .u64 (X).a, .int .u64 (X).b, .int .u64 (X).c, .int .u64 (X).d, .int .u64 (X).e]) ∧ Below z.heap.size z z') := Lib.hid (fun z hz => by have h9 := k_cnt (HLZ.out z hz) (by omega) cl; rw [hX] at h9; exact h9)
          have KRO : Hid (∀ z, Calls Try.prog 12 #[.agg #[.int .u64 (X).a, .int .u64 (X).b, .int .u64 (X).c, .int .u64 (X).d, .int .u64 (X).e]] z fun e z' => e = .returned (.agg #[.int .u64 (X).a, .int .u64 (X).b, .int .u64 (X).c, .int .u64 (X).d, .int .u64 (X).e]) ∧ Below z.heap.size z z') := Lib.hid (fun z => row7_c X z)
          have KWT : Hid (∀ z, Below w'.heap.size w' z → Calls Try.prog 14 #[.pointer (some ⟨p, 0, none⟩), .int .i64 cl] z fun e z' => e = .returned (.int .i64 (u : Int)) ∧ Below z.heap.size z z') := Lib.hid (fun z hz => by have h9 := k_wait (HLZ.out z hz) HS7.out HCL.out; rw [hu] at h9; exact h9)
          have KRN : Hid (∀ z, Below w'.heap.size w' z → Calls Try.prog 15 #[.slice a8 n6 c8, .int .i64 cl] z fun e z' => e = .returned (.int .i64 (u : Int)) ∧ Below z.heap.size z z') := Lib.hid (fun z hz => by have h9 := k_rn (HLZ.out z hz) (by omega) cl; rw [hu] at h9; exact h9)
          have EQX := eqR5S X
          clear hX hu
          obtain ⟨Cl, hCl⟩ : ∃ Cl : List (Nat × Value) → World → Prop, Cl = ((fun ps wz => (VR wz p5 29 #[.int .i64 kk, .int .i64 cl, .int .u64 ta, .int .i64 ln, .bool rl] ∧ wz.cell? ⟨p5, 1, none⟩ = some (.int .i64 cl) ∧ wz.cell? ⟨p5, 2, none⟩ = some (.int .u64 ta) ∧ wz.cell? ⟨p5, 3, none⟩ = some (.int .i64 ln) ∧ wz.cell? ⟨p5, 4, none⟩ = some (.bool rl) ∧ p5 < wz.heap.size ∧ Below w'.heap.size w' wz) ∧ (match ps with
            | [] => True
            | [(_, v)] => v = .agg #[.int .u64 (X).a, .int .u64 (X).b, .int .u64 (X).c, .int .u64 (X).d, .int .u64 (X).e]
            | [_, (_, v)] => v = .agg #[.int .u64 (X).a, .int .u64 (X).b, .int .u64 (X).c, .int .u64 (X).d, .int .u64 (X).e]
            | [_, _, (_, v)] => v = .agg #[.int .u64 (X).a, .int .u64 (X).b, .int .u64 (X).c, .int .u64 (X).d, .int .u64 (X).e]
            | [_, _, _, (_, v)] => v = .int .i64 (u : Int)
            | [_, _, _, _, (_, v)] => v = .int .i64 (u : Int)
            | _ => True))) := ⟨_, rfl⟩; have HCl := Lib.hid hCl; clear hCl; refine Reg2.wp_region_lineS [(0, false), (1, false), (2, false), (4, false), (5, false), (6, false), (3, false), (7, false), (8, false), (9, false), (10, false), (11, false), (12, false), (13, false), (15, false), (16, false), (17, false), (14, false), (18, false), (19, false), (20, false)] [3, 7, 8, 14, 18] Cl (by kernel_rfl) (by kernel_rfl) (by kernel_rfl) (by rw [HCl.out]; (try simp only [List.nil_append, List.cons_append]); (try dsimp only); exact ⟨⟨hvq, hvq.cell 1 rfl, hvq.cell 2 rfl, hvq.cell 3 rfl, hvq.cell 4 rfl, hvq.lt, hbq⟩, trivial⟩) ?_
          clear hbq hvq
          (repeat (first | (refine Reg2.wS_skip (by (simp only [List.getElem?_toArray, List.getElem?_cons_succ, List.getElem?_cons_zero]) <;> rfl) (by rfl) ?_; simp only [Act.put, Nat.reduceAdd, List.setIfInBounds_toArray, List.set_cons_zero, List.set_cons_succ, List.nil_append, List.cons_append]) | (refine Reg2.wS_open (by (simp only [List.getElem?_toArray, List.getElem?_cons_succ, List.getElem?_cons_zero]) <;> rfl) (by rfl) (by rfl) ?_; apply Exists.intro; refine ⟨fun vs wq hw => ?_, ?_⟩; (focus (rw [HCl.out] at hw; (try simp only [List.nil_append, List.cons_append] at hw); (try dsimp only at hw); go_split_ands; go_simp <;> first | with_reducible exact (rfl : Value.bool false = _) | with_reducible exact (rfl : Value.bool true = _) | ((try go_bits) <;> exact rfl))); simp only [Act.put, Nat.reduceAdd, List.setIfInBounds_toArray, List.set_cons_zero, List.set_cons_succ, List.nil_append, List.cons_append])))
          refine Reg2.wS_eff (by (simp only [List.getElem?_toArray, List.getElem?_cons_succ, List.getElem?_cons_zero]) <;> rfl) (by rfl) (by rfl) (fun wq hw => ?_) (fun u9 hu => ?_)
          focus
            rw [HCl.out] at hw; (try simp only [List.nil_append, List.cons_append] at hw); (try dsimp only at hw)
            obtain ⟨hA, -⟩ := hw
            go_simp
            go_at_call 11
            (with_reducible refine (KRW.out _ hA.2.2.2.2.2.2).mono ?_)
            rintro e wy ⟨rfl, hbel⟩
            refine ⟨_, rfl, ?_⟩
            rw [HCl.out]; (try simp only [List.nil_append, List.cons_append]); (try dsimp only)
            exact ⟨cv7_bel hA hbel, by first | rfl | trivial⟩
          (obtain ⟨wz, hz⟩ := hu; rw [HCl.out] at hz; (try simp only [List.nil_append, List.cons_append] at hz); (try dsimp only at hz))
          obtain ⟨-, rfl⟩ := hz
          clear wz
          simp only [Act.put, Nat.reduceAdd, List.setIfInBounds_toArray, List.set_cons_zero, List.set_cons_succ, List.nil_append, List.cons_append]
          (repeat (first | (refine Reg2.wS_skip (by (simp only [List.getElem?_toArray, List.getElem?_cons_succ, List.getElem?_cons_zero]) <;> rfl) (by rfl) ?_; simp only [Act.put, Nat.reduceAdd, List.setIfInBounds_toArray, List.set_cons_zero, List.set_cons_succ, List.nil_append, List.cons_append]) | (refine Reg2.wS_open (by (simp only [List.getElem?_toArray, List.getElem?_cons_succ, List.getElem?_cons_zero]) <;> rfl) (by rfl) (by rfl) ?_; apply Exists.intro; refine ⟨fun vs wq hw => ?_, ?_⟩; (focus (rw [HCl.out] at hw; (try simp only [List.nil_append, List.cons_append] at hw); (try dsimp only at hw); go_split_ands; go_simp <;> first | with_reducible exact (rfl : Value.bool false = _) | with_reducible exact (rfl : Value.bool true = _) | ((try go_bits) <;> exact rfl))); simp only [Act.put, Nat.reduceAdd, List.setIfInBounds_toArray, List.set_cons_zero, List.set_cons_succ, List.nil_append, List.cons_append])))
          refine Reg2.wS_eff (by (simp only [List.getElem?_toArray, List.getElem?_cons_succ, List.getElem?_cons_zero]) <;> rfl) (by rfl) (by rfl) (fun wq hw => ?_) (fun u9 hu => ?_)
          focus
            rw [HCl.out] at hw; (try simp only [List.nil_append, List.cons_append] at hw); (try dsimp only at hw)
            obtain ⟨hA, -⟩ := hw
            go_simp
            go_at_call 13
            (with_reducible refine (KCN.out _ hA.2.2.2.2.2.2).mono ?_)
            rintro e wy ⟨rfl, hbel⟩
            refine ⟨_, rfl, ?_⟩
            rw [HCl.out]; (try simp only [List.nil_append, List.cons_append]); (try dsimp only)
            exact ⟨cv7_bel hA hbel, by first | rfl | trivial⟩
          (obtain ⟨wz, hz⟩ := hu; rw [HCl.out] at hz; (try simp only [List.nil_append, List.cons_append] at hz); (try dsimp only at hz))
          obtain ⟨-, rfl⟩ := hz
          clear wz
          simp only [Act.put, Nat.reduceAdd, List.setIfInBounds_toArray, List.set_cons_zero, List.set_cons_succ, List.nil_append, List.cons_append]
          (repeat (first | (refine Reg2.wS_skip (by (simp only [List.getElem?_toArray, List.getElem?_cons_succ, List.getElem?_cons_zero]) <;> rfl) (by rfl) ?_; simp only [Act.put, Nat.reduceAdd, List.setIfInBounds_toArray, List.set_cons_zero, List.set_cons_succ, List.nil_append, List.cons_append]) | (refine Reg2.wS_open (by (simp only [List.getElem?_toArray, List.getElem?_cons_succ, List.getElem?_cons_zero]) <;> rfl) (by rfl) (by rfl) ?_; apply Exists.intro; refine ⟨fun vs wq hw => ?_, ?_⟩; (focus (rw [HCl.out] at hw; (try simp only [List.nil_append, List.cons_append] at hw); (try dsimp only at hw); go_split_ands; go_simp <;> first | with_reducible exact (rfl : Value.bool false = _) | with_reducible exact (rfl : Value.bool true = _) | ((try go_bits) <;> exact rfl))); simp only [Act.put, Nat.reduceAdd, List.setIfInBounds_toArray, List.set_cons_zero, List.set_cons_succ, List.nil_append, List.cons_append])))
          refine Reg2.wS_eff (by (simp only [List.getElem?_toArray, List.getElem?_cons_succ, List.getElem?_cons_zero]) <;> rfl) (by rfl) (by rfl) (fun wq hw => ?_) (fun u9 hu => ?_)
          focus
            rw [HCl.out] at hw; (try simp only [List.nil_append, List.cons_append] at hw); (try dsimp only at hw)
            obtain ⟨hA, -⟩ := hw
            go_simp
            go_at_call 12
            (with_reducible refine (KRO.out _).mono ?_)
            rintro e wy ⟨rfl, hbel⟩
            refine ⟨_, rfl, ?_⟩
            rw [HCl.out]; (try simp only [List.nil_append, List.cons_append]); (try dsimp only)
            exact ⟨cv7_bel hA hbel, by first | rfl | trivial⟩
          (obtain ⟨wz, hz⟩ := hu; rw [HCl.out] at hz; (try simp only [List.nil_append, List.cons_append] at hz); (try dsimp only at hz))
          obtain ⟨-, rfl⟩ := hz
          clear wz
          simp only [Act.put, Nat.reduceAdd, List.setIfInBounds_toArray, List.set_cons_zero, List.set_cons_succ, List.nil_append, List.cons_append]
          (repeat (first | (refine Reg2.wS_skip (by (simp only [List.getElem?_toArray, List.getElem?_cons_succ, List.getElem?_cons_zero]) <;> rfl) (by rfl) ?_; simp only [Act.put, Nat.reduceAdd, List.setIfInBounds_toArray, List.set_cons_zero, List.set_cons_succ, List.nil_append, List.cons_append]) | (refine Reg2.wS_open (by (simp only [List.getElem?_toArray, List.getElem?_cons_succ, List.getElem?_cons_zero]) <;> rfl) (by rfl) (by rfl) ?_; apply Exists.intro; refine ⟨fun vs wq hw => ?_, ?_⟩; (focus (rw [HCl.out] at hw; (try simp only [List.nil_append, List.cons_append] at hw); (try dsimp only at hw); go_split_ands; go_simp <;> first | with_reducible exact (rfl : Value.bool false = _) | with_reducible exact (rfl : Value.bool true = _) | ((try go_bits) <;> exact rfl))); simp only [Act.put, Nat.reduceAdd, List.setIfInBounds_toArray, List.set_cons_zero, List.set_cons_succ, List.nil_append, List.cons_append])))
          refine Reg2.wS_eff (by (simp only [List.getElem?_toArray, List.getElem?_cons_succ, List.getElem?_cons_zero]) <;> rfl) (by rfl) (by rfl) (fun wq hw => ?_) (fun u9 hu => ?_)
          focus
            rw [HCl.out] at hw; (try simp only [List.nil_append, List.cons_append] at hw); (try dsimp only at hw)
            obtain ⟨hA, -⟩ := hw
            go_simp
            go_at_call 14
            (with_reducible refine (KWT.out _ hA.2.2.2.2.2.2).mono ?_)
            rintro e wy ⟨rfl, hbel⟩
            refine ⟨_, rfl, ?_⟩
            rw [HCl.out]; (try simp only [List.nil_append, List.cons_append]); (try dsimp only)
            exact ⟨cv7_bel hA hbel, by first | rfl | trivial⟩
          (obtain ⟨wz, hz⟩ := hu; rw [HCl.out] at hz; (try simp only [List.nil_append, List.cons_append] at hz); (try dsimp only at hz))
          obtain ⟨-, rfl⟩ := hz
          clear wz
          simp only [Act.put, Nat.reduceAdd, List.setIfInBounds_toArray, List.set_cons_zero, List.set_cons_succ, List.nil_append, List.cons_append]
          (repeat (first | (refine Reg2.wS_skip (by (simp only [List.getElem?_toArray, List.getElem?_cons_succ, List.getElem?_cons_zero]) <;> rfl) (by rfl) ?_; simp only [Act.put, Nat.reduceAdd, List.setIfInBounds_toArray, List.set_cons_zero, List.set_cons_succ, List.nil_append, List.cons_append]) | (refine Reg2.wS_open (by (simp only [List.getElem?_toArray, List.getElem?_cons_succ, List.getElem?_cons_zero]) <;> rfl) (by rfl) (by rfl) ?_; apply Exists.intro; refine ⟨fun vs wq hw => ?_, ?_⟩; (focus (rw [HCl.out] at hw; (try simp only [List.nil_append, List.cons_append] at hw); (try dsimp only at hw); go_split_ands; go_simp <;> first | with_reducible exact (rfl : Value.bool false = _) | with_reducible exact (rfl : Value.bool true = _) | ((try go_bits) <;> exact rfl))); simp only [Act.put, Nat.reduceAdd, List.setIfInBounds_toArray, List.set_cons_zero, List.set_cons_succ, List.nil_append, List.cons_append])))
          refine Reg2.wS_eff (by (simp only [List.getElem?_toArray, List.getElem?_cons_succ, List.getElem?_cons_zero]) <;> rfl) (by rfl) (by rfl) (fun wq hw => ?_) (fun u9 hu => ?_)
          focus
            rw [HCl.out] at hw; (try simp only [List.nil_append, List.cons_append] at hw); (try dsimp only at hw)
            obtain ⟨hA, -⟩ := hw
            go_simp
            go_at_call 15
            (with_reducible refine (KRN.out _ hA.2.2.2.2.2.2).mono ?_)
            rintro e wy ⟨rfl, hbel⟩
            refine ⟨_, rfl, ?_⟩
            rw [HCl.out]; (try simp only [List.nil_append, List.cons_append]); (try dsimp only)
            exact ⟨cv7_bel hA hbel, by first | rfl | trivial⟩
          (obtain ⟨wz, hz⟩ := hu; rw [HCl.out] at hz; (try simp only [List.nil_append, List.cons_append] at hz); (try dsimp only at hz))
          obtain ⟨-, rfl⟩ := hz
          clear wz
          simp only [Act.put, Nat.reduceAdd, List.setIfInBounds_toArray, List.set_cons_zero, List.set_cons_succ, List.nil_append, List.cons_append]
          (repeat (first | (refine Reg2.wS_skip (by (simp only [List.getElem?_toArray, List.getElem?_cons_succ, List.getElem?_cons_zero]) <;> rfl) (by rfl) ?_; simp only [Act.put, Nat.reduceAdd, List.setIfInBounds_toArray, List.set_cons_zero, List.set_cons_succ, List.nil_append, List.cons_append]) | (refine Reg2.wS_open (by (simp only [List.getElem?_toArray, List.getElem?_cons_succ, List.getElem?_cons_zero]) <;> rfl) (by rfl) (by rfl) ?_; apply Exists.intro; refine ⟨fun vs wq hw => ?_, ?_⟩; (focus (rw [HCl.out] at hw; (try simp only [List.nil_append, List.cons_append] at hw); (try dsimp only at hw); go_split_ands; go_simp <;> first | with_reducible exact (rfl : Value.bool false = _) | with_reducible exact (rfl : Value.bool true = _) | ((try go_bits) <;> exact rfl))); simp only [Act.put, Nat.reduceAdd, List.setIfInBounds_toArray, List.set_cons_zero, List.set_cons_succ, List.nil_append, List.cons_append])))
          refine Reg2.wS_nil ?_; intro w' hw; rw [HCl.out] at hw; (try simp only [List.nil_append, List.cons_append] at hw); (try dsimp only at hw); clear HCl
          obtain ⟨⟨-, -, -, -, -, -, hbz⟩, -⟩ := hw
          have HLE := Lib.hid (HLZ.out _ hbz)
          clear hbz
          go_wp2_with (first | go_guarded)
          go_roundg (m - (k + 1))
          case rel => exact ⟨k + 1, _, _, _, _, _, _, _, _, _, rfl, (by go_num), HLT.out, HLE.out, HS7.out, (by omega), Nat.le_refl _⟩
          case measure => omega
        · have hwn : ∀ z, LW z w B p mw mr f W bk R l ao n6 c6 rb → Calls Try.prog 8 #[.pointer (some ⟨p, 0, none⟩), .int .i64 cl, .int .u64 ta, .int .i64 ln, .bool rl] z fun ee w' => ee = .returned (.int .i64 E) ∧ Below z.heap.size z w' := fun z hz => by
            have h9 := k_wno hz HSL.out hn6 (dn := ta) (ln := ln) rl HCL.out (by rw [hE]; exact hE0)
            rw [hE] at h9
            exact h9
          have KWE := Lib.hid hwn
          have q7 : (E == 0) = false := by simpa using hE0
          have q8 : (E != E) = false := by simp
          clear hwf hwl hE hwn hE0
          go_wp2_with (first
            | go_guarded
            | (go_at_call 8; (with_reducible refine (KWE.out _ HL6.out).mono ?_); rintro _ w7 ⟨rfl, hbel⟩; have HL7 := Lib.hid (HL6.out.below hbel); have HV7 := Lib.hid (HV6.out.bel hbel); have e07 := HV7.out.cell 0 rfl; have e17 := HV7.out.cell 1 rfl; have e27 := HV7.out.cell 2 rfl; have e37 := HV7.out.cell 3 rfl; have e47 := HV7.out.cell 4 rfl; have l7 := HV7.out.lt; clear hbel)
            | (go_at_call 7; (with_reducible refine (KW7.out _ HL5.out).mono ?_); rintro _ w6 ⟨rfl, hbel⟩; have HL6 := Lib.hid (HL5.out.below hbel); have HV6 := Lib.hid (HV5.out.bel hbel); have e06 := HV6.out.cell 0 rfl; have e16 := HV6.out.cell 1 rfl; have e26 := HV6.out.cell 2 rfl; have e36 := HV6.out.cell 3 rfl; have e46 := HV6.out.cell 4 rfl; have l6 := HV6.out.lt; clear hbel)
            | (refine wpList_var_new rfl rfl 29 #[.int .i64 0, .int .i64 0, .int .u64 0, .int .i64 0, .bool false] ALL.out rfl _ _ rfl #[.int .i64 kk, .int .i64 cl, .int .u64 ta, .int .i64 ln, .bool rl] rfl rfl INF.out rfl (ONE.out ⟨kk, cl, ta, ln, rl⟩) ?_; intro w5 hs5 hb5 hv5; have HV5 := Lib.hid hv5; have HL5 := Lib.hid (HLW.out.below hb5); have e05 := HV5.out.cell 0 rfl; have e15 := HV5.out.cell 1 rfl; have e25 := HV5.out.cell 2 rfl; have e35 := HV5.out.cell 3 rfl; have e45 := HV5.out.cell 4 rfl; have l5 := HV5.out.lt; clear hb5 hv5)
            | (refine wpList_part_get rfl 29 _ rfl b (o + k * 5) #[.int .i64 kk, .int .i64 cl, .int .u64 ta, .int .i64 ln, .bool rl] _ HR1.out rfl Try.underlying29 rfl INF.out ?_))
          obtain ⟨p5, hp5⟩ : ∃ p, wr.heap.size = p := ⟨_, rfl⟩
          rw [hp5] at HV7
          (try rw [hp5])
          (try simp only [hp5])
          clear hp5
          have hbq : Below w7.heap.size w7 w7.drew := Below.drew (Below.refl _ _)
          have hvq := HV7.out.bel hbq
          have HLZ := Lib.hid (fun z (hz : Below w7.heap.size w7 z) => HL7.out.below hz)
          obtain ⟨X, hX⟩ : ∃ X, cntC cl l = X := ⟨_, rfl⟩
          obtain ⟨u, hu⟩ : ∃ u, (waitC cl l).length = u := ⟨_, rfl⟩
          have KRW : Hid (∀ z, Below w7.heap.size w7 z → Calls Try.prog 11 #[.pointer (some ⟨p, 0, none⟩), .int .i64 cl] z fun e z' => e = .returned (.agg #[.int .u64 (X).a, .int .u64 (X).b, .int .u64 (X).c, .int .u64 (X).d, .int .u64 (X).e]) ∧ Below z.heap.size z z') := Lib.hid (fun z hz => by have h9 := k_row (HLZ.out z hz) HSL.out HCL.out; rw [hX] at h9; exact h9)
          have KCN : Hid (∀ z, Below w7.heap.size w7 z → Calls Try.prog 13 #[.slice ao n6 c6, .int .i64 cl, .bool false] z fun e z' => e = .returned (.agg #[.int .u64 (X).a, .int .u64 (X).b, .int .u64 (X).c, .int .u64 (X).d, .int .u64 (X).e]) ∧ Below z.heap.size z z') := Lib.hid (fun z hz => by have h9 := k_cnt (HLZ.out z hz) (by omega) cl; rw [hX] at h9; exact h9)
          have KRO : Hid (∀ z, Calls Try.prog 12 #[.agg #[.int .u64 (X).a, .int .u64 (X).b, .int .u64 (X).c, .int .u64 (X).d, .int .u64 (X).e]] z fun e z' => e = .returned (.agg #[.int .u64 (X).a, .int .u64 (X).b, .int .u64 (X).c, .int .u64 (X).d, .int .u64 (X).e]) ∧ Below z.heap.size z z') := Lib.hid (fun z => row7_c X z)
          have KWT : Hid (∀ z, Below w7.heap.size w7 z → Calls Try.prog 14 #[.pointer (some ⟨p, 0, none⟩), .int .i64 cl] z fun e z' => e = .returned (.int .i64 (u : Int)) ∧ Below z.heap.size z z') := Lib.hid (fun z hz => by have h9 := k_wait (HLZ.out z hz) HSL.out HCL.out; rw [hu] at h9; exact h9)
          have KRN : Hid (∀ z, Below w7.heap.size w7 z → Calls Try.prog 15 #[.slice ao n6 c6, .int .i64 cl] z fun e z' => e = .returned (.int .i64 (u : Int)) ∧ Below z.heap.size z z') := Lib.hid (fun z hz => by have h9 := k_rn (HLZ.out z hz) (by omega) cl; rw [hu] at h9; exact h9)
          have EQX := eqR5S X
          clear hX hu
          obtain ⟨Cl, hCl⟩ : ∃ Cl : List (Nat × Value) → World → Prop, Cl = ((fun ps wz => (VR wz p5 29 #[.int .i64 kk, .int .i64 cl, .int .u64 ta, .int .i64 ln, .bool rl] ∧ wz.cell? ⟨p5, 1, none⟩ = some (.int .i64 cl) ∧ wz.cell? ⟨p5, 2, none⟩ = some (.int .u64 ta) ∧ wz.cell? ⟨p5, 3, none⟩ = some (.int .i64 ln) ∧ wz.cell? ⟨p5, 4, none⟩ = some (.bool rl) ∧ p5 < wz.heap.size ∧ Below w7.heap.size w7 wz) ∧ (match ps with
            | [] => True
            | [(_, v)] => v = .agg #[.int .u64 (X).a, .int .u64 (X).b, .int .u64 (X).c, .int .u64 (X).d, .int .u64 (X).e]
            | [_, (_, v)] => v = .agg #[.int .u64 (X).a, .int .u64 (X).b, .int .u64 (X).c, .int .u64 (X).d, .int .u64 (X).e]
            | [_, _, (_, v)] => v = .agg #[.int .u64 (X).a, .int .u64 (X).b, .int .u64 (X).c, .int .u64 (X).d, .int .u64 (X).e]
            | [_, _, _, (_, v)] => v = .int .i64 (u : Int)
            | [_, _, _, _, (_, v)] => v = .int .i64 (u : Int)
            | _ => True))) := ⟨_, rfl⟩; have HCl := Lib.hid hCl; clear hCl; refine Reg2.wp_region_lineS [(0, false), (1, false), (2, false), (4, false), (5, false), (6, false), (3, false), (7, false), (8, false), (9, false), (10, false), (11, false), (12, false), (13, false), (15, false), (16, false), (17, false), (14, false), (18, false), (19, false), (20, false)] [3, 7, 8, 14, 18] Cl (by kernel_rfl) (by kernel_rfl) (by kernel_rfl) (by rw [HCl.out]; (try simp only [List.nil_append, List.cons_append]); (try dsimp only); exact ⟨⟨hvq, hvq.cell 1 rfl, hvq.cell 2 rfl, hvq.cell 3 rfl, hvq.cell 4 rfl, hvq.lt, hbq⟩, trivial⟩) ?_
          clear hbq hvq
          (repeat (first | (refine Reg2.wS_skip (by (simp only [List.getElem?_toArray, List.getElem?_cons_succ, List.getElem?_cons_zero]) <;> rfl) (by rfl) ?_; simp only [Act.put, Nat.reduceAdd, List.setIfInBounds_toArray, List.set_cons_zero, List.set_cons_succ, List.nil_append, List.cons_append]) | (refine Reg2.wS_open (by (simp only [List.getElem?_toArray, List.getElem?_cons_succ, List.getElem?_cons_zero]) <;> rfl) (by rfl) (by rfl) ?_; apply Exists.intro; refine ⟨fun vs wq hw => ?_, ?_⟩; (focus (rw [HCl.out] at hw; (try simp only [List.nil_append, List.cons_append] at hw); (try dsimp only at hw); go_split_ands; go_simp <;> first | with_reducible exact (rfl : Value.bool false = _) | with_reducible exact (rfl : Value.bool true = _) | ((try go_bits) <;> exact rfl))); simp only [Act.put, Nat.reduceAdd, List.setIfInBounds_toArray, List.set_cons_zero, List.set_cons_succ, List.nil_append, List.cons_append])))
          refine Reg2.wS_eff (by (simp only [List.getElem?_toArray, List.getElem?_cons_succ, List.getElem?_cons_zero]) <;> rfl) (by rfl) (by rfl) (fun wq hw => ?_) (fun u9 hu => ?_)
          focus
            rw [HCl.out] at hw; (try simp only [List.nil_append, List.cons_append] at hw); (try dsimp only at hw)
            obtain ⟨hA, -⟩ := hw
            go_simp
            go_at_call 11
            (with_reducible refine (KRW.out _ hA.2.2.2.2.2.2).mono ?_)
            rintro e wy ⟨rfl, hbel⟩
            refine ⟨_, rfl, ?_⟩
            rw [HCl.out]; (try simp only [List.nil_append, List.cons_append]); (try dsimp only)
            exact ⟨cv7_bel hA hbel, by first | rfl | trivial⟩
          (obtain ⟨wz, hz⟩ := hu; rw [HCl.out] at hz; (try simp only [List.nil_append, List.cons_append] at hz); (try dsimp only at hz))
          obtain ⟨-, rfl⟩ := hz
          clear wz
          simp only [Act.put, Nat.reduceAdd, List.setIfInBounds_toArray, List.set_cons_zero, List.set_cons_succ, List.nil_append, List.cons_append]
          (repeat (first | (refine Reg2.wS_skip (by (simp only [List.getElem?_toArray, List.getElem?_cons_succ, List.getElem?_cons_zero]) <;> rfl) (by rfl) ?_; simp only [Act.put, Nat.reduceAdd, List.setIfInBounds_toArray, List.set_cons_zero, List.set_cons_succ, List.nil_append, List.cons_append]) | (refine Reg2.wS_open (by (simp only [List.getElem?_toArray, List.getElem?_cons_succ, List.getElem?_cons_zero]) <;> rfl) (by rfl) (by rfl) ?_; apply Exists.intro; refine ⟨fun vs wq hw => ?_, ?_⟩; (focus (rw [HCl.out] at hw; (try simp only [List.nil_append, List.cons_append] at hw); (try dsimp only at hw); go_split_ands; go_simp <;> first | with_reducible exact (rfl : Value.bool false = _) | with_reducible exact (rfl : Value.bool true = _) | ((try go_bits) <;> exact rfl))); simp only [Act.put, Nat.reduceAdd, List.setIfInBounds_toArray, List.set_cons_zero, List.set_cons_succ, List.nil_append, List.cons_append])))
          refine Reg2.wS_eff (by (simp only [List.getElem?_toArray, List.getElem?_cons_succ, List.getElem?_cons_zero]) <;> rfl) (by rfl) (by rfl) (fun wq hw => ?_) (fun u9 hu => ?_)
          focus
            rw [HCl.out] at hw; (try simp only [List.nil_append, List.cons_append] at hw); (try dsimp only at hw)
            obtain ⟨hA, -⟩ := hw
            go_simp
            go_at_call 13
            (with_reducible refine (KCN.out _ hA.2.2.2.2.2.2).mono ?_)
            rintro e wy ⟨rfl, hbel⟩
            refine ⟨_, rfl, ?_⟩
            rw [HCl.out]; (try simp only [List.nil_append, List.cons_append]); (try dsimp only)
            exact ⟨cv7_bel hA hbel, by first | rfl | trivial⟩
          (obtain ⟨wz, hz⟩ := hu; rw [HCl.out] at hz; (try simp only [List.nil_append, List.cons_append] at hz); (try dsimp only at hz))
          obtain ⟨-, rfl⟩ := hz
          clear wz
          simp only [Act.put, Nat.reduceAdd, List.setIfInBounds_toArray, List.set_cons_zero, List.set_cons_succ, List.nil_append, List.cons_append]
          (repeat (first | (refine Reg2.wS_skip (by (simp only [List.getElem?_toArray, List.getElem?_cons_succ, List.getElem?_cons_zero]) <;> rfl) (by rfl) ?_; simp only [Act.put, Nat.reduceAdd, List.setIfInBounds_toArray, List.set_cons_zero, List.set_cons_succ, List.nil_append, List.cons_append]) | (refine Reg2.wS_open (by (simp only [List.getElem?_toArray, List.getElem?_cons_succ, List.getElem?_cons_zero]) <;> rfl) (by rfl) (by rfl) ?_; apply Exists.intro; refine ⟨fun vs wq hw => ?_, ?_⟩; (focus (rw [HCl.out] at hw; (try simp only [List.nil_append, List.cons_append] at hw); (try dsimp only at hw); go_split_ands; go_simp <;> first | with_reducible exact (rfl : Value.bool false = _) | with_reducible exact (rfl : Value.bool true = _) | ((try go_bits) <;> exact rfl))); simp only [Act.put, Nat.reduceAdd, List.setIfInBounds_toArray, List.set_cons_zero, List.set_cons_succ, List.nil_append, List.cons_append])))
          refine Reg2.wS_eff (by (simp only [List.getElem?_toArray, List.getElem?_cons_succ, List.getElem?_cons_zero]) <;> rfl) (by rfl) (by rfl) (fun wq hw => ?_) (fun u9 hu => ?_)
          focus
            rw [HCl.out] at hw; (try simp only [List.nil_append, List.cons_append] at hw); (try dsimp only at hw)
            obtain ⟨hA, -⟩ := hw
            go_simp
            go_at_call 12
            (with_reducible refine (KRO.out _).mono ?_)
            rintro e wy ⟨rfl, hbel⟩
            refine ⟨_, rfl, ?_⟩
            rw [HCl.out]; (try simp only [List.nil_append, List.cons_append]); (try dsimp only)
            exact ⟨cv7_bel hA hbel, by first | rfl | trivial⟩
          (obtain ⟨wz, hz⟩ := hu; rw [HCl.out] at hz; (try simp only [List.nil_append, List.cons_append] at hz); (try dsimp only at hz))
          obtain ⟨-, rfl⟩ := hz
          clear wz
          simp only [Act.put, Nat.reduceAdd, List.setIfInBounds_toArray, List.set_cons_zero, List.set_cons_succ, List.nil_append, List.cons_append]
          (repeat (first | (refine Reg2.wS_skip (by (simp only [List.getElem?_toArray, List.getElem?_cons_succ, List.getElem?_cons_zero]) <;> rfl) (by rfl) ?_; simp only [Act.put, Nat.reduceAdd, List.setIfInBounds_toArray, List.set_cons_zero, List.set_cons_succ, List.nil_append, List.cons_append]) | (refine Reg2.wS_open (by (simp only [List.getElem?_toArray, List.getElem?_cons_succ, List.getElem?_cons_zero]) <;> rfl) (by rfl) (by rfl) ?_; apply Exists.intro; refine ⟨fun vs wq hw => ?_, ?_⟩; (focus (rw [HCl.out] at hw; (try simp only [List.nil_append, List.cons_append] at hw); (try dsimp only at hw); go_split_ands; go_simp <;> first | with_reducible exact (rfl : Value.bool false = _) | with_reducible exact (rfl : Value.bool true = _) | ((try go_bits) <;> exact rfl))); simp only [Act.put, Nat.reduceAdd, List.setIfInBounds_toArray, List.set_cons_zero, List.set_cons_succ, List.nil_append, List.cons_append])))
          refine Reg2.wS_eff (by (simp only [List.getElem?_toArray, List.getElem?_cons_succ, List.getElem?_cons_zero]) <;> rfl) (by rfl) (by rfl) (fun wq hw => ?_) (fun u9 hu => ?_)
          focus
            rw [HCl.out] at hw; (try simp only [List.nil_append, List.cons_append] at hw); (try dsimp only at hw)
            obtain ⟨hA, -⟩ := hw
            go_simp
            go_at_call 14
            (with_reducible refine (KWT.out _ hA.2.2.2.2.2.2).mono ?_)
            rintro e wy ⟨rfl, hbel⟩
            refine ⟨_, rfl, ?_⟩
            rw [HCl.out]; (try simp only [List.nil_append, List.cons_append]); (try dsimp only)
            exact ⟨cv7_bel hA hbel, by first | rfl | trivial⟩
          (obtain ⟨wz, hz⟩ := hu; rw [HCl.out] at hz; (try simp only [List.nil_append, List.cons_append] at hz); (try dsimp only at hz))
          obtain ⟨-, rfl⟩ := hz
          clear wz
          simp only [Act.put, Nat.reduceAdd, List.setIfInBounds_toArray, List.set_cons_zero, List.set_cons_succ, List.nil_append, List.cons_append]
          (repeat (first | (refine Reg2.wS_skip (by (simp only [List.getElem?_toArray, List.getElem?_cons_succ, List.getElem?_cons_zero]) <;> rfl) (by rfl) ?_; simp only [Act.put, Nat.reduceAdd, List.setIfInBounds_toArray, List.set_cons_zero, List.set_cons_succ, List.nil_append, List.cons_append]) | (refine Reg2.wS_open (by (simp only [List.getElem?_toArray, List.getElem?_cons_succ, List.getElem?_cons_zero]) <;> rfl) (by rfl) (by rfl) ?_; apply Exists.intro; refine ⟨fun vs wq hw => ?_, ?_⟩; (focus (rw [HCl.out] at hw; (try simp only [List.nil_append, List.cons_append] at hw); (try dsimp only at hw); go_split_ands; go_simp <;> first | with_reducible exact (rfl : Value.bool false = _) | with_reducible exact (rfl : Value.bool true = _) | ((try go_bits) <;> exact rfl))); simp only [Act.put, Nat.reduceAdd, List.setIfInBounds_toArray, List.set_cons_zero, List.set_cons_succ, List.nil_append, List.cons_append])))
          refine Reg2.wS_eff (by (simp only [List.getElem?_toArray, List.getElem?_cons_succ, List.getElem?_cons_zero]) <;> rfl) (by rfl) (by rfl) (fun wq hw => ?_) (fun u9 hu => ?_)
          focus
            rw [HCl.out] at hw; (try simp only [List.nil_append, List.cons_append] at hw); (try dsimp only at hw)
            obtain ⟨hA, -⟩ := hw
            go_simp
            go_at_call 15
            (with_reducible refine (KRN.out _ hA.2.2.2.2.2.2).mono ?_)
            rintro e wy ⟨rfl, hbel⟩
            refine ⟨_, rfl, ?_⟩
            rw [HCl.out]; (try simp only [List.nil_append, List.cons_append]); (try dsimp only)
            exact ⟨cv7_bel hA hbel, by first | rfl | trivial⟩
          (obtain ⟨wz, hz⟩ := hu; rw [HCl.out] at hz; (try simp only [List.nil_append, List.cons_append] at hz); (try dsimp only at hz))
          obtain ⟨-, rfl⟩ := hz
          clear wz
          simp only [Act.put, Nat.reduceAdd, List.setIfInBounds_toArray, List.set_cons_zero, List.set_cons_succ, List.nil_append, List.cons_append]
          (repeat (first | (refine Reg2.wS_skip (by (simp only [List.getElem?_toArray, List.getElem?_cons_succ, List.getElem?_cons_zero]) <;> rfl) (by rfl) ?_; simp only [Act.put, Nat.reduceAdd, List.setIfInBounds_toArray, List.set_cons_zero, List.set_cons_succ, List.nil_append, List.cons_append]) | (refine Reg2.wS_open (by (simp only [List.getElem?_toArray, List.getElem?_cons_succ, List.getElem?_cons_zero]) <;> rfl) (by rfl) (by rfl) ?_; apply Exists.intro; refine ⟨fun vs wq hw => ?_, ?_⟩; (focus (rw [HCl.out] at hw; (try simp only [List.nil_append, List.cons_append] at hw); (try dsimp only at hw); go_split_ands; go_simp <;> first | with_reducible exact (rfl : Value.bool false = _) | with_reducible exact (rfl : Value.bool true = _) | ((try go_bits) <;> exact rfl))); simp only [Act.put, Nat.reduceAdd, List.setIfInBounds_toArray, List.set_cons_zero, List.set_cons_succ, List.nil_append, List.cons_append])))
          refine Reg2.wS_nil ?_; intro w' hw; rw [HCl.out] at hw; (try simp only [List.nil_append, List.cons_append] at hw); (try dsimp only at hw); clear HCl
          obtain ⟨⟨-, -, -, -, -, -, hbz⟩, -⟩ := hw
          have HLE := Lib.hid (HLZ.out _ hbz)
          clear hbz
          go_wp2_with (first | go_guarded)
          go_roundg (m - (k + 1))
          case rel => exact ⟨k + 1, _, _, _, _, _, _, _, _, _, rfl, (by go_num), HLT.out, HLE.out, HSL.out, (by omega), Nat.le_refl _⟩
          case measure => omega
    · obtain rfl : k = m := by omega
      have hn6 : n6 ≤ 1000 := by omega
      obtain ⟨X, hXe⟩ : ∃ X, cntC c0 l = X := ⟨_, rfl⟩
      obtain ⟨Y, hYe⟩ : ∃ X, cntA l = X := ⟨_, rfl⟩
      obtain ⟨u, hu⟩ : ∃ u, (waitC c0 l).length = u := ⟨_, rfl⟩
      obtain ⟨K, hKe⟩ : ∃ K, clsL l = K := ⟨_, rfl⟩
      obtain ⟨t, ht⟩ : ∃ t, K.length = t := ⟨_, rfl⟩
      have ht9 : t ≤ 1000 := by rw [← ht, ← hKe]; have h1 := clsL_len l; have h2 := hlw.ln; omega
      have TL : Hid (∀ z, LW z w B p mw mr f W bk R l ao n6 c6 rb → True) := Lib.hid (fun _ _ => trivial)
      have KRW : Hid (∀ z, LW z w B p mw mr f W bk R l ao n6 c6 rb → Calls Try.prog 11 #[.pointer (some ⟨p, 0, none⟩), .int .i64 c0] z fun e z' => e = .returned (.agg #[.int .u64 (X).a, .int .u64 (X).b, .int .u64 (X).c, .int .u64 (X).d, .int .u64 (X).e]) ∧ Below z.heap.size z z') := Lib.hid (fun z hz => by have h9 := k_row hz HSL.out HC0.out; rw [hXe] at h9; exact h9)
      have KCN : Hid (∀ z, LW z w B p mw mr f W bk R l ao n6 c6 rb → Calls Try.prog 13 #[.slice ao n6 c6, .int .i64 c0, .bool false] z fun e z' => e = .returned (.agg #[.int .u64 (X).a, .int .u64 (X).b, .int .u64 (X).c, .int .u64 (X).d, .int .u64 (X).e]) ∧ Below z.heap.size z z') := Lib.hid (fun z hz => by have h9 := k_cnt hz hn6 c0; rw [hXe] at h9; exact h9)
      have KRX : Hid (∀ z, Calls Try.prog 12 #[.agg #[.int .u64 (X).a, .int .u64 (X).b, .int .u64 (X).c, .int .u64 (X).d, .int .u64 (X).e]] z fun e z' => e = .returned (.agg #[.int .u64 (X).a, .int .u64 (X).b, .int .u64 (X).c, .int .u64 (X).d, .int .u64 (X).e]) ∧ Below z.heap.size z z') := Lib.hid (fun z => row7_c X z)
      have KWT : Hid (∀ z, LW z w B p mw mr f W bk R l ao n6 c6 rb → Calls Try.prog 14 #[.pointer (some ⟨p, 0, none⟩), .int .i64 c0] z fun e z' => e = .returned (.int .i64 (u : Int)) ∧ Below z.heap.size z z') := Lib.hid (fun z hz => by have h9 := k_wait hz HSL.out HC0.out; rw [hu] at h9; exact h9)
      have KRN : Hid (∀ z, LW z w B p mw mr f W bk R l ao n6 c6 rb → Calls Try.prog 15 #[.slice ao n6 c6, .int .i64 c0] z fun e z' => e = .returned (.int .i64 (u : Int)) ∧ Below z.heap.size z z') := Lib.hid (fun z hz => by have h9 := k_rn hz hn6 c0; rw [hu] at h9; exact h9)
      have KTT : Hid (∀ z, LW z w B p mw mr f W bk R l ao n6 c6 rb → Calls Try.prog 16 #[.pointer (some ⟨p, 0, none⟩)] z fun e z' => e = .returned (.agg #[.int .u64 (Y).a, .int .u64 (Y).b, .int .u64 (Y).c, .int .u64 (Y).d, .int .u64 (Y).e]) ∧ Below z.heap.size z z') := Lib.hid (fun z hz => by have h9 := k_tot hz HSL.out hn6; rw [hYe] at h9; exact h9)
      have KCA : Hid (∀ z, LW z w B p mw mr f W bk R l ao n6 c6 rb → Calls Try.prog 13 #[.slice ao n6 c6, .int .i64 0, .bool true] z fun e z' => e = .returned (.agg #[.int .u64 (Y).a, .int .u64 (Y).b, .int .u64 (Y).c, .int .u64 (Y).d, .int .u64 (Y).e]) ∧ Below z.heap.size z z') := Lib.hid (fun z hz => by have h9 := k_cntA hz hn6 0; rw [hYe] at h9; exact h9)
      have KRY : Hid (∀ z, Calls Try.prog 12 #[.agg #[.int .u64 (Y).a, .int .u64 (Y).b, .int .u64 (Y).c, .int .u64 (Y).d, .int .u64 (Y).e]] z fun e z' => e = .returned (.agg #[.int .u64 (Y).a, .int .u64 (Y).b, .int .u64 (Y).c, .int .u64 (Y).d, .int .u64 (Y).e]) ∧ Below z.heap.size z z') := Lib.hid (fun z => row7_c Y z)
      have KCL : Hid (∀ z, LW z w B p mw mr f W bk R l ao n6 c6 rb → Calls Try.prog 18 #[.pointer (some ⟨p, 0, none⟩)] z fun e z' => ∃ a9 c9, e = .returned (.slice a9 t c9) ∧ RwV (fun x : Int => [Value.int .i64 x]) 1 z' a9 K ∧ Below z.heap.size z z') := Lib.hid (fun z hz => by have h9 := k_cla hz HSL.out hn6; rw [hKe, ht] at h9; exact h9)
      have KRK : Hid (∀ z, LW z w B p mw mr f W bk R l ao n6 c6 rb → Calls Try.prog 19 #[.slice ao n6 c6] z fun e z' => ∃ a9 c9, e = .returned (.slice a9 t c9) ∧ RwV (fun x : Int => [Value.int .i64 x]) 1 z' a9 K ∧ Below z.heap.size z z') := Lib.hid (fun z hz => by have h9 := k_rk hz hn6; rw [hKe, ht] at h9; exact h9)
      have KIN : Hid (∀ z a1 a2 d1 d2, RwV (fun x : Int => [Value.int .i64 x]) 1 z a1 K → RwV (fun x : Int => [Value.int .i64 x]) 1 z a2 K → Calls Try.prog 17 #[.slice a1 t d1, .slice a2 t d2] z fun e z' => e = .returned (.bool true) ∧ Below z.heap.size z z') := Lib.hid (fun z a1 a2 d1 d2 h1 h2 => by have h9 := ints_same K a1 a2 d1 d2 (by omega) z h1 h2; rw [ht] at h9; exact h9)
      have EQX := eqR5S X
      have EQY := eqR5S Y
      clear hlw hsl hXe hYe hu hKe ht hlt hk hk9 hnk
      go_wp2_with (first
        | go_guarded
        | (go_at_call 4; (with_reducible refine (KFF.out _).mono ?_); rintro _ xc ⟨rfl, hbel⟩; have HBC : Hid (Below w.heap.size w xc) := Lib.hid (GL11.out.bel.trans (hbel.mono GL11.out.bel.size)); clear hbel)
        | (go_at_call 17; (with_reducible refine (KIN.out _ _ _ _ _ GR10.out GS10.out).mono ?_); rintro _ xb ⟨rfl, hbel⟩; have GL11 := Lib.hid (GL10.out.below hbel); clear hbel)
        | (go_at_call 19; (with_reducible refine (KRK.out _ GL9.out).mono ?_); rintro _ xa ⟨aa, ca, rfl, hi, hbel⟩; have GS10 := Lib.hid hi; have GR10 := Lib.hid (GR9.out.below hbel); have GL10 := Lib.hid (GL9.out.below hbel); clear hi hbel)
        | (go_at_call 18; (with_reducible refine (KCL.out _ GL8.out).mono ?_); rintro _ x9 ⟨a9, c9, rfl, hi, hbel⟩; have GR9 := Lib.hid hi; have GL9 := Lib.hid (GL8.out.below hbel); clear hi hbel)
        | (go_at_call 12; (have mk := GL7); (with_reducible refine (KRY.out _).mono ?_); rintro _ x8 ⟨rfl, hbel⟩; have GL8 := Lib.hid (GL7.out.below hbel); clear hbel)
        | (go_at_call 13; (with_reducible refine (KCA.out _ GL6.out).mono ?_); rintro _ x7 ⟨rfl, hbel⟩; have GL7 := Lib.hid (GL6.out.below hbel); clear hbel)
        | (go_at_call 16; (with_reducible refine (KTT.out _ GL5.out).mono ?_); rintro _ x6 ⟨rfl, hbel⟩; have GL6 := Lib.hid (GL5.out.below hbel); clear hbel)
        | (go_at_call 15; (with_reducible refine (KRN.out _ GL4.out).mono ?_); rintro _ x5 ⟨rfl, hbel⟩; have GL5 := Lib.hid (GL4.out.below hbel); clear hbel)
        | (go_at_call 14; (with_reducible refine (KWT.out _ GL3.out).mono ?_); rintro _ x4 ⟨rfl, hbel⟩; have GL4 := Lib.hid (GL3.out.below hbel); clear hbel)
        | (go_at_call 12; (with_reducible refine (KRX.out _).mono ?_); rintro _ x3 ⟨rfl, hbel⟩; have GL3 := Lib.hid (GL2.out.below hbel); clear hbel)
        | (go_at_call 13; (with_reducible refine (KCN.out _ GL1.out).mono ?_); rintro _ x2 ⟨rfl, hbel⟩; have GL2 := Lib.hid (GL1.out.below hbel); clear hbel)
        | (go_at_call 11; (with_reducible refine (KRW.out _ HLW.out).mono ?_); rintro _ x1 ⟨rfl, hbel⟩; have GL1 := Lib.hid (HLW.out.below hbel); clear hbel))
      go_ret
      exact ⟨rfl, HBC.out⟩
theorem law7_long (m : Nat) (hm : 100 < m) (aox : Option Addr) (capx : Nat) (c0 : Int) (w : World) : Calls Try.prog 3 #[.slice aox m capx, .int .i64 c0] w fun ee w' => ee = .returned (.bool true) ∧ Below w.heap.size w w' := by
  have q1 : decide ((100 : Int) < (m : Int)) = true := decide_eq_true (by omega)
  have q2 : decide (100 < m) = true := decide_eq_true hm
  have K := Lib.hid fifteen_c
  go_enter Try.func3, Try.ntmps3
  go_wp2_with (first | go_guarded | (go_at_call 4; (with_reducible refine (K.out _).mono ?_); rintro _ w1 ⟨rfl, hbel⟩; have HB1 := Lib.hid hbel; clear hbel))
  go_ret
  exact ⟨rfl, HB1.out⟩
theorem statsCalls_law (v : Value) (c0 : Int) {w : World} (hs : Op.FlatSlice w 5 [.int .i64, .int .i64, .int .u64, .int .i64, .bool] v) (hc0 : iok c0) : Calls Try.prog 3 #[v, .int .i64 c0] w fun ee w' => ee = .returned (.bool true) ∧ Below w.heap.size w w' := by
  obtain ⟨a, es, cap, rfl, h1, h2⟩ := calls7_of hs
  by_cases hn : es.length ≤ 100
  · exact law7_c es _ rfl hn h2 a cap c0 hc0 w h1
  · exact law7_long _ (by omega) a cap c0 w
end Go.Proofs.Ytnpidbodeebnkaa
