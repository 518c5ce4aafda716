/- AuditEnough. -/
import Derived.Test.YtlenmhbhakeonaaAu8
namespace Go.Proofs.Ytlenmhbhakeonaa
set_option linter.unusedVariables false
set_option linter.unusedSimpArgs false
set_option maxRecDepth 100000
open Go.RowKit Fg Reg
attribute [local irreducible] Reg.wE QR

theorem CK.ex (T lm : Int) (l : List Ev) : ∃ a b, CK T lm l a b := by
  have go : ∀ k, (∀ j, j < k → codeAt T lm l j = 0) ∨ ∃ i, i < k ∧ codeAt T lm l i ≠ 0 ∧ ∀ j, j < i → codeAt T lm l j = 0 := by
    intro k
    induction k with
    | zero => exact .inl fun j hj => by omega
    | succ k ih =>
      rcases ih with h | ⟨i, h1, h2, h3⟩
      · by_cases hk : codeAt T lm l k = 0
        · exact .inl fun j hj => by
            by_cases hjk : j = k
            · rw [hjk]; exact hk
            · exact h j (by omega)
        · exact .inr ⟨k, by omega, hk, h⟩
      · exact .inr ⟨i, by omega, h2, h3⟩
  rcases go l.length with h | ⟨i, h1, h2, h3⟩
  · exact ⟨0, 0, .inr ⟨rfl, rfl, h⟩⟩
  · exact ⟨i, _, .inl ⟨i, h1, rfl, rfl, h2, h3⟩⟩
theorem eqF2 (a b : Int) (w : World) : (Op.equalIn 10000 80 (.agg #[.int .i64 a, .int .i64 b]) (.agg #[.int .i64 0, .int .i64 0])).run Try.prog w = .ok (decide (a = 0 ∧ b = 0)) w := by
  have hz1 : ∀ w, (sizeOf 3).run Try.prog w = .ok 1 w := fun w => by kernel_rfl
  have ha1 : ∀ w, (isAgg 3).run Try.prog w = .ok false w := fun w => by kernel_rfl
  have hz2 : ∀ w, (sizeOf 37).run Try.prog w = .ok 1 w := fun w => by kernel_rfl
  have ha2 : ∀ w, (isAgg 37).run Try.prog w = .ok false w := fun w => by kernel_rfl
  have u1 := Try.underlying3
  have u2 := Try.underlying37
  have hS : Try.prog.underlying 80 = some (.struct (Try.prog.fieldsOf 80)) := by kernel_rfl
  have hp : Try.prog.stoodInHeld 80 = false := by kernel_rfl
  rw [show (10000 : Nat) = 9999 + 1 from rfl, run_equalIn_agg w 9999 80 _ _ hS hp]
  simp only [Program.fieldsOf, Try.underlying80]
  by_cases g1 : a = 0
  · subst g1
    by_cases g2 : b = 0
    · subst g2
      go_simp
    · have b2 : (b == 0) = false := by simpa using g2
      rw [show decide ((0 : Int) = 0 ∧ b = 0) = false from decide_eq_false fun h => g2 h.2]
      clear g2
      go_simp
  · have b1 : (a == 0) = false := by simpa using g1
    rw [show decide (a = 0 ∧ b = 0) = false from decide_eq_false fun h => g1 h.1]
    clear g1
    go_simp
theorem rwv_drop {z : World} {b o mo : Nat} {L : List Pk} {c : Prop} [Decidable c] (h : RwV Pk.cells 6 z (some ⟨b, o, none⟩) L) (hc : c → L.length ≤ mo) : RwV Pk.cells 6 z (if c then some ⟨b, o, none⟩ else some ⟨b, o + mo * 6, none⟩) (L.drop mo) := fun k hk => by
  have hk2 : mo + k < L.length := by rw [List.length_drop] at hk; omega
  split
  · rename_i g; have := hc g; omega
  · obtain ⟨b', o', e, h1, h2⟩ := h (mo + k) hk2
    injection e with e
    injection e with e1 e2
    subst e1 e2
    refine ⟨b, o + mo * 6, rfl, h1, ?_⟩
    rw [List.getElem_drop, show o + mo * 6 + k * 6 = o + (mo + k) * 6 by rw [Nat.add_mul]; omega]
    exact h2
theorem rwv_drop2 {z : World} {b o mo : Nat} {L : List Pk} (h : RwV Pk.cells 6 z (some ⟨b, o, none⟩) L) : RwV Pk.cells 6 z (some ⟨b, o + mo * 6, none⟩) (L.drop mo) := rwv_drop (c := False) h False.elim
theorem lateW_c (T lm : Int) (l : List Ev) (n : Nat) (a0 e0 : Int) (cl : Int) (hne : ¬ (a0 = 0 ∧ e0 = 0)) (hn : n ≤ 500) (ad : Option Addr) (cap : Nat) (w : World) (hE : EvsV w ad l)
    (K : ∀ z, EvsV z ad l → Calls Try.prog 45 #[.agg #[.int .i64 T, .int .i64 lm], .slice ad n cap] z fun ee w' => ee = .returned (.agg #[.int .i64 a0, .int .i64 e0]) ∧ Below z.heap.size z w') :
    Calls Try.prog 9 #[.agg #[.int .i64 T, .int .i64 lm], .slice ad n cap, .int .i64 cl] w fun ee w' => ee = .returned (.bool true) ∧ Below w.heap.size w w' := by
  have HK := Lib.hid K
  have HE := Lib.hid hE
  have E := eqF2 a0 e0
  rw [decide_eq_false hne] at E
  have D1 : decide (500 < (n : Int)) = false := decide_eq_false (by omega)
  have D1b : decide (500 < n) = false := decide_eq_false (by omega)
  clear K hE hne
  go_enter Try.func9, Try.ntmps9
  go_wp2_with (first | go_guarded | (go_at_call 45; (with_reducible refine (HK.out _ (HE.out.below (by (repeat' (first | assumption | exact Below.refl _ _ | refine Below.setCell ?_ (by first | (simp; done) | omega | (simp; omega)) _ | refine Below.alloc ?_ (by first | (simp; done) | omega | (simp; omega)) _ | refine Below.drew ?_ | refine below_drewN ?_ _))))).mono ?_); rintro _ w1 ⟨rfl, hbel⟩; have HB1 : Hid (Below w.heap.size w w1) := Lib.hid (Below.trans (by (repeat' (first | assumption | exact Below.refl _ _ | refine Below.setCell ?_ (by first | (simp; done) | omega | (simp; omega)) _ | refine Below.alloc ?_ (by first | (simp; done) | omega | (simp; omega)) _ | refine Below.drew ?_ | refine below_drewN ?_ _))) (hbel.mono (by simp))); clear hbel) | (go_at_call 44; (with_reducible refine (late_c _).mono ?_); rintro _ w4 ⟨rfl, hb4⟩; have HB4 := Lib.hid (HB1.out.trans (hb4.mono HB1.out.size)); clear hb4))
  go_ret
  exact ⟨rfl, HB4.out⟩
set_option maxHeartbeats 16000000 in
theorem enough_c (T lm : Int) (l : List Ev) (n : Nat) (hln : l.length = n) (hn : n ≤ 500) (h1 : 1 ≤ T ∧ T ≤ 65536 ∧ 1 ≤ lm ∧ lm ≤ 16384) (cl : Int) (hcl : iok cl) (hwf : ∀ j, j < l.length → iok (evn l j).cls ∧ 0 ≤ (evn l j).tm ∧ 0 ≤ (evn l j).dn) (ad : Option Addr) (cap : Nat) (w : World) (hE : EvsV w ad l)
    (hz : ∀ j, j < l.length → codeAt T lm l j = 0) (K : ∀ z, EvsV z ad l → Calls Try.prog 45 #[.agg #[.int .i64 T, .int .i64 lm], .slice ad n cap] z fun ee w' => ee = .returned (.agg #[.int .i64 0, .int .i64 0]) ∧ Below z.heap.size z w') :
    Calls Try.prog 9 #[.agg #[.int .i64 T, .int .i64 lm], .slice ad n cap, .int .i64 cl] w fun ee w' => ee = .returned (.bool true) ∧ Below w.heap.size w w' := by
  have hen := enough hz cl l.length (Nat.le_refl _)
  rw [List.take_length] at hen
  have HLA := Lib.hid (fun i (hi : i < l.length) h => last_ok h1 hz hi (hwf i hi).2.1 h)
  have k1 := fun z (h : EvsV z ad l) => rofT_c l n hln hn cl ad cap z h
  have k2 := fun z (h : EvsV z ad l) => rofF_c l n hln hn cl ad cap z h
  have k3 := fun z (h : EvsV z ad l) => wait_c l n hln hn cl hcl ad cap z h
  have hwl := w_len l cl
  obtain ⟨LI, hLI⟩ : ∃ L, ofL l cl true = L := ⟨_, rfl⟩
  obtain ⟨LO, hLO⟩ : ∃ L, ofL l cl false = L := ⟨_, rfl⟩
  obtain ⟨LWT, hLW⟩ : ∃ L, wOf l cl = L := ⟨_, rfl⟩
  have hli : LI.length ≤ n := by rw [← hLI, ← hln]; unfold ofL; rw [List.length_map]; exact List.length_filter_le _ _
  rw [hLI, hLO, hLW] at hen
  simp only [hLI] at k1
  simp only [hLO] at k2
  simp only [hLW] at k3 hwl
  obtain ⟨mi, hmi⟩ : ∃ m, LI.length = m := ⟨_, rfl⟩
  obtain ⟨mo, hmo⟩ : ∃ m, LO.length = m := ⟨_, rfl⟩
  have hlen : mo + LWT.length = mi := by rw [← hmi, ← hmo, ← hen, List.length_append]
  have hlw : LWT.length = mi - mo := by omega
  have hmoi : mo ≤ mi := by omega
  have hit : LI.take mo = LO := by rw [← hen, ← hmo, List.take_left]
  have hid : LI.drop mo = LWT := by rw [← hen, ← hmo, List.drop_left]
  have ks1 := fun a1 a2 c1 c2 z h1 h2 => same_c LO mo hmo (by omega) a1 a2 c1 c2 z h1 h2
  have ks2 := fun a1 a2 c1 c2 z h1 h2 => same_c LWT (mi - mo) hlw (by omega) a1 a2 c1 c2 z h1 h2
  simp only [hmi] at hli
  simp only [hlw] at k3
  have HK := Lib.hid K
  have HE := Lib.hid hE
  have HLN := Lib.hid hln
  have K1 := Lib.hid k1
  have K2 := Lib.hid k2
  have KW := Lib.hid k3
  have KS1 := Lib.hid ks1
  have KS2 := Lib.hid ks2
  have HMI := Lib.hid hmi
  have HMO := Lib.hid hmo
  have HTK := Lib.hid hit
  have HDK := Lib.hid hid
  have EI := Lib.hid ev_info
  have E := eqF2 0 0
  rw [show decide ((0 : Int) = 0 ∧ (0 : Int) = 0) = true from rfl] at E
  have D1 : decide (500 < (n : Int)) = false := decide_eq_false (by omega)
  have D1b : decide (500 < n) = false := decide_eq_false (by omega)
  have D2 : decide ((mi : Int) < (mo : Int)) = false := decide_eq_false (by omega)
  have D2b : decide (mi < mo) = false := decide_eq_false (by omega)
  have HLW := Lib.hid hlw
  clear K hE hln k1 k2 k3 ks1 ks2 hmi hmo hit hid hen hLI hLO hLW hz hwf h1 hwl hlen hlw hcl
  go_enter Try.func9, Try.ntmps9
  go_wp2_with (first | go_guarded | (go_at_call 45; (with_reducible refine (HK.out _ (HE.out.below (by (repeat' (first | assumption | exact Below.refl _ _ | refine Below.setCell ?_ (by first | (simp; done) | omega | (simp; omega)) _ | refine Below.alloc ?_ (by first | (simp; done) | omega | (simp; omega)) _ | refine Below.drew ?_ | refine below_drewN ?_ _))))).mono ?_); rintro _ w1 ⟨rfl, hbel⟩; have HB1 : Hid (Below w.heap.size w w1) := Lib.hid (Below.trans (by (repeat' (first | assumption | exact Below.refl _ _ | refine Below.setCell ?_ (by first | (simp; done) | omega | (simp; omega)) _ | refine Below.alloc ?_ (by first | (simp; done) | omega | (simp; omega)) _ | refine Below.drew ?_ | refine below_drewN ?_ _))) (hbel.mono (by simp))); clear hbel) | (go_at_call 51; (with_reducible refine (K1.out _ (HE.out.below HB1.out)).mono ?_); rintro _ w2 ⟨⟨_, rfl, hofr⟩, hbel⟩; rw [OFR] at hofr; rw [HMI.out] at hofr; obtain ⟨ai, ci, rfl, hci1, hci2, hci3, hri⟩ := hofr; have HRI := Lib.hid hri; have HB2 := Lib.hid (HB1.out.trans (hbel.mono HB1.out.size)); have HC3 := Lib.hid hci3; clear hbel hri hci3) | (go_at_call 51; (with_reducible refine (K2.out _ (HE.out.below HB2.out)).mono ?_); rintro _ w3 ⟨⟨_, rfl, hofr⟩, hbel⟩; rw [OFR] at hofr; rw [HMO.out] at hofr; obtain ⟨ao, co, rfl, hco1, hco2, hco3, hro⟩ := hofr; have HOU := Lib.hid hro; have HRI3 := Lib.hid (HRI.out.below hbel); have HB3 := Lib.hid (HB2.out.trans (hbel.mono HB2.out.size)); have HE3 := Lib.hid (HE.out.below HB3.out); clear hbel hro hco3))
  rcases HC3.out with ⟨hai, hmi0, hci0⟩ | ⟨ib, io, hai⟩
  · subst hai hci0
    have hmi9 : mi = 0 := hmi0
    have hmo9 : mo = 0 := by omega
    subst hmi9 hmo9
    have HIT : Hid (RwV Pk.cells 6 w3 none LO) := Lib.hid (by rw [List.length_eq_zero_iff.1 HMO.out]; exact RwV.nil _ _)
    obtain ⟨Cl, hCl⟩ : ∃ Cl : List (Nat × Value) → World → Prop, Cl = ((fun ps wz => (w3.heap.size ≤ wz.heap.size ∧ Below w3.heap.size w3 wz) ∧ (match ps with | [] => True | (_, v) :: _ => ∃ aw cw, v = .slice aw (0) cw ∧ RwV Pk.cells 6 wz aw LWT))) := ⟨_, rfl⟩; have HCl := Lib.hid hCl; clear hCl; refine Reg2.wp_region_lineS [(0, false), (1, false), (2, false), (3, false), (4, false), (5, false), (6, false), (7, false), (8, false), (9, false), (10, false), (11, false), (12, false), (13, false), (14, false), (15, false), (16, false), (18, false), (19, false), (20, false), (21, false), (17, false), (22, false), (23, false), (24, false)] [17] Cl (by kernel_rfl) (by kernel_rfl) (by kernel_rfl) (by rw [HCl.out]; (try simp only [List.nil_append, List.cons_append]); (try dsimp only); exact ⟨⟨by simp, by (repeat' (first | assumption | exact Below.refl _ _ | refine Below.setCell ?_ (by first | (simp; done) | omega | (simp; omega)) _ | refine Below.alloc ?_ (by first | (simp; done) | omega | (simp; omega)) _ | refine Below.drew ?_ | refine below_drewN ?_ _))⟩, trivial⟩) ?_
    (repeat (first | (refine Reg2.wS_skip (by (simp only [List.getElem?_toArray, List.getElem?_cons_succ, List.getElem?_cons_zero]) <;> rfl) (by rfl) ?_; simp only [Act.put, Nat.reduceAdd, List.setIfInBounds_toArray, List.set_cons_zero, List.set_cons_succ, List.nil_append, List.cons_append]) | (refine Reg2.wS_open (by (simp only [List.getElem?_toArray, List.getElem?_cons_succ, List.getElem?_cons_zero]) <;> rfl) (by rfl) (by rfl) ?_; apply Exists.intro; refine ⟨fun vs wq hw => ?_, ?_⟩; (focus (rw [HCl.out] at hw; (try simp only [List.nil_append, List.cons_append] at hw); (try dsimp only at hw); go_split_ands; go_simp <;> first | with_reducible exact (rfl : Value.bool false = _) | with_reducible exact (rfl : Value.bool true = _) | ((try go_bits) <;> exact rfl))); simp only [Act.put, Nat.reduceAdd, List.setIfInBounds_toArray, List.set_cons_zero, List.set_cons_succ, List.nil_append, List.cons_append]) | (refine Reg2.wS_open (by (simp only [List.getElem?_toArray, List.getElem?_cons_succ, List.getElem?_cons_zero]) <;> rfl) (by rfl) (by rfl) ?_; apply Exists.intro; refine ⟨fun vs wq hw => ?_, ?_⟩; (focus (rw [HCl.out] at hw; (try simp only [List.nil_append, List.cons_append] at hw); (try dsimp only at hw); obtain ⟨⟨hz9, hb9⟩, hm9⟩ := hw; go_simp; go_at_call 48; (with_reducible refine (KS1.out _ _ _ _ _ (HOU.out.below hb9) (HIT.out.below hb9)).mono ?_); rintro e w' ⟨rfl, hbel⟩; refine ⟨rfl, ?_⟩; rw [HCl.out]; (try simp only [List.nil_append, List.cons_append]); (try dsimp only); refine ⟨⟨Nat.le_trans hz9 hbel.size, hb9.trans (hbel.mono hz9)⟩, ?_⟩; (rcases vs with _ | ⟨v9, vs⟩); exact trivial; (obtain ⟨a5, c5, e5, hr5⟩ := hm9; exact ⟨a5, c5, e5, hr5.below hbel⟩))); simp only [Act.put, Nat.reduceAdd, List.setIfInBounds_toArray, List.set_cons_zero, List.set_cons_succ, List.nil_append, List.cons_append])))
    refine Reg2.wS_eff (by (simp only [List.getElem?_toArray, List.getElem?_cons_succ, List.getElem?_cons_zero]) <;> rfl) (by rfl) (by rfl) (fun wq hw => ?_) (fun u9 hu => ?_)
    focus
      rw [HCl.out] at hw; (try simp only [List.nil_append, List.cons_append] at hw); (try dsimp only at hw)
      obtain ⟨⟨hz9, hb9⟩, -⟩ := hw
      go_simp
      go_at_call 49
      (with_reducible refine (KW.out _ (HE3.out.below hb9)).mono ?_)
      rintro e w' ⟨⟨aw, cw, rfl, hrw⟩, hbel⟩
      refine ⟨_, rfl, ?_⟩
      rw [HCl.out]; (try simp only [List.nil_append, List.cons_append]); (try dsimp only)
      exact ⟨⟨Nat.le_trans hz9 hbel.size, hb9.trans (hbel.mono hz9)⟩, aw, cw, rfl, hrw⟩
    (obtain ⟨wz, hz⟩ := hu; rw [HCl.out] at hz; (try simp only [List.nil_append, List.cons_append] at hz); (try dsimp only at hz))
    obtain ⟨-, aw, cw, rfl, -⟩ := hz
    clear wz
    simp only [Act.put, Nat.reduceAdd, List.setIfInBounds_toArray, List.set_cons_zero, List.set_cons_succ, List.nil_append, List.cons_append]
    (repeat (first | (refine Reg2.wS_skip (by (simp only [List.getElem?_toArray, List.getElem?_cons_succ, List.getElem?_cons_zero]) <;> rfl) (by rfl) ?_; simp only [Act.put, Nat.reduceAdd, List.setIfInBounds_toArray, List.set_cons_zero, List.set_cons_succ, List.nil_append, List.cons_append]) | (refine Reg2.wS_open (by (simp only [List.getElem?_toArray, List.getElem?_cons_succ, List.getElem?_cons_zero]) <;> rfl) (by rfl) (by rfl) ?_; apply Exists.intro; refine ⟨fun vs wq hw => ?_, ?_⟩; (focus (rw [HCl.out] at hw; (try simp only [List.nil_append, List.cons_append] at hw); (try dsimp only at hw); go_split_ands; go_simp <;> first | with_reducible exact (rfl : Value.bool false = _) | with_reducible exact (rfl : Value.bool true = _) | ((try go_bits) <;> exact rfl))); simp only [Act.put, Nat.reduceAdd, List.setIfInBounds_toArray, List.set_cons_zero, List.set_cons_succ, List.nil_append, List.cons_append]) | (refine Reg2.wS_open (by (simp only [List.getElem?_toArray, List.getElem?_cons_succ, List.getElem?_cons_zero]) <;> rfl) (by rfl) (by rfl) ?_; apply Exists.intro; refine ⟨fun vs wq hw => ?_, ?_⟩; (focus (rw [HCl.out] at hw; (try simp only [List.nil_append, List.cons_append] at hw); (try dsimp only at hw); obtain ⟨⟨hz9, hb9⟩, a5, c5, e5, hr5⟩ := hw; (injection e5 with e6 e7 e8); subst e6 e8; go_simp; go_at_call 48; (with_reducible refine (KS2.out _ _ _ _ _ hr5 ((by rw [List.length_eq_zero_iff.1 HLW.out]; exact RwV.nil _ _))).mono ?_); rintro e w' ⟨rfl, hbel⟩; refine ⟨rfl, ?_⟩; rw [HCl.out]; (try simp only [List.nil_append, List.cons_append]); (try dsimp only); exact ⟨⟨Nat.le_trans hz9 hbel.size, hb9.trans (hbel.mono hz9)⟩, _, _, rfl, hr5.below hbel⟩)); simp only [Act.put, Nat.reduceAdd, List.setIfInBounds_toArray, List.set_cons_zero, List.set_cons_succ, List.nil_append, List.cons_append])))
    refine Reg2.wS_nil ?_; intro w' hw; rw [HCl.out] at hw; (try simp only [List.nil_append, List.cons_append] at hw); (try dsimp only at hw); clear HCl
    rename World => w9
    obtain ⟨⟨hz9, hb9⟩, -⟩ := hw
    have HB9 : Hid (Below w.heap.size w w9) := Lib.hid (HB3.out.trans (hb9.mono HB3.out.size))
    clear hz9 hb9
    go_wp2
    go_loopg [56, 9] n (fun k9 s56 s9 wr => ∃ (i : Nat), s56 = .int .i64 i ∧ s9 = .int .u64 (stOf T lm (l.take i)).dn ∧ i ≤ n ∧ n - i ≤ k9 ∧ Below w.heap.size w wr)
    case atStart => exact ⟨0, rfl, rfl, by omega, by omega, HB9.out⟩
    case round =>
      obtain ⟨i, rfl, rfl, hi, hk, hbl⟩ := hrel
      have HBL := Lib.hid hbl
      by_cases hin : i < n
      · have hil : i < l.length := by rw [HLN.out]; exact hin
        obtain ⟨eb, eo, had, heb, hr⟩ := (HE.out.below hbl) i hil
        subst had
        have W4 : IntKind.i64.wrap ((i : Int) + 1) = ((i + 1 : Nat) : Int) := by rw [IntKind.wrap_i64]; omega
        have e9 : l[i] = evn l i := by unfold evn; rw [List.getD_eq_getElem?_getD, List.getElem?_eq_getElem hil]; rfl
        rw [e9] at hr
        have hst := st_next T lm hil
        have hok := fun h => HLA.out i hil h
        obtain ⟨e, he⟩ : ∃ e, evn l i = e := ⟨_, rfl⟩
        rw [he] at hr hst hok
        obtain ⟨D, hD⟩ : ∃ D, (stOf T lm (l.take i)).dn = D := ⟨_, rfl⟩
        rw [hD] at hok ⊢
        have hdn : (stOf T lm (l.take (i + 1))).dn = if e.inn = true then D else e.dn := by rw [hst, ← hD]; rfl
        clear e9 he hst hD
        cases hinn : e.inn with
        | true =>
          rw [hinn, if_pos rfl] at hdn
          have HDN := Lib.hid hdn
          clear hdn hok
          go_wp2_with (first | go_guarded | (refine wpList_load_mid rfl 96 _ rfl eb (eo + i * 12) rfl _ _ hr Try.underlying96 rfl EI.out ?_) | (refine wpList_store_new rfl 96 _ _ rfl _ #[.int .i64 (e).op, .bool (e).inn, .bool (e).real, .int .u64 (e).tm, .int .u64 (e).dn, .int .i64 (e).cls, .int .u64 (e).id, .int .i64 (e).ln, .int .u16 (e).a, .int .u16 (e).b, .int .u16 (e).c, .int .u16 (e).d] rfl rfl EI.out rfl (all_oneCell_toArray e.one) ?_))
          go_roundg (n - (i + 1))
          case rel =>
            refine ⟨i + 1, by first | rfl | go_num | (congr 1; omega), by rw [HDN.out], by omega, Nat.le_refl _, ?_⟩
            have hb := HBL.out
            have hs := hb.size
            (repeat' (first | assumption | exact Below.refl _ _ | refine Below.setCell ?_ (by first | (simp; done) | omega | (simp; omega)) _ | refine Below.alloc ?_ (by first | (simp; done) | omega | (simp; omega)) _ | refine Below.drew ?_ | refine below_drewN ?_ _))
          case measure => omega
        | false =>
          rw [hinn, if_neg (by simp)] at hdn
          obtain ⟨k1, k2⟩ := hok hinn
          have D8 : decide (e.tm < D) = false := decide_eq_false (by omega)
          have D9 : decide (e.dn ≤ e.tm) = false := decide_eq_false (by omega)
          have HDN := Lib.hid hdn
          clear hdn hok k1 k2
          go_wp2_with (first | go_guarded | (refine wpList_load_mid rfl 96 _ rfl eb (eo + i * 12) rfl _ _ hr Try.underlying96 rfl EI.out ?_) | (refine wpList_store_new rfl 96 _ _ rfl _ #[.int .i64 (e).op, .bool (e).inn, .bool (e).real, .int .u64 (e).tm, .int .u64 (e).dn, .int .i64 (e).cls, .int .u64 (e).id, .int .i64 (e).ln, .int .u16 (e).a, .int .u16 (e).b, .int .u16 (e).c, .int .u16 (e).d] rfl rfl EI.out rfl (all_oneCell_toArray e.one) ?_))
          go_roundg (n - (i + 1))
          case rel =>
            refine ⟨i + 1, by first | rfl | go_num | (congr 1; omega), by rw [HDN.out], by omega, Nat.le_refl _, ?_⟩
            have hb := HBL.out
            have hs := hb.size
            (repeat' (first | assumption | exact Below.refl _ _ | refine Below.setCell ?_ (by first | (simp; done) | omega | (simp; omega)) _ | refine Below.alloc ?_ (by first | (simp; done) | omega | (simp; omega)) _ | refine Below.drew ?_ | refine below_drewN ?_ _))
          case measure => omega
      · have hie : i = n := by omega
        subst hie
        clear hin
        go_wp2_with (first | go_guarded | (go_at_call 44; (with_reducible refine (late_c _).mono ?_); rintro _ w4 ⟨rfl, hb4⟩; have HB4 := Lib.hid (HBL.out.trans (hb4.mono HBL.out.size)); clear hb4))
        go_ret
        exact ⟨rfl, HB4.out⟩
  · subst hai
    have HIT : Hid (RwV Pk.cells 6 w3 (some ⟨ib, io, none⟩) LO) := Lib.hid (by rw [← HTK.out]; exact HRI3.out.snoc)
    have hmc : mo ≤ ci := by omega
    have hmc2 : (mo : Int) ≤ (ci : Int) := by omega
    have hmc3 : (mo : Int) ≤ (mi : Int) := by omega
    by_cases hcm : mo = ci
    · subst hcm
      have hmm : mi - mo = 0 := by omega
      simp only [hmm] at KS2 KW HLW
      clear hmm
      obtain ⟨Cl, hCl⟩ : ∃ Cl : List (Nat × Value) → World → Prop, Cl = ((fun ps wz => (w3.heap.size ≤ wz.heap.size ∧ Below w3.heap.size w3 wz) ∧ (match ps with | [] => True | (_, v) :: _ => ∃ aw cw, v = .slice aw (0) cw ∧ RwV Pk.cells 6 wz aw LWT))) := ⟨_, rfl⟩; have HCl := Lib.hid hCl; clear hCl; refine Reg2.wp_region_lineS [(0, false), (1, false), (2, false), (3, false), (4, false), (5, false), (6, false), (7, false), (8, false), (9, false), (10, false), (11, false), (12, false), (13, false), (14, false), (15, false), (16, false), (18, false), (19, false), (20, false), (21, false), (17, false), (22, false), (23, false), (24, false)] [17] Cl (by kernel_rfl) (by kernel_rfl) (by kernel_rfl) (by rw [HCl.out]; (try simp only [List.nil_append, List.cons_append]); (try dsimp only); exact ⟨⟨by simp, by (repeat' (first | assumption | exact Below.refl _ _ | refine Below.setCell ?_ (by first | (simp; done) | omega | (simp; omega)) _ | refine Below.alloc ?_ (by first | (simp; done) | omega | (simp; omega)) _ | refine Below.drew ?_ | refine below_drewN ?_ _))⟩, trivial⟩) ?_
      (repeat (first | (refine Reg2.wS_skip (by (simp only [List.getElem?_toArray, List.getElem?_cons_succ, List.getElem?_cons_zero]) <;> rfl) (by rfl) ?_; simp only [Act.put, Nat.reduceAdd, List.setIfInBounds_toArray, List.set_cons_zero, List.set_cons_succ, List.nil_append, List.cons_append]) | (refine Reg2.wS_open (by (simp only [List.getElem?_toArray, List.getElem?_cons_succ, List.getElem?_cons_zero]) <;> rfl) (by rfl) (by rfl) ?_; apply Exists.intro; refine ⟨fun vs wq hw => ?_, ?_⟩; (focus (rw [HCl.out] at hw; (try simp only [List.nil_append, List.cons_append] at hw); (try dsimp only at hw); go_split_ands; go_simp <;> first | with_reducible exact (rfl : Value.bool false = _) | with_reducible exact (rfl : Value.bool true = _) | ((try go_bits) <;> exact rfl))); simp only [Act.put, Nat.reduceAdd, List.setIfInBounds_toArray, List.set_cons_zero, List.set_cons_succ, List.nil_append, List.cons_append]) | (refine Reg2.wS_open (by (simp only [List.getElem?_toArray, List.getElem?_cons_succ, List.getElem?_cons_zero]) <;> rfl) (by rfl) (by rfl) ?_; apply Exists.intro; refine ⟨fun vs wq hw => ?_, ?_⟩; (focus (rw [HCl.out] at hw; (try simp only [List.nil_append, List.cons_append] at hw); (try dsimp only at hw); obtain ⟨⟨hz9, hb9⟩, hm9⟩ := hw; go_simp; go_at_call 48; (with_reducible refine (KS1.out _ _ _ _ _ (HOU.out.below hb9) (HIT.out.below hb9)).mono ?_); rintro e w' ⟨rfl, hbel⟩; refine ⟨rfl, ?_⟩; rw [HCl.out]; (try simp only [List.nil_append, List.cons_append]); (try dsimp only); refine ⟨⟨Nat.le_trans hz9 hbel.size, hb9.trans (hbel.mono hz9)⟩, ?_⟩; (rcases vs with _ | ⟨v9, vs⟩); exact trivial; (obtain ⟨a5, c5, e5, hr5⟩ := hm9; exact ⟨a5, c5, e5, hr5.below hbel⟩))); simp only [Act.put, Nat.reduceAdd, List.setIfInBounds_toArray, List.set_cons_zero, List.set_cons_succ, List.nil_append, List.cons_append])))
      refine Reg2.wS_eff (by (simp only [List.getElem?_toArray, List.getElem?_cons_succ, List.getElem?_cons_zero]) <;> rfl) (by rfl) (by rfl) (fun wq hw => ?_) (fun u9 hu => ?_)
      focus
        rw [HCl.out] at hw; (try simp only [List.nil_append, List.cons_append] at hw); (try dsimp only at hw)
        obtain ⟨⟨hz9, hb9⟩, -⟩ := hw
        go_simp
        go_at_call 49
        (with_reducible refine (KW.out _ (HE3.out.below hb9)).mono ?_)
        rintro e w' ⟨⟨aw, cw, rfl, hrw⟩, hbel⟩
        refine ⟨_, rfl, ?_⟩
        rw [HCl.out]; (try simp only [List.nil_append, List.cons_append]); (try dsimp only)
        exact ⟨⟨Nat.le_trans hz9 hbel.size, hb9.trans (hbel.mono hz9)⟩, aw, cw, rfl, hrw⟩
      (obtain ⟨wz, hz⟩ := hu; rw [HCl.out] at hz; (try simp only [List.nil_append, List.cons_append] at hz); (try dsimp only at hz))
      obtain ⟨-, aw, cw, rfl, -⟩ := hz
      clear wz
      simp only [Act.put, Nat.reduceAdd, List.setIfInBounds_toArray, List.set_cons_zero, List.set_cons_succ, List.nil_append, List.cons_append]
      (repeat (first | (refine Reg2.wS_skip (by (simp only [List.getElem?_toArray, List.getElem?_cons_succ, List.getElem?_cons_zero]) <;> rfl) (by rfl) ?_; simp only [Act.put, Nat.reduceAdd, List.setIfInBounds_toArray, List.set_cons_zero, List.set_cons_succ, List.nil_append, List.cons_append]) | (refine Reg2.wS_open (by (simp only [List.getElem?_toArray, List.getElem?_cons_succ, List.getElem?_cons_zero]) <;> rfl) (by rfl) (by rfl) ?_; apply Exists.intro; refine ⟨fun vs wq hw => ?_, ?_⟩; (focus (rw [HCl.out] at hw; (try simp only [List.nil_append, List.cons_append] at hw); (try dsimp only at hw); go_split_ands; go_simp <;> first | with_reducible exact (rfl : Value.bool false = _) | with_reducible exact (rfl : Value.bool true = _) | ((try go_bits) <;> exact rfl))); simp only [Act.put, Nat.reduceAdd, List.setIfInBounds_toArray, List.set_cons_zero, List.set_cons_succ, List.nil_append, List.cons_append]) | (refine Reg2.wS_open (by (simp only [List.getElem?_toArray, List.getElem?_cons_succ, List.getElem?_cons_zero]) <;> rfl) (by rfl) (by rfl) ?_; apply Exists.intro; refine ⟨fun vs wq hw => ?_, ?_⟩; (focus (rw [HCl.out] at hw; (try simp only [List.nil_append, List.cons_append] at hw); (try dsimp only at hw); obtain ⟨⟨hz9, hb9⟩, a5, c5, e5, hr5⟩ := hw; (injection e5 with e6 e7 e8); subst e6 e8; go_simp; go_at_call 48; (with_reducible refine (KS2.out _ _ _ _ _ hr5 ((by first | (rw [List.length_eq_zero_iff.1 (show LWT.length = 0 by have := HLW.out; omega)]; exact RwV.nil _ _) | (rw [List.length_eq_zero_iff.1 HLW.out]; exact RwV.nil _ _) | (rw [← HDK.out]; exact rwv_drop2 (HRI3.out.below hb9))))).mono ?_); rintro e w' ⟨rfl, hbel⟩; refine ⟨rfl, ?_⟩; rw [HCl.out]; (try simp only [List.nil_append, List.cons_append]); (try dsimp only); exact ⟨⟨Nat.le_trans hz9 hbel.size, hb9.trans (hbel.mono hz9)⟩, _, _, rfl, hr5.below hbel⟩)); simp only [Act.put, Nat.reduceAdd, List.setIfInBounds_toArray, List.set_cons_zero, List.set_cons_succ, List.nil_append, List.cons_append])))
      refine Reg2.wS_nil ?_; intro w' hw; rw [HCl.out] at hw; (try simp only [List.nil_append, List.cons_append] at hw); (try dsimp only at hw); clear HCl
      rename World => w9
      obtain ⟨⟨hz9, hb9⟩, -⟩ := hw
      have HB9 : Hid (Below w.heap.size w w9) := Lib.hid (HB3.out.trans (hb9.mono HB3.out.size))
      clear hz9 hb9
      go_wp2
      go_loopg [56, 9] n (fun k9 s56 s9 wr => ∃ (i : Nat), s56 = .int .i64 i ∧ s9 = .int .u64 (stOf T lm (l.take i)).dn ∧ i ≤ n ∧ n - i ≤ k9 ∧ Below w.heap.size w wr)
      case atStart => exact ⟨0, rfl, rfl, by omega, by omega, HB9.out⟩
      case round =>
        obtain ⟨i, rfl, rfl, hi, hk, hbl⟩ := hrel
        have HBL := Lib.hid hbl
        by_cases hin : i < n
        · have hil : i < l.length := by rw [HLN.out]; exact hin
          obtain ⟨eb, eo, had, heb, hr⟩ := (HE.out.below hbl) i hil
          subst had
          have W4 : IntKind.i64.wrap ((i : Int) + 1) = ((i + 1 : Nat) : Int) := by rw [IntKind.wrap_i64]; omega
          have e9 : l[i] = evn l i := by unfold evn; rw [List.getD_eq_getElem?_getD, List.getElem?_eq_getElem hil]; rfl
          rw [e9] at hr
          have hst := st_next T lm hil
          have hok := fun h => HLA.out i hil h
          obtain ⟨e, he⟩ : ∃ e, evn l i = e := ⟨_, rfl⟩
          rw [he] at hr hst hok
          obtain ⟨D, hD⟩ : ∃ D, (stOf T lm (l.take i)).dn = D := ⟨_, rfl⟩
          rw [hD] at hok ⊢
          have hdn : (stOf T lm (l.take (i + 1))).dn = if e.inn = true then D else e.dn := by rw [hst, ← hD]; rfl
          clear e9 he hst hD
          cases hinn : e.inn with
          | true =>
            rw [hinn, if_pos rfl] at hdn
            have HDN := Lib.hid hdn
            clear hdn hok
            go_wp2_with (first | go_guarded | (refine wpList_load_mid rfl 96 _ rfl eb (eo + i * 12) rfl _ _ hr Try.underlying96 rfl EI.out ?_) | (refine wpList_store_new rfl 96 _ _ rfl _ #[.int .i64 (e).op, .bool (e).inn, .bool (e).real, .int .u64 (e).tm, .int .u64 (e).dn, .int .i64 (e).cls, .int .u64 (e).id, .int .i64 (e).ln, .int .u16 (e).a, .int .u16 (e).b, .int .u16 (e).c, .int .u16 (e).d] rfl rfl EI.out rfl (all_oneCell_toArray e.one) ?_))
            go_roundg (n - (i + 1))
            case rel =>
              refine ⟨i + 1, by first | rfl | go_num | (congr 1; omega), by rw [HDN.out], by omega, Nat.le_refl _, ?_⟩
              have hb := HBL.out
              have hs := hb.size
              (repeat' (first | assumption | exact Below.refl _ _ | refine Below.setCell ?_ (by first | (simp; done) | omega | (simp; omega)) _ | refine Below.alloc ?_ (by first | (simp; done) | omega | (simp; omega)) _ | refine Below.drew ?_ | refine below_drewN ?_ _))
            case measure => omega
          | false =>
            rw [hinn, if_neg (by simp)] at hdn
            obtain ⟨k1, k2⟩ := hok hinn
            have D8 : decide (e.tm < D) = false := decide_eq_false (by omega)
            have D9 : decide (e.dn ≤ e.tm) = false := decide_eq_false (by omega)
            have HDN := Lib.hid hdn
            clear hdn hok k1 k2
            go_wp2_with (first | go_guarded | (refine wpList_load_mid rfl 96 _ rfl eb (eo + i * 12) rfl _ _ hr Try.underlying96 rfl EI.out ?_) | (refine wpList_store_new rfl 96 _ _ rfl _ #[.int .i64 (e).op, .bool (e).inn, .bool (e).real, .int .u64 (e).tm, .int .u64 (e).dn, .int .i64 (e).cls, .int .u64 (e).id, .int .i64 (e).ln, .int .u16 (e).a, .int .u16 (e).b, .int .u16 (e).c, .int .u16 (e).d] rfl rfl EI.out rfl (all_oneCell_toArray e.one) ?_))
            go_roundg (n - (i + 1))
            case rel =>
              refine ⟨i + 1, by first | rfl | go_num | (congr 1; omega), by rw [HDN.out], by omega, Nat.le_refl _, ?_⟩
              have hb := HBL.out
              have hs := hb.size
              (repeat' (first | assumption | exact Below.refl _ _ | refine Below.setCell ?_ (by first | (simp; done) | omega | (simp; omega)) _ | refine Below.alloc ?_ (by first | (simp; done) | omega | (simp; omega)) _ | refine Below.drew ?_ | refine below_drewN ?_ _))
            case measure => omega
        · have hie : i = n := by omega
          subst hie
          clear hin
          go_wp2_with (first | go_guarded | (go_at_call 44; (with_reducible refine (late_c _).mono ?_); rintro _ w4 ⟨rfl, hb4⟩; have HB4 := Lib.hid (HBL.out.trans (hb4.mono HBL.out.size)); clear hb4))
          go_ret
          exact ⟨rfl, HB4.out⟩
    · replace hcm : ¬ ci = mo := fun h => hcm h.symm
      obtain ⟨Cl, hCl⟩ : ∃ Cl : List (Nat × Value) → World → Prop, Cl = ((fun ps wz => (w3.heap.size ≤ wz.heap.size ∧ Below w3.heap.size w3 wz) ∧ (match ps with | [] => True | (_, v) :: _ => ∃ aw cw, v = .slice aw (mi - mo) cw ∧ RwV Pk.cells 6 wz aw LWT))) := ⟨_, rfl⟩; have HCl := Lib.hid hCl; clear hCl; refine Reg2.wp_region_lineS [(0, false), (1, false), (2, false), (3, false), (4, false), (5, false), (6, false), (7, false), (8, false), (9, false), (10, false), (11, false), (12, false), (13, false), (14, false), (15, false), (16, false), (18, false), (19, false), (20, false), (21, false), (17, false), (22, false), (23, false), (24, false)] [17] Cl (by kernel_rfl) (by kernel_rfl) (by kernel_rfl) (by rw [HCl.out]; (try simp only [List.nil_append, List.cons_append]); (try dsimp only); exact ⟨⟨by simp, by (repeat' (first | assumption | exact Below.refl _ _ | refine Below.setCell ?_ (by first | (simp; done) | omega | (simp; omega)) _ | refine Below.alloc ?_ (by first | (simp; done) | omega | (simp; omega)) _ | refine Below.drew ?_ | refine below_drewN ?_ _))⟩, trivial⟩) ?_
      (repeat (first | (refine Reg2.wS_skip (by (simp only [List.getElem?_toArray, List.getElem?_cons_succ, List.getElem?_cons_zero]) <;> rfl) (by rfl) ?_; simp only [Act.put, Nat.reduceAdd, List.setIfInBounds_toArray, List.set_cons_zero, List.set_cons_succ, List.nil_append, List.cons_append]) | (refine Reg2.wS_open (by (simp only [List.getElem?_toArray, List.getElem?_cons_succ, List.getElem?_cons_zero]) <;> rfl) (by rfl) (by rfl) ?_; apply Exists.intro; refine ⟨fun vs wq hw => ?_, ?_⟩; (focus (rw [HCl.out] at hw; (try simp only [List.nil_append, List.cons_append] at hw); (try dsimp only at hw); go_split_ands; go_simp <;> first | with_reducible exact (rfl : Value.bool false = _) | with_reducible exact (rfl : Value.bool true = _) | ((try go_bits) <;> exact rfl))); simp only [Act.put, Nat.reduceAdd, List.setIfInBounds_toArray, List.set_cons_zero, List.set_cons_succ, List.nil_append, List.cons_append]) | (refine Reg2.wS_open (by (simp only [List.getElem?_toArray, List.getElem?_cons_succ, List.getElem?_cons_zero]) <;> rfl) (by rfl) (by rfl) ?_; apply Exists.intro; refine ⟨fun vs wq hw => ?_, ?_⟩; (focus (rw [HCl.out] at hw; (try simp only [List.nil_append, List.cons_append] at hw); (try dsimp only at hw); obtain ⟨⟨hz9, hb9⟩, hm9⟩ := hw; go_simp; go_at_call 48; (with_reducible refine (KS1.out _ _ _ _ _ (HOU.out.below hb9) (HIT.out.below hb9)).mono ?_); rintro e w' ⟨rfl, hbel⟩; refine ⟨rfl, ?_⟩; rw [HCl.out]; (try simp only [List.nil_append, List.cons_append]); (try dsimp only); refine ⟨⟨Nat.le_trans hz9 hbel.size, hb9.trans (hbel.mono hz9)⟩, ?_⟩; (rcases vs with _ | ⟨v9, vs⟩); exact trivial; (obtain ⟨a5, c5, e5, hr5⟩ := hm9; exact ⟨a5, c5, e5, hr5.below hbel⟩))); simp only [Act.put, Nat.reduceAdd, List.setIfInBounds_toArray, List.set_cons_zero, List.set_cons_succ, List.nil_append, List.cons_append])))
      refine Reg2.wS_eff (by (simp only [List.getElem?_toArray, List.getElem?_cons_succ, List.getElem?_cons_zero]) <;> rfl) (by rfl) (by rfl) (fun wq hw => ?_) (fun u9 hu => ?_)
      focus
        rw [HCl.out] at hw; (try simp only [List.nil_append, List.cons_append] at hw); (try dsimp only at hw)
        obtain ⟨⟨hz9, hb9⟩, -⟩ := hw
        go_simp
        go_at_call 49
        (with_reducible refine (KW.out _ (HE3.out.below hb9)).mono ?_)
        rintro e w' ⟨⟨aw, cw, rfl, hrw⟩, hbel⟩
        refine ⟨_, rfl, ?_⟩
        rw [HCl.out]; (try simp only [List.nil_append, List.cons_append]); (try dsimp only)
        exact ⟨⟨Nat.le_trans hz9 hbel.size, hb9.trans (hbel.mono hz9)⟩, aw, cw, rfl, hrw⟩
      (obtain ⟨wz, hz⟩ := hu; rw [HCl.out] at hz; (try simp only [List.nil_append, List.cons_append] at hz); (try dsimp only at hz))
      obtain ⟨-, aw, cw, rfl, -⟩ := hz
      clear wz
      simp only [Act.put, Nat.reduceAdd, List.setIfInBounds_toArray, List.set_cons_zero, List.set_cons_succ, List.nil_append, List.cons_append]
      (repeat (first | (refine Reg2.wS_skip (by (simp only [List.getElem?_toArray, List.getElem?_cons_succ, List.getElem?_cons_zero]) <;> rfl) (by rfl) ?_; simp only [Act.put, Nat.reduceAdd, List.setIfInBounds_toArray, List.set_cons_zero, List.set_cons_succ, List.nil_append, List.cons_append]) | (refine Reg2.wS_open (by (simp only [List.getElem?_toArray, List.getElem?_cons_succ, List.getElem?_cons_zero]) <;> rfl) (by rfl) (by rfl) ?_; apply Exists.intro; refine ⟨fun vs wq hw => ?_, ?_⟩; (focus (rw [HCl.out] at hw; (try simp only [List.nil_append, List.cons_append] at hw); (try dsimp only at hw); go_split_ands; go_simp <;> first | with_reducible exact (rfl : Value.bool false = _) | with_reducible exact (rfl : Value.bool true = _) | ((try go_bits) <;> exact rfl))); simp only [Act.put, Nat.reduceAdd, List.setIfInBounds_toArray, List.set_cons_zero, List.set_cons_succ, List.nil_append, List.cons_append]) | (refine Reg2.wS_open (by (simp only [List.getElem?_toArray, List.getElem?_cons_succ, List.getElem?_cons_zero]) <;> rfl) (by rfl) (by rfl) ?_; apply Exists.intro; refine ⟨fun vs wq hw => ?_, ?_⟩; (focus (rw [HCl.out] at hw; (try simp only [List.nil_append, List.cons_append] at hw); (try dsimp only at hw); obtain ⟨⟨hz9, hb9⟩, a5, c5, e5, hr5⟩ := hw; (injection e5 with e6 e7 e8); subst e6 e8; go_simp; go_at_call 48; (with_reducible refine (KS2.out _ _ _ _ _ hr5 ((by first | (rw [List.length_eq_zero_iff.1 (show LWT.length = 0 by have := HLW.out; omega)]; exact RwV.nil _ _) | (rw [List.length_eq_zero_iff.1 HLW.out]; exact RwV.nil _ _) | (rw [← HDK.out]; exact rwv_drop2 (HRI3.out.below hb9))))).mono ?_); rintro e w' ⟨rfl, hbel⟩; refine ⟨rfl, ?_⟩; rw [HCl.out]; (try simp only [List.nil_append, List.cons_append]); (try dsimp only); exact ⟨⟨Nat.le_trans hz9 hbel.size, hb9.trans (hbel.mono hz9)⟩, _, _, rfl, hr5.below hbel⟩)); simp only [Act.put, Nat.reduceAdd, List.setIfInBounds_toArray, List.set_cons_zero, List.set_cons_succ, List.nil_append, List.cons_append])))
      refine Reg2.wS_nil ?_; intro w' hw; rw [HCl.out] at hw; (try simp only [List.nil_append, List.cons_append] at hw); (try dsimp only at hw); clear HCl
      rename World => w9
      obtain ⟨⟨hz9, hb9⟩, -⟩ := hw
      have HB9 : Hid (Below w.heap.size w w9) := Lib.hid (HB3.out.trans (hb9.mono HB3.out.size))
      clear hz9 hb9
      go_wp2
      go_loopg [56, 9] n (fun k9 s56 s9 wr => ∃ (i : Nat), s56 = .int .i64 i ∧ s9 = .int .u64 (stOf T lm (l.take i)).dn ∧ i ≤ n ∧ n - i ≤ k9 ∧ Below w.heap.size w wr)
      case atStart => exact ⟨0, rfl, rfl, by omega, by omega, HB9.out⟩
      case round =>
        obtain ⟨i, rfl, rfl, hi, hk, hbl⟩ := hrel
        have HBL := Lib.hid hbl
        by_cases hin : i < n
        · have hil : i < l.length := by rw [HLN.out]; exact hin
          obtain ⟨eb, eo, had, heb, hr⟩ := (HE.out.below hbl) i hil
          subst had
          have W4 : IntKind.i64.wrap ((i : Int) + 1) = ((i + 1 : Nat) : Int) := by rw [IntKind.wrap_i64]; omega
          have e9 : l[i] = evn l i := by unfold evn; rw [List.getD_eq_getElem?_getD, List.getElem?_eq_getElem hil]; rfl
          rw [e9] at hr
          have hst := st_next T lm hil
          have hok := fun h => HLA.out i hil h
          obtain ⟨e, he⟩ : ∃ e, evn l i = e := ⟨_, rfl⟩
          rw [he] at hr hst hok
          obtain ⟨D, hD⟩ : ∃ D, (stOf T lm (l.take i)).dn = D := ⟨_, rfl⟩
          rw [hD] at hok ⊢
          have hdn : (stOf T lm (l.take (i + 1))).dn = if e.inn = true then D else e.dn := by rw [hst, ← hD]; rfl
          clear e9 he hst hD
          cases hinn : e.inn with
          | true =>
            rw [hinn, if_pos rfl] at hdn
            have HDN := Lib.hid hdn
            clear hdn hok
            go_wp2_with (first | go_guarded | (refine wpList_load_mid rfl 96 _ rfl eb (eo + i * 12) rfl _ _ hr Try.underlying96 rfl EI.out ?_) | (refine wpList_store_new rfl 96 _ _ rfl _ #[.int .i64 (e).op, .bool (e).inn, .bool (e).real, .int .u64 (e).tm, .int .u64 (e).dn, .int .i64 (e).cls, .int .u64 (e).id, .int .i64 (e).ln, .int .u16 (e).a, .int .u16 (e).b, .int .u16 (e).c, .int .u16 (e).d] rfl rfl EI.out rfl (all_oneCell_toArray e.one) ?_))
            go_roundg (n - (i + 1))
            case rel =>
              refine ⟨i + 1, by first | rfl | go_num | (congr 1; omega), by rw [HDN.out], by omega, Nat.le_refl _, ?_⟩
              have hb := HBL.out
              have hs := hb.size
              (repeat' (first | assumption | exact Below.refl _ _ | refine Below.setCell ?_ (by first | (simp; done) | omega | (simp; omega)) _ | refine Below.alloc ?_ (by first | (simp; done) | omega | (simp; omega)) _ | refine Below.drew ?_ | refine below_drewN ?_ _))
            case measure => omega
          | false =>
            rw [hinn, if_neg (by simp)] at hdn
            obtain ⟨k1, k2⟩ := hok hinn
            have D8 : decide (e.tm < D) = false := decide_eq_false (by omega)
            have D9 : decide (e.dn ≤ e.tm) = false := decide_eq_false (by omega)
            have HDN := Lib.hid hdn
            clear hdn hok k1 k2
            go_wp2_with (first | go_guarded | (refine wpList_load_mid rfl 96 _ rfl eb (eo + i * 12) rfl _ _ hr Try.underlying96 rfl EI.out ?_) | (refine wpList_store_new rfl 96 _ _ rfl _ #[.int .i64 (e).op, .bool (e).inn, .bool (e).real, .int .u64 (e).tm, .int .u64 (e).dn, .int .i64 (e).cls, .int .u64 (e).id, .int .i64 (e).ln, .int .u16 (e).a, .int .u16 (e).b, .int .u16 (e).c, .int .u16 (e).d] rfl rfl EI.out rfl (all_oneCell_toArray e.one) ?_))
            go_roundg (n - (i + 1))
            case rel =>
              refine ⟨i + 1, by first | rfl | go_num | (congr 1; omega), by rw [HDN.out], by omega, Nat.le_refl _, ?_⟩
              have hb := HBL.out
              have hs := hb.size
              (repeat' (first | assumption | exact Below.refl _ _ | refine Below.setCell ?_ (by first | (simp; done) | omega | (simp; omega)) _ | refine Below.alloc ?_ (by first | (simp; done) | omega | (simp; omega)) _ | refine Below.drew ?_ | refine below_drewN ?_ _))
            case measure => omega
        · have hie : i = n := by omega
          subst hie
          clear hin
          go_wp2_with (first | go_guarded | (go_at_call 44; (with_reducible refine (late_c _).mono ?_); rintro _ w4 ⟨rfl, hb4⟩; have HB4 := Lib.hid (HBL.out.trans (hb4.mono HBL.out.size)); clear hb4))
          go_ret
          exact ⟨rfl, HB4.out⟩
theorem auditEnough_law (T lm : Int) (v : Value) (cl : Int) {w : World} (wT : (Lit.int .i64 T).wf = true) (wl : (Lit.int .i64 lm).wf = true) (hs : Op.FlatSlice w 12 [.int .i64, .bool, .bool, .int .u64, .int .u64, .int .i64, .int .u64, .int .i64, .int .u16, .int .u16, .int .u16, .int .u16] v) (wt : (Lit.int .i64 cl).wf = true) :
    Calls Try.prog 9 #[.agg #[.int .i64 T, .int .i64 lm], v, .int .i64 cl] w fun ee w' => ee = .returned (.bool true) ∧ Below w.heap.size w w' := by
  obtain ⟨ad, l, cap, rfl, -, -, hE, hwf⟩ := evs_of4 hs
  by_cases hn : l.length ≤ 500
  · by_cases h1 : 1 ≤ T ∧ T ≤ 65536 ∧ 1 ≤ lm ∧ lm ≤ 16384
    · obtain ⟨a0, e0, hck⟩ := CK.ex T lm l
      have K : ∀ z, EvsV z ad l → Calls Try.prog 45 #[.agg #[.int .i64 T, .int .i64 lm], .slice ad l.length cap] z fun ee w' => ee = .returned (.agg #[.int .i64 a0, .int .i64 e0]) ∧ Below z.heap.size z w' := fun z h => by
        refine (chk_c T lm l l.length rfl hn h1.1 h1.2.1 h1.2.2.1 h1.2.2.2 (fun j hj => (hwf j hj).1) ad cap z h).mono ?_
        rintro e w' ⟨⟨a, b, rfl, hc⟩, hb⟩
        obtain ⟨rfl, rfl⟩ := hc.uniq hck
        exact ⟨rfl, hb⟩
      by_cases h0 : a0 = 0 ∧ e0 = 0
      · obtain ⟨rfl, rfl⟩ := h0
        refine enough_c T lm l l.length rfl hn h1 cl wt hwf ad cap w hE ?_ K
        rcases hck with ⟨i, _, _, _, h9, _⟩ | ⟨_, _, h9⟩
        · exact absurd rfl h9
        · exact h9
      · exact lateW_c T lm l l.length a0 e0 cl h0 hn ad cap w hE K
    · exact lateW_c T lm l l.length 0 7 cl (by omega) hn ad cap w hE (fun z _ => chk_bad T lm h1 l.length ad cap z)
  · obtain ⟨n, hln⟩ : ∃ n, l.length = n := ⟨_, rfl⟩
    rw [hln] at hn ⊢
    have D1 : decide (500 < (n : Int)) = true := decide_eq_true (by omega)
    have D1b : decide (500 < n) = true := decide_eq_true (by omega)
    have K := Lib.hid late_c
    clear hs hE hln hn wt hwf wT wl
    go_enter Try.func9, Try.ntmps9
    go_wp2_with (first | go_guarded | (go_at_call 44; (with_reducible refine (K.out _).mono ?_); rintro _ w1 ⟨rfl, hbel⟩; have HB1 : Hid (Below w.heap.size w w1) := Lib.hid (Below.trans (by (repeat' (first | assumption | exact Below.refl _ _ | refine Below.setCell ?_ (by first | (simp; done) | omega | (simp; omega)) _ | refine Below.alloc ?_ (by first | (simp; done) | omega | (simp; omega)) _ | refine Below.drew ?_ | refine below_drewN ?_ _))) (hbel.mono (by simp))); clear hbel))
    go_ret
    exact ⟨rfl, HB1.out⟩
end Go.Proofs.Ytlenmhbhakeonaa
