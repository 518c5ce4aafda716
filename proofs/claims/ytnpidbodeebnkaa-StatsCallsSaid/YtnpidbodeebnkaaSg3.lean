/- Went. -/
import Derived.Test.YtnpidbodeebnkaaSg2
namespace Go.Proofs.Ytnpidbodeebnkaa
set_option linter.unusedVariables false
set_option linter.unusedSimpArgs false
set_option maxRecDepth 100000
open Go.RowKit Fg Reg Go.Maps
attribute [local irreducible] Reg.wN Reg.wE QR

theorem uw_self {α : Type} (f : Int → α) (c : Int) : uw f c (f c) = f := by funext x; unfold uw; split <;> simp_all
theorem wen_none {z : World} {B p mw mr : Nat} {f : Int → Option Value} {W : Int → List Int} {bk : Int → Option Nat} {R : Int → Option R5} (h : SG z B p mw mr f W bk R) {cl : Int} (hc : iok cl) (hw : W cl = []) (dn ln : Int) (rl : Bool) : Calls Try.prog 8 #[.pointer (some ⟨p, 0, none⟩), .int .i64 cl, .int .u64 dn, .int .i64 ln, .bool rl] z fun ee w' => ee = .returned (.int .i64 6) ∧ Below z.heap.size z w' := by
  have KW := Lib.hid (swait_c h hc)
  rw [hw] at KW
  have c0 := h.c0
  have plt := h.plt
  clear h
  go_enter Try.func8, Try.ntmps8
  go_wp2_with (go_at_call 14; ((with_reducible refine KW.out.mono ?_); rintro _ z1 ⟨rfl, hb⟩; have HB := Lib.hid hb; clear hb))
  go_ret
  exact ⟨rfl, HB.out⟩
theorem wen_len {z : World} {B p mw mr : Nat} {f : Int → Option Value} {W : Int → List Int} {bk : Int → Option Nat} {R : Int → Option R5} (h : SG z B p mw mr f W bk R) {cl : Int} (hc : iok cl) (hw : 0 < (W cl).length) (dn ln : Int) (rl : Bool) (hl : ln < 1) : Calls Try.prog 8 #[.pointer (some ⟨p, 0, none⟩), .int .i64 cl, .int .u64 dn, .int .i64 ln, .bool rl] z fun ee w' => ee = .returned (.int .i64 26) ∧ Below z.heap.size z w' := by
  have KW := Lib.hid (swait_c h hc)
  obtain ⟨m, hm⟩ : ∃ m, (W cl).length = m := ⟨_, rfl⟩
  rw [hm] at KW hw
  have em : ((m : Int) == 0) = false := by simp; omega
  have e1 : decide (ln < 1) = true := by simp; omega
  clear h hm
  go_enter Try.func8, Try.ntmps8
  go_wp2_with (go_at_call 14; ((with_reducible refine KW.out.mono ?_); rintro _ z1 ⟨rfl, hb⟩; have HB := Lib.hid hb; clear hb))
  go_ret
  exact ⟨rfl, HB.out⟩
theorem wen_head {z : World} {B p mw mr : Nat} {f : Int → Option Value} {W : Int → List Int} {bk : Int → Option Nat} {R : Int → Option R5} (h : SG z B p mw mr f W bk R) {cl a : Int} {r : List Int} (hw : W cl = a :: r) : ∃ b o cap, (f cl).getD (.slice none 0 0) = .slice (some ⟨b, o, none⟩) (r.length + 1) cap ∧ r.length + 1 ≤ cap ∧ z.cell? ⟨b, o, none⟩ = some (.int .u64 a) ∧ b < z.heap.size := by
  have hq := h.rows cl
  rw [hw] at hq
  unfold QR at hq
  rcases hq.2 with ⟨_, h2, _⟩ | ⟨b, o, cap, _, h1, h2, _, _, hb, _, hx⟩
  · simp at h2
  · exact ⟨b, o, cap, h1, h2, by simpa using hx 0 (.int .u64 a) rfl, hb⟩
set_option maxHeartbeats 4000000 in
theorem wen_clock {z : World} {B p mw mr : Nat} {f : Int → Option Value} {W : Int → List Int} {bk : Int → Option Nat} {R : Int → Option R5} (h : SG z B p mw mr f W bk R) {cl a : Int} {r : List Int} (hc : iok cl) (hw : W cl = a :: r) (hr : r.length ≤ 1000) (dn ln : Int) (rl : Bool) (hl : 1 ≤ ln) (hd : dn < a) : Calls Try.prog 8 #[.pointer (some ⟨p, 0, none⟩), .int .i64 cl, .int .u64 dn, .int .i64 ln, .bool rl] z fun ee w' => ee = .returned (.int .i64 27) ∧ Below z.heap.size z w' := by
  have KW := Lib.hid (swait_c h hc)
  obtain ⟨b, o, cap, hv, hcp, hce, hbl⟩ := wen_head h hw
  have hlk := h.lookw hc
  rw [hv] at hlk
  rw [hw, List.length_cons] at KW
  obtain ⟨m, hm⟩ : ∃ m, r.length + 1 = m := ⟨_, rfl⟩
  rw [hm] at KW hlk
  have hm1 : 1 ≤ m := by omega
  have hm0 : 0 < m := hm1
  have hml : (0 : Int) < (m : Int) := by omega
  have em : ((m : Int) == 0) = false := by simp; omega
  have e1 : decide (ln < 1) = false := by simp; omega
  have e2 : decide (dn < a) = true := by simp; omega
  have HS := Lib.hid h
  have HV := Lib.hid hv
  have HCC := Lib.hid hc
  have HLW := Lib.hid (fun (z' : World) (h : SG z' B p mw mr f W bk R) => (by have := h.lookw hc; rw [hv, hm] at this; exact this : (Instr.lookup 52 (.map (some mw)) (.int .i64 cl) false).run Try.prog z' = .ok ((Value.slice (some ⟨b, o, none⟩) m cap)) z'))
  have HCE := Lib.hid (fun (z' : World) (hb : Below z.heap.size z z') => ((hb.cell (p := ⟨b, o, none⟩) hbl).trans hce))
  have HBL := Lib.hid hbl
  have c0 := h.c0
  clear h hw hc hv hce hlk hm hcp hbl
  go_enter Try.func8, Try.ntmps8
  go_wp2_with (go_at_call 14; ((with_reducible refine KW.out.mono ?_); rintro _ z1 ⟨rfl, hb⟩; have hS := HS.out.below hb; have y0 := hS.c0; have y1 := hS.plt; have hlk := HLW.out _ hS; have hcl := HCE.out _ hb; have hbz := Nat.lt_of_lt_of_le HBL.out hb.size; have HB := Lib.hid hb; clear hb hS))
  go_ret
  exact ⟨rfl, HB.out⟩
/-- What Went leaves. -/
def WenP (z : World) (B p mw mr : Nat) (f : Int → Option Value) (W : Int → List Int) (bk : Int → Option Nat) (R : Int → Option R5) (cl : Int) (r : List Int) (X : R5) (e : Ending) (z' : World) : Prop := e = .returned (.int .i64 0) ∧ ∃ v, SG z' B p mw mr (upd f cl v) (uw W cl r) bk (upd R cl X) ∧ Only (fun k => k = mw ∨ k = mr) z z'
set_option maxHeartbeats 16000000 in
theorem wen_ok {z : World} {B p mw mr : Nat} {f : Int → Option Value} {W : Int → List Int} {bk : Int → Option Nat} {R : Int → Option R5} (h : SG z B p mw mr f W bk R) {cl a : Int} {r : List Int} (hc : iok cl) (hw : W cl = a :: r) (hr : r.length ≤ 1000) (dn ln : Int) (rl : Bool) (hl : 1 ≤ ln) (hl2 : ln ≤ 9223372036854775807) (ha : 0 ≤ a) (hd : a ≤ dn) (hdn : dn ≤ 18446744073709551615) : Calls Try.prog 8 #[.pointer (some ⟨p, 0, none⟩), .int .i64 cl, .int .u64 dn, .int .i64 ln, .bool rl] z (WenP z B p mw mr f W bk R cl r (tog ((R cl).getD r50) ⟨1, ln, if rl = true then 1 else 0, dn - a, dn - a⟩)) := by
  have KW0 := swait_c h hc
  obtain ⟨b, o, cap, hv, hcp, hce, hbl⟩ := wen_head h hw
  rw [hw, List.length_cons] at KW0
  obtain ⟨m, hm⟩ : ∃ m, r.length + 1 = m := ⟨_, rfl⟩
  rw [hm] at KW0 hv hcp
  have hm1 : 1 ≤ m := by omega
  have hm0 : 0 < m := hm1
  have hml : (0 : Int) < (m : Int) := by omega
  have hml1 : (1 : Int) ≤ (m : Int) := by omega
  have hmb : m ≤ 1001 := by omega
  have em : ((m : Int) == 0) = false := by simp; omega
  have e1 : decide (ln < 1) = false := by simp; omega
  have e2 : decide (dn < a) = false := by simp; omega
  have w1' : IntKind.u64.wrap (dn - a) = dn - a := by rw [wrap_u64]; omega
  have w2' : IntKind.u64.wrap ln = ln := by rw [wrap_u64]; omega
  have H := Lib.hid h
  have HV := Lib.hid hv
  have HC := Lib.hid hc
  have HWC := Lib.hid hw
  have HM0 := Lib.hid hm0
  have HLEN : Hid ((a :: r).length = m) := Lib.hid (by rw [List.length_cons]; exact hm)
  have HLR : Hid (r.length = m - 1) := Lib.hid (by omega)
  have HLW := Lib.hid (fun (z' : World) (h : SG z' B p mw mr f W bk R) => (by have := h.lookw hc; rw [hv] at this; exact this : (Instr.lookup 52 (.map (some mw)) (.int .i64 cl) false).run Try.prog z' = .ok ((Value.slice (some ⟨b, o, none⟩) m cap)) z'))
  have HCE := Lib.hid (fun (z' : World) (h : SG z' B p mw mr f W bk R) => (by
    obtain ⟨b2, o2, cap2, hv2, _, hce2, hbl2⟩ := wen_head h hw
    rw [hv] at hv2
    injection hv2 with g1 g2 g3
    injection g1 with g1
    injection g1 with g4 g5
    subst g4 g5
    exact ⟨hce2, hbl2⟩ : z'.cell? ⟨b, o, none⟩ = some (.int .u64 a) ∧ b < z'.heap.size))
  have HLR0 := Lib.hid (fun (z' : World) (f' : Int → Option Value) (W' : Int → List Int) (h : SG z' B p mw mr f' W' bk R) => h.lookr hc)
  have hmn := map_nn mw
  clear h hw hc hv hce hm hcp hbl
  cases rl with
  | true =>
    simp only [if_true]
    have KW := Lib.hid KW0
    generalize hRR : (R cl).getD r50 = RR at HLR0 ⊢
    have HT0 := Lib.hid (fun z' => tog_c RR ⟨1, ln, 1, dn - a, dn - a⟩ z')
    generalize tog RR ⟨1, ln, 1, dn - a, dn - a⟩ = X at HT0 ⊢
    unfold r5v at HT0
    dsimp only at HT0
    unfold r5v at HLR0
    clear hRR
    go_enter Try.func8, Try.ntmps8
    go_wp2_with (go_at_call 14; ((with_reducible refine KW.out.mono ?_); rintro _ z1 ⟨rfl, hb⟩; have hS := H.out.below hb; have HBZ := Lib.hid hb; have c0 := hS.c0; have plt := hS.plt; have hlk := HLW.out _ hS; have hcl := HCE.out _ hS; clear hb))
    have hbq : Below z1.heap.size z1 z1.drew := Below.drew (Below.refl _ _)
    have hSd := hS.below hbq
    have hlkd := HLW.out _ hSd
    have hO0 : Only (fun k => k = mw ∨ k = mr) z1 z1.drew := Only.of_below hbq
    obtain ⟨Cl, hCl⟩ : ∃ Cl : List (Nat × Value) → World → Prop, Cl = ((fun ps wz => ((wz.cell? ⟨p, 0, none⟩ = some (.map (some mw)) ∧ wz.cell? ⟨p, 1, none⟩ = some (.map (some mr)) ∧ p < wz.heap.size)) ∧ (match ps with
      | [] => (Instr.lookup 52 (.map (some mw)) (.int .i64 cl) false).run Try.prog wz = .ok ((Value.slice (some ⟨b, o, none⟩) m cap)) wz ∧ SG wz B p mw mr f W bk R ∧ Only (fun k => k = mw ∨ k = mr) z1 wz
      | [(_, v)] => v = Value.slice (some ⟨b, o, none⟩) m cap ∧ SG wz B p mw mr f W bk R ∧ Only (fun k => k = mw ∨ k = mr) z1 wz
      | _ => SG wz B p mw mr (upd f cl (tlq 1 b o m cap)) (uw W cl r) bk R ∧ Only (fun k => k = mw ∨ k = mr) z1 wz))) := ⟨_, rfl⟩; have HCl := Lib.hid hCl; clear hCl; refine Reg2.wp_region_lineS [(0, false), (1, false), (2, false), (3, false), (4, false), (5, false), (6, false), (7, false), (8, false), (9, false), (10, false), (11, false), (12, false)] [10, 12] Cl (by kernel_rfl) (by kernel_rfl) (by kernel_rfl) (by rw [HCl.out]; (try simp only [List.nil_append, List.cons_append]); (try dsimp only); exact ⟨⟨hSd.c0, hSd.c1, hSd.plt⟩, hlkd, hSd, hO0⟩) ?_
    clear hSd hlkd hO0 hbq hlk hcl
    (repeat (first | (refine Reg2.wS_skip (by (simp only [List.getElem?_toArray, List.getElem?_cons_succ, List.getElem?_cons_zero]) <;> rfl) (by rfl) ?_; simp only [Act.put, Nat.reduceAdd, List.setIfInBounds_toArray, List.set_cons_zero, List.set_cons_succ, List.nil_append, List.cons_append]) | (refine Reg2.wS_open (by (simp only [List.getElem?_toArray, List.getElem?_cons_succ, List.getElem?_cons_zero]) <;> rfl) (by rfl) (by rfl) ?_; apply Exists.intro; refine ⟨fun vs wq hw => ?_, ?_⟩; (focus (rw [HCl.out] at hw; (try simp only [List.nil_append, List.cons_append] at hw); (try dsimp only at hw); go_split_ands; go_simp <;> first | with_reducible exact (rfl : Value.bool false = _) | with_reducible exact (rfl : Value.bool true = _) | ((try go_bits) <;> exact rfl))); simp only [Act.put, Nat.reduceAdd, List.setIfInBounds_toArray, List.set_cons_zero, List.set_cons_succ, List.nil_append, List.cons_append])))
    refine Reg2.wS_eff (by (simp only [List.getElem?_toArray, List.getElem?_cons_succ, List.getElem?_cons_zero]) <;> rfl) (by rfl) (by rfl) (fun wq hw => ?_) (fun u9 hu => ?_)
    focus
      rw [HCl.out] at hw; (try simp only [List.nil_append, List.cons_append] at hw); (try dsimp only at hw)
      obtain ⟨hKF, hlk, hM, hO⟩ := hw
      go_simp
      rw [HCl.out]; (try simp only [List.nil_append, List.cons_append]); (try dsimp only)
      exact ⟨hKF, (by first | rfl | trivial), hM, hO⟩
    (obtain ⟨wz, hz⟩ := hu; rw [HCl.out] at hz; (try simp only [List.nil_append, List.cons_append] at hz); (try dsimp only at hz))
    obtain ⟨-, rfl, -⟩ := hz
    clear wz
    simp only [Act.put, Nat.reduceAdd, List.setIfInBounds_toArray, List.set_cons_zero, List.set_cons_succ, List.nil_append, List.cons_append]
    (repeat (first | (refine Reg2.wS_skip (by (simp only [List.getElem?_toArray, List.getElem?_cons_succ, List.getElem?_cons_zero]) <;> rfl) (by rfl) ?_; simp only [Act.put, Nat.reduceAdd, List.setIfInBounds_toArray, List.set_cons_zero, List.set_cons_succ, List.nil_append, List.cons_append]) | (refine Reg2.wS_open (by (simp only [List.getElem?_toArray, List.getElem?_cons_succ, List.getElem?_cons_zero]) <;> rfl) (by rfl) (by rfl) ?_; apply Exists.intro; refine ⟨fun vs wq hw => ?_, ?_⟩; (focus (rw [HCl.out] at hw; (try simp only [List.nil_append, List.cons_append] at hw); (try dsimp only at hw); go_split_ands; go_simp <;> first | with_reducible exact (rfl : Value.bool false = _) | with_reducible exact (rfl : Value.bool true = _) | ((try go_bits) <;> exact rfl))); simp only [Act.put, Nat.reduceAdd, List.setIfInBounds_toArray, List.set_cons_zero, List.set_cons_succ, List.nil_append, List.cons_append])))
    refine Reg2.wS_eff (by (simp only [List.getElem?_toArray, List.getElem?_cons_succ, List.getElem?_cons_zero]) <;> rfl) (by rfl) (by rfl) (fun wq hw => ?_) (fun u9 hu => ?_)
    focus
      rw [HCl.out] at hw; (try simp only [List.nil_append, List.cons_append] at hw); (try dsimp only at hw)
      obtain ⟨⟨y0, y1, y2⟩, -, hM, hO⟩ := hw
      obtain ⟨n, hn⟩ := hM.mp
      have hq := hM.rows cl
      rw [HV.out, HWC.out] at hq
      have hqt := QR.tail (s := 1) (by rw [HLEN.out] at hq; exact hq) HM0.out
      obtain ⟨w3, hr, h1, h2, h3⟩ := hn.update ikok Try.underlying52 HC.out (tlq 1 b o m cap)
      refine eff2_mapUpdate _ _ _ 52 rfl rfl rfl rfl hr ?_
      rw [HCl.out]; (try simp only [List.nil_append, List.cons_append]); (try dsimp only)
      have hP := hM.putw (c := cl) (L := r) (bc := bk cl) (Only.refl _ _) (by rw [HLR.out]; exact hqt) (fun b hb => .inl hb) h1 h2
      rw [uw_self] at hP
      exact ⟨⟨hP.c0, hP.c1, hP.plt⟩, hP, hO.trans (h2.mono (T := (fun k => k = mw ∨ k = mr)) (fun k hk => .inl hk))⟩
    clear hu
    simp only [Act.put, Nat.reduceAdd, List.setIfInBounds_toArray, List.set_cons_zero, List.set_cons_succ, List.nil_append, List.cons_append]
    (repeat (first | (refine Reg2.wS_skip (by (simp only [List.getElem?_toArray, List.getElem?_cons_succ, List.getElem?_cons_zero]) <;> rfl) (by rfl) ?_; simp only [Act.put, Nat.reduceAdd, List.setIfInBounds_toArray, List.set_cons_zero, List.set_cons_succ, List.nil_append, List.cons_append]) | (refine Reg2.wS_open (by (simp only [List.getElem?_toArray, List.getElem?_cons_succ, List.getElem?_cons_zero]) <;> rfl) (by rfl) (by rfl) ?_; apply Exists.intro; refine ⟨fun vs wq hw => ?_, ?_⟩; (focus (rw [HCl.out] at hw; (try simp only [List.nil_append, List.cons_append] at hw); (try dsimp only at hw); go_split_ands; go_simp <;> first | with_reducible exact (rfl : Value.bool false = _) | with_reducible exact (rfl : Value.bool true = _) | ((try go_bits) <;> exact rfl))); simp only [Act.put, Nat.reduceAdd, List.setIfInBounds_toArray, List.set_cons_zero, List.set_cons_succ, List.nil_append, List.cons_append])))
    refine Reg2.wS_nil ?_; intro w' hw; rw [HCl.out] at hw; (try simp only [List.nil_append, List.cons_append] at hw); (try dsimp only at hw); clear HCl
    obtain ⟨-, hM3, hO3⟩ := hw
    have HM3 := Lib.hid hM3
    have HO3 := Lib.hid hO3
    have HQN : Hid (¬ w'.heap.size = mr) := Lib.hid (fun g => by have := hM3.ltr; have := hM3.hB; omega)
    clear hS hM3 hO3
    rw [show (Value.slice (if cap = 1 then some ⟨b, o, none⟩ else some ⟨b, o + 1, none⟩) (m - 1) (cap - 1)) = tlq 1 b o m cap from rfl]
    generalize hT2 : tlq 1 b o m cap = tv at *
    go_wp2
    have hA : Below w'.heap.size w' (w'.alloc (.cells #[.int .u64 1, .int .u64 ln, .int .u64 1, .int .u64 (dn - a), .int .u64 (dn - a)] 39)) := Below.alloc (Below.refl _ _) (Nat.le_refl _) _
    have hN := (HM3.out.below hA).below (Below.drew (Below.refl _ _))
    have hON : Only (fun k => k = mw ∨ k = mr) w' (w'.alloc (.cells #[.int .u64 1, .int .u64 ln, .int .u64 1, .int .u64 (dn - a), .int .u64 (dn - a)] 39)).drew := Only.of_below (Below.drew hA)
    have hLr := HLR0.out _ _ _ hN
    obtain ⟨Cl, hCl⟩ : ∃ Cl : List (Nat × Value) → World → Prop, Cl = ((fun ps wz => ((wz.cell? ⟨p, 0, none⟩ = some (.map (some mw)) ∧ wz.cell? ⟨p, 1, none⟩ = some (.map (some mr)) ∧ p < wz.heap.size) ∧ wz.cell? ⟨w'.heap.size, 0, none⟩ = some (.int .u64 1) ∧ wz.cell? ⟨w'.heap.size, 1, none⟩ = some (.int .u64 ln) ∧ wz.cell? ⟨w'.heap.size, 2, none⟩ = some (.int .u64 1) ∧ wz.cell? ⟨w'.heap.size, 3, none⟩ = some (.int .u64 (dn - a)) ∧ wz.cell? ⟨w'.heap.size, 4, none⟩ = some (.int .u64 (dn - a)) ∧ w'.heap.size < wz.heap.size) ∧ (match ps with
      | [] => ((Instr.lookup 53 (.map (some mr)) (.int .i64 cl) false).run Try.prog wz = .ok (.agg #[.int .u64 (RR).a, .int .u64 (RR).b, .int .u64 (RR).c, .int .u64 (RR).d, .int .u64 (RR).e]) wz) ∧ SG wz B p mw mr (upd f cl (tv)) (uw W cl r) bk R ∧ Only (fun k => k = mw ∨ k = mr) w' wz
      | [(_, v)] => v = .agg #[.int .u64 (RR).a, .int .u64 (RR).b, .int .u64 (RR).c, .int .u64 (RR).d, .int .u64 (RR).e] ∧ SG wz B p mw mr (upd f cl (tv)) (uw W cl r) bk R ∧ Only (fun k => k = mw ∨ k = mr) w' wz
      | [_, (_, v)] => v = .agg #[.int .u64 (X).a, .int .u64 (X).b, .int .u64 (X).c, .int .u64 (X).d, .int .u64 (X).e] ∧ SG wz B p mw mr (upd f cl (tv)) (uw W cl r) bk R ∧ Only (fun k => k = mw ∨ k = mr) w' wz
      | _ => SG wz B p mw mr (upd f cl (tv)) (uw W cl r) bk (upd R cl X) ∧ Only (fun k => k = mw ∨ k = mr) w' wz))) := ⟨_, rfl⟩; have HCl := Lib.hid hCl; clear hCl; refine Reg2.wp_region_lineS [(0, false), (1, false), (2, false), (3, false), (4, false), (5, false), (6, false), (7, false), (8, false), (9, false), (11, false), (10, false), (12, false), (13, false)] [10, 12, 13] Cl (by kernel_rfl) (by kernel_rfl) (by kernel_rfl) (by rw [HCl.out]; (try simp only [List.nil_append, List.cons_append]); (try dsimp only); exact ⟨⟨⟨hN.c0, hN.c1, hN.plt⟩, ⟨by simp [go_sem], by simp [go_sem], by simp [go_sem], by simp [go_sem], by simp [go_sem], by simp⟩⟩, hLr, hN, hON⟩) ?_
    clear hN hLr hON hA
    (repeat (first | (refine Reg2.wS_skip (by (simp only [List.getElem?_toArray, List.getElem?_cons_succ, List.getElem?_cons_zero]) <;> rfl) (by rfl) ?_; simp only [Act.put, Nat.reduceAdd, List.setIfInBounds_toArray, List.set_cons_zero, List.set_cons_succ, List.nil_append, List.cons_append]) | (refine Reg2.wS_open (by (simp only [List.getElem?_toArray, List.getElem?_cons_succ, List.getElem?_cons_zero]) <;> rfl) (by rfl) (by rfl) ?_; apply Exists.intro; refine ⟨fun vs wq hw => ?_, ?_⟩; (focus (rw [HCl.out] at hw; (try simp only [List.nil_append, List.cons_append] at hw); (try dsimp only at hw); go_split_ands; go_simp <;> first | with_reducible exact (rfl : Value.bool false = _) | with_reducible exact (rfl : Value.bool true = _) | ((try go_bits) <;> exact rfl))); simp only [Act.put, Nat.reduceAdd, List.setIfInBounds_toArray, List.set_cons_zero, List.set_cons_succ, List.nil_append, List.cons_append])))
    refine Reg2.wS_eff (by (simp only [List.getElem?_toArray, List.getElem?_cons_succ, List.getElem?_cons_zero]) <;> rfl) (by rfl) (by rfl) (fun wq hw => ?_) (fun u9 hu => ?_)
    focus
      rw [HCl.out] at hw; (try simp only [List.nil_append, List.cons_append] at hw); (try dsimp only at hw)
      obtain ⟨hKF, hlk, hM, hO⟩ := hw
      go_simp
      rw [HCl.out]; (try simp only [List.nil_append, List.cons_append]); (try dsimp only)
      exact ⟨hKF, (by first | rfl | trivial), hM, hO⟩
    (obtain ⟨wz, hz⟩ := hu; rw [HCl.out] at hz; (try simp only [List.nil_append, List.cons_append] at hz); (try dsimp only at hz))
    obtain ⟨-, rfl, -⟩ := hz
    clear wz
    simp only [Act.put, Nat.reduceAdd, List.setIfInBounds_toArray, List.set_cons_zero, List.set_cons_succ, List.nil_append, List.cons_append]
    (repeat (first | (refine Reg2.wS_skip (by (simp only [List.getElem?_toArray, List.getElem?_cons_succ, List.getElem?_cons_zero]) <;> rfl) (by rfl) ?_; simp only [Act.put, Nat.reduceAdd, List.setIfInBounds_toArray, List.set_cons_zero, List.set_cons_succ, List.nil_append, List.cons_append]) | (refine Reg2.wS_open (by (simp only [List.getElem?_toArray, List.getElem?_cons_succ, List.getElem?_cons_zero]) <;> rfl) (by rfl) (by rfl) ?_; apply Exists.intro; refine ⟨fun vs wq hw => ?_, ?_⟩; (focus (rw [HCl.out] at hw; (try simp only [List.nil_append, List.cons_append] at hw); (try dsimp only at hw); go_split_ands; go_simp <;> first | with_reducible exact (rfl : Value.bool false = _) | with_reducible exact (rfl : Value.bool true = _) | ((try go_bits) <;> exact rfl))); simp only [Act.put, Nat.reduceAdd, List.setIfInBounds_toArray, List.set_cons_zero, List.set_cons_succ, List.nil_append, List.cons_append])))
    refine Reg2.wS_eff (by (simp only [List.getElem?_toArray, List.getElem?_cons_succ, List.getElem?_cons_zero]) <;> rfl) (by rfl) (by rfl) (fun wq hw => ?_) (fun u9 hu => ?_)
    focus
      rw [HCl.out] at hw; (try simp only [List.nil_append, List.cons_append] at hw); (try dsimp only at hw)
      obtain ⟨⟨⟨y0, y1, y2⟩, hrc⟩, -, hM, hO⟩ := hw
      go_simp
      go_at_call 20
      (with_reducible refine (HT0.out _).mono ?_)
      rintro e w9 ⟨rfl, hbel⟩
      refine ⟨_, rfl, ?_⟩
      rw [HCl.out]; (try simp only [List.nil_append, List.cons_append]); (try dsimp only)
      have hS9 := hM.below hbel
      obtain ⟨x0, x1, x2, x3, x4, xl⟩ := hrc
      exact ⟨⟨⟨hS9.c0, hS9.c1, hS9.plt⟩, (hbel.cell xl).trans x0, (hbel.cell xl).trans x1, (hbel.cell xl).trans x2, (hbel.cell xl).trans x3, (hbel.cell xl).trans x4, Nat.lt_of_lt_of_le xl hbel.size⟩, (by first | rfl | trivial), hS9, hO.trans (Only.of_below hbel)⟩
    (obtain ⟨wz, hz⟩ := hu; rw [HCl.out] at hz; (try simp only [List.nil_append, List.cons_append] at hz); (try dsimp only at hz))
    obtain ⟨-, rfl, -⟩ := hz
    clear wz
    simp only [Act.put, Nat.reduceAdd, List.setIfInBounds_toArray, List.set_cons_zero, List.set_cons_succ, List.nil_append, List.cons_append]
    (repeat (first | (refine Reg2.wS_skip (by (simp only [List.getElem?_toArray, List.getElem?_cons_succ, List.getElem?_cons_zero]) <;> rfl) (by rfl) ?_; simp only [Act.put, Nat.reduceAdd, List.setIfInBounds_toArray, List.set_cons_zero, List.set_cons_succ, List.nil_append, List.cons_append]) | (refine Reg2.wS_open (by (simp only [List.getElem?_toArray, List.getElem?_cons_succ, List.getElem?_cons_zero]) <;> rfl) (by rfl) (by rfl) ?_; apply Exists.intro; refine ⟨fun vs wq hw => ?_, ?_⟩; (focus (rw [HCl.out] at hw; (try simp only [List.nil_append, List.cons_append] at hw); (try dsimp only at hw); go_split_ands; go_simp <;> first | with_reducible exact (rfl : Value.bool false = _) | with_reducible exact (rfl : Value.bool true = _) | ((try go_bits) <;> exact rfl))); simp only [Act.put, Nat.reduceAdd, List.setIfInBounds_toArray, List.set_cons_zero, List.set_cons_succ, List.nil_append, List.cons_append])))
    refine Reg2.wS_eff (by (simp only [List.getElem?_toArray, List.getElem?_cons_succ, List.getElem?_cons_zero]) <;> rfl) (by rfl) (by rfl) (fun wq hw => ?_) (fun u9 hu => ?_)
    focus
      rw [HCl.out] at hw; (try simp only [List.nil_append, List.cons_append] at hw); (try dsimp only at hw)
      obtain ⟨⟨⟨y0, y1, y2⟩, x0, x1, x2, x3, x4, xl⟩, -, hM, hO⟩ := hw
      obtain ⟨n, hn⟩ := hM.mpr
      obtain ⟨w3, hr, h1, h2, h3⟩ := hn.update ikok Try.underlying53 HC.out X
      refine eff2_mapUpdate _ _ _ 53 rfl rfl rfl rfl hr ?_
      rw [HCl.out]; (try simp only [List.nil_append, List.cons_append]); (try dsimp only)
      have hP := hM.putr h1 h2
      have hne := HQN.out
      exact ⟨⟨⟨hP.c0, hP.c1, hP.plt⟩, (h2.cell xl hne).trans x0, (h2.cell xl hne).trans x1, (h2.cell xl hne).trans x2, (h2.cell xl hne).trans x3, (h2.cell xl hne).trans x4, Nat.lt_of_lt_of_le xl h2.size⟩, hP, hO.trans (h2.mono (T := (fun k => k = mw ∨ k = mr)) (fun k hk => .inr hk))⟩
    clear hu
    simp only [Act.put, Nat.reduceAdd, List.setIfInBounds_toArray, List.set_cons_zero, List.set_cons_succ, List.nil_append, List.cons_append]
    (repeat (first | (refine Reg2.wS_skip (by (simp only [List.getElem?_toArray, List.getElem?_cons_succ, List.getElem?_cons_zero]) <;> rfl) (by rfl) ?_; simp only [Act.put, Nat.reduceAdd, List.setIfInBounds_toArray, List.set_cons_zero, List.set_cons_succ, List.nil_append, List.cons_append]) | (refine Reg2.wS_open (by (simp only [List.getElem?_toArray, List.getElem?_cons_succ, List.getElem?_cons_zero]) <;> rfl) (by rfl) (by rfl) ?_; apply Exists.intro; refine ⟨fun vs wq hw => ?_, ?_⟩; (focus (rw [HCl.out] at hw; (try simp only [List.nil_append, List.cons_append] at hw); (try dsimp only at hw); go_split_ands; go_simp <;> first | with_reducible exact (rfl : Value.bool false = _) | with_reducible exact (rfl : Value.bool true = _) | ((try go_bits) <;> exact rfl))); simp only [Act.put, Nat.reduceAdd, List.setIfInBounds_toArray, List.set_cons_zero, List.set_cons_succ, List.nil_append, List.cons_append])))
    refine Reg2.wS_nil ?_; intro w' hw; rw [HCl.out] at hw; (try simp only [List.nil_append, List.cons_append] at hw); (try dsimp only at hw); clear HCl
    obtain ⟨-, hM9, hO9⟩ := hw
    go_wp2
    refine bodyPost_ret (v := .int .i64 0) (by simp [results, Try.results8, go_sem, *]) rfl ?_
    exact ⟨rfl, _, hM9, (Only.of_below HBZ.out).trans (HO3.out.trans hO9)⟩
  | false =>
    simp only [Bool.false_eq_true, if_false]
    have KW := Lib.hid KW0
    generalize hRR : (R cl).getD r50 = RR at HLR0 ⊢
    have HT0 := Lib.hid (fun z' => tog_c RR ⟨1, ln, 0, dn - a, dn - a⟩ z')
    generalize tog RR ⟨1, ln, 0, dn - a, dn - a⟩ = X at HT0 ⊢
    unfold r5v at HT0
    dsimp only at HT0
    unfold r5v at HLR0
    clear hRR
    go_enter Try.func8, Try.ntmps8
    go_wp2_with (go_at_call 14; ((with_reducible refine KW.out.mono ?_); rintro _ z1 ⟨rfl, hb⟩; have hS := H.out.below hb; have HBZ := Lib.hid hb; have c0 := hS.c0; have plt := hS.plt; have hlk := HLW.out _ hS; have hcl := HCE.out _ hS; clear hb))
    have hbq : Below z1.heap.size z1 z1.drew := Below.drew (Below.refl _ _)
    have hSd := hS.below hbq
    have hlkd := HLW.out _ hSd
    have hO0 : Only (fun k => k = mw ∨ k = mr) z1 z1.drew := Only.of_below hbq
    obtain ⟨Cl, hCl⟩ : ∃ Cl : List (Nat × Value) → World → Prop, Cl = ((fun ps wz => ((wz.cell? ⟨p, 0, none⟩ = some (.map (some mw)) ∧ wz.cell? ⟨p, 1, none⟩ = some (.map (some mr)) ∧ p < wz.heap.size)) ∧ (match ps with
      | [] => (Instr.lookup 52 (.map (some mw)) (.int .i64 cl) false).run Try.prog wz = .ok ((Value.slice (some ⟨b, o, none⟩) m cap)) wz ∧ SG wz B p mw mr f W bk R ∧ Only (fun k => k = mw ∨ k = mr) z1 wz
      | [(_, v)] => v = Value.slice (some ⟨b, o, none⟩) m cap ∧ SG wz B p mw mr f W bk R ∧ Only (fun k => k = mw ∨ k = mr) z1 wz
      | _ => SG wz B p mw mr (upd f cl (tlq 1 b o m cap)) (uw W cl r) bk R ∧ Only (fun k => k = mw ∨ k = mr) z1 wz))) := ⟨_, rfl⟩; have HCl := Lib.hid hCl; clear hCl; refine Reg2.wp_region_lineS [(0, false), (1, false), (2, false), (3, false), (4, false), (5, false), (6, false), (7, false), (8, false), (9, false), (10, false), (11, false), (12, false)] [10, 12] Cl (by kernel_rfl) (by kernel_rfl) (by kernel_rfl) (by rw [HCl.out]; (try simp only [List.nil_append, List.cons_append]); (try dsimp only); exact ⟨⟨hSd.c0, hSd.c1, hSd.plt⟩, hlkd, hSd, hO0⟩) ?_
    clear hSd hlkd hO0 hbq hlk hcl
    (repeat (first | (refine Reg2.wS_skip (by (simp only [List.getElem?_toArray, List.getElem?_cons_succ, List.getElem?_cons_zero]) <;> rfl) (by rfl) ?_; simp only [Act.put, Nat.reduceAdd, List.setIfInBounds_toArray, List.set_cons_zero, List.set_cons_succ, List.nil_append, List.cons_append]) | (refine Reg2.wS_open (by (simp only [List.getElem?_toArray, List.getElem?_cons_succ, List.getElem?_cons_zero]) <;> rfl) (by rfl) (by rfl) ?_; apply Exists.intro; refine ⟨fun vs wq hw => ?_, ?_⟩; (focus (rw [HCl.out] at hw; (try simp only [List.nil_append, List.cons_append] at hw); (try dsimp only at hw); go_split_ands; go_simp <;> first | with_reducible exact (rfl : Value.bool false = _) | with_reducible exact (rfl : Value.bool true = _) | ((try go_bits) <;> exact rfl))); simp only [Act.put, Nat.reduceAdd, List.setIfInBounds_toArray, List.set_cons_zero, List.set_cons_succ, List.nil_append, List.cons_append])))
    refine Reg2.wS_eff (by (simp only [List.getElem?_toArray, List.getElem?_cons_succ, List.getElem?_cons_zero]) <;> rfl) (by rfl) (by rfl) (fun wq hw => ?_) (fun u9 hu => ?_)
    focus
      rw [HCl.out] at hw; (try simp only [List.nil_append, List.cons_append] at hw); (try dsimp only at hw)
      obtain ⟨hKF, hlk, hM, hO⟩ := hw
      go_simp
      rw [HCl.out]; (try simp only [List.nil_append, List.cons_append]); (try dsimp only)
      exact ⟨hKF, (by first | rfl | trivial), hM, hO⟩
    (obtain ⟨wz, hz⟩ := hu; rw [HCl.out] at hz; (try simp only [List.nil_append, List.cons_append] at hz); (try dsimp only at hz))
    obtain ⟨-, rfl, -⟩ := hz
    clear wz
    simp only [Act.put, Nat.reduceAdd, List.setIfInBounds_toArray, List.set_cons_zero, List.set_cons_succ, List.nil_append, List.cons_append]
    (repeat (first | (refine Reg2.wS_skip (by (simp only [List.getElem?_toArray, List.getElem?_cons_succ, List.getElem?_cons_zero]) <;> rfl) (by rfl) ?_; simp only [Act.put, Nat.reduceAdd, List.setIfInBounds_toArray, List.set_cons_zero, List.set_cons_succ, List.nil_append, List.cons_append]) | (refine Reg2.wS_open (by (simp only [List.getElem?_toArray, List.getElem?_cons_succ, List.getElem?_cons_zero]) <;> rfl) (by rfl) (by rfl) ?_; apply Exists.intro; refine ⟨fun vs wq hw => ?_, ?_⟩; (focus (rw [HCl.out] at hw; (try simp only [List.nil_append, List.cons_append] at hw); (try dsimp only at hw); go_split_ands; go_simp <;> first | with_reducible exact (rfl : Value.bool false = _) | with_reducible exact (rfl : Value.bool true = _) | ((try go_bits) <;> exact rfl))); simp only [Act.put, Nat.reduceAdd, List.setIfInBounds_toArray, List.set_cons_zero, List.set_cons_succ, List.nil_append, List.cons_append])))
    refine Reg2.wS_eff (by (simp only [List.getElem?_toArray, List.getElem?_cons_succ, List.getElem?_cons_zero]) <;> rfl) (by rfl) (by rfl) (fun wq hw => ?_) (fun u9 hu => ?_)
    focus
      rw [HCl.out] at hw; (try simp only [List.nil_append, List.cons_append] at hw); (try dsimp only at hw)
      obtain ⟨⟨y0, y1, y2⟩, -, hM, hO⟩ := hw
      obtain ⟨n, hn⟩ := hM.mp
      have hq := hM.rows cl
      rw [HV.out, HWC.out] at hq
      have hqt := QR.tail (s := 1) (by rw [HLEN.out] at hq; exact hq) HM0.out
      obtain ⟨w3, hr, h1, h2, h3⟩ := hn.update ikok Try.underlying52 HC.out (tlq 1 b o m cap)
      refine eff2_mapUpdate _ _ _ 52 rfl rfl rfl rfl hr ?_
      rw [HCl.out]; (try simp only [List.nil_append, List.cons_append]); (try dsimp only)
      have hP := hM.putw (c := cl) (L := r) (bc := bk cl) (Only.refl _ _) (by rw [HLR.out]; exact hqt) (fun b hb => .inl hb) h1 h2
      rw [uw_self] at hP
      exact ⟨⟨hP.c0, hP.c1, hP.plt⟩, hP, hO.trans (h2.mono (T := (fun k => k = mw ∨ k = mr)) (fun k hk => .inl hk))⟩
    clear hu
    simp only [Act.put, Nat.reduceAdd, List.setIfInBounds_toArray, List.set_cons_zero, List.set_cons_succ, List.nil_append, List.cons_append]
    (repeat (first | (refine Reg2.wS_skip (by (simp only [List.getElem?_toArray, List.getElem?_cons_succ, List.getElem?_cons_zero]) <;> rfl) (by rfl) ?_; simp only [Act.put, Nat.reduceAdd, List.setIfInBounds_toArray, List.set_cons_zero, List.set_cons_succ, List.nil_append, List.cons_append]) | (refine Reg2.wS_open (by (simp only [List.getElem?_toArray, List.getElem?_cons_succ, List.getElem?_cons_zero]) <;> rfl) (by rfl) (by rfl) ?_; apply Exists.intro; refine ⟨fun vs wq hw => ?_, ?_⟩; (focus (rw [HCl.out] at hw; (try simp only [List.nil_append, List.cons_append] at hw); (try dsimp only at hw); go_split_ands; go_simp <;> first | with_reducible exact (rfl : Value.bool false = _) | with_reducible exact (rfl : Value.bool true = _) | ((try go_bits) <;> exact rfl))); simp only [Act.put, Nat.reduceAdd, List.setIfInBounds_toArray, List.set_cons_zero, List.set_cons_succ, List.nil_append, List.cons_append])))
    refine Reg2.wS_nil ?_; intro w' hw; rw [HCl.out] at hw; (try simp only [List.nil_append, List.cons_append] at hw); (try dsimp only at hw); clear HCl
    obtain ⟨-, hM3, hO3⟩ := hw
    have HM3 := Lib.hid hM3
    have HO3 := Lib.hid hO3
    have HQN : Hid (¬ w'.heap.size = mr) := Lib.hid (fun g => by have := hM3.ltr; have := hM3.hB; omega)
    clear hS hM3 hO3
    rw [show (Value.slice (if cap = 1 then some ⟨b, o, none⟩ else some ⟨b, o + 1, none⟩) (m - 1) (cap - 1)) = tlq 1 b o m cap from rfl]
    generalize hT2 : tlq 1 b o m cap = tv at *
    go_wp2
    have hA : Below w'.heap.size w' (w'.alloc (.cells #[.int .u64 1, .int .u64 ln, .int .u64 0, .int .u64 (dn - a), .int .u64 (dn - a)] 39)) := Below.alloc (Below.refl _ _) (Nat.le_refl _) _
    have hN := (HM3.out.below hA).below (Below.drew (Below.refl _ _))
    have hON : Only (fun k => k = mw ∨ k = mr) w' (w'.alloc (.cells #[.int .u64 1, .int .u64 ln, .int .u64 0, .int .u64 (dn - a), .int .u64 (dn - a)] 39)).drew := Only.of_below (Below.drew hA)
    have hLr := HLR0.out _ _ _ hN
    obtain ⟨Cl, hCl⟩ : ∃ Cl : List (Nat × Value) → World → Prop, Cl = ((fun ps wz => ((wz.cell? ⟨p, 0, none⟩ = some (.map (some mw)) ∧ wz.cell? ⟨p, 1, none⟩ = some (.map (some mr)) ∧ p < wz.heap.size) ∧ wz.cell? ⟨w'.heap.size, 0, none⟩ = some (.int .u64 1) ∧ wz.cell? ⟨w'.heap.size, 1, none⟩ = some (.int .u64 ln) ∧ wz.cell? ⟨w'.heap.size, 2, none⟩ = some (.int .u64 0) ∧ wz.cell? ⟨w'.heap.size, 3, none⟩ = some (.int .u64 (dn - a)) ∧ wz.cell? ⟨w'.heap.size, 4, none⟩ = some (.int .u64 (dn - a)) ∧ w'.heap.size < wz.heap.size) ∧ (match ps with
      | [] => ((Instr.lookup 53 (.map (some mr)) (.int .i64 cl) false).run Try.prog wz = .ok (.agg #[.int .u64 (RR).a, .int .u64 (RR).b, .int .u64 (RR).c, .int .u64 (RR).d, .int .u64 (RR).e]) wz) ∧ SG wz B p mw mr (upd f cl (tv)) (uw W cl r) bk R ∧ Only (fun k => k = mw ∨ k = mr) w' wz
      | [(_, v)] => v = .agg #[.int .u64 (RR).a, .int .u64 (RR).b, .int .u64 (RR).c, .int .u64 (RR).d, .int .u64 (RR).e] ∧ SG wz B p mw mr (upd f cl (tv)) (uw W cl r) bk R ∧ Only (fun k => k = mw ∨ k = mr) w' wz
      | [_, (_, v)] => v = .agg #[.int .u64 (X).a, .int .u64 (X).b, .int .u64 (X).c, .int .u64 (X).d, .int .u64 (X).e] ∧ SG wz B p mw mr (upd f cl (tv)) (uw W cl r) bk R ∧ Only (fun k => k = mw ∨ k = mr) w' wz
      | _ => SG wz B p mw mr (upd f cl (tv)) (uw W cl r) bk (upd R cl X) ∧ Only (fun k => k = mw ∨ k = mr) w' wz))) := ⟨_, rfl⟩; have HCl := Lib.hid hCl; clear hCl; refine Reg2.wp_region_lineS [(0, false), (1, false), (2, false), (3, false), (4, false), (5, false), (6, false), (7, false), (8, false), (9, false), (11, false), (10, false), (12, false), (13, false)] [10, 12, 13] Cl (by kernel_rfl) (by kernel_rfl) (by kernel_rfl) (by rw [HCl.out]; (try simp only [List.nil_append, List.cons_append]); (try dsimp only); exact ⟨⟨⟨hN.c0, hN.c1, hN.plt⟩, ⟨by simp [go_sem], by simp [go_sem], by simp [go_sem], by simp [go_sem], by simp [go_sem], by simp⟩⟩, hLr, hN, hON⟩) ?_
    clear hN hLr hON hA
    (repeat (first | (refine Reg2.wS_skip (by (simp only [List.getElem?_toArray, List.getElem?_cons_succ, List.getElem?_cons_zero]) <;> rfl) (by rfl) ?_; simp only [Act.put, Nat.reduceAdd, List.setIfInBounds_toArray, List.set_cons_zero, List.set_cons_succ, List.nil_append, List.cons_append]) | (refine Reg2.wS_open (by (simp only [List.getElem?_toArray, List.getElem?_cons_succ, List.getElem?_cons_zero]) <;> rfl) (by rfl) (by rfl) ?_; apply Exists.intro; refine ⟨fun vs wq hw => ?_, ?_⟩; (focus (rw [HCl.out] at hw; (try simp only [List.nil_append, List.cons_append] at hw); (try dsimp only at hw); go_split_ands; go_simp <;> first | with_reducible exact (rfl : Value.bool false = _) | with_reducible exact (rfl : Value.bool true = _) | ((try go_bits) <;> exact rfl))); simp only [Act.put, Nat.reduceAdd, List.setIfInBounds_toArray, List.set_cons_zero, List.set_cons_succ, List.nil_append, List.cons_append])))
    refine Reg2.wS_eff (by (simp only [List.getElem?_toArray, List.getElem?_cons_succ, List.getElem?_cons_zero]) <;> rfl) (by rfl) (by rfl) (fun wq hw => ?_) (fun u9 hu => ?_)
    focus
      rw [HCl.out] at hw; (try simp only [List.nil_append, List.cons_append] at hw); (try dsimp only at hw)
      obtain ⟨hKF, hlk, hM, hO⟩ := hw
      go_simp
      rw [HCl.out]; (try simp only [List.nil_append, List.cons_append]); (try dsimp only)
      exact ⟨hKF, (by first | rfl | trivial), hM, hO⟩
    (obtain ⟨wz, hz⟩ := hu; rw [HCl.out] at hz; (try simp only [List.nil_append, List.cons_append] at hz); (try dsimp only at hz))
    obtain ⟨-, rfl, -⟩ := hz
    clear wz
    simp only [Act.put, Nat.reduceAdd, List.setIfInBounds_toArray, List.set_cons_zero, List.set_cons_succ, List.nil_append, List.cons_append]
    (repeat (first | (refine Reg2.wS_skip (by (simp only [List.getElem?_toArray, List.getElem?_cons_succ, List.getElem?_cons_zero]) <;> rfl) (by rfl) ?_; simp only [Act.put, Nat.reduceAdd, List.setIfInBounds_toArray, List.set_cons_zero, List.set_cons_succ, List.nil_append, List.cons_append]) | (refine Reg2.wS_open (by (simp only [List.getElem?_toArray, List.getElem?_cons_succ, List.getElem?_cons_zero]) <;> rfl) (by rfl) (by rfl) ?_; apply Exists.intro; refine ⟨fun vs wq hw => ?_, ?_⟩; (focus (rw [HCl.out] at hw; (try simp only [List.nil_append, List.cons_append] at hw); (try dsimp only at hw); go_split_ands; go_simp <;> first | with_reducible exact (rfl : Value.bool false = _) | with_reducible exact (rfl : Value.bool true = _) | ((try go_bits) <;> exact rfl))); simp only [Act.put, Nat.reduceAdd, List.setIfInBounds_toArray, List.set_cons_zero, List.set_cons_succ, List.nil_append, List.cons_append])))
    refine Reg2.wS_eff (by (simp only [List.getElem?_toArray, List.getElem?_cons_succ, List.getElem?_cons_zero]) <;> rfl) (by rfl) (by rfl) (fun wq hw => ?_) (fun u9 hu => ?_)
    focus
      rw [HCl.out] at hw; (try simp only [List.nil_append, List.cons_append] at hw); (try dsimp only at hw)
      obtain ⟨⟨⟨y0, y1, y2⟩, hrc⟩, -, hM, hO⟩ := hw
      go_simp
      go_at_call 20
      (with_reducible refine (HT0.out _).mono ?_)
      rintro e w9 ⟨rfl, hbel⟩
      refine ⟨_, rfl, ?_⟩
      rw [HCl.out]; (try simp only [List.nil_append, List.cons_append]); (try dsimp only)
      have hS9 := hM.below hbel
      obtain ⟨x0, x1, x2, x3, x4, xl⟩ := hrc
      exact ⟨⟨⟨hS9.c0, hS9.c1, hS9.plt⟩, (hbel.cell xl).trans x0, (hbel.cell xl).trans x1, (hbel.cell xl).trans x2, (hbel.cell xl).trans x3, (hbel.cell xl).trans x4, Nat.lt_of_lt_of_le xl hbel.size⟩, (by first | rfl | trivial), hS9, hO.trans (Only.of_below hbel)⟩
    (obtain ⟨wz, hz⟩ := hu; rw [HCl.out] at hz; (try simp only [List.nil_append, List.cons_append] at hz); (try dsimp only at hz))
    obtain ⟨-, rfl, -⟩ := hz
    clear wz
    simp only [Act.put, Nat.reduceAdd, List.setIfInBounds_toArray, List.set_cons_zero, List.set_cons_succ, List.nil_append, List.cons_append]
    (repeat (first | (refine Reg2.wS_skip (by (simp only [List.getElem?_toArray, List.getElem?_cons_succ, List.getElem?_cons_zero]) <;> rfl) (by rfl) ?_; simp only [Act.put, Nat.reduceAdd, List.setIfInBounds_toArray, List.set_cons_zero, List.set_cons_succ, List.nil_append, List.cons_append]) | (refine Reg2.wS_open (by (simp only [List.getElem?_toArray, List.getElem?_cons_succ, List.getElem?_cons_zero]) <;> rfl) (by rfl) (by rfl) ?_; apply Exists.intro; refine ⟨fun vs wq hw => ?_, ?_⟩; (focus (rw [HCl.out] at hw; (try simp only [List.nil_append, List.cons_append] at hw); (try dsimp only at hw); go_split_ands; go_simp <;> first | with_reducible exact (rfl : Value.bool false = _) | with_reducible exact (rfl : Value.bool true = _) | ((try go_bits) <;> exact rfl))); simp only [Act.put, Nat.reduceAdd, List.setIfInBounds_toArray, List.set_cons_zero, List.set_cons_succ, List.nil_append, List.cons_append])))
    refine Reg2.wS_eff (by (simp only [List.getElem?_toArray, List.getElem?_cons_succ, List.getElem?_cons_zero]) <;> rfl) (by rfl) (by rfl) (fun wq hw => ?_) (fun u9 hu => ?_)
    focus
      rw [HCl.out] at hw; (try simp only [List.nil_append, List.cons_append] at hw); (try dsimp only at hw)
      obtain ⟨⟨⟨y0, y1, y2⟩, x0, x1, x2, x3, x4, xl⟩, -, hM, hO⟩ := hw
      obtain ⟨n, hn⟩ := hM.mpr
      obtain ⟨w3, hr, h1, h2, h3⟩ := hn.update ikok Try.underlying53 HC.out X
      refine eff2_mapUpdate _ _ _ 53 rfl rfl rfl rfl hr ?_
      rw [HCl.out]; (try simp only [List.nil_append, List.cons_append]); (try dsimp only)
      have hP := hM.putr h1 h2
      have hne := HQN.out
      exact ⟨⟨⟨hP.c0, hP.c1, hP.plt⟩, (h2.cell xl hne).trans x0, (h2.cell xl hne).trans x1, (h2.cell xl hne).trans x2, (h2.cell xl hne).trans x3, (h2.cell xl hne).trans x4, Nat.lt_of_lt_of_le xl h2.size⟩, hP, hO.trans (h2.mono (T := (fun k => k = mw ∨ k = mr)) (fun k hk => .inr hk))⟩
    clear hu
    simp only [Act.put, Nat.reduceAdd, List.setIfInBounds_toArray, List.set_cons_zero, List.set_cons_succ, List.nil_append, List.cons_append]
    (repeat (first | (refine Reg2.wS_skip (by (simp only [List.getElem?_toArray, List.getElem?_cons_succ, List.getElem?_cons_zero]) <;> rfl) (by rfl) ?_; simp only [Act.put, Nat.reduceAdd, List.setIfInBounds_toArray, List.set_cons_zero, List.set_cons_succ, List.nil_append, List.cons_append]) | (refine Reg2.wS_open (by (simp only [List.getElem?_toArray, List.getElem?_cons_succ, List.getElem?_cons_zero]) <;> rfl) (by rfl) (by rfl) ?_; apply Exists.intro; refine ⟨fun vs wq hw => ?_, ?_⟩; (focus (rw [HCl.out] at hw; (try simp only [List.nil_append, List.cons_append] at hw); (try dsimp only at hw); go_split_ands; go_simp <;> first | with_reducible exact (rfl : Value.bool false = _) | with_reducible exact (rfl : Value.bool true = _) | ((try go_bits) <;> exact rfl))); simp only [Act.put, Nat.reduceAdd, List.setIfInBounds_toArray, List.set_cons_zero, List.set_cons_succ, List.nil_append, List.cons_append])))
    refine Reg2.wS_nil ?_; intro w' hw; rw [HCl.out] at hw; (try simp only [List.nil_append, List.cons_append] at hw); (try dsimp only at hw); clear HCl
    obtain ⟨-, hM9, hO9⟩ := hw
    go_wp2
    refine bodyPost_ret (v := .int .i64 0) (by simp [results, Try.results8, go_sem, *]) rfl ?_
    exact ⟨rfl, _, hM9, (Only.of_below HBZ.out).trans (HO3.out.trans hO9)⟩
end Go.Proofs.Ytnpidbodeebnkaa
