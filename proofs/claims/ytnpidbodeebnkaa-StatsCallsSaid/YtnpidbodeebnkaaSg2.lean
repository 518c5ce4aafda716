/- Came. -/
import Derived.Test.YtnpidbodeebnkaaSm1
namespace Go.Proofs.Ytnpidbodeebnkaa
set_option linter.unusedVariables false
set_option linter.unusedSimpArgs false
set_option maxRecDepth 100000
open Go.RowKit Fg Reg Go.Maps
attribute [local irreducible] Reg.wN Reg.wE QR

theorem eff2_append {P : Program} {Cl : List (Nat × Value) → World → Prop} {k : Nat} {ps : List (Nat × Value)} {o : Oper} {ρ : Act} {w w' : World} {sv xv v : Value} (s x : Operand) (t : TypeId)
    (ho : o.op = Op.call { callee := Callee.builtin Builtin.append, args := #[s, x], argTypes := #[t, t] }) (hs : ρ.eval s = sv) (hx : ρ.eval x = xv) (hr : (Builtin.append_ #[t, t] o.type #[sv, xv]).run P w = .ok v w') (h : Cl (ps ++ [(k, v)]) w') :
    Reg2.effUpon P Cl k ps ((execOp ρ.eval o).run P w) := by
  simp [execOp, ho, resolve, invoke, builtin, hs, hx, hr, Result.andThen, Reg2.effUpon]
  exact h
theorem eff2_mapUpdate {P : Program} {Cl : List (Nat × Value) → World → Prop} {k : Nat} {ps : List (Nat × Value)} {o : Oper} {ρ : Act} {w w' : World} {mv xv vv : Value} (m x v : Operand) (t : TypeId)
    (ho : o.op = Op.mapUpdate t m x v) (hm : ρ.eval m = mv) (hx : ρ.eval x = xv) (hv : ρ.eval v = vv) (hr : (Instr.mapUpdate t mv xv vv).run P w = .ok () w') (h : Cl (ps ++ [(k, undef)]) w') :
    Reg2.effUpon P Cl k ps ((execOp ρ.eval o).run P w) := by
  simp [execOp, ho, hm, hx, hv, hr, Result.andThen, Reg2.effUpon]
  exact h
/-- What Came leaves. -/
def CamP (z : World) (B p mw mr : Nat) (f : Int → Option Value) (W : Int → List Int) (bk : Int → Option Nat) (R : Int → Option R5) (cl ta : Int) (e : Ending) (z' : World) : Prop := e = .returned (.int .i64 0) ∧ ∃ v b', SG z' B p mw mr (upd f cl v) (uw W cl (W cl ++ [ta])) (uw bk cl (some b')) R ∧ (bk cl = some b' ∨ z.heap.size ≤ b') ∧ Only (fun k => k = mw ∨ bk cl = some k) z z'
set_option maxHeartbeats 8000000 in
theorem cam_c {z : World} {B p mw mr : Nat} {f : Int → Option Value} {W : Int → List Int} {bk : Int → Option Nat} {R : Int → Option R5} (h : SG z B p mw mr f W bk R) {cl : Int} (hc : iok cl) (hm : (W cl).length ≤ 1000) (ta : Int) : Calls Try.prog 6 #[.pointer (some ⟨p, 0, none⟩), .int .i64 cl, .int .u64 ta] z (CamP z B p mw mr f W bk R cl ta) := by
  obtain ⟨iu, ci0, cz0, cz1, cz2⟩ := u64_parts
  have CI0 := Lib.hid ci0
  have CZ0 := Lib.hid cz0
  have CZ1 := Lib.hid cz1
  have CZ2 := Lib.hid cz2
  obtain ⟨ao, cp, hv⟩ := (h.rows cl).form
  have hl0 := fun (z' : World) (h : SG z' B p mw mr f W bk R) => h.lookw hc
  rw [hv] at hl0
  obtain ⟨m, hmm⟩ : ∃ m, (W cl).length = m := ⟨_, rfl⟩
  rw [hmm] at hl0 hm
  have HL := Lib.hid hl0
  have HM := Lib.hid hmm
  have HV := Lib.hid hv
  have H := Lib.hid h
  have HC := Lib.hid hc
  have c0 := h.c0
  have c1 := h.c1
  have plt := h.plt
  have hBz := h.hB
  have hmn := map_nn mw
  have HNP : Hid (¬ (p = mw ∨ bk cl = some p)) := Lib.hid fun g => by
    rcases g with g | g
    · exact h.npw g.symm
    · have := ((h.rows cl).lt p g).1; have := h.ltp; omega
  clear ci0 cz0 cz1 cz2 h hc hv hmm hl0
  go_enter Try.func6, Try.ntmps6
  go_wp2
  have hbq : Below z.heap.size z z.drew := Below.drew (Below.refl _ _)
  have hS0 := H.out.below hbq
  have hL0 := HL.out _ hS0
  obtain ⟨Cl, hCl⟩ : ∃ Cl : List Value → World → Prop, Cl = ((fun ps wz => ((wz.cell? ⟨p, 0, none⟩ = some (.map (some mw)) ∧ wz.cell? ⟨p, 1, none⟩ = some (.map (some mr)) ∧ p < wz.heap.size) ∧ B ≤ wz.heap.size ∧ z.heap.size ≤ wz.heap.size) ∧ (match ps with
    | [] => (Instr.lookup 52 (.map (some mw)) (.int .i64 cl) false).run Try.prog wz = .ok ((Value.slice ao m cp)) wz ∧ SG wz B p mw mr f W bk R ∧ Only (fun k => k = mw ∨ bk cl = some k) z wz
    | [sl] => (Instr.lookup 52 (.map (some mw)) (.int .i64 cl) false).run Try.prog wz = .ok ((Value.slice ao m cp)) wz ∧ (∃ b', sl = Value.slice (some ⟨b', 0, none⟩) 1 1 ∧ wz.cell? ⟨b', 0, none⟩ = some (.int .u64 ta)) ∧ SG wz B p mw mr f W bk R ∧ Only (fun k => k = mw ∨ bk cl = some k) z wz
    | [sl, v'] => ∃ z1 b1, QR wz B 1 v' (m + 1) ((W cl).map (Value.int .u64) ++ [.int .u64 ta]) (some b1) ∧ SG z1 B p mw mr f W bk R ∧ Only (fun k => bk cl = some k) z1 wz ∧ (bk cl = some b1 ∨ z1.heap.size ≤ b1) ∧ z.heap.size ≤ z1.heap.size ∧ Only (fun k => k = mw ∨ bk cl = some k) z wz
    | (sl :: v' :: u :: _) => (∃ v b', SG wz B p mw mr (upd f cl v) (uw W cl (W cl ++ [ta])) (uw bk cl (some b')) R ∧ (bk cl = some b' ∨ z.heap.size ≤ b')) ∧ Only (fun k => k = mw ∨ bk cl = some k) z wz))) := ⟨_, rfl⟩; have HCl := Lib.hid hCl; clear hCl; refine wp_region_effN [12, 13, 14] Cl (by kernel_rfl) (by kernel_rfl) (by rw [HCl.out]; (try simp only [List.nil_append, List.cons_append]); (try dsimp only); exact ⟨⟨⟨hS0.c0, hS0.c1, hS0.plt⟩, hS0.hB, Nat.le_refl _⟩, hL0, hS0, Only.of_below hbq⟩) ?_
  clear hbq hS0 hL0
  (repeat (first | (refine wN_skip (by rfl) ?_; simp only [Act.put, Nat.reduceAdd, List.setIfInBounds_toArray, List.set_cons_zero, List.set_cons_succ, List.nil_append, List.cons_append]) | (refine wN_open (by rfl) (by rfl) ?_; apply Exists.intro; refine ⟨fun vs wq hw => ?_, ?_⟩; (focus (rw [HCl.out] at hw; (try simp only [List.nil_append, List.cons_append] at hw); (try dsimp only at hw); obtain ⟨hw1, hw2⟩ := hw; go_split_ands; go_simp <;> first | with_reducible exact (rfl : Value.bool false = _) | with_reducible exact (rfl : Value.bool true = _) | ((try go_bits) <;> exact rfl))); simp only [Act.put, Nat.reduceAdd, List.setIfInBounds_toArray, List.set_cons_zero, List.set_cons_succ, List.nil_append, List.cons_append])))
  refine wN_at 1 (by rfl) (by rfl) (by kernel_rfl) ?_
  apply Exists.intro
  refine ⟨fun vs wq hl hw => ?_, ?_⟩
  focus
    rw [HCl.out] at hw; (try simp only [List.nil_append, List.cons_append] at hw); (try dsimp only at hw)
    obtain ⟨hw1, hw2⟩ := hw
    rcases vs with _ | ⟨p1, _ | ⟨p2, vs⟩⟩
    · dsimp only at hw2
      obtain ⟨hlw, hS, hQq⟩ := hw2
      clear hS hQq
      go_simp <;> exact rfl
    · dsimp only at hw2
      obtain ⟨hlw, hb, hS, hQq⟩ := hw2
      clear hS hQq hb
      go_simp <;> exact rfl
    · simp at hl
  simp only [Act.put, Nat.reduceAdd, List.setIfInBounds_toArray, List.set_cons_zero, List.set_cons_succ, List.nil_append, List.cons_append]
  (repeat (first | (refine wN_skip (by rfl) ?_; simp only [Act.put, Nat.reduceAdd, List.setIfInBounds_toArray, List.set_cons_zero, List.set_cons_succ, List.nil_append, List.cons_append]) | (refine wN_open (by rfl) (by rfl) ?_; apply Exists.intro; refine ⟨fun vs wq hw => ?_, ?_⟩; (focus (rw [HCl.out] at hw; (try simp only [List.nil_append, List.cons_append] at hw); (try dsimp only at hw); obtain ⟨hw1, hw2⟩ := hw; go_split_ands; go_simp <;> first | with_reducible exact (rfl : Value.bool false = _) | with_reducible exact (rfl : Value.bool true = _) | ((try go_bits) <;> exact rfl))); simp only [Act.put, Nat.reduceAdd, List.setIfInBounds_toArray, List.set_cons_zero, List.set_cons_succ, List.nil_append, List.cons_append])))
  refine wN_eff (by rfl) (by rfl) (fun wq hw => ?_) (fun u hu => ?_)
  focus
    rw [HCl.out] at hw; (try simp only [List.nil_append, List.cons_append] at hw); (try dsimp only at hw)
    obtain ⟨⟨⟨y0, y1, y2⟩, y3, y4⟩, hlk, hM, hO⟩ := hw
    have hbA := Below.alloc (Below.refl wq.heap.size wq) (Nat.le_refl _) (.cells #[.int .u64 ta] 27)
    have hM2 := hM.below hbA
    have hL2 := HL.out _ hM2
    have hO2 : Only (fun k => k = mw ∨ bk cl = some k) z (wq.alloc (.cells #[.int .u64 ta] 27)) := hO.trans (Only.of_below hbA)
    clear hlk hM hO
    go_simp
    rw [HCl.out]; (try simp only [List.nil_append, List.cons_append]); (try dsimp only)
    exact ⟨⟨⟨hM2.c0, hM2.c1, hM2.plt⟩, hM2.hB, by simp; omega⟩, hL2, ⟨wq.heap.size, rfl, by simp [go_sem]⟩, hM2, hO2⟩
  obtain ⟨wz, hz⟩ := hu
  rw [HCl.out] at hz
  (try simp only [List.nil_append, List.cons_append] at hz)
  (try dsimp only at hz)
  obtain ⟨-, -, ⟨b', rfl, -⟩, -⟩ := hz
  clear wz
  simp only [Act.put, Nat.reduceAdd, List.setIfInBounds_toArray, List.set_cons_zero, List.set_cons_succ, List.nil_append, List.cons_append]
  (repeat (first | (refine wN_skip (by rfl) ?_; simp only [Act.put, Nat.reduceAdd, List.setIfInBounds_toArray, List.set_cons_zero, List.set_cons_succ, List.nil_append, List.cons_append]) | (refine wN_open (by rfl) (by rfl) ?_; apply Exists.intro; refine ⟨fun vs wq hw => ?_, ?_⟩; (focus (rw [HCl.out] at hw; (try simp only [List.nil_append, List.cons_append] at hw); (try dsimp only at hw); obtain ⟨hw1, hw2⟩ := hw; go_split_ands; go_simp <;> first | with_reducible exact (rfl : Value.bool false = _) | with_reducible exact (rfl : Value.bool true = _) | ((try go_bits) <;> exact rfl))); simp only [Act.put, Nat.reduceAdd, List.setIfInBounds_toArray, List.set_cons_zero, List.set_cons_succ, List.nil_append, List.cons_append])))
  refine wN_eff (by rfl) (by rfl) (fun wq hw => ?_) (fun u hu => ?_)
  focus
    rw [HCl.out] at hw; (try simp only [List.nil_append, List.cons_append] at hw); (try dsimp only at hw)
    obtain ⟨⟨⟨y0, y1, y2⟩, y3, y4⟩, hlk, ⟨bq, hbe, hcs⟩, hM, hO⟩ := hw
    obtain rfl : b' = bq := by simpa using hbe
    have hq := hM.rows cl
    rw [HV.out, HM.out] at hq
    obtain ⟨v', w2, b1, hr, hQ, hO1, hb1⟩ := run_append_qr (P := Try.prog) wq B 1 56 56 27 iu _ 8 Try.underlying56 CI0.out CZ0.out CZ1.out CZ2.out rfl (by decide) (.slice ao m cp) m ((W cl).map (Value.int .u64)) (bk cl) hq ⟨b', 0, none⟩ 1 [.int .u64 ta] rfl (fun j u hu => by (rcases j with _ | j <;> simp at hu <;> (try subst hu) <;> simp [Addr.add, hcs])) (by simp [Value.oneCell']) (by unfold maxLen; omega) (by omega) y3
    refine eff_append _ _ 56 rfl rfl rfl hr ?_
    rw [HCl.out]; (try simp only [List.nil_append, List.cons_append]); (try dsimp only)
    have hS1 := hO1.mono (T := (fun k => k = mw ∨ bk cl = some k)) (fun k hk => .inr hk)
    exact ⟨⟨⟨(hS1.cell y2 HNP.out).trans y0, (hS1.cell y2 HNP.out).trans y1, Nat.lt_of_lt_of_le y2 hS1.size⟩, Nat.le_trans y3 hO1.size, Nat.le_trans y4 hO1.size⟩, wq, b1, hQ, hM, hO1, hb1, y4, hO.trans hS1⟩
  obtain ⟨wz, hz⟩ := hu
  rw [HCl.out] at hz
  (try simp only [List.nil_append, List.cons_append] at hz)
  (try dsimp only at hz)
  obtain ⟨-, _, _, hz2, -⟩ := hz
  obtain ⟨ao2, cp2, rfl⟩ := hz2.form
  clear hz2 wz
  simp only [Act.put, Nat.reduceAdd, List.setIfInBounds_toArray, List.set_cons_zero, List.set_cons_succ, List.nil_append, List.cons_append]
  (repeat (first | (refine wN_skip (by rfl) ?_; simp only [Act.put, Nat.reduceAdd, List.setIfInBounds_toArray, List.set_cons_zero, List.set_cons_succ, List.nil_append, List.cons_append]) | (refine wN_open (by rfl) (by rfl) ?_; apply Exists.intro; refine ⟨fun vs wq hw => ?_, ?_⟩; (focus (rw [HCl.out] at hw; (try simp only [List.nil_append, List.cons_append] at hw); (try dsimp only at hw); obtain ⟨hw1, hw2⟩ := hw; go_split_ands; go_simp <;> first | with_reducible exact (rfl : Value.bool false = _) | with_reducible exact (rfl : Value.bool true = _) | ((try go_bits) <;> exact rfl))); simp only [Act.put, Nat.reduceAdd, List.setIfInBounds_toArray, List.set_cons_zero, List.set_cons_succ, List.nil_append, List.cons_append])))
  refine wN_eff (by rfl) (by rfl) (fun wq hw => ?_) (fun u hu => ?_)
  focus
    rw [HCl.out] at hw; (try simp only [List.nil_append, List.cons_append] at hw); (try dsimp only at hw)
    obtain ⟨⟨⟨y0, y1, y2⟩, y3, y4⟩, z1, b1, hQ, hM, hO1, hb1, hz1, hO⟩ := hw
    obtain ⟨n, hn⟩ := hM.mp
    have hltw := hM.ltw
    have hn2 := hn.frame (hO1.block mw hn.lt (fun g => by have := ((hM.rows cl).lt _ g).1; omega))
    obtain ⟨w3, hr, h1, h2, h3⟩ := hn2.update ikok Try.underlying52 HC.out (.slice ao2 (m + 1) cp2)
    refine eff_mapUpdate _ _ _ 52 rfl rfl rfl rfl hr ?_
    rw [HCl.out]; (try simp only [List.nil_append, List.cons_append]); (try dsimp only)
    have hS2 := h2.mono (T := (fun k => k = mw ∨ bk cl = some k)) (fun k hk => .inl hk)
    have hP := hM.putw (c := cl) (L := W cl ++ [ta]) (bc := some b1) hO1 (by rw [List.length_append, List.length_singleton, HM.out, List.map_append]; exact hQ) (fun b hb => by cases hb; exact hb1) h1 h2
    exact ⟨⟨⟨hP.c0, hP.c1, hP.plt⟩, hP.hB, by rw [h3]; exact y4⟩, ⟨_, _, hP, hb1.imp_right (fun g => Nat.le_trans hz1 g)⟩, hO.trans hS2⟩
  clear hu
  simp only [Act.put, Nat.reduceAdd, List.setIfInBounds_toArray, List.set_cons_zero, List.set_cons_succ, List.nil_append, List.cons_append]
  (repeat (first | (refine wN_skip (by rfl) ?_; simp only [Act.put, Nat.reduceAdd, List.setIfInBounds_toArray, List.set_cons_zero, List.set_cons_succ, List.nil_append, List.cons_append]) | (refine wN_open (by rfl) (by rfl) ?_; apply Exists.intro; refine ⟨fun vs wq hw => ?_, ?_⟩; (focus (rw [HCl.out] at hw; (try simp only [List.nil_append, List.cons_append] at hw); (try dsimp only at hw); obtain ⟨hw1, hw2⟩ := hw; go_split_ands; go_simp <;> first | with_reducible exact (rfl : Value.bool false = _) | with_reducible exact (rfl : Value.bool true = _) | ((try go_bits) <;> exact rfl))); simp only [Act.put, Nat.reduceAdd, List.setIfInBounds_toArray, List.set_cons_zero, List.set_cons_succ, List.nil_append, List.cons_append])))
  refine wN_nil ?_; intro w' hw; rw [HCl.out] at hw; (try simp only [List.nil_append, List.cons_append] at hw); (try dsimp only at hw); clear HCl
  obtain ⟨-, ⟨v, b9, hM', hb9⟩, hO'⟩ := hw
  go_wp2
  refine bodyPost_ret (v := .int .i64 0) (by simp [results, Try.results6, go_sem, *]) rfl ?_
  exact ⟨rfl, v, b9, hM', hb9, hO'⟩
end Go.Proofs.Ytnpidbodeebnkaa
