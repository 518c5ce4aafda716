/- (*stats.Stats).Came. -/
import Derived.Test.YtnpidbodeebnkaaSt1
namespace Go.Proofs.Ytnpidbodeebnkaa
set_option linter.unusedVariables false
set_option linter.unusedSimpArgs false
set_option maxRecDepth 100000
open Go.RowKit Fg Reg
attribute [local irreducible] Reg.wN Reg.wE QS

theorem shrunk {G : World → Prop} {w : World} (F : World → Prop) (hF : F w) (h : ∀ n, F n → G n) : G w := h w hF
theorem eff_mapUpdate {P : Program} {Cl : List Value → World → Prop} {ps : List Value} {o : Oper} {ρ : Act} {w w' : World} {mv xv vv : Value} (m x v : Operand) (t : TypeId)
    (ho : o.op = Op.mapUpdate t m x v) (hm : ρ.eval m = mv) (hx : ρ.eval x = xv) (hv : ρ.eval v = vv) (hr : (Instr.mapUpdate t mv xv vv).run P w = .ok () w') (h : Cl (ps ++ [undef]) w') :
    effUpon P Cl ps ((execOp ρ.eval o).run P w) := by
  simp [execOp, ho, hm, hx, hv, hr, Result.andThen, effUpon]
  exact h
theorem u64_info4 : (Try.prog.info? 27).map (fun i => (i.zero, i.size, i.bytes)) = some (some (.int .u64 0), 1, 8) := by kernel_rfl
theorem u64_parts : ∃ i, Try.prog.info? 27 = some i ∧ i.zero = some (.int .u64 0) ∧ i.size = 1 ∧ i.bytes = 8 := by
  obtain ⟨i, hi, h⟩ := Option.map_eq_some_iff.1 u64_info4
  simp only [Prod.mk.injEq] at h
  exact ⟨i, hi, h.1, h.2.1, h.2.2⟩
theorem map_nn (b : Nat) (w : World) : (binOp .eql 52 (.map (some b)) (.map none)).run Try.prog w = .ok (.bool false) w := by kernel_rfl
set_option maxHeartbeats 8000000 in
theorem came_c {w z : World} {p mw mr : Nat} {cl : Int} {wv : Option Value} {row : Option R5} {m : Nat} {g : Nat → Value} (h : S0 w z p mw mr cl wv row) (hq : QS z (p + 1) (wrow wv) m g) (hm : m ≤ 1000) (hc : iok cl) (at' : Int) :
    Calls Try.prog 6 #[.pointer (some ⟨p, 0, none⟩), .int .i64 cl, .int .u64 at'] z fun e z' => e = .returned (.int .i64 0) ∧ ∃ v', S0 w z' p mw mr cl (some v') row ∧ QS z' (p + 1) v' (m + 1) (fun j => if j = m then .int .u64 at' else g j) := by
  obtain ⟨iu, HI0, HZ0, HZ1, HZ2⟩ := u64_parts
  obtain ⟨ao, cp, hv⟩ := QS.form hq
  have hl0 := fun (z' : World) (h : S0 w z' p mw mr cl wv row) => h.lookw hc
  rw [hv] at hq hl0
  have HL := Lib.hid hl0
  have H := Lib.hid h
  have HQ := Lib.hid hq
  have c0 := h.c0
  have c1 := h.c1
  have plt := h.plt
  clear h hq hl0
  have hmn := map_nn mw
  go_enter Try.func6, Try.ntmps6
  go_wp2
  have hd := H.out.below (Below.drew (Below.refl _ _))
  have hqd := HQ.out.below (Below.drew (Below.refl _ _))
  have hld := HL.out _ hd
  obtain ⟨Cl, hCl⟩ : ∃ Cl : List Value → World → Prop, Cl = ((fun ps wz => ((wz.cell? ⟨p, 0, none⟩ = some (.map (some mw)) ∧ p < wz.heap.size) ∧ z.heap.size ≤ wz.heap.size) ∧ (match ps with | [] => (Instr.lookup 52 (.map (some mw)) (.int .i64 cl) false).run Try.prog wz = .ok (Value.slice ao m cp) wz ∧ S0 w wz p mw mr cl wv row ∧ QS wz (p + 1) (Value.slice ao m cp) m g | [sl] => (Instr.lookup 52 (.map (some mw)) (.int .i64 cl) false).run Try.prog wz = .ok (Value.slice ao m cp) wz ∧ S0 w wz p mw mr cl wv row ∧ QS wz (p + 1) (Value.slice ao m cp) m g ∧ (∃ b', sl = Value.slice (some ⟨b', 0, none⟩) 1 1 ∧ b' < wz.heap.size ∧ wz.cell? ⟨b', 0, none⟩ = some (.int .u64 at')) | [sl, v'] => S0 w wz p mw mr cl wv row ∧ QS wz (p + 1) v' (m + 1) (fun j => if j = m then .int .u64 at' else g j) | (sl :: v' :: u :: _) => S0 w wz p mw mr cl (some v') row ∧ QS wz (p + 1) v' (m + 1) (fun j => if j = m then .int .u64 at' else g j)))) := ⟨_, rfl⟩; have HCl := Lib.hid hCl; clear hCl; refine wp_region_effN [12, 13, 14] Cl (by kernel_rfl) (by kernel_rfl) (by rw [HCl.out]; (try simp only [List.nil_append, List.cons_append]); (try dsimp only); exact ⟨⟨⟨c0, plt⟩, Nat.le_refl _⟩, hld, hd, hqd⟩) ?_
  clear hld hd hqd
  (repeat (first | (refine wN_skip (by rfl) ?_; simp only [Act.put, Nat.reduceAdd, List.setIfInBounds_toArray, List.set_cons_zero, List.set_cons_succ, List.nil_append, List.cons_append]) | (refine wN_open (by rfl) (by rfl) ?_; apply Exists.intro; refine ⟨fun vs wq hw => ?_, ?_⟩; (focus (rw [HCl.out] at hw; (try simp only [List.nil_append, List.cons_append] at hw); (try dsimp only at hw); obtain ⟨hw1, hw2⟩ := hw; go_split_ands; go_simp <;> first | with_reducible exact (rfl : Value.bool false = _) | with_reducible exact (rfl : Value.bool true = _) | ((try go_bits) <;> exact rfl))); simp only [Act.put, Nat.reduceAdd, List.setIfInBounds_toArray, List.set_cons_zero, List.set_cons_succ, List.nil_append, List.cons_append])))
  refine wN_at 1 (by rfl) (by rfl) (by kernel_rfl) ?_
  apply Exists.intro
  refine ⟨fun vs wq hl hw => ?_, ?_⟩
  focus
    rw [HCl.out] at hw; (try simp only [List.nil_append, List.cons_append] at hw); (try dsimp only at hw)
    obtain ⟨hw1, hw2⟩ := hw
    rcases vs with _ | ⟨p1, _ | ⟨p2, vs⟩⟩
    · dsimp only at hw2
      obtain ⟨hlw, hS, hQq⟩ := hw2
      clear hS hQq
      go_simp <;> exact rfl
    · dsimp only at hw2
      obtain ⟨hlw, hS, hQq, hb⟩ := hw2
      clear hS hQq hb
      go_simp <;> exact rfl
    · simp at hl
  simp only [Act.put, Nat.reduceAdd, List.setIfInBounds_toArray, List.set_cons_zero, List.set_cons_succ, List.nil_append, List.cons_append]
  (repeat (first | (refine wN_skip (by rfl) ?_; simp only [Act.put, Nat.reduceAdd, List.setIfInBounds_toArray, List.set_cons_zero, List.set_cons_succ, List.nil_append, List.cons_append]) | (refine wN_open (by rfl) (by rfl) ?_; apply Exists.intro; refine ⟨fun vs wq hw => ?_, ?_⟩; (focus (rw [HCl.out] at hw; (try simp only [List.nil_append, List.cons_append] at hw); (try dsimp only at hw); obtain ⟨hw1, hw2⟩ := hw; go_split_ands; go_simp <;> first | with_reducible exact (rfl : Value.bool false = _) | with_reducible exact (rfl : Value.bool true = _) | ((try go_bits) <;> exact rfl))); simp only [Act.put, Nat.reduceAdd, List.setIfInBounds_toArray, List.set_cons_zero, List.set_cons_succ, List.nil_append, List.cons_append])))
  refine wN_eff (by rfl) (by rfl) (fun wq hw => ?_) (fun u hu => ?_)
  focus
    rw [HCl.out] at hw; (try simp only [List.nil_append, List.cons_append] at hw); (try dsimp only at hw)
    obtain ⟨⟨⟨y0, y1⟩, y2⟩, hlw, hS, hQq⟩ := hw
    have hbA : Below wq.heap.size wq (wq.alloc (.cells #[.int .u64 at'] 27)) := Below.alloc (Below.refl _ _) (Nat.le_refl _) _
    have hS2 := hS.below hbA
    have hQ2 := hQq.below hbA
    have hL2 := HL.out _ hS2
    clear hS hQq hlw
    go_simp
    rw [HCl.out]; (try simp only [List.nil_append, List.cons_append]); (try dsimp only)
    exact ⟨⟨⟨by simp [go_sem, y0, y1], by simp; omega⟩, by simp; omega⟩, hL2, hS2, hQ2, wq.heap.size, rfl, by simp, by simp [go_sem]⟩
  obtain ⟨wz, hz⟩ := hu
  rw [HCl.out] at hz
  (try simp only [List.nil_append, List.cons_append] at hz)
  (try dsimp only at hz)
  obtain ⟨_, _, _, _, b', rfl, hz1⟩ := hz
  clear hz1
  simp only [Act.put, Nat.reduceAdd, List.setIfInBounds_toArray, List.set_cons_zero, List.set_cons_succ, List.nil_append, List.cons_append]
  (repeat (first | (refine wN_skip (by rfl) ?_; simp only [Act.put, Nat.reduceAdd, List.setIfInBounds_toArray, List.set_cons_zero, List.set_cons_succ, List.nil_append, List.cons_append]) | (refine wN_open (by rfl) (by rfl) ?_; apply Exists.intro; refine ⟨fun vs wq hw => ?_, ?_⟩; (focus (rw [HCl.out] at hw; (try simp only [List.nil_append, List.cons_append] at hw); (try dsimp only at hw); obtain ⟨hw1, hw2⟩ := hw; go_split_ands; go_simp <;> first | with_reducible exact (rfl : Value.bool false = _) | with_reducible exact (rfl : Value.bool true = _) | ((try go_bits) <;> exact rfl))); simp only [Act.put, Nat.reduceAdd, List.setIfInBounds_toArray, List.set_cons_zero, List.set_cons_succ, List.nil_append, List.cons_append])))
  refine wN_eff (by rfl) (by rfl) (fun wq hw => ?_) (fun u hu => ?_)
  focus
    rw [HCl.out] at hw; (try simp only [List.nil_append, List.cons_append] at hw); (try dsimp only at hw)
    obtain ⟨⟨⟨y0, y1⟩, y2⟩, hlw, hS, hQq, bq, hbe, hb1, hb2⟩ := hw
    obtain rfl : b' = bq := by simpa using hbe
    obtain ⟨v', wp, hr, hQn, hO⟩ := run_append_q (P := Try.prog) wq (p + 1) 56 56 27 iu (.int .u64 0) 8 Try.underlying56 HI0 HZ0 HZ1 HZ2 rfl (Value.slice ao m cp) m g hQq ⟨b', 0, none⟩ 1 (.int .u64 at') hb2 rfl (by unfold maxLen; omega) (by omega) (by omega)
    refine eff_append (.tmp 29) (.tmp 31) 56 rfl rfl rfl hr ?_
    rw [HCl.out]; (try simp only [List.nil_append, List.cons_append]); (try dsimp only)
    have hS2 := hS.only hO
    exact ⟨⟨⟨hS2.c0, hS2.plt⟩, Nat.le_trans y2 hO.size⟩, hS2, hQn⟩
  obtain ⟨wz, hz⟩ := hu
  rw [HCl.out] at hz
  (try simp only [List.nil_append, List.cons_append] at hz)
  (try dsimp only at hz)
  obtain ⟨_, _, hz2⟩ := hz
  obtain ⟨ao2, cp2, rfl⟩ := QS.form hz2
  clear hz2
  simp only [Act.put, Nat.reduceAdd, List.setIfInBounds_toArray, List.set_cons_zero, List.set_cons_succ, List.nil_append, List.cons_append]
  (repeat (first | (refine wN_skip (by rfl) ?_; simp only [Act.put, Nat.reduceAdd, List.setIfInBounds_toArray, List.set_cons_zero, List.set_cons_succ, List.nil_append, List.cons_append]) | (refine wN_open (by rfl) (by rfl) ?_; apply Exists.intro; refine ⟨fun vs wq hw => ?_, ?_⟩; (focus (rw [HCl.out] at hw; (try simp only [List.nil_append, List.cons_append] at hw); (try dsimp only at hw); obtain ⟨hw1, hw2⟩ := hw; go_split_ands; go_simp <;> first | with_reducible exact (rfl : Value.bool false = _) | with_reducible exact (rfl : Value.bool true = _) | ((try go_bits) <;> exact rfl))); simp only [Act.put, Nat.reduceAdd, List.setIfInBounds_toArray, List.set_cons_zero, List.set_cons_succ, List.nil_append, List.cons_append])))
  refine wN_eff (by rfl) (by rfl) (fun wq hw => ?_) (fun u hu => ?_)
  focus
    rw [HCl.out] at hw; (try simp only [List.nil_append, List.cons_append] at hw); (try dsimp only at hw)
    obtain ⟨⟨⟨y0, y1⟩, y2⟩, hS, hQq⟩ := hw
    obtain ⟨wp, hr, h1, h2, h3⟩ := hS.mpw.update ikok Try.underlying52 hc (.slice ao2 (m + 1) cp2)
    rw [upd_one] at h1
    refine eff_mapUpdate (.tmp 22) (.tmp 23) (.tmp 32) 52 rfl rfl rfl rfl hr ?_
    rw [HCl.out]; (try simp only [List.nil_append, List.cons_append]); (try dsimp only)
    have hS2 := hS.putw h1 h2
    have o2 := hS.o2
    have o3 := hS.o3
    exact ⟨⟨⟨hS2.c0, hS2.plt⟩, Nat.le_trans y2 h2.size⟩, hS2, hQq.only h2 (fun k hk => by omega)⟩
  clear hu
  simp only [Act.put, Nat.reduceAdd, List.setIfInBounds_toArray, List.set_cons_zero, List.set_cons_succ, List.nil_append, List.cons_append]
  (repeat (first | (refine wN_skip (by rfl) ?_; simp only [Act.put, Nat.reduceAdd, List.setIfInBounds_toArray, List.set_cons_zero, List.set_cons_succ, List.nil_append, List.cons_append]) | (refine wN_open (by rfl) (by rfl) ?_; apply Exists.intro; refine ⟨fun vs wq hw => ?_, ?_⟩; (focus (rw [HCl.out] at hw; (try simp only [List.nil_append, List.cons_append] at hw); (try dsimp only at hw); obtain ⟨hw1, hw2⟩ := hw; go_split_ands; go_simp <;> first | with_reducible exact (rfl : Value.bool false = _) | with_reducible exact (rfl : Value.bool true = _) | ((try go_bits) <;> exact rfl))); simp only [Act.put, Nat.reduceAdd, List.setIfInBounds_toArray, List.set_cons_zero, List.set_cons_succ, List.nil_append, List.cons_append])))
  refine wN_nil ?_; intro w' hw; rw [HCl.out] at hw; (try simp only [List.nil_append, List.cons_append] at hw); (try dsimp only at hw); clear HCl
  obtain ⟨_, hS, hQq⟩ := hw
  go_wp2
  go_ret
  exact ⟨rfl, _, hS, hQq⟩
end Go.Proofs.Ytnpidbodeebnkaa
