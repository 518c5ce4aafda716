/- An event is learned: what waits. -/
import Derived.Test.YtlenmhbhakeonaaAu0
namespace Go.Proofs.Ytlenmhbhakeonaa
set_option linter.unusedVariables false
set_option linter.unusedSimpArgs false
set_option maxRecDepth 100000
open Go.RowKit Fg Reg
attribute [local irreducible] Reg.wE QR

theorem eff2_append {P : Program} {Cl : List (Nat × Value) → World → Prop} {k : Nat} {ps : List (Nat × Value)} {o : Oper} {ρ : Act} {w w' : World} {sv xv v : Value} (s x : Operand) (t : TypeId)
    (ho : o.op = Op.call { callee := Callee.builtin Builtin.append, args := #[s, x], argTypes := #[t, t] }) (hs : ρ.eval s = sv) (hx : ρ.eval x = xv) (hr : (Builtin.append_ #[t, t] o.type #[sv, xv]).run P w = .ok v w') (h : Cl (ps ++ [(k, v)]) w') :
    Reg2.effUpon P Cl k ps ((execOp ρ.eval o).run P w) := by
  simp [execOp, ho, resolve, invoke, builtin, hs, hx, hr, Result.andThen, Reg2.effUpon]
  exact h
theorem eff2_mapUpdate {P : Program} {Cl : List (Nat × Value) → World → Prop} {k : Nat} {ps : List (Nat × Value)} {o : Oper} {ρ : Act} {w w' : World} {mv xv vv : Value} (m x v : Operand) (t : TypeId)
    (ho : o.op = Op.mapUpdate t m x v) (hm : ρ.eval m = mv) (hx : ρ.eval x = xv) (hv : ρ.eval v = vv) (hr : (Instr.mapUpdate t mv xv vv).run P w = .ok () w') (h : Cl (ps ++ [(k, undef)]) w') :
    Reg2.effUpon P Cl k ps ((execOp ρ.eval o).run P w) := by
  simp [execOp, ho, hm, hx, hv, hr, Result.andThen, Reg2.effUpon]
  exact h
theorem eff1_mapUpdate {P : Program} {Cl : List Value → World → Prop} {ps : List Value} {o : Oper} {ρ : Act} {w w' : World} {mv xv vv : Value} (m x v : Operand) (t : TypeId)
    (ho : o.op = Op.mapUpdate t m x v) (hm : ρ.eval m = mv) (hx : ρ.eval x = xv) (hv : ρ.eval v = vv) (hr : (Instr.mapUpdate t mv xv vv).run P w = .ok () w') (h : Cl (ps ++ [undef]) w') :
    effUpon P Cl ps ((execOp ρ.eval o).run P w) := by
  simp [execOp, ho, hm, hx, hv, hr, Result.andThen, effUpon]
  exact h
def EVP (z : World) (q : Nat) (e : Ev) : Prop := (z.cell? ⟨q, 0, none⟩ = some (.int .i64 (e).op) ∧ z.cell? ⟨q, 1, none⟩ = some (.bool (e).inn) ∧ z.cell? ⟨q, 2, none⟩ = some (.bool (e).real) ∧ z.cell? ⟨q, 3, none⟩ = some (.int .u64 (e).tm) ∧ z.cell? ⟨q, 4, none⟩ = some (.int .u64 (e).dn) ∧ z.cell? ⟨q, 5, none⟩ = some (.int .i64 (e).cls) ∧ z.cell? ⟨q, 6, none⟩ = some (.int .u64 (e).id) ∧ z.cell? ⟨q, 7, none⟩ = some (.int .i64 (e).ln) ∧ z.cell? ⟨q, 8, none⟩ = some (.int .u16 (e).a) ∧ z.cell? ⟨q, 9, none⟩ = some (.int .u16 (e).b) ∧ z.cell? ⟨q, 10, none⟩ = some (.int .u16 (e).c) ∧ z.cell? ⟨q, 11, none⟩ = some (.int .u16 (e).d) ∧ q < z.heap.size)
theorem EVP.below {z z' : World} {q : Nat} {e : Ev} (h : EVP z q e) (hb : Below z.heap.size z z') : EVP z' q e := by
  obtain ⟨c0, c1, c2, c3, c4, c5, c6, c7, c8, c9, c10, c11, l⟩ := h
  exact ⟨(hb.cell l).trans c0, (hb.cell l).trans c1, (hb.cell l).trans c2, (hb.cell l).trans c3, (hb.cell l).trans c4, (hb.cell l).trans c5, (hb.cell l).trans c6, (hb.cell l).trans c7, (hb.cell l).trans c8, (hb.cell l).trans c9, (hb.cell l).trans c10, (hb.cell l).trans c11, Nat.lt_of_lt_of_le l hb.size⟩
theorem EVP.only {S : Nat → Prop} {z z' : World} {q : Nat} {e : Ev} (h : EVP z q e) (hb : Only S z z') (hS : ¬ S q) : EVP z' q e := by
  obtain ⟨c0, c1, c2, c3, c4, c5, c6, c7, c8, c9, c10, c11, l⟩ := h
  exact ⟨(hb.cell l hS).trans c0, (hb.cell l hS).trans c1, (hb.cell l hS).trans c2, (hb.cell l hS).trans c3, (hb.cell l hS).trans c4, (hb.cell l hS).trans c5, (hb.cell l hS).trans c6, (hb.cell l hS).trans c7, (hb.cell l hS).trans c8, (hb.cell l hS).trans c9, (hb.cell l hS).trans c10, (hb.cell l hS).trans c11, Nat.lt_of_lt_of_le l hb.size⟩
set_option maxHeartbeats 8000000 in
theorem wlearn_in_c {z : World} {mw B : Nat} {f : Int → Option Value} {W : Int → List Pk} {bk : Int → Option Nat} (e : Ev) (h : MW z mw B f W bk) (hc : iok e.cls) (hin : e.inn = true) (hB : B ≤ z.heap.size) (hm : (W e.cls).length ≤ 1000) :
    Calls Try.prog 85 #[.map (some mw), .agg #[.int .i64 (e).op, .bool (e).inn, .bool (e).real, .int .u64 (e).tm, .int .u64 (e).dn, .int .i64 (e).cls, .int .u64 (e).id, .int .i64 (e).ln, .int .u16 (e).a, .int .u16 (e).b, .int .u16 (e).c, .int .u16 (e).d]] z fun r z' => r = .returned (.tuple #[]) ∧ ∃ f' bk', MW z' mw B f' (wlearn W e) bk' ∧ Only (fun k => k = mw ∨ bk e.cls = some k) z z' := by
  obtain ⟨ii, ci0, cz0, cz1, cz2⟩ := pk_parts
  have CI0 := Lib.hid ci0
  have CZ0 := Lib.hid cz0
  have CZ1 := Lib.hid cz1
  have CZ2 := Lib.hid cz2
  have hA : Below z.heap.size z (z.alloc (.cells #[.int .i64 (e).op, .bool (e).inn, .bool (e).real, .int .u64 (e).tm, .int .u64 (e).dn, .int .i64 (e).cls, .int .u64 (e).id, .int .i64 (e).ln, .int .u16 (e).a, .int .u16 (e).b, .int .u16 (e).c, .int .u16 (e).d] 96)) := Below.alloc (Below.refl _ _) (Nat.le_refl _) _
  have hl := (h.below hA).look hc
  obtain ⟨ao, cp, hv⟩ := (h.rows e.cls).form
  have hmw := (h.rows e.cls)
  rw [hv] at hl hmw
  obtain ⟨m, hmm⟩ : ∃ m, (W e.cls).length = m := ⟨_, rfl⟩
  rw [hmm] at hl hmw hm
  have HM := Lib.hid hmm
  have HV := Lib.hid hv
  have H := Lib.hid h
  have HC := Lib.hid hc
  rw [wlearn_in W e hin]
  have mwl : mw < z.heap.size := Nat.lt_of_lt_of_le h.lt hB
  have HNI : Hid (¬ (z.heap.size = mw ∨ bk e.cls = some z.heap.size)) := Lib.hid fun g => by
    rcases g with g | g
    · omega
    · exact absurd ((h.rows e.cls).lt _ g).2 (Nat.lt_irrefl _)
  rw [hin] at hl
  clear ci0 cz0 cz1 cz2 h hc hv hmm hA hmw
  go_enter Try.func85, Try.ntmps85
  go_wp2
  have hb0 : Below z.heap.size z (z.alloc (.cells #[.int .i64 e.op, .bool true, .bool e.real, .int .u64 e.tm, .int .u64 e.dn, .int .i64 e.cls, .int .u64 e.id, .int .i64 e.ln, .int .u16 e.a, .int .u16 e.b, .int .u16 e.c, .int .u16 e.d] 96)).drew := by (repeat' (first | assumption | exact Below.refl _ _ | refine Below.setCell ?_ (by first | (simp; done) | omega | (simp; omega)) _ | refine Below.alloc ?_ (by first | (simp; done) | omega | (simp; omega)) _ | refine Below.drew ?_ | refine below_drewN ?_ _))
  have he0 : EVP (z.alloc (.cells #[.int .i64 e.op, .bool true, .bool e.real, .int .u64 e.tm, .int .u64 e.dn, .int .i64 e.cls, .int .u64 e.id, .int .i64 e.ln, .int .u16 e.a, .int .u16 e.b, .int .u16 e.c, .int .u16 e.d] 96)).drew z.heap.size e := by unfold EVP; rw [hin]; ((repeat' apply And.intro) <;> first | (simp [go_sem, *]; done) | omega | (repeat' (first | with_reducible exact Below.refl _ _ | with_reducible assumption | ((with_reducible refine Below.drew ?_)) | ((with_reducible refine below_drewN ?_ _)) | ((with_reducible refine Below.alloc ?_ ?_ _); rotate_left; focus (first | omega | (simp; done) | (simp; omega))) | ((with_reducible refine Below.setCell ?_ ?_ _); rotate_left; focus (first | omega | (simp; done) | (simp; omega))) | ((with_reducible refine Below.trans ?_ (Below.mono (by with_reducible assumption) ?_)); rotate_left; focus (first | omega | (simp; done) | (simp; omega))))))
  obtain ⟨Cl, hCl⟩ : ∃ Cl : List (Nat × Value) → World → Prop, Cl = ((fun ps wz => ((wz.cell? ⟨z.heap.size, 0, none⟩ = some (.int .i64 (e).op) ∧ wz.cell? ⟨z.heap.size, 1, none⟩ = some (.bool (e).inn) ∧ wz.cell? ⟨z.heap.size, 2, none⟩ = some (.bool (e).real) ∧ wz.cell? ⟨z.heap.size, 3, none⟩ = some (.int .u64 (e).tm) ∧ wz.cell? ⟨z.heap.size, 4, none⟩ = some (.int .u64 (e).dn) ∧ wz.cell? ⟨z.heap.size, 5, none⟩ = some (.int .i64 (e).cls) ∧ wz.cell? ⟨z.heap.size, 6, none⟩ = some (.int .u64 (e).id) ∧ wz.cell? ⟨z.heap.size, 7, none⟩ = some (.int .i64 (e).ln) ∧ wz.cell? ⟨z.heap.size, 8, none⟩ = some (.int .u16 (e).a) ∧ wz.cell? ⟨z.heap.size, 9, none⟩ = some (.int .u16 (e).b) ∧ wz.cell? ⟨z.heap.size, 10, none⟩ = some (.int .u16 (e).c) ∧ wz.cell? ⟨z.heap.size, 11, none⟩ = some (.int .u16 (e).d) ∧ z.heap.size < wz.heap.size) ∧ z.heap.size < wz.heap.size ∧ B ≤ wz.heap.size) ∧ (match ps with
    | [] => MW wz mw B f W bk ∧ Only (fun k => k = mw ∨ bk e.cls = some k) z wz
    | [(_, sl)] => ∃ b', sl = .slice (some ⟨b', 0, none⟩) 1 1 ∧ (∀ j u, (Pk.cells e.pk)[j]? = some u → wz.cell? ((⟨b', 0, none⟩ : Addr).add j) = some u) ∧ MW wz mw B f W bk ∧ Only (fun k => k = mw ∨ bk e.cls = some k) z wz
    | [_, (_, v')] => ∃ z1 b1, QR wz B 6 v' (m + 1) ((W e.cls).flatMap Pk.cells ++ Pk.cells e.pk) (some b1) ∧ MW z1 mw B f W bk ∧ Only (fun k => bk e.cls = some k) z1 wz ∧ (bk e.cls = some b1 ∨ z1.heap.size ≤ b1) ∧ Only (fun k => k = mw ∨ bk e.cls = some k) z wz
    | [_, (_, v'), _] => (∃ f' bk', MW wz mw B f' (updW W e.cls (W e.cls ++ [e.pk])) bk') ∧ Only (fun k => k = mw ∨ bk e.cls = some k) z wz
    | _ => True))) := ⟨_, rfl⟩; have HCl := Lib.hid hCl; clear hCl; refine Reg2.wp_region_lineS [(0, false), (1, false), (2, false), (3, false), (4, false), (5, false), (6, false), (7, false), (8, false)] [6, 7, 8] Cl (by kernel_rfl) (by kernel_rfl) (by kernel_rfl) (by rw [HCl.out]; (try simp only [List.nil_append, List.cons_append]); (try dsimp only); exact ⟨⟨he0, by simp, by simp; omega⟩, H.out.below hb0, Only.of_below hb0⟩) ?_
  clear hb0 he0
  (repeat (first | (refine Reg2.wS_skip (by (simp only [List.getElem?_toArray, List.getElem?_cons_succ, List.getElem?_cons_zero]) <;> rfl) (by rfl) ?_; simp only [Act.put, Nat.reduceAdd, List.setIfInBounds_toArray, List.set_cons_zero, List.set_cons_succ, List.nil_append, List.cons_append]) | (refine Reg2.wS_open (by (simp only [List.getElem?_toArray, List.getElem?_cons_succ, List.getElem?_cons_zero]) <;> rfl) (by rfl) (by rfl) ?_; apply Exists.intro; refine ⟨fun vs wq hw => ?_, ?_⟩; (focus (rw [HCl.out] at hw; (try simp only [List.nil_append, List.cons_append] at hw); (try dsimp only at hw); go_split_ands; go_simp <;> first | with_reducible exact (rfl : Value.bool false = _) | with_reducible exact (rfl : Value.bool true = _) | ((try go_bits) <;> exact rfl))); simp only [Act.put, Nat.reduceAdd, List.setIfInBounds_toArray, List.set_cons_zero, List.set_cons_succ, List.nil_append, List.cons_append])))
  -- the row of one packet
  refine Reg2.wS_eff (by (simp only [List.getElem?_toArray, List.getElem?_cons_succ, List.getElem?_cons_zero]) <;> rfl) (by rfl) (by rfl) (fun wq hw => ?_) (fun u9 hu => ?_)
  focus
    rw [HCl.out] at hw; (try simp only [List.nil_append, List.cons_append] at hw); (try dsimp only at hw)
    obtain ⟨⟨hev, hzs, hbs⟩, hM, hO⟩ := hw
    go_simp
    rw [HCl.out]; (try simp only [List.nil_append, List.cons_append]); (try dsimp only)
    have hbA := fun o => Below.alloc (Below.refl wq.heap.size wq) (Nat.le_refl _) o
    exact ⟨⟨EVP.below (show EVP wq z.heap.size e from hev) (hbA _), by simp; omega, by simp; omega⟩, wq.heap.size, rfl, fun j u hu => by (rcases j with _ | _ | _ | _ | _ | _ | j <;> simp [Pk.cells, Ev.pk] at hu <;> (try subst hu) <;> simp [Addr.add, go_sem]), hM.below (hbA _), hO.trans (Only.of_below (hbA _))⟩
  (obtain ⟨wz, hz⟩ := hu; rw [HCl.out] at hz; (try simp only [List.nil_append, List.cons_append] at hz); (try dsimp only at hz))
  obtain ⟨-, b', rfl, -⟩ := hz
  clear wz
  simp only [Act.put, Nat.reduceAdd, List.setIfInBounds_toArray, List.set_cons_zero, List.set_cons_succ, List.nil_append, List.cons_append]
  (repeat (first | (refine Reg2.wS_skip (by (simp only [List.getElem?_toArray, List.getElem?_cons_succ, List.getElem?_cons_zero]) <;> rfl) (by rfl) ?_; simp only [Act.put, Nat.reduceAdd, List.setIfInBounds_toArray, List.set_cons_zero, List.set_cons_succ, List.nil_append, List.cons_append]) | (refine Reg2.wS_open (by (simp only [List.getElem?_toArray, List.getElem?_cons_succ, List.getElem?_cons_zero]) <;> rfl) (by rfl) (by rfl) ?_; apply Exists.intro; refine ⟨fun vs wq hw => ?_, ?_⟩; (focus (rw [HCl.out] at hw; (try simp only [List.nil_append, List.cons_append] at hw); (try dsimp only at hw); go_split_ands; go_simp <;> first | with_reducible exact (rfl : Value.bool false = _) | with_reducible exact (rfl : Value.bool true = _) | ((try go_bits) <;> exact rfl))); simp only [Act.put, Nat.reduceAdd, List.setIfInBounds_toArray, List.set_cons_zero, List.set_cons_succ, List.nil_append, List.cons_append])))
  -- append
  refine Reg2.wS_eff (by (simp only [List.getElem?_toArray, List.getElem?_cons_succ, List.getElem?_cons_zero]) <;> rfl) (by rfl) (by rfl) (fun wq hw => ?_) (fun u9 hu => ?_)
  focus
    rw [HCl.out] at hw; (try simp only [List.nil_append, List.cons_append] at hw); (try dsimp only at hw)
    obtain ⟨⟨hev, hzs, hbs⟩, bq, hbe, hcs, hM, hO⟩ := hw
    obtain rfl : b' = bq := by simpa using hbe
    have hq := hM.rows e.cls
    rw [HV.out, HM.out] at hq
    obtain ⟨v', w2, b1, hr, hQ, hO1, hb1⟩ := run_append_qr (P := Try.prog) wq B 6 86 86 94 ii _ 24 Try.underlying86 CI0.out CZ0.out CZ1.out CZ2.out rfl (by decide) (.slice ao m cp) m ((W e.cls).flatMap Pk.cells) (bk e.cls) hq ⟨b', 0, none⟩ 1 (Pk.cells e.pk) rfl hcs (pkC.one _) (by unfold maxLen; omega) (by omega) hbs
    refine eff2_append _ _ 86 rfl rfl rfl hr ?_
    rw [HCl.out]; (try simp only [List.nil_append, List.cons_append]); (try dsimp only)
    have hS1 := hO1.mono (T := (fun k => k = mw ∨ bk e.cls = some k)) (fun k hk => .inr hk)
    exact ⟨⟨EVP.only (show EVP wq z.heap.size e from hev) hS1 HNI.out, Nat.lt_of_lt_of_le hzs hO1.size, Nat.le_trans hbs hO1.size⟩, wq, b1, hQ, hM, hO1, hb1, hO.trans hS1⟩
  (obtain ⟨wz, hz⟩ := hu; rw [HCl.out] at hz; (try simp only [List.nil_append, List.cons_append] at hz); (try dsimp only at hz))
  obtain ⟨-, _, _, hz2, -⟩ := hz
  obtain ⟨ao2, cp2, rfl⟩ := hz2.form
  clear hz2 wz
  simp only [Act.put, Nat.reduceAdd, List.setIfInBounds_toArray, List.set_cons_zero, List.set_cons_succ, List.nil_append, List.cons_append]
  (repeat (first | (refine Reg2.wS_skip (by (simp only [List.getElem?_toArray, List.getElem?_cons_succ, List.getElem?_cons_zero]) <;> rfl) (by rfl) ?_; simp only [Act.put, Nat.reduceAdd, List.setIfInBounds_toArray, List.set_cons_zero, List.set_cons_succ, List.nil_append, List.cons_append]) | (refine Reg2.wS_open (by (simp only [List.getElem?_toArray, List.getElem?_cons_succ, List.getElem?_cons_zero]) <;> rfl) (by rfl) (by rfl) ?_; apply Exists.intro; refine ⟨fun vs wq hw => ?_, ?_⟩; (focus (rw [HCl.out] at hw; (try simp only [List.nil_append, List.cons_append] at hw); (try dsimp only at hw); go_split_ands; go_simp <;> first | with_reducible exact (rfl : Value.bool false = _) | with_reducible exact (rfl : Value.bool true = _) | ((try go_bits) <;> exact rfl))); simp only [Act.put, Nat.reduceAdd, List.setIfInBounds_toArray, List.set_cons_zero, List.set_cons_succ, List.nil_append, List.cons_append])))
  -- the map
  refine Reg2.wS_eff (by (simp only [List.getElem?_toArray, List.getElem?_cons_succ, List.getElem?_cons_zero]) <;> rfl) (by rfl) (by rfl) (fun wq hw => ?_) (fun u9 hu => ?_)
  focus
    rw [HCl.out] at hw; (try simp only [List.nil_append, List.cons_append] at hw); (try dsimp only at hw)
    obtain ⟨⟨hev, hzs, hbs⟩, z1, b1, hQ, hM, hO1, hb1, hO⟩ := hw
    have hM1 := hM.mp
    obtain ⟨n, hn⟩ := hM1
    have hlt := hM.lt
    have hn2 := hn.frame (hO1.block mw hn.lt (fun g => by have := ((hM.rows e.cls).lt _ g).1; omega))
    obtain ⟨w3, hr, h1, h2, h3⟩ := hn2.update ikok Try.underlying132 HC.out (.slice ao2 (m + 1) cp2)
    refine eff2_mapUpdate _ _ _ 132 rfl rfl rfl rfl hr ?_
    rw [HCl.out]; (try simp only [List.nil_append, List.cons_append]); (try dsimp only)
    have hS2 := h2.mono (T := (fun k => k = mw ∨ bk e.cls = some k)) (fun k hk => .inl hk)
    refine ⟨⟨EVP.only (show EVP wq z.heap.size e from hev) hS2 HNI.out, by rw [h3]; exact hzs, by rw [h3]; exact hbs⟩, ⟨_, _, hM.put (c := e.cls) (L := W e.cls ++ [e.pk]) (bc := some b1) hO1 ?_ (fun b hb => by cases hb; exact hb1) h1 h2⟩, hO.trans hS2⟩
    rw [List.length_append, List.length_singleton, HM.out, List.flatMap_append, List.flatMap_singleton]
    exact hQ
  clear hu
  simp only [Act.put, Nat.reduceAdd, List.setIfInBounds_toArray, List.set_cons_zero, List.set_cons_succ, List.nil_append, List.cons_append]
  (repeat (first | (refine Reg2.wS_skip (by (simp only [List.getElem?_toArray, List.getElem?_cons_succ, List.getElem?_cons_zero]) <;> rfl) (by rfl) ?_; simp only [Act.put, Nat.reduceAdd, List.setIfInBounds_toArray, List.set_cons_zero, List.set_cons_succ, List.nil_append, List.cons_append]) | (refine Reg2.wS_open (by (simp only [List.getElem?_toArray, List.getElem?_cons_succ, List.getElem?_cons_zero]) <;> rfl) (by rfl) (by rfl) ?_; apply Exists.intro; refine ⟨fun vs wq hw => ?_, ?_⟩; (focus (rw [HCl.out] at hw; (try simp only [List.nil_append, List.cons_append] at hw); (try dsimp only at hw); go_split_ands; go_simp <;> first | with_reducible exact (rfl : Value.bool false = _) | with_reducible exact (rfl : Value.bool true = _) | ((try go_bits) <;> exact rfl))); simp only [Act.put, Nat.reduceAdd, List.setIfInBounds_toArray, List.set_cons_zero, List.set_cons_succ, List.nil_append, List.cons_append])))
  refine Reg2.wS_nil ?_; intro w' hw; rw [HCl.out] at hw; (try simp only [List.nil_append, List.cons_append] at hw); (try dsimp only at hw); clear HCl
  obtain ⟨-, ⟨f', bk', hM'⟩, hO'⟩ := hw
  go_wp2
  refine bodyPost_end (v := .tuple #[]) (by simp [results, Try.results85]) rfl ⟨rfl, f', bk', hM', hO'⟩
end Go.Proofs.Ytlenmhbhakeonaa
