/- Two more questions; an event is learned. -/
import Derived.Test.YtlenmhbhakeonaaAu3
namespace Go.Proofs.Ytlenmhbhakeonaa
set_option linter.unusedVariables false
set_option linter.unusedSimpArgs false
set_option maxRecDepth 100000
open Go.RowKit Fg Reg
attribute [local irreducible] Reg.wE QR

theorem run_equalIn_ar {P : Program} (d : Nat) (t e : TypeId) (n : Nat) (k : IntKind) (ht : P.underlying t = some (.array n e)) (he : P.underlying e = some (.int k)) (hz : ∀ w, (sizeOf e).run P w = .ok 1 w) (hp : ∀ (cs : Array Value) (i : Nat) (v : Value) w, cs[i]? = some v → (part e cs i).run P w = .ok v w)
    (xs ys : List Int) (hx : xs.length = n) (hy : ys.length = n) (w : World) :
    (Op.equalIn (d + 2) t (.agg (xs.map (Value.int k)).toArray) (.agg (ys.map (Value.int k)).toArray)).run P w = .ok (xs == ys) w := by
  rw [Op.equalIn]
  simp only [Sem.run_bind, run_underlying ht, Result.andThen_ok, hz]
  have key : ∀ (m s : Nat), s + m = n → ∀ w : World, Sem.run P (forIn (List.range' s m) ((none : Option Bool), ()) fun i __s => do
            let __do_lift ← part e (List.map (Value.int k) xs).toArray (i * 1)
            let __do_lift_1 ← part e (List.map (Value.int k) ys).toArray (i * 1)
            let __do_lift ← Op.equalIn (d + 1) e __do_lift __do_lift_1
            if (!__do_lift) = true then pure (ForInStep.done (some false, ())) else pure (ForInStep.yield (none, ()))) w = .ok (if xs.drop s == ys.drop s then (none, ()) else (some false, ())) w := by
    intro m
    induction m with
    | zero =>
      intro s hs w
      rw [List.drop_eq_nil_of_le (by omega), List.drop_eq_nil_of_le (by omega)]
      simp [List.range']
    | succ m ih =>
      intro s hs w
      have h1 : s < xs.length := by omega
      have h2 : s < ys.length := by omega
      rw [List.range'_succ, List.forIn_cons]
      simp only [Sem.run_bind, Nat.mul_one]
      rw [hp _ s (.int k xs[s]) w (by simp [h1]), Result.andThen_ok, hp _ s (.int k ys[s]) w (by simp [h2]), Result.andThen_ok, run_equalIn_int w d e k k _ _ he, Result.andThen_ok]
      rw [List.drop_eq_getElem_cons h1, List.drop_eq_getElem_cons h2, List.cons_beq_cons]
      cases hb : (xs[s] == ys[s]) with
      | false => simp
      | true =>
        have := ih (s + 1) (by omega) w
        simp only [Nat.mul_one] at this
        simpa using this
  have h := key n 0 (by omega) w
  simp only [Std.Legacy.Range.forIn_eq_forIn_range', Std.Legacy.Range.size, Nat.sub_zero, Nat.add_one_sub_one, Nat.div_one]
  rw [h, Result.andThen_ok, List.drop_zero, List.drop_zero]
  cases hb : (xs == ys) <;> simp
theorem eqHd2 (n : Nat) (p q : Pk) (w : World) : (Op.equalIn (n + 2) 92 (.agg #[.int .u16 p.a, .int .u16 p.b, .int .u16 p.c, .int .u16 p.d]) (.agg #[.int .u16 q.a, .int .u16 q.b, .int .u16 q.c, .int .u16 q.d])).run Try.prog w = .ok (decide (p.a = q.a ∧ p.b = q.b ∧ p.c = q.c ∧ p.d = q.d)) w := by
  have hz : ∀ w, (sizeOf 90).run Try.prog w = .ok 1 w := fun w => by kernel_rfl
  have ha : ∀ w, (isAgg 90).run Try.prog w = .ok false w := fun w => by kernel_rfl
  have h := run_equalIn_ar (P := Try.prog) n 92 90 4 .u16 Try.underlying92 Try.underlying90 hz (fun cs i v w h => by unfold part; simp only [Sem.run_bind, ha, Result.andThen_ok, Bool.false_eq_true, if_false, h]; rfl) [p.a, p.b, p.c, p.d] [q.a, q.b, q.c, q.d] rfl rfl w
  have e : ([p.a, p.b, p.c, p.d] == [q.a, q.b, q.c, q.d]) = decide (p.a = q.a ∧ p.b = q.b ∧ p.c = q.c ∧ p.d = q.d) := by
    rw [Bool.eq_iff_iff]; simp
  rw [e] at h
  exact h
theorem pk_eq (p q : Pk) : p = q ↔ p.i = q.i ∧ p.n = q.n ∧ p.a = q.a ∧ p.b = q.b ∧ p.c = q.c ∧ p.d = q.d := by
  cases p; cases q; simp
/-- Two packets, held against one another. -/
theorem eq_pk (p q : Pk) (w : World) : (Op.equalIn 10000 94 (.agg #[.int .u64 (p).i, .int .i64 (p).n, .int .u16 (p).a, .int .u16 (p).b, .int .u16 (p).c, .int .u16 (p).d]) (.agg #[.int .u64 (q).i, .int .i64 (q).n, .int .u16 (q).a, .int .u16 (q).b, .int .u16 (q).c, .int .u16 (q).d])).run Try.prog w = .ok (decide (p = q)) w := by
  have hz : ∀ w, (sizeOf 27).run Try.prog w = .ok 1 w := fun w => by kernel_rfl
  have ha : ∀ w, (isAgg 27).run Try.prog w = .ok false w := fun w => by kernel_rfl
  have hz1 : ∀ w, (sizeOf 3).run Try.prog w = .ok 1 w := fun w => by kernel_rfl
  have ha1 : ∀ w, (isAgg 3).run Try.prog w = .ok false w := fun w => by kernel_rfl
  have hz2 : ∀ w, (sizeOf 90).run Try.prog w = .ok 1 w := fun w => by kernel_rfl
  have ha2 : ∀ w, (isAgg 90).run Try.prog w = .ok false w := fun w => by kernel_rfl
  have hz3 : ∀ w, (sizeOf 92).run Try.prog w = .ok 4 w := fun w => by kernel_rfl
  have ha3 : ∀ w, (isAgg 92).run Try.prog w = .ok true w := fun w => by kernel_rfl
  have e9 := eqHd2 9997 p q
  have u1 := Try.underlying27
  have u2 := Try.underlying3
  have u3 := Try.underlying90
  have hS : Try.prog.underlying 94 = some (.struct (Try.prog.fieldsOf 94)) := by kernel_rfl
  have hp : Try.prog.stoodInHeld 94 = false := by kernel_rfl
  rw [show (10000 : Nat) = 9999 + 1 from rfl, run_equalIn_agg w 9999 94 _ _ hS hp]
  simp only [Program.fieldsOf, Try.underlying94]
  by_cases g1 : p.i = q.i
  · have b1 : (p.i == q.i) = true := by simpa using g1
    by_cases g2 : p.n = q.n
    · have b2 : (p.n == q.n) = true := by simpa using g2
      rw [show decide (p = q) = decide (p.a = q.a ∧ p.b = q.b ∧ p.c = q.c ∧ p.d = q.d) by rw [decide_eq_decide, pk_eq]; simp [g1, g2]]
      generalize decide (p.a = q.a ∧ p.b = q.b ∧ p.c = q.c ∧ p.d = q.d) = r at *
      clear g1 g2
      cases r <;> go_simp
    · have b2 : (p.n == q.n) = false := by simpa using g2
      rw [show decide (p = q) = false from decide_eq_false fun h => g2 ((pk_eq p q).1 h).2.1]
      clear g1 g2
      go_simp
  · have b1 : (p.i == q.i) = false := by simpa using g1
    rw [show decide (p = q) = false from decide_eq_false fun h => g1 ((pk_eq p q).1 h).1]
    clear g1
    go_simp
theorem pk_at {z : World} {B : Nat} {b o m cap : Nat} {bk : Option Nat} {P : Pk} {L : List Pk} (h : QR z B 6 (.slice (some ⟨b, o, none⟩) m cap) m ((P :: L).flatMap Pk.cells) bk) : (z.cell? ⟨b, o, none⟩ = some (.int .u64 (P).i) ∧ z.cell? ⟨b, o + 1, none⟩ = some (.int .i64 (P).n) ∧ z.cell? ⟨b, o + 2, none⟩ = some (.int .u16 (P).a) ∧ z.cell? ⟨b, o + 3, none⟩ = some (.int .u16 (P).b) ∧ z.cell? ⟨b, o + 4, none⟩ = some (.int .u16 (P).c) ∧ z.cell? ⟨b, o + 5, none⟩ = some (.int .u16 (P).d) ∧ b < z.heap.size) := by
  unfold QR at h
  obtain ⟨h0, ⟨h, _⟩ | ⟨b', o', cap', h1, h2, h3, h4, h5, h6, h7, h8⟩⟩ := h
  · cases h
  · injection h2 with e1 e2 e3
    injection e1 with e1
    injection e1 with e1 e4
    subst e1 e4 e3
    refine ⟨?_, ?_, ?_, ?_, ?_, ?_, h6⟩
    · have := h8 0 (.int .u64 P.i) rfl; simpa using this
    · exact h8 1 (.int .i64 P.n) rfl
    · exact h8 2 (.int .u16 P.a) rfl
    · exact h8 3 (.int .u16 P.b) rfl
    · exact h8 4 (.int .u16 P.c) rfl
    · exact h8 5 (.int .u16 P.d) rfl
set_option maxHeartbeats 4000000 in
theorem qq6_c {z : World} {p mw B : Nat} {st : St} {f : Int → Option Value} {W : Int → List Pk} {bk : Int → Option Nat} (e : Ev) (h : PSt z p mw B st f W bk) (hc : iok e.cls) (hne : e.inn = false → (W e.cls) ≠ []) : Calls Try.prog 111 #[.pointer (some ⟨p, 0, none⟩), .agg #[.int .i64 (e).op, .bool (e).inn, .bool (e).real, .int .u64 (e).tm, .int .u64 (e).dn, .int .i64 (e).cls, .int .u64 (e).id, .int .i64 (e).ln, .int .u16 (e).a, .int .u16 (e).b, .int .u16 (e).c, .int .u16 (e).d]] z fun ee w' => ee = .returned (.bool (qb6 W e)) ∧ Below z.heap.size z w' := by
  obtain ⟨c0, c1, c2, c3, c4, c5, plt⟩ := h.cl
  unfold qb6
  cases hin : e.inn with
  | true =>
    rw [Bool.not_true, Bool.false_and]
    clear h
    go_enter Try.func111, Try.ntmps111
    go_wp2
    obtain ⟨Cl, hCl⟩ : ∃ Cl : List Value → World → Prop, Cl = ((fun ps wz => (wz.cell? ⟨z.heap.size, 0, none⟩ = some (.int .i64 (e).op) ∧ wz.cell? ⟨z.heap.size, 1, none⟩ = some (.bool (e).inn) ∧ wz.cell? ⟨z.heap.size, 2, none⟩ = some (.bool (e).real) ∧ wz.cell? ⟨z.heap.size, 3, none⟩ = some (.int .u64 (e).tm) ∧ wz.cell? ⟨z.heap.size, 4, none⟩ = some (.int .u64 (e).dn) ∧ wz.cell? ⟨z.heap.size, 5, none⟩ = some (.int .i64 (e).cls) ∧ wz.cell? ⟨z.heap.size, 6, none⟩ = some (.int .u64 (e).id) ∧ wz.cell? ⟨z.heap.size, 7, none⟩ = some (.int .i64 (e).ln) ∧ wz.cell? ⟨z.heap.size, 8, none⟩ = some (.int .u16 (e).a) ∧ wz.cell? ⟨z.heap.size, 9, none⟩ = some (.int .u16 (e).b) ∧ wz.cell? ⟨z.heap.size, 10, none⟩ = some (.int .u16 (e).c) ∧ wz.cell? ⟨z.heap.size, 11, none⟩ = some (.int .u16 (e).d) ∧ z.heap.size < wz.heap.size) ∧ (wz.cell? ⟨p, 0, none⟩ = some (.int .i64 (st).tt) ∧ wz.cell? ⟨p, 1, none⟩ = some (.int .i64 (st).lm) ∧ wz.cell? ⟨p, 2, none⟩ = some (.int .i64 (st).op) ∧ wz.cell? ⟨p, 3, none⟩ = some (.int .u64 (st).tm) ∧ wz.cell? ⟨p, 4, none⟩ = some (.int .u64 (st).dn) ∧ wz.cell? ⟨p, 5, none⟩ = some (.map (some mw)) ∧ p < wz.heap.size) ∧ z.heap.size < wz.heap.size ∧ Below z.heap.size z wz)) := ⟨_, rfl⟩; have HCl := Lib.hid hCl; clear hCl; refine wp_region_eff [] Cl (by kernel_rfl) (by kernel_rfl) (by rw [HCl.out]; (try simp only [List.nil_append, List.cons_append]); (try dsimp only); ((repeat' apply And.intro) <;> first | (simp [go_sem, *]; done) | omega | (repeat' (first | with_reducible exact Below.refl _ _ | with_reducible assumption | ((with_reducible refine Below.drew ?_)) | ((with_reducible refine below_drewN ?_ _)) | ((with_reducible refine Below.alloc ?_ ?_ _); rotate_left; focus (first | omega | (simp; done) | (simp; omega))) | ((with_reducible refine Below.setCell ?_ ?_ _); rotate_left; focus (first | omega | (simp; done) | (simp; omega))) | ((with_reducible refine Below.trans ?_ (Below.mono (by with_reducible assumption) ?_)); rotate_left; focus (first | omega | (simp; done) | (simp; omega))))))) ?_
    (repeat (first | (refine wE_skip (by rfl) ?_; simp only [Act.put, Nat.reduceAdd, List.setIfInBounds_toArray, List.set_cons_zero, List.set_cons_succ, List.nil_append, List.cons_append]) | (refine wE_open (by rfl) (by rfl) ?_; apply Exists.intro; refine ⟨fun vs wq hw => ?_, ?_⟩; (focus (rw [HCl.out] at hw; (try simp only [List.nil_append, List.cons_append] at hw); (try dsimp only at hw); go_split_ands; go_simp <;> first | with_reducible exact (rfl : Value.bool false = _) | with_reducible exact (rfl : Value.bool true = _) | ((try go_bits) <;> exact rfl))); simp only [Act.put, Nat.reduceAdd, List.setIfInBounds_toArray, List.set_cons_zero, List.set_cons_succ, List.nil_append, List.cons_append]) | (refine wE_seal (by rfl) (by rfl) (by kernel_rfl) ?_; apply Exists.intro; refine ⟨fun wq hw => ?_, ?_⟩; (focus (rw [HCl.out] at hw; (try simp only [List.nil_append, List.cons_append] at hw); (try dsimp only at hw); go_split_ands; go_simp <;> (try go_bits) <;> exact rfl)); simp only [Act.put, Nat.reduceAdd, List.setIfInBounds_toArray, List.set_cons_zero, List.set_cons_succ, List.nil_append, List.cons_append]) | (refine wE_seal (by rfl) (by rfl) (by kernel_rfl) ?_; apply Exists.intro; refine ⟨fun wq hw => ?_, ?_⟩; (focus (rw [HCl.out] at hw; (try simp only [List.nil_append, List.cons_append] at hw); (try dsimp only at hw); go_split_ands; go_simp; (fail))); simp only [Act.put, Nat.reduceAdd, List.setIfInBounds_toArray, List.set_cons_zero, List.set_cons_succ, List.nil_append, List.cons_append]) | (refine wE_eff (by rfl) (by rfl) (fun wq hw => ?_) (fun u hu => ?_); (focus (rw [HCl.out] at hw; (try simp only [List.nil_append, List.cons_append] at hw); (try dsimp only at hw); go_split_ands; go_simp; rw [HCl.out]; (try simp only [List.nil_append, List.cons_append]); (try dsimp only); fail; ((repeat' apply And.intro) <;> first | (simp [go_sem, *]; done) | omega | (repeat' (first | with_reducible exact Below.refl _ _ | with_reducible assumption | ((with_reducible refine Below.drew ?_)) | ((with_reducible refine below_drewN ?_ _)) | ((with_reducible refine Below.alloc ?_ ?_ _); rotate_left; focus (first | omega | (simp; done) | (simp; omega))) | ((with_reducible refine Below.setCell ?_ ?_ _); rotate_left; focus (first | omega | (simp; done) | (simp; omega))) | ((with_reducible refine Below.trans ?_ (Below.mono (by with_reducible assumption) ?_)); rotate_left; focus (first | omega | (simp; done) | (simp; omega)))))))); clear hu; simp only [Act.put, Nat.reduceAdd, List.setIfInBounds_toArray, List.set_cons_zero, List.set_cons_succ, List.nil_append, List.cons_append])))
    refine wE_nil ?_; intro w' hw; rw [HCl.out] at hw; (try simp only [List.nil_append, List.cons_append] at hw); (try dsimp only at hw); clear HCl
    go_split_ands
    go_wp2
    go_ret
    refine ⟨rfl, ?_⟩
    first | (with_reducible assumption) | (repeat' (first | assumption | exact Below.refl _ _ | refine Below.setCell ?_ (by first | (simp; done) | omega | (simp; omega)) _ | refine Below.alloc ?_ (by first | (simp; done) | omega | (simp; omega)) _ | refine Below.drew ?_ | refine below_drewN ?_ _))
  | false =>
    rw [Bool.not_false, Bool.true_and]
    obtain ⟨P, L, hL⟩ : ∃ P L, W e.cls = P :: L := List.exists_cons_of_ne_nil (hne hin)
    have HL := Lib.hid (fun (z' : World) (hb : Below z.heap.size z z') => (h.mw.below hb).look hc)
    have hq := h.mw.rows e.cls
    obtain ⟨b, o, cap, hv, hmc, -⟩ := hq.some (by rw [hL]; simp)
    rw [hv] at HL hq
    obtain ⟨m, hm⟩ : ∃ m, (W e.cls).length = m := ⟨_, rfl⟩
    have hm0 : (0 : Int) < (m : Int) := by rw [← hm, hL]; simp
    have hm1 : 0 < m := by omega
    rw [hm] at HL hq hmc
    rw [hL] at hq
    obtain ⟨r0, r1, r2, r3, r4, r5, rl⟩ := pk_at hq
    have HE := eq_pk P e.pk
    rw [hL, show decide ((P :: L).head? = some e.pk) = decide (P = e.pk) by rw [decide_eq_decide]; simp]
    generalize decide (P = e.pk) = r at *
    have HEQ : ∀ w, (Op.equalIn 10000 94 (.agg #[.int .u64 (P).i, .int .i64 (P).n, .int .u16 (P).a, .int .u16 (P).b, .int .u16 (P).c, .int .u16 (P).d]) (.agg #[.int .u64 e.id, .int .i64 e.ln, .int .u16 e.a, .int .u16 e.b, .int .u16 e.c, .int .u16 e.d])).run Try.prog w = .ok r w := HE
    have hlo : o + 0 * 6 = o := by omega
    clear h hm hv hq hL hne HE
    go_enter Try.func111, Try.ntmps111
    go_wp2
    have hl9 := HL.out (z.alloc (.cells #[.int .i64 e.op, .bool false, .bool e.real, .int .u64 e.tm, .int .u64 e.dn, .int .i64 e.cls, .int .u64 e.id, .int .i64 e.ln, .int .u16 e.a, .int .u16 e.b, .int .u16 e.c, .int .u16 e.d] 96)).drew (by (repeat' (first | assumption | exact Below.refl _ _ | refine Below.setCell ?_ (by first | (simp; done) | omega | (simp; omega)) _ | refine Below.alloc ?_ (by first | (simp; done) | omega | (simp; omega)) _ | refine Below.drew ?_ | refine below_drewN ?_ _)))
    obtain ⟨Cl, hCl⟩ : ∃ Cl : List Value → World → Prop, Cl = ((fun ps wz => (wz.cell? ⟨z.heap.size, 0, none⟩ = some (.int .i64 (e).op) ∧ wz.cell? ⟨z.heap.size, 1, none⟩ = some (.bool (e).inn) ∧ wz.cell? ⟨z.heap.size, 2, none⟩ = some (.bool (e).real) ∧ wz.cell? ⟨z.heap.size, 3, none⟩ = some (.int .u64 (e).tm) ∧ wz.cell? ⟨z.heap.size, 4, none⟩ = some (.int .u64 (e).dn) ∧ wz.cell? ⟨z.heap.size, 5, none⟩ = some (.int .i64 (e).cls) ∧ wz.cell? ⟨z.heap.size, 6, none⟩ = some (.int .u64 (e).id) ∧ wz.cell? ⟨z.heap.size, 7, none⟩ = some (.int .i64 (e).ln) ∧ wz.cell? ⟨z.heap.size, 8, none⟩ = some (.int .u16 (e).a) ∧ wz.cell? ⟨z.heap.size, 9, none⟩ = some (.int .u16 (e).b) ∧ wz.cell? ⟨z.heap.size, 10, none⟩ = some (.int .u16 (e).c) ∧ wz.cell? ⟨z.heap.size, 11, none⟩ = some (.int .u16 (e).d) ∧ z.heap.size < wz.heap.size) ∧ (wz.cell? ⟨p, 0, none⟩ = some (.int .i64 (st).tt) ∧ wz.cell? ⟨p, 1, none⟩ = some (.int .i64 (st).lm) ∧ wz.cell? ⟨p, 2, none⟩ = some (.int .i64 (st).op) ∧ wz.cell? ⟨p, 3, none⟩ = some (.int .u64 (st).tm) ∧ wz.cell? ⟨p, 4, none⟩ = some (.int .u64 (st).dn) ∧ wz.cell? ⟨p, 5, none⟩ = some (.map (some mw)) ∧ p < wz.heap.size) ∧ (wz.cell? ⟨b, o, none⟩ = some (.int .u64 (P).i) ∧ wz.cell? ⟨b, o + 1, none⟩ = some (.int .i64 (P).n) ∧ wz.cell? ⟨b, o + 2, none⟩ = some (.int .u16 (P).a) ∧ wz.cell? ⟨b, o + 3, none⟩ = some (.int .u16 (P).b) ∧ wz.cell? ⟨b, o + 4, none⟩ = some (.int .u16 (P).c) ∧ wz.cell? ⟨b, o + 5, none⟩ = some (.int .u16 (P).d) ∧ b < wz.heap.size) ∧ z.heap.size < wz.heap.size ∧ (Instr.lookup 132 (.map (some mw)) (.int .i64 e.cls) false).run Try.prog wz = .ok (.slice (some ⟨b, o, none⟩) m cap) wz ∧ Below z.heap.size z wz)) := ⟨_, rfl⟩; have HCl := Lib.hid hCl; clear hCl; refine wp_region_eff [] Cl (by kernel_rfl) (by kernel_rfl) (by rw [HCl.out]; (try simp only [List.nil_append, List.cons_append]); (try dsimp only); ((repeat' apply And.intro) <;> first | (simp [go_sem, *]; done) | omega | (repeat' (first | with_reducible exact Below.refl _ _ | with_reducible assumption | ((with_reducible refine Below.drew ?_)) | ((with_reducible refine below_drewN ?_ _)) | ((with_reducible refine Below.alloc ?_ ?_ _); rotate_left; focus (first | omega | (simp; done) | (simp; omega))) | ((with_reducible refine Below.setCell ?_ ?_ _); rotate_left; focus (first | omega | (simp; done) | (simp; omega))) | ((with_reducible refine Below.trans ?_ (Below.mono (by with_reducible assumption) ?_)); rotate_left; focus (first | omega | (simp; done) | (simp; omega))))))) ?_
    clear hl9
    (repeat (first | (refine wE_skip (by rfl) ?_; simp only [Act.put, Nat.reduceAdd, List.setIfInBounds_toArray, List.set_cons_zero, List.set_cons_succ, List.nil_append, List.cons_append]) | (refine wE_open (by rfl) (by rfl) ?_; apply Exists.intro; refine ⟨fun vs wq hw => ?_, ?_⟩; (focus (rw [HCl.out] at hw; (try simp only [List.nil_append, List.cons_append] at hw); (try dsimp only at hw); go_split_ands; go_simp <;> first | with_reducible exact (rfl : Value.bool false = _) | with_reducible exact (rfl : Value.bool true = _) | ((try go_bits) <;> exact rfl))); simp only [Act.put, Nat.reduceAdd, List.setIfInBounds_toArray, List.set_cons_zero, List.set_cons_succ, List.nil_append, List.cons_append]) | (refine wE_seal (by rfl) (by rfl) (by kernel_rfl) ?_; apply Exists.intro; refine ⟨fun wq hw => ?_, ?_⟩; (focus (rw [HCl.out] at hw; (try simp only [List.nil_append, List.cons_append] at hw); (try dsimp only at hw); go_split_ands; go_simp <;> (try go_bits) <;> exact rfl)); simp only [Act.put, Nat.reduceAdd, List.setIfInBounds_toArray, List.set_cons_zero, List.set_cons_succ, List.nil_append, List.cons_append]) | (refine wE_seal (by rfl) (by rfl) (by kernel_rfl) ?_; apply Exists.intro; refine ⟨fun wq hw => ?_, ?_⟩; (focus (rw [HCl.out] at hw; (try simp only [List.nil_append, List.cons_append] at hw); (try dsimp only at hw); go_split_ands; go_simp; (fail))); simp only [Act.put, Nat.reduceAdd, List.setIfInBounds_toArray, List.set_cons_zero, List.set_cons_succ, List.nil_append, List.cons_append]) | (refine wE_eff (by rfl) (by rfl) (fun wq hw => ?_) (fun u hu => ?_); (focus (rw [HCl.out] at hw; (try simp only [List.nil_append, List.cons_append] at hw); (try dsimp only at hw); go_split_ands; go_simp; rw [HCl.out]; (try simp only [List.nil_append, List.cons_append]); (try dsimp only); fail; ((repeat' apply And.intro) <;> first | (simp [go_sem, *]; done) | omega | (repeat' (first | with_reducible exact Below.refl _ _ | with_reducible assumption | ((with_reducible refine Below.drew ?_)) | ((with_reducible refine below_drewN ?_ _)) | ((with_reducible refine Below.alloc ?_ ?_ _); rotate_left; focus (first | omega | (simp; done) | (simp; omega))) | ((with_reducible refine Below.setCell ?_ ?_ _); rotate_left; focus (first | omega | (simp; done) | (simp; omega))) | ((with_reducible refine Below.trans ?_ (Below.mono (by with_reducible assumption) ?_)); rotate_left; focus (first | omega | (simp; done) | (simp; omega)))))))); clear hu; simp only [Act.put, Nat.reduceAdd, List.setIfInBounds_toArray, List.set_cons_zero, List.set_cons_succ, List.nil_append, List.cons_append])))
    refine wE_nil ?_; intro w' hw; rw [HCl.out] at hw; (try simp only [List.nil_append, List.cons_append] at hw); (try dsimp only at hw); clear HCl
    go_split_ands
    go_wp2
    go_ret
    refine ⟨rfl, ?_⟩
    first | (with_reducible assumption) | (repeat' (first | assumption | exact Below.refl _ _ | refine Below.setCell ?_ (by first | (simp; done) | omega | (simp; omega)) _ | refine Below.alloc ?_ (by first | (simp; done) | omega | (simp; omega)) _ | refine Below.drew ?_ | refine below_drewN ?_ _))
theorem ticks_c (e : Ev) (T : Int) (h1 : 1 ≤ T) (h2 : T ≤ 65536) (hl1 : 1 ≤ e.ln) (hl2 : e.ln ≤ 16384) (z : World) : Calls Try.prog 114 #[.agg #[.int .u64 e.id, .int .i64 e.ln, .int .u16 e.a, .int .u16 e.b, .int .u16 e.c, .int .u16 e.d], .int .i64 T] z fun ee w' => ee = .returned (.tuple #[.int .u64 (e.ln * T), .int .i64 0]) ∧ Below z.heap.size z w' := by
  have E1 : decide (T < 1) = false := decide_eq_false (by omega)
  have E2 : decide (65536 < T) = false := decide_eq_false (by omega)
  have K := Lib.hid (mayE_c e 16384 (by omega) (by omega) 0 (by rw [decide_eq_false (by omega : ¬ e.ln < 1), decide_eq_false (by omega : ¬ 16384 < e.ln)]; rfl))
  have hb1 : 0 ≤ e.ln * T := Int.mul_nonneg (by omega) (by omega)
  have hb2 : e.ln * T ≤ 16384 * 65536 := Int.mul_le_mul hl2 h2 (by omega) (by omega)
  have w1 : IntKind.u64.wrap e.ln = e.ln := by rw [IntKind.wrap_u64]; omega
  have w2 : IntKind.u64.wrap T = T := by rw [IntKind.wrap_u64]; omega
  have w3 : IntKind.u64.wrap (e.ln * T) = e.ln * T := by rw [IntKind.wrap_u64]; omega
  clear h1 h2 hl1 hl2 hb1 hb2
  go_enter Try.func114, Try.ntmps114
  go_wp2_with (go_at_call 108; (with_reducible refine (K.out _).mono ?_); rintro _ w1 ⟨rfl, hbel⟩; obtain ⟨hcc, hff⟩ := bcell hbel; have hsz := hbel.size; (try simp at hsz); have hF : (w1.cell? ⟨z.heap.size, 1, none⟩ = some (.int .i64 e.ln)) ∧ Below z.heap.size z w1 := (by ((repeat' apply And.intro) <;> first | (simp [go_sem, *]; done) | omega | (repeat' (first | with_reducible exact Below.refl _ _ | with_reducible assumption | ((with_reducible refine Below.drew ?_)) | ((with_reducible refine below_drewN ?_ _)) | ((with_reducible refine Below.alloc ?_ ?_ _); rotate_left; focus (first | omega | (simp; done) | (simp; omega))) | ((with_reducible refine Below.setCell ?_ ?_ _); rotate_left; focus (first | omega | (simp; done) | (simp; omega))) | ((with_reducible refine Below.trans ?_ (Below.mono (by with_reducible assumption) ?_)); rotate_left; focus (first | omega | (simp; done) | (simp; omega))))))); go_split_ands; clear hcc hff hbel)
  refine bodyPost_ret (v := (.tuple #[.int .u64 (e.ln * T), .int .i64 0])) (by simp [results, Try.results114, go_sem, *]) rfl ⟨rfl, ?_⟩
  with_reducible assumption
set_option maxHeartbeats 4000000 in
theorem qq8_c {z : World} {p mw B : Nat} {st : St} {f : Int → Option Value} {W : Int → List Pk} {bk : Int → Option Nat} (e : Ev) (h : PSt z p mw B st f W bk) (h1 : 1 ≤ st.tt) (h2 : st.tt ≤ 65536) (hl1 : 1 ≤ e.ln) (hl2 : e.ln ≤ 16384) : Calls Try.prog 113 #[.pointer (some ⟨p, 0, none⟩), .agg #[.int .i64 (e).op, .bool (e).inn, .bool (e).real, .int .u64 (e).tm, .int .u64 (e).dn, .int .i64 (e).cls, .int .u64 (e).id, .int .i64 (e).ln, .int .u16 (e).a, .int .u16 (e).b, .int .u16 (e).c, .int .u16 (e).d]] z fun ee w' => ee = .returned (.bool (qb8 st e)) ∧ Below z.heap.size z w' := by
  obtain ⟨c0, c1, c2, c3, c4, c5, plt⟩ := h.cl
  have K := Lib.hid (ticks_c e st.tt h1 h2 hl1 hl2)
  clear h h1 h2 hl1 hl2
  unfold qb8 tkd
  generalize e.ln * st.tt = k at *
  cases hin : e.inn with
  | true =>
    rw [Bool.not_true, Bool.false_and]
    go_enter Try.func113, Try.ntmps113
    go_wp2
    obtain ⟨Cl, hCl⟩ : ∃ Cl : List Value → World → Prop, Cl = ((fun ps wz => (wz.cell? ⟨z.heap.size, 0, none⟩ = some (.int .i64 (e).op) ∧ wz.cell? ⟨z.heap.size, 1, none⟩ = some (.bool (e).inn) ∧ wz.cell? ⟨z.heap.size, 2, none⟩ = some (.bool (e).real) ∧ wz.cell? ⟨z.heap.size, 3, none⟩ = some (.int .u64 (e).tm) ∧ wz.cell? ⟨z.heap.size, 4, none⟩ = some (.int .u64 (e).dn) ∧ wz.cell? ⟨z.heap.size, 5, none⟩ = some (.int .i64 (e).cls) ∧ wz.cell? ⟨z.heap.size, 6, none⟩ = some (.int .u64 (e).id) ∧ wz.cell? ⟨z.heap.size, 7, none⟩ = some (.int .i64 (e).ln) ∧ wz.cell? ⟨z.heap.size, 8, none⟩ = some (.int .u16 (e).a) ∧ wz.cell? ⟨z.heap.size, 9, none⟩ = some (.int .u16 (e).b) ∧ wz.cell? ⟨z.heap.size, 10, none⟩ = some (.int .u16 (e).c) ∧ wz.cell? ⟨z.heap.size, 11, none⟩ = some (.int .u16 (e).d) ∧ z.heap.size < wz.heap.size) ∧ (wz.cell? ⟨p, 0, none⟩ = some (.int .i64 (st).tt) ∧ wz.cell? ⟨p, 1, none⟩ = some (.int .i64 (st).lm) ∧ wz.cell? ⟨p, 2, none⟩ = some (.int .i64 (st).op) ∧ wz.cell? ⟨p, 3, none⟩ = some (.int .u64 (st).tm) ∧ wz.cell? ⟨p, 4, none⟩ = some (.int .u64 (st).dn) ∧ wz.cell? ⟨p, 5, none⟩ = some (.map (some mw)) ∧ p < wz.heap.size) ∧ z.heap.size < wz.heap.size ∧ Below z.heap.size z wz)) := ⟨_, rfl⟩; have HCl := Lib.hid hCl; clear hCl; refine wp_region_eff [] Cl (by kernel_rfl) (by kernel_rfl) (by rw [HCl.out]; (try simp only [List.nil_append, List.cons_append]); (try dsimp only); ((repeat' apply And.intro) <;> first | (simp [go_sem, *]; done) | omega | (repeat' (first | with_reducible exact Below.refl _ _ | with_reducible assumption | ((with_reducible refine Below.drew ?_)) | ((with_reducible refine below_drewN ?_ _)) | ((with_reducible refine Below.alloc ?_ ?_ _); rotate_left; focus (first | omega | (simp; done) | (simp; omega))) | ((with_reducible refine Below.setCell ?_ ?_ _); rotate_left; focus (first | omega | (simp; done) | (simp; omega))) | ((with_reducible refine Below.trans ?_ (Below.mono (by with_reducible assumption) ?_)); rotate_left; focus (first | omega | (simp; done) | (simp; omega))))))) ?_
    (repeat (first | (refine wE_skip (by rfl) ?_; simp only [Act.put, Nat.reduceAdd, List.setIfInBounds_toArray, List.set_cons_zero, List.set_cons_succ, List.nil_append, List.cons_append]) | (refine wE_open (by rfl) (by rfl) ?_; apply Exists.intro; refine ⟨fun vs wq hw => ?_, ?_⟩; (focus (rw [HCl.out] at hw; (try simp only [List.nil_append, List.cons_append] at hw); (try dsimp only at hw); go_split_ands; go_simp <;> first | with_reducible exact (rfl : Value.bool false = _) | with_reducible exact (rfl : Value.bool true = _) | ((try go_bits) <;> exact rfl))); simp only [Act.put, Nat.reduceAdd, List.setIfInBounds_toArray, List.set_cons_zero, List.set_cons_succ, List.nil_append, List.cons_append]) | (refine wE_seal (by rfl) (by rfl) (by kernel_rfl) ?_; apply Exists.intro; refine ⟨fun wq hw => ?_, ?_⟩; (focus (rw [HCl.out] at hw; (try simp only [List.nil_append, List.cons_append] at hw); (try dsimp only at hw); go_split_ands; go_simp <;> (try go_bits) <;> exact rfl)); simp only [Act.put, Nat.reduceAdd, List.setIfInBounds_toArray, List.set_cons_zero, List.set_cons_succ, List.nil_append, List.cons_append]) | (refine wE_seal (by rfl) (by rfl) (by kernel_rfl) ?_; apply Exists.intro; refine ⟨fun wq hw => ?_, ?_⟩; (focus (rw [HCl.out] at hw; (try simp only [List.nil_append, List.cons_append] at hw); (try dsimp only at hw); go_split_ands; go_simp; (go_at_call 114; ((with_reducible refine (K.out _).mono ?_); rintro e w' ⟨rfl, hbel⟩; obtain ⟨hcc, hff⟩ := bcell hbel; have hsz := hbel.size; (try simp at hsz); refine ⟨rfl, ?_⟩; rw [HCl.out]; (try simp only [List.nil_append, List.cons_append]); (try dsimp only); ((repeat' apply And.intro) <;> first | (simp [go_sem, *]; done) | omega | (repeat' (first | with_reducible exact Below.refl _ _ | with_reducible assumption | ((with_reducible refine Below.drew ?_)) | ((with_reducible refine below_drewN ?_ _)) | ((with_reducible refine Below.alloc ?_ ?_ _); rotate_left; focus (first | omega | (simp; done) | (simp; omega))) | ((with_reducible refine Below.setCell ?_ ?_ _); rotate_left; focus (first | omega | (simp; done) | (simp; omega))) | ((with_reducible refine Below.trans ?_ (Below.mono (by with_reducible assumption) ?_)); rotate_left; focus (first | omega | (simp; done) | (simp; omega)))))))))); simp only [Act.put, Nat.reduceAdd, List.setIfInBounds_toArray, List.set_cons_zero, List.set_cons_succ, List.nil_append, List.cons_append]) | (refine wE_eff (by rfl) (by rfl) (fun wq hw => ?_) (fun u hu => ?_); (focus (rw [HCl.out] at hw; (try simp only [List.nil_append, List.cons_append] at hw); (try dsimp only at hw); go_split_ands; go_simp; rw [HCl.out]; (try simp only [List.nil_append, List.cons_append]); (try dsimp only); fail; ((repeat' apply And.intro) <;> first | (simp [go_sem, *]; done) | omega | (repeat' (first | with_reducible exact Below.refl _ _ | with_reducible assumption | ((with_reducible refine Below.drew ?_)) | ((with_reducible refine below_drewN ?_ _)) | ((with_reducible refine Below.alloc ?_ ?_ _); rotate_left; focus (first | omega | (simp; done) | (simp; omega))) | ((with_reducible refine Below.setCell ?_ ?_ _); rotate_left; focus (first | omega | (simp; done) | (simp; omega))) | ((with_reducible refine Below.trans ?_ (Below.mono (by with_reducible assumption) ?_)); rotate_left; focus (first | omega | (simp; done) | (simp; omega)))))))); clear hu; simp only [Act.put, Nat.reduceAdd, List.setIfInBounds_toArray, List.set_cons_zero, List.set_cons_succ, List.nil_append, List.cons_append])))
    refine wE_nil ?_; intro w' hw; rw [HCl.out] at hw; (try simp only [List.nil_append, List.cons_append] at hw); (try dsimp only at hw); clear HCl
    go_split_ands
    go_wp2
    go_ret
    refine ⟨rfl, ?_⟩
    first | (with_reducible assumption) | (repeat' (first | assumption | exact Below.refl _ _ | refine Below.setCell ?_ (by first | (simp; done) | omega | (simp; omega)) _ | refine Below.alloc ?_ (by first | (simp; done) | omega | (simp; omega)) _ | refine Below.drew ?_ | refine below_drewN ?_ _))
  | false =>
    rw [Bool.not_false, Bool.true_and]
    go_enter Try.func113, Try.ntmps113
    go_wp2
    obtain ⟨Cl, hCl⟩ : ∃ Cl : List Value → World → Prop, Cl = ((fun ps wz => (wz.cell? ⟨z.heap.size, 0, none⟩ = some (.int .i64 (e).op) ∧ wz.cell? ⟨z.heap.size, 1, none⟩ = some (.bool (e).inn) ∧ wz.cell? ⟨z.heap.size, 2, none⟩ = some (.bool (e).real) ∧ wz.cell? ⟨z.heap.size, 3, none⟩ = some (.int .u64 (e).tm) ∧ wz.cell? ⟨z.heap.size, 4, none⟩ = some (.int .u64 (e).dn) ∧ wz.cell? ⟨z.heap.size, 5, none⟩ = some (.int .i64 (e).cls) ∧ wz.cell? ⟨z.heap.size, 6, none⟩ = some (.int .u64 (e).id) ∧ wz.cell? ⟨z.heap.size, 7, none⟩ = some (.int .i64 (e).ln) ∧ wz.cell? ⟨z.heap.size, 8, none⟩ = some (.int .u16 (e).a) ∧ wz.cell? ⟨z.heap.size, 9, none⟩ = some (.int .u16 (e).b) ∧ wz.cell? ⟨z.heap.size, 10, none⟩ = some (.int .u16 (e).c) ∧ wz.cell? ⟨z.heap.size, 11, none⟩ = some (.int .u16 (e).d) ∧ z.heap.size < wz.heap.size) ∧ (wz.cell? ⟨p, 0, none⟩ = some (.int .i64 (st).tt) ∧ wz.cell? ⟨p, 1, none⟩ = some (.int .i64 (st).lm) ∧ wz.cell? ⟨p, 2, none⟩ = some (.int .i64 (st).op) ∧ wz.cell? ⟨p, 3, none⟩ = some (.int .u64 (st).tm) ∧ wz.cell? ⟨p, 4, none⟩ = some (.int .u64 (st).dn) ∧ wz.cell? ⟨p, 5, none⟩ = some (.map (some mw)) ∧ p < wz.heap.size) ∧ z.heap.size < wz.heap.size ∧ Below z.heap.size z wz)) := ⟨_, rfl⟩; have HCl := Lib.hid hCl; clear hCl; refine wp_region_eff [] Cl (by kernel_rfl) (by kernel_rfl) (by rw [HCl.out]; (try simp only [List.nil_append, List.cons_append]); (try dsimp only); ((repeat' apply And.intro) <;> first | (simp [go_sem, *]; done) | omega | (repeat' (first | with_reducible exact Below.refl _ _ | with_reducible assumption | ((with_reducible refine Below.drew ?_)) | ((with_reducible refine below_drewN ?_ _)) | ((with_reducible refine Below.alloc ?_ ?_ _); rotate_left; focus (first | omega | (simp; done) | (simp; omega))) | ((with_reducible refine Below.setCell ?_ ?_ _); rotate_left; focus (first | omega | (simp; done) | (simp; omega))) | ((with_reducible refine Below.trans ?_ (Below.mono (by with_reducible assumption) ?_)); rotate_left; focus (first | omega | (simp; done) | (simp; omega))))))) ?_
    (repeat (first | (refine wE_skip (by rfl) ?_; simp only [Act.put, Nat.reduceAdd, List.setIfInBounds_toArray, List.set_cons_zero, List.set_cons_succ, List.nil_append, List.cons_append]) | (refine wE_open (by rfl) (by rfl) ?_; apply Exists.intro; refine ⟨fun vs wq hw => ?_, ?_⟩; (focus (rw [HCl.out] at hw; (try simp only [List.nil_append, List.cons_append] at hw); (try dsimp only at hw); go_split_ands; go_simp <;> first | with_reducible exact (rfl : Value.bool false = _) | with_reducible exact (rfl : Value.bool true = _) | ((try go_bits) <;> exact rfl))); simp only [Act.put, Nat.reduceAdd, List.setIfInBounds_toArray, List.set_cons_zero, List.set_cons_succ, List.nil_append, List.cons_append]) | (refine wE_seal (by rfl) (by rfl) (by kernel_rfl) ?_; apply Exists.intro; refine ⟨fun wq hw => ?_, ?_⟩; (focus (rw [HCl.out] at hw; (try simp only [List.nil_append, List.cons_append] at hw); (try dsimp only at hw); go_split_ands; go_simp <;> (try go_bits) <;> exact rfl)); simp only [Act.put, Nat.reduceAdd, List.setIfInBounds_toArray, List.set_cons_zero, List.set_cons_succ, List.nil_append, List.cons_append]) | (refine wE_seal (by rfl) (by rfl) (by kernel_rfl) ?_; apply Exists.intro; refine ⟨fun wq hw => ?_, ?_⟩; (focus (rw [HCl.out] at hw; (try simp only [List.nil_append, List.cons_append] at hw); (try dsimp only at hw); go_split_ands; go_simp; (go_at_call 114; ((with_reducible refine (K.out _).mono ?_); rintro e w' ⟨rfl, hbel⟩; obtain ⟨hcc, hff⟩ := bcell hbel; have hsz := hbel.size; (try simp at hsz); refine ⟨rfl, ?_⟩; rw [HCl.out]; (try simp only [List.nil_append, List.cons_append]); (try dsimp only); ((repeat' apply And.intro) <;> first | (simp [go_sem, *]; done) | omega | (repeat' (first | with_reducible exact Below.refl _ _ | with_reducible assumption | ((with_reducible refine Below.drew ?_)) | ((with_reducible refine below_drewN ?_ _)) | ((with_reducible refine Below.alloc ?_ ?_ _); rotate_left; focus (first | omega | (simp; done) | (simp; omega))) | ((with_reducible refine Below.setCell ?_ ?_ _); rotate_left; focus (first | omega | (simp; done) | (simp; omega))) | ((with_reducible refine Below.trans ?_ (Below.mono (by with_reducible assumption) ?_)); rotate_left; focus (first | omega | (simp; done) | (simp; omega)))))))))); simp only [Act.put, Nat.reduceAdd, List.setIfInBounds_toArray, List.set_cons_zero, List.set_cons_succ, List.nil_append, List.cons_append]) | (refine wE_eff (by rfl) (by rfl) (fun wq hw => ?_) (fun u hu => ?_); (focus (rw [HCl.out] at hw; (try simp only [List.nil_append, List.cons_append] at hw); (try dsimp only at hw); go_split_ands; go_simp; rw [HCl.out]; (try simp only [List.nil_append, List.cons_append]); (try dsimp only); fail; ((repeat' apply And.intro) <;> first | (simp [go_sem, *]; done) | omega | (repeat' (first | with_reducible exact Below.refl _ _ | with_reducible assumption | ((with_reducible refine Below.drew ?_)) | ((with_reducible refine below_drewN ?_ _)) | ((with_reducible refine Below.alloc ?_ ?_ _); rotate_left; focus (first | omega | (simp; done) | (simp; omega))) | ((with_reducible refine Below.setCell ?_ ?_ _); rotate_left; focus (first | omega | (simp; done) | (simp; omega))) | ((with_reducible refine Below.trans ?_ (Below.mono (by with_reducible assumption) ?_)); rotate_left; focus (first | omega | (simp; done) | (simp; omega)))))))); clear hu; simp only [Act.put, Nat.reduceAdd, List.setIfInBounds_toArray, List.set_cons_zero, List.set_cons_succ, List.nil_append, List.cons_append])))
    refine wE_nil ?_; intro w' hw; rw [HCl.out] at hw; (try simp only [List.nil_append, List.cons_append] at hw); (try dsimp only at hw); clear HCl
    go_split_ands
    go_wp2
    go_ret
    refine ⟨rfl, ?_⟩
    first | (with_reducible assumption) | (repeat' (first | assumption | exact Below.refl _ _ | refine Below.setCell ?_ (by first | (simp; done) | omega | (simp; omega)) _ | refine Below.alloc ?_ (by first | (simp; done) | omega | (simp; omega)) _ | refine Below.drew ?_ | refine below_drewN ?_ _))
def slearn (st : St) (e : Ev) : St := ⟨st.tt, st.lm, e.op, e.tm, if e.inn = true then st.dn else e.dn⟩
theorem PSt.mono {z : World} {p mw B : Nat} {st : St} {f : Int → Option Value} {W : Int → List Pk} {bk : Int → Option Nat} {S : Nat → Prop} {z' : World} {st' : St} (h : PSt z p mw B st f W bk) (ho : Only S z z') (hS : ∀ k, S k → k = p) (hc : (z'.cell? ⟨p, 0, none⟩ = some (.int .i64 (st').tt) ∧ z'.cell? ⟨p, 1, none⟩ = some (.int .i64 (st').lm) ∧ z'.cell? ⟨p, 2, none⟩ = some (.int .i64 (st').op) ∧ z'.cell? ⟨p, 3, none⟩ = some (.int .u64 (st').tm) ∧ z'.cell? ⟨p, 4, none⟩ = some (.int .u64 (st').dn) ∧ z'.cell? ⟨p, 5, none⟩ = some (.map (some mw)) ∧ p < z'.heap.size)) (hf : z'.frozen? ⟨p, 2, none⟩ = false ∧ z'.frozen? ⟨p, 3, none⟩ = false ∧ z'.frozen? ⟨p, 4, none⟩ = false) : PSt z' p mw B st' f W bk :=
  ⟨hc, hf, h.pB, h.ne, Nat.le_trans h.BL ho.size, h.mw.only ho (fun g => h.ne (hS _ g).symm) fun c b hb g => by have h1 := hS _ g; have h2 := ((h.mw.rows c).lt b hb).1; have h3 := h.pB; omega⟩
set_option maxHeartbeats 8000000 in
theorem plearn_c {z : World} {p mw B : Nat} {st : St} {f : Int → Option Value} {W : Int → List Pk} {bk : Int → Option Nat} (e : Ev) (h : PSt z p mw B st f W bk) (hc : iok e.cls) (hm : (W e.cls).length ≤ 1000) : Calls Try.prog 82 #[.pointer (some ⟨p, 0, none⟩), .agg #[.int .i64 (e).op, .bool (e).inn, .bool (e).real, .int .u64 (e).tm, .int .u64 (e).dn, .int .i64 (e).cls, .int .u64 (e).id, .int .i64 (e).ln, .int .u16 (e).a, .int .u16 (e).b, .int .u16 (e).c, .int .u16 (e).d]] z fun r z' => r = .returned (.tuple #[]) ∧ ∃ f' bk', PSt z' p mw B (slearn st e) f' (wlearn W e) bk' ∧ Only (fun k => k = p ∨ k = mw ∨ B ≤ k) z z' := by
  have H := Lib.hid h
  obtain ⟨c0, c1, c2, c3, c4, c5, plt⟩ := h.cl
  obtain ⟨f2, f3, f4⟩ := h.fz
  have pB := h.pB
  have BL := h.BL
  have HC := Lib.hid hc
  have HM := Lib.hid hm
  unfold slearn
  clear h hc hm
  go_enter Try.func82, Try.ntmps82
  go_wp2
  obtain ⟨Cl, hCl⟩ : ∃ Cl : List (Nat × Value) → World → Prop, Cl = ((fun ps wz => (wz.cell? ⟨z.heap.size, 0, none⟩ = some (.int .i64 (e).op) ∧ wz.cell? ⟨z.heap.size, 1, none⟩ = some (.bool (e).inn) ∧ wz.cell? ⟨z.heap.size, 2, none⟩ = some (.bool (e).real) ∧ wz.cell? ⟨z.heap.size, 3, none⟩ = some (.int .u64 (e).tm) ∧ wz.cell? ⟨z.heap.size, 4, none⟩ = some (.int .u64 (e).dn) ∧ wz.cell? ⟨z.heap.size, 5, none⟩ = some (.int .i64 (e).cls) ∧ wz.cell? ⟨z.heap.size, 6, none⟩ = some (.int .u64 (e).id) ∧ wz.cell? ⟨z.heap.size, 7, none⟩ = some (.int .i64 (e).ln) ∧ wz.cell? ⟨z.heap.size, 8, none⟩ = some (.int .u16 (e).a) ∧ wz.cell? ⟨z.heap.size, 9, none⟩ = some (.int .u16 (e).b) ∧ wz.cell? ⟨z.heap.size, 10, none⟩ = some (.int .u16 (e).c) ∧ wz.cell? ⟨z.heap.size, 11, none⟩ = some (.int .u16 (e).d) ∧ z.heap.size < wz.heap.size) ∧ z.heap.size < wz.heap.size ∧ (wz.frozen? ⟨p, 2, none⟩ = false ∧ wz.frozen? ⟨p, 3, none⟩ = false ∧ wz.frozen? ⟨p, 4, none⟩ = false) ∧ (match ps with
    | [] => (wz.cell? ⟨p, 0, none⟩ = some (.int .i64 (st).tt) ∧ wz.cell? ⟨p, 1, none⟩ = some (.int .i64 (st).lm) ∧ wz.cell? ⟨p, 2, none⟩ = some (.int .i64 (st).op) ∧ wz.cell? ⟨p, 3, none⟩ = some (.int .u64 (st).tm) ∧ wz.cell? ⟨p, 4, none⟩ = some (.int .u64 (st).dn) ∧ wz.cell? ⟨p, 5, none⟩ = some (.map (some mw)) ∧ p < wz.heap.size)
    | [_] => (wz.cell? ⟨p, 0, none⟩ = some (.int .i64 ((⟨st.tt, st.lm, e.op, st.tm, st.dn⟩ : St)).tt) ∧ wz.cell? ⟨p, 1, none⟩ = some (.int .i64 ((⟨st.tt, st.lm, e.op, st.tm, st.dn⟩ : St)).lm) ∧ wz.cell? ⟨p, 2, none⟩ = some (.int .i64 ((⟨st.tt, st.lm, e.op, st.tm, st.dn⟩ : St)).op) ∧ wz.cell? ⟨p, 3, none⟩ = some (.int .u64 ((⟨st.tt, st.lm, e.op, st.tm, st.dn⟩ : St)).tm) ∧ wz.cell? ⟨p, 4, none⟩ = some (.int .u64 ((⟨st.tt, st.lm, e.op, st.tm, st.dn⟩ : St)).dn) ∧ wz.cell? ⟨p, 5, none⟩ = some (.map (some mw)) ∧ p < wz.heap.size)
    | _ => (wz.cell? ⟨p, 0, none⟩ = some (.int .i64 ((⟨st.tt, st.lm, e.op, e.tm, st.dn⟩ : St)).tt) ∧ wz.cell? ⟨p, 1, none⟩ = some (.int .i64 ((⟨st.tt, st.lm, e.op, e.tm, st.dn⟩ : St)).lm) ∧ wz.cell? ⟨p, 2, none⟩ = some (.int .i64 ((⟨st.tt, st.lm, e.op, e.tm, st.dn⟩ : St)).op) ∧ wz.cell? ⟨p, 3, none⟩ = some (.int .u64 ((⟨st.tt, st.lm, e.op, e.tm, st.dn⟩ : St)).tm) ∧ wz.cell? ⟨p, 4, none⟩ = some (.int .u64 ((⟨st.tt, st.lm, e.op, e.tm, st.dn⟩ : St)).dn) ∧ wz.cell? ⟨p, 5, none⟩ = some (.map (some mw)) ∧ p < wz.heap.size)) ∧ Only (fun k => k = p) z wz)) := ⟨_, rfl⟩; have HCl := Lib.hid hCl; clear hCl; refine Reg2.wp_region_lineS [(0, false), (1, false), (2, false), (3, false), (4, false), (5, false), (6, false), (7, false), (8, false), (9, false), (10, false), (11, false)] [8, 11] Cl (by kernel_rfl) (by kernel_rfl) (by kernel_rfl) (by rw [HCl.out]; (try simp only [List.nil_append, List.cons_append]); (try dsimp only); exact (by (repeat' apply And.intro) <;> first | (simp [go_sem, *]; done) | omega | (repeat' (first | assumption | exact Only.refl _ _ | refine Only.setCell ?_ (by simp) _ | refine Only.alloc ?_ _ | refine Only.drew ?_)))) ?_
  (repeat (first | (refine Reg2.wS_skip (by (simp only [List.getElem?_toArray, List.getElem?_cons_succ, List.getElem?_cons_zero]) <;> rfl) (by rfl) ?_; simp only [Act.put, Nat.reduceAdd, List.setIfInBounds_toArray, List.set_cons_zero, List.set_cons_succ, List.nil_append, List.cons_append]) | (refine Reg2.wS_open (by (simp only [List.getElem?_toArray, List.getElem?_cons_succ, List.getElem?_cons_zero]) <;> rfl) (by rfl) (by rfl) ?_; apply Exists.intro; refine ⟨fun vs wq hw => ?_, ?_⟩; (focus (rw [HCl.out] at hw; (try simp only [List.nil_append, List.cons_append] at hw); (try dsimp only at hw); go_split_ands; go_simp <;> first | with_reducible exact (rfl : Value.bool false = _) | with_reducible exact (rfl : Value.bool true = _) | ((try go_bits) <;> exact rfl))); simp only [Act.put, Nat.reduceAdd, List.setIfInBounds_toArray, List.set_cons_zero, List.set_cons_succ, List.nil_append, List.cons_append])))
  refine Reg2.wS_eff (by (simp only [List.getElem?_toArray, List.getElem?_cons_succ, List.getElem?_cons_zero]) <;> rfl) (by rfl) (by rfl) (fun wq hw => ?_) (fun u9 hu => ?_)
  focus
    rw [HCl.out] at hw; (try simp only [List.nil_append, List.cons_append] at hw); (try dsimp only at hw)
    obtain ⟨⟨y0, y1, y2, y3, y4, y5, y6, y7, y8, y9, y10, y11, y12⟩, hzs, ⟨k2, k3, k4⟩, ⟨d0, d1, d2, d3, d4, d5, d6⟩, hO⟩ := hw
    have hpz : p ≠ z.heap.size := by omega
    have hzp : z.heap.size ≠ p := by omega
    go_simp
    rw [HCl.out]; (try simp only [List.nil_append, List.cons_append]); (try dsimp only)
    (repeat' apply And.intro) <;> first | (simp [go_sem, *]; done) | omega | (exact hO.setCell (.inl rfl) _)
  clear hu
  simp only [Act.put, Nat.reduceAdd, List.setIfInBounds_toArray, List.set_cons_zero, List.set_cons_succ, List.nil_append, List.cons_append]
  (repeat (first | (refine Reg2.wS_skip (by (simp only [List.getElem?_toArray, List.getElem?_cons_succ, List.getElem?_cons_zero]) <;> rfl) (by rfl) ?_; simp only [Act.put, Nat.reduceAdd, List.setIfInBounds_toArray, List.set_cons_zero, List.set_cons_succ, List.nil_append, List.cons_append]) | (refine Reg2.wS_open (by (simp only [List.getElem?_toArray, List.getElem?_cons_succ, List.getElem?_cons_zero]) <;> rfl) (by rfl) (by rfl) ?_; apply Exists.intro; refine ⟨fun vs wq hw => ?_, ?_⟩; (focus (rw [HCl.out] at hw; (try simp only [List.nil_append, List.cons_append] at hw); (try dsimp only at hw); go_split_ands; go_simp <;> first | with_reducible exact (rfl : Value.bool false = _) | with_reducible exact (rfl : Value.bool true = _) | ((try go_bits) <;> exact rfl))); simp only [Act.put, Nat.reduceAdd, List.setIfInBounds_toArray, List.set_cons_zero, List.set_cons_succ, List.nil_append, List.cons_append])))
  refine Reg2.wS_eff (by (simp only [List.getElem?_toArray, List.getElem?_cons_succ, List.getElem?_cons_zero]) <;> rfl) (by rfl) (by rfl) (fun wq hw => ?_) (fun u9 hu => ?_)
  focus
    rw [HCl.out] at hw; (try simp only [List.nil_append, List.cons_append] at hw); (try dsimp only at hw)
    obtain ⟨⟨y0, y1, y2, y3, y4, y5, y6, y7, y8, y9, y10, y11, y12⟩, hzs, ⟨k2, k3, k4⟩, ⟨d0, d1, d2, d3, d4, d5, d6⟩, hO⟩ := hw
    have hpz : p ≠ z.heap.size := by omega
    have hzp : z.heap.size ≠ p := by omega
    go_simp
    rw [HCl.out]; (try simp only [List.nil_append, List.cons_append]); (try dsimp only)
    (repeat' apply And.intro) <;> first | (simp [go_sem, *]; done) | omega | (exact hO.setCell (.inl rfl) _)
  clear hu
  simp only [Act.put, Nat.reduceAdd, List.setIfInBounds_toArray, List.set_cons_zero, List.set_cons_succ, List.nil_append, List.cons_append]
  (repeat (first | (refine Reg2.wS_skip (by (simp only [List.getElem?_toArray, List.getElem?_cons_succ, List.getElem?_cons_zero]) <;> rfl) (by rfl) ?_; simp only [Act.put, Nat.reduceAdd, List.setIfInBounds_toArray, List.set_cons_zero, List.set_cons_succ, List.nil_append, List.cons_append]) | (refine Reg2.wS_open (by (simp only [List.getElem?_toArray, List.getElem?_cons_succ, List.getElem?_cons_zero]) <;> rfl) (by rfl) (by rfl) ?_; apply Exists.intro; refine ⟨fun vs wq hw => ?_, ?_⟩; (focus (rw [HCl.out] at hw; (try simp only [List.nil_append, List.cons_append] at hw); (try dsimp only at hw); go_split_ands; go_simp <;> first | with_reducible exact (rfl : Value.bool false = _) | with_reducible exact (rfl : Value.bool true = _) | ((try go_bits) <;> exact rfl))); simp only [Act.put, Nat.reduceAdd, List.setIfInBounds_toArray, List.set_cons_zero, List.set_cons_succ, List.nil_append, List.cons_append])))
  refine Reg2.wS_nil ?_; intro w' hw; rw [HCl.out] at hw; (try simp only [List.nil_append, List.cons_append] at hw); (try dsimp only at hw); clear HCl
  rename World => z1
  obtain ⟨hev, hzs, hfz, hpc, hO⟩ := hw
  clear c0 c1 c2 c3 c4 c5 f2 f3 f4
  have HEV := Lib.hid hev
  have HP1 := Lib.hid (PSt.mono (st' := ⟨st.tt, st.lm, e.op, e.tm, st.dn⟩) H.out hO (fun k hk => hk) hpc hfz)
  have HO1 := Lib.hid hO
  obtain ⟨y0, y1, y2, y3, y4, y5, y6, y7, y8, y9, y10, y11, y12⟩ := hev
  obtain ⟨c0, c1, c2, c3, c4, c5, plt1⟩ := hpc
  obtain ⟨f2, f3, f4⟩ := hfz
  try dsimp only at c0 c1 c2 c3 c4
  clear hO
  have hpz : p ≠ z.heap.size := by omega
  have hzp : z.heap.size ≠ p := by omega
  cases hin : e.inn with
  | true =>
    rw [hin] at y1
    try simp only [if_true]
    go_wp2
    have HPW : Hid (PSt z1 p mw B ⟨st.tt, st.lm, e.op, e.tm, st.dn⟩ f W bk ∧ Only (fun k => k = p) z z1 ∧ EVP z1 z.heap.size e) := Lib.hid (by
      exact ⟨HP1.out, HO1.out, HEV.out⟩)
    have h0 : EVP z1.drew z.heap.size e ∧ PSt z1.drew p mw B ⟨st.tt, st.lm, e.op, e.tm, st.dn⟩ f W bk ∧ Only (fun k => k = p) z z1.drew := ⟨HPW.out.2.2.below (Below.drew (Below.refl _ _)), HPW.out.1.below (Below.drew (Below.refl _ _)), HPW.out.2.1.drew⟩
    obtain ⟨Cl, hCl⟩ : ∃ Cl : List Value → World → Prop, Cl = ((fun ps wz => (match ps with
      | [] => (wz.cell? ⟨z.heap.size, 0, none⟩ = some (.int .i64 (e).op) ∧ wz.cell? ⟨z.heap.size, 1, none⟩ = some (.bool (e).inn) ∧ wz.cell? ⟨z.heap.size, 2, none⟩ = some (.bool (e).real) ∧ wz.cell? ⟨z.heap.size, 3, none⟩ = some (.int .u64 (e).tm) ∧ wz.cell? ⟨z.heap.size, 4, none⟩ = some (.int .u64 (e).dn) ∧ wz.cell? ⟨z.heap.size, 5, none⟩ = some (.int .i64 (e).cls) ∧ wz.cell? ⟨z.heap.size, 6, none⟩ = some (.int .u64 (e).id) ∧ wz.cell? ⟨z.heap.size, 7, none⟩ = some (.int .i64 (e).ln) ∧ wz.cell? ⟨z.heap.size, 8, none⟩ = some (.int .u16 (e).a) ∧ wz.cell? ⟨z.heap.size, 9, none⟩ = some (.int .u16 (e).b) ∧ wz.cell? ⟨z.heap.size, 10, none⟩ = some (.int .u16 (e).c) ∧ wz.cell? ⟨z.heap.size, 11, none⟩ = some (.int .u16 (e).d) ∧ z.heap.size < wz.heap.size) ∧ (wz.cell? ⟨p, 0, none⟩ = some (.int .i64 ((⟨st.tt, st.lm, e.op, e.tm, st.dn⟩ : St)).tt) ∧ wz.cell? ⟨p, 1, none⟩ = some (.int .i64 ((⟨st.tt, st.lm, e.op, e.tm, st.dn⟩ : St)).lm) ∧ wz.cell? ⟨p, 2, none⟩ = some (.int .i64 ((⟨st.tt, st.lm, e.op, e.tm, st.dn⟩ : St)).op) ∧ wz.cell? ⟨p, 3, none⟩ = some (.int .u64 ((⟨st.tt, st.lm, e.op, e.tm, st.dn⟩ : St)).tm) ∧ wz.cell? ⟨p, 4, none⟩ = some (.int .u64 ((⟨st.tt, st.lm, e.op, e.tm, st.dn⟩ : St)).dn) ∧ wz.cell? ⟨p, 5, none⟩ = some (.map (some mw)) ∧ p < wz.heap.size) ∧ PSt wz p mw B ⟨st.tt, st.lm, e.op, e.tm, st.dn⟩ f W bk ∧ Only (fun k => k = p) z wz
      | _ => (∃ f' bk', PSt wz p mw B ⟨st.tt, st.lm, e.op, e.tm, st.dn⟩ f' (wlearn W e) bk') ∧ Only (fun k => k = p ∨ k = mw ∨ B ≤ k) z wz))) := ⟨_, rfl⟩; have HCl := Lib.hid hCl; clear hCl; refine wp_region_eff [5] Cl (by kernel_rfl) (by kernel_rfl) (by rw [HCl.out]; (try simp only [List.nil_append, List.cons_append]); (try dsimp only); exact ⟨h0.1, h0.2.1.cl, h0.2.1, h0.2.2⟩) ?_
    (repeat (first | (refine wE_skip (by rfl) ?_; simp only [Act.put, Nat.reduceAdd, List.setIfInBounds_toArray, List.set_cons_zero, List.set_cons_succ, List.nil_append, List.cons_append]) | (refine wE_open (by rfl) (by rfl) ?_; apply Exists.intro; refine ⟨fun vs wq hw => ?_, ?_⟩; (focus (rw [HCl.out] at hw; (try simp only [List.nil_append, List.cons_append] at hw); (try dsimp only at hw); go_split_ands; go_simp <;> first | with_reducible exact (rfl : Value.bool false = _) | with_reducible exact (rfl : Value.bool true = _) | ((try go_bits) <;> exact rfl))); simp only [Act.put, Nat.reduceAdd, List.setIfInBounds_toArray, List.set_cons_zero, List.set_cons_succ, List.nil_append, List.cons_append]) | (refine wE_seal (by rfl) (by rfl) (by kernel_rfl) ?_; apply Exists.intro; refine ⟨fun wq hw => ?_, ?_⟩; (focus (rw [HCl.out] at hw; (try simp only [List.nil_append, List.cons_append] at hw); (try dsimp only at hw); go_split_ands; go_simp <;> (try go_bits) <;> exact rfl)); simp only [Act.put, Nat.reduceAdd, List.setIfInBounds_toArray, List.set_cons_zero, List.set_cons_succ, List.nil_append, List.cons_append])))
    refine wE_eff (by rfl) (by rfl) (fun wq hw => ?_) (fun u hu => ?_)
    focus
      rw [HCl.out] at hw; (try simp only [List.nil_append, List.cons_append] at hw); (try dsimp only at hw)
      obtain ⟨hev, hpc, hP, hO⟩ := hw
      go_simp
      go_at_call 85
      have k9 := wlearn_c e hP.mw HC.out hP.BL HM.out
      rw [hin] at k9
      (with_reducible refine k9.mono ?_)
      rintro r w' ⟨rfl, f', bk', hM', hO'⟩
      refine ⟨_, rfl, ?_⟩
      rw [HCl.out]; (try simp only [List.nil_append, List.cons_append]); (try dsimp only)
      obtain ⟨d0, d1, d2, d3, d4, d5, dl⟩ := hP.cl
      obtain ⟨k2, k3, k4⟩ := hP.fz
      have hn : ¬ (p = mw ∨ bk e.cls = some p) := fun g => by
        rcases g with g | g
        · exact hP.ne g
        · have := ((hP.mw.rows _).lt p g).1; have := hP.pB; omega
      exact ⟨⟨f', bk', ⟨(hO'.cell dl hn).trans d0, (hO'.cell dl hn).trans d1, (hO'.cell dl hn).trans d2, (hO'.cell dl hn).trans d3, (hO'.cell dl hn).trans d4, (hO'.cell dl hn).trans d5, Nat.lt_of_lt_of_le dl hO'.size⟩, ⟨(hO'.frozen dl hn).trans k2, (hO'.frozen dl hn).trans k3, (hO'.frozen dl hn).trans k4⟩, hP.pB, hP.ne, Nat.le_trans hP.BL hO'.size, hM'⟩, (hO.mono fun k hk => .inl hk).trans (hO'.mono fun k hk => by
        rcases hk with g | g
        · exact .inr (.inl g)
        · exact .inr (.inr ((hP.mw.rows _).lt k g).1))⟩
    clear hu
    simp only [Act.put, Nat.reduceAdd, List.setIfInBounds_toArray, List.set_cons_zero, List.set_cons_succ, List.nil_append, List.cons_append]
    (repeat (first | (refine wE_skip (by rfl) ?_; simp only [Act.put, Nat.reduceAdd, List.setIfInBounds_toArray, List.set_cons_zero, List.set_cons_succ, List.nil_append, List.cons_append]) | (refine wE_open (by rfl) (by rfl) ?_; apply Exists.intro; refine ⟨fun vs wq hw => ?_, ?_⟩; (focus (rw [HCl.out] at hw; (try simp only [List.nil_append, List.cons_append] at hw); (try dsimp only at hw); go_split_ands; go_simp <;> first | with_reducible exact (rfl : Value.bool false = _) | with_reducible exact (rfl : Value.bool true = _) | ((try go_bits) <;> exact rfl))); simp only [Act.put, Nat.reduceAdd, List.setIfInBounds_toArray, List.set_cons_zero, List.set_cons_succ, List.nil_append, List.cons_append]) | (refine wE_seal (by rfl) (by rfl) (by kernel_rfl) ?_; apply Exists.intro; refine ⟨fun wq hw => ?_, ?_⟩; (focus (rw [HCl.out] at hw; (try simp only [List.nil_append, List.cons_append] at hw); (try dsimp only at hw); go_split_ands; go_simp <;> (try go_bits) <;> exact rfl)); simp only [Act.put, Nat.reduceAdd, List.setIfInBounds_toArray, List.set_cons_zero, List.set_cons_succ, List.nil_append, List.cons_append])))
    refine wE_nil ?_; intro w' hw; rw [HCl.out] at hw; (try simp only [List.nil_append, List.cons_append] at hw); (try dsimp only at hw); clear HCl
    obtain ⟨⟨f', bk', hM'⟩, hO'⟩ := hw
    go_wp2
    all_goals first
      | exact bodyPost_end (v := .tuple #[]) (by simp [results, Try.results82]) rfl ⟨rfl, f', bk', hM', hO'⟩
      | exact bodyPost_end (v := .tuple #[]) (by simp [results, Try.results82]) rfl ⟨rfl, ⟨f', bk', hM'⟩, hO'⟩
  | false =>
    rw [hin] at y1
    try simp only [Bool.false_eq_true, if_false]
    go_wp2
    have HPW : Hid (PSt (z1.setCell ⟨p, 4, none⟩ (.int .u64 e.dn)) p mw B ⟨st.tt, st.lm, e.op, e.tm, e.dn⟩ f W bk ∧ Only (fun k => k = p) z (z1.setCell ⟨p, 4, none⟩ (.int .u64 e.dn)) ∧ EVP (z1.setCell ⟨p, 4, none⟩ (.int .u64 e.dn)) z.heap.size e) := Lib.hid (by
      refine ⟨PSt.mono (st' := ⟨st.tt, st.lm, e.op, e.tm, e.dn⟩) (S := fun k => k = p) HP1.out (show Only (fun k => k = p) z1 (z1.setCell ⟨p, 4, none⟩ (.int .u64 e.dn)) from (Only.refl (fun k => k = p) z1).setCell (p := ⟨p, 4, none⟩) (.inl rfl) _) (fun k hk => hk) ⟨by simp [go_sem, *], by simp [go_sem, *], by simp [go_sem, *], by simp [go_sem, *], by simp [go_sem, *], by simp [go_sem, *], by simp [go_sem]; omega⟩ ⟨by simp [go_sem, *], by simp [go_sem, *], by simp [go_sem, *]⟩, HO1.out.setCell (.inl rfl) _, EVP.only (S := fun k => k = p) HEV.out (show Only (fun k => k = p) z1 (z1.setCell ⟨p, 4, none⟩ (.int .u64 e.dn)) from (Only.refl (fun k => k = p) z1).setCell (p := ⟨p, 4, none⟩) (.inl rfl) _) hzp⟩)
    have h0 : EVP (z1.setCell ⟨p, 4, none⟩ (.int .u64 e.dn)).drew z.heap.size e ∧ PSt (z1.setCell ⟨p, 4, none⟩ (.int .u64 e.dn)).drew p mw B ⟨st.tt, st.lm, e.op, e.tm, e.dn⟩ f W bk ∧ Only (fun k => k = p) z (z1.setCell ⟨p, 4, none⟩ (.int .u64 e.dn)).drew := ⟨HPW.out.2.2.below (Below.drew (Below.refl _ _)), HPW.out.1.below (Below.drew (Below.refl _ _)), HPW.out.2.1.drew⟩
    obtain ⟨Cl, hCl⟩ : ∃ Cl : List Value → World → Prop, Cl = ((fun ps wz => (match ps with
      | [] => (wz.cell? ⟨z.heap.size, 0, none⟩ = some (.int .i64 (e).op) ∧ wz.cell? ⟨z.heap.size, 1, none⟩ = some (.bool (e).inn) ∧ wz.cell? ⟨z.heap.size, 2, none⟩ = some (.bool (e).real) ∧ wz.cell? ⟨z.heap.size, 3, none⟩ = some (.int .u64 (e).tm) ∧ wz.cell? ⟨z.heap.size, 4, none⟩ = some (.int .u64 (e).dn) ∧ wz.cell? ⟨z.heap.size, 5, none⟩ = some (.int .i64 (e).cls) ∧ wz.cell? ⟨z.heap.size, 6, none⟩ = some (.int .u64 (e).id) ∧ wz.cell? ⟨z.heap.size, 7, none⟩ = some (.int .i64 (e).ln) ∧ wz.cell? ⟨z.heap.size, 8, none⟩ = some (.int .u16 (e).a) ∧ wz.cell? ⟨z.heap.size, 9, none⟩ = some (.int .u16 (e).b) ∧ wz.cell? ⟨z.heap.size, 10, none⟩ = some (.int .u16 (e).c) ∧ wz.cell? ⟨z.heap.size, 11, none⟩ = some (.int .u16 (e).d) ∧ z.heap.size < wz.heap.size) ∧ (wz.cell? ⟨p, 0, none⟩ = some (.int .i64 ((⟨st.tt, st.lm, e.op, e.tm, e.dn⟩ : St)).tt) ∧ wz.cell? ⟨p, 1, none⟩ = some (.int .i64 ((⟨st.tt, st.lm, e.op, e.tm, e.dn⟩ : St)).lm) ∧ wz.cell? ⟨p, 2, none⟩ = some (.int .i64 ((⟨st.tt, st.lm, e.op, e.tm, e.dn⟩ : St)).op) ∧ wz.cell? ⟨p, 3, none⟩ = some (.int .u64 ((⟨st.tt, st.lm, e.op, e.tm, e.dn⟩ : St)).tm) ∧ wz.cell? ⟨p, 4, none⟩ = some (.int .u64 ((⟨st.tt, st.lm, e.op, e.tm, e.dn⟩ : St)).dn) ∧ wz.cell? ⟨p, 5, none⟩ = some (.map (some mw)) ∧ p < wz.heap.size) ∧ PSt wz p mw B ⟨st.tt, st.lm, e.op, e.tm, e.dn⟩ f W bk ∧ Only (fun k => k = p) z wz
      | _ => (∃ f' bk', PSt wz p mw B ⟨st.tt, st.lm, e.op, e.tm, e.dn⟩ f' (wlearn W e) bk') ∧ Only (fun k => k = p ∨ k = mw ∨ B ≤ k) z wz))) := ⟨_, rfl⟩; have HCl := Lib.hid hCl; clear hCl; refine wp_region_eff [5] Cl (by kernel_rfl) (by kernel_rfl) (by rw [HCl.out]; (try simp only [List.nil_append, List.cons_append]); (try dsimp only); exact ⟨h0.1, h0.2.1.cl, h0.2.1, h0.2.2⟩) ?_
    (repeat (first | (refine wE_skip (by rfl) ?_; simp only [Act.put, Nat.reduceAdd, List.setIfInBounds_toArray, List.set_cons_zero, List.set_cons_succ, List.nil_append, List.cons_append]) | (refine wE_open (by rfl) (by rfl) ?_; apply Exists.intro; refine ⟨fun vs wq hw => ?_, ?_⟩; (focus (rw [HCl.out] at hw; (try simp only [List.nil_append, List.cons_append] at hw); (try dsimp only at hw); go_split_ands; go_simp <;> first | with_reducible exact (rfl : Value.bool false = _) | with_reducible exact (rfl : Value.bool true = _) | ((try go_bits) <;> exact rfl))); simp only [Act.put, Nat.reduceAdd, List.setIfInBounds_toArray, List.set_cons_zero, List.set_cons_succ, List.nil_append, List.cons_append]) | (refine wE_seal (by rfl) (by rfl) (by kernel_rfl) ?_; apply Exists.intro; refine ⟨fun wq hw => ?_, ?_⟩; (focus (rw [HCl.out] at hw; (try simp only [List.nil_append, List.cons_append] at hw); (try dsimp only at hw); go_split_ands; go_simp <;> (try go_bits) <;> exact rfl)); simp only [Act.put, Nat.reduceAdd, List.setIfInBounds_toArray, List.set_cons_zero, List.set_cons_succ, List.nil_append, List.cons_append])))
    refine wE_eff (by rfl) (by rfl) (fun wq hw => ?_) (fun u hu => ?_)
    focus
      rw [HCl.out] at hw; (try simp only [List.nil_append, List.cons_append] at hw); (try dsimp only at hw)
      obtain ⟨hev, hpc, hP, hO⟩ := hw
      go_simp
      go_at_call 85
      have k9 := wlearn_c e hP.mw HC.out hP.BL HM.out
      rw [hin] at k9
      (with_reducible refine k9.mono ?_)
      rintro r w' ⟨rfl, f', bk', hM', hO'⟩
      refine ⟨_, rfl, ?_⟩
      rw [HCl.out]; (try simp only [List.nil_append, List.cons_append]); (try dsimp only)
      obtain ⟨d0, d1, d2, d3, d4, d5, dl⟩ := hP.cl
      obtain ⟨k2, k3, k4⟩ := hP.fz
      have hn : ¬ (p = mw ∨ bk e.cls = some p) := fun g => by
        rcases g with g | g
        · exact hP.ne g
        · have := ((hP.mw.rows _).lt p g).1; have := hP.pB; omega
      exact ⟨⟨f', bk', ⟨(hO'.cell dl hn).trans d0, (hO'.cell dl hn).trans d1, (hO'.cell dl hn).trans d2, (hO'.cell dl hn).trans d3, (hO'.cell dl hn).trans d4, (hO'.cell dl hn).trans d5, Nat.lt_of_lt_of_le dl hO'.size⟩, ⟨(hO'.frozen dl hn).trans k2, (hO'.frozen dl hn).trans k3, (hO'.frozen dl hn).trans k4⟩, hP.pB, hP.ne, Nat.le_trans hP.BL hO'.size, hM'⟩, (hO.mono fun k hk => .inl hk).trans (hO'.mono fun k hk => by
        rcases hk with g | g
        · exact .inr (.inl g)
        · exact .inr (.inr ((hP.mw.rows _).lt k g).1))⟩
    clear hu
    simp only [Act.put, Nat.reduceAdd, List.setIfInBounds_toArray, List.set_cons_zero, List.set_cons_succ, List.nil_append, List.cons_append]
    (repeat (first | (refine wE_skip (by rfl) ?_; simp only [Act.put, Nat.reduceAdd, List.setIfInBounds_toArray, List.set_cons_zero, List.set_cons_succ, List.nil_append, List.cons_append]) | (refine wE_open (by rfl) (by rfl) ?_; apply Exists.intro; refine ⟨fun vs wq hw => ?_, ?_⟩; (focus (rw [HCl.out] at hw; (try simp only [List.nil_append, List.cons_append] at hw); (try dsimp only at hw); go_split_ands; go_simp <;> first | with_reducible exact (rfl : Value.bool false = _) | with_reducible exact (rfl : Value.bool true = _) | ((try go_bits) <;> exact rfl))); simp only [Act.put, Nat.reduceAdd, List.setIfInBounds_toArray, List.set_cons_zero, List.set_cons_succ, List.nil_append, List.cons_append]) | (refine wE_seal (by rfl) (by rfl) (by kernel_rfl) ?_; apply Exists.intro; refine ⟨fun wq hw => ?_, ?_⟩; (focus (rw [HCl.out] at hw; (try simp only [List.nil_append, List.cons_append] at hw); (try dsimp only at hw); go_split_ands; go_simp <;> (try go_bits) <;> exact rfl)); simp only [Act.put, Nat.reduceAdd, List.setIfInBounds_toArray, List.set_cons_zero, List.set_cons_succ, List.nil_append, List.cons_append])))
    refine wE_nil ?_; intro w' hw; rw [HCl.out] at hw; (try simp only [List.nil_append, List.cons_append] at hw); (try dsimp only at hw); clear HCl
    obtain ⟨⟨f', bk', hM'⟩, hO'⟩ := hw
    go_wp2
    all_goals first
      | exact bodyPost_end (v := .tuple #[]) (by simp [results, Try.results82]) rfl ⟨rfl, f', bk', hM', hO'⟩
      | exact bodyPost_end (v := .tuple #[]) (by simp [results, Try.results82]) rfl ⟨rfl, ⟨f', bk', hM'⟩, hO'⟩
end Go.Proofs.Ytlenmhbhakeonaa
