import Derived.Test.YtpjanaljmnfccaaPq3
namespace Go.Proofs.Ytpjanaljmnfccaa
set_option linter.unusedVariables false
set_option linter.unusedSimpArgs false
set_option maxRecDepth 100000
open Go.RowKit Fg Reg
attribute [local irreducible] Reg.wE

theorem run_equalIn_ar {P : Program} (d : Nat) (t e : TypeId) (n : Nat) (k : IntKind) (ht : P.underlying t = some (.array n e)) (he : P.underlying e = some (.int k)) (hz : ∀ w, (sizeOf e).run P w = .ok 1 w) (hp : ∀ (cs : Array Value) (i : Nat) (v : Value) w, cs[i]? = some v → (part e cs i).run P w = .ok v w)
    (xs ys : List Int) (hx : xs.length = n) (hy : ys.length = n) (w : World) :
    (Op.equalIn (d + 2) t (.agg (xs.map (Value.int k)).toArray) (.agg (ys.map (Value.int k)).toArray)).run P w = .ok (xs == ys) w := by
  rw [Op.equalIn]
  simp only [Sem.run_bind, run_underlying ht, Result.andThen_ok, hz]
  have key : ∀ (m s : Nat), s + m = n → ∀ w : World, Sem.run P (forIn (List.range' s m) ((none : Option Bool), ()) fun i __s => do
            let __do_lift ← part e (List.map (Value.int k) xs).toArray (i * 1)
            let __do_lift_1 ← part e (List.map (Value.int k) ys).toArray (i * 1)
            let __do_lift ← Op.equalIn (d + 1) e __do_lift __do_lift_1
            if (!__do_lift) = true then pure (ForInStep.done (some false, ())) else pure (ForInStep.yield (none, ()))) w = .ok (if xs.drop s == ys.drop s then (none, ()) else (some false, ())) w := by
    intro m
    induction m with
    | zero =>
      intro s hs w
      rw [List.drop_eq_nil_of_le (by omega), List.drop_eq_nil_of_le (by omega)]
      simp [List.range']
    | succ m ih =>
      intro s hs w
      have h1 : s < xs.length := by omega
      have h2 : s < ys.length := by omega
      rw [List.range'_succ, List.forIn_cons]
      simp only [Sem.run_bind, Nat.mul_one]
      rw [hp _ s (.int k xs[s]) w (by simp [h1]), Result.andThen_ok, hp _ s (.int k ys[s]) w (by simp [h2]), Result.andThen_ok, run_equalIn_int w d e k k _ _ he, Result.andThen_ok]
      rw [List.drop_eq_getElem_cons h1, List.drop_eq_getElem_cons h2, List.cons_beq_cons]
      cases hb : (xs[s] == ys[s]) with
      | false => simp
      | true =>
        have := ih (s + 1) (by omega) w
        simp only [Nat.mul_one] at this
        simpa using this
  have h := key n 0 (by omega) w
  simp only [Std.Legacy.Range.forIn_eq_forIn_range', Std.Legacy.Range.size, Nat.sub_zero, Nat.add_one_sub_one, Nat.div_one]
  rw [h, Result.andThen_ok, List.drop_zero, List.drop_zero]
  cases hb : (xs == ys) <;> simp

theorem run_equalIn_ar4 {P : Program} (d : Nat) (t e : TypeId) (k : IntKind) (ht : P.underlying t = some (.array 4 e)) (he : P.underlying e = some (.int k)) (hz : ∀ w, (sizeOf e).run P w = .ok 1 w) (hp : ∀ (cs : Array Value) (i : Nat) (v : Value) w, cs[i]? = some v → (part e cs i).run P w = .ok v w)
    (a b c f a' b' c' f' : Int) (w : World) :
    (Op.equalIn (d + 2) t (.agg #[.int k a, .int k b, .int k c, .int k f]) (.agg #[.int k a', .int k b', .int k c', .int k f'])).run P w = .ok ([a, b, c, f] == [a', b', c', f']) w :=
  run_equalIn_ar d t e 4 k ht he hz hp [a, b, c, f] [a', b', c', f'] rfl rfl w

theorem eqHd (n : Nat) (a b c d : Int) (w : World) : (Op.equalIn (n + 2) 48 (.agg #[.int .u16 a, .int .u16 b, .int .u16 c, .int .u16 d]) (.agg #[.int .u16 a, .int .u16 b, .int .u16 c, .int .u16 d])).run Try.prog w = .ok true w := by
  have hz : ∀ w, (sizeOf 46).run Try.prog w = .ok 1 w := fun w => by kernel_rfl
  have ha : ∀ w, (isAgg 46).run Try.prog w = .ok false w := fun w => by kernel_rfl
  have h := run_equalIn_ar4 (P := Try.prog) n 48 46 .u16 Try.underlying48 Try.underlying46 hz (fun cs i v w h => by unfold part; simp only [Sem.run_bind, ha, Result.andThen_ok, Bool.false_eq_true, if_false, h]; rfl) a b c d a b c d w
  simpa using h
/-- A packet, held against itself. -/
theorem eqPk (i n a b c d : Int) (w : World) : (Op.equalIn 10000 50 (.agg #[.int .u64 (i), .int .i64 (n), .int .u16 (a), .int .u16 (b), .int .u16 (c), .int .u16 (d)]) (.agg #[.int .u64 (i), .int .i64 (n), .int .u16 (a), .int .u16 (b), .int .u16 (c), .int .u16 (d)])).run Try.prog w = .ok true w := by
  have hz : ∀ w, (sizeOf 22).run Try.prog w = .ok 1 w := fun w => by kernel_rfl
  have ha : ∀ w, (isAgg 22).run Try.prog w = .ok false w := fun w => by kernel_rfl
  have hz1 : ∀ w, (sizeOf 3).run Try.prog w = .ok 1 w := fun w => by kernel_rfl
  have ha1 : ∀ w, (isAgg 3).run Try.prog w = .ok false w := fun w => by kernel_rfl
  have hz2 : ∀ w, (sizeOf 46).run Try.prog w = .ok 1 w := fun w => by kernel_rfl
  have ha2 : ∀ w, (isAgg 46).run Try.prog w = .ok false w := fun w => by kernel_rfl
  have hz3 : ∀ w, (sizeOf 48).run Try.prog w = .ok 4 w := fun w => by kernel_rfl
  have ha3 : ∀ w, (isAgg 48).run Try.prog w = .ok true w := fun w => by kernel_rfl
  have e9 := eqHd 9997
  have u1 := Try.underlying22
  have u2 := Try.underlying3
  have u3 := Try.underlying46
  have hS : Try.prog.underlying 50 = some (.struct (Try.prog.fieldsOf 50)) := by kernel_rfl
  have hp : Try.prog.stoodInHeld 50 = false := by kernel_rfl
  rw [show (10000 : Nat) = 9999 + 1 from rfl, run_equalIn_agg w 9999 50 _ _ hS hp]
  simp only [Program.fieldsOf, Try.underlying50]
  go_simp
/-- A row of packets. -/
def PRow (z : World) (b n : Nat) (g : Nat → Pk) : Prop := b < z.heap.size ∧ ∀ j, j < n → z.cell? ⟨b, j * 6, none⟩ = some (.int .u64 (g j).i) ∧ z.cell? ⟨b, j * 6 + 1, none⟩ = some (.int .i64 (g j).n) ∧ z.cell? ⟨b, j * 6 + 2, none⟩ = some (.int .u16 (g j).a) ∧ z.cell? ⟨b, j * 6 + 3, none⟩ = some (.int .u16 (g j).b) ∧ z.cell? ⟨b, j * 6 + 4, none⟩ = some (.int .u16 (g j).c) ∧ z.cell? ⟨b, j * 6 + 5, none⟩ = some (.int .u16 (g j).d)
theorem PRow.below {z z' : World} {b n : Nat} {g : Nat → Pk} (h : PRow z b n g) (hb : Below z.heap.size z z') : PRow z' b n g :=
  ⟨Nat.lt_of_lt_of_le h.1 hb.size, fun j hj => by
    have hc := fun o => hb.cell (p := ⟨b, o, none⟩) h.1
    simp only [hc]
    exact h.2 j hj⟩
theorem same_nil (w : World) : Calls Try.prog 32 #[.slice none 0 0, .slice none 0 0] w fun ee w' => ee = .returned (.bool true) ∧ Below w.heap.size w w' := by
  go_enter Try.func32, Try.ntmps32
  go_wp2_with fail
  refine wp_loop_rounds 1 ?_
  rw [rounds_succ]
  go_wp2
  (go_ret; refine ⟨?_, ?_⟩; (focus (exact rfl)); ((repeat' (first | (with_reducible refine RP.drew ?_) | (focus (with_reducible refine RP.alloc ?_ _)) | (focus (with_reducible refine RP.other ?_ (by with_reducible assumption) (by with_reducible assumption) _ _ _)) | (focus (with_reducible refine RP.other ?_ (by omega) (by omega) _ _ _)) | (with_reducible refine RP.below ?_ (by with_reducible assumption)) | (with_reducible refine Only.setQ ?_ _ _ _) | ((with_reducible refine Only.trans ?_ (by with_reducible assumption))) | with_reducible exact Below.refl _ _ | with_reducible assumption | ((with_reducible refine Below.drew ?_)) | ((with_reducible refine below_drewN ?_ _)) | ((with_reducible refine Below.alloc ?_ ?_ _); rotate_left; focus (first | omega | (simp; done) | (simp; omega))) | ((with_reducible refine Below.setCell ?_ ?_ _); rotate_left; focus (first | omega | (simp; done) | (simp; omega))) | ((with_reducible refine Below.trans ?_ (Below.mono (by with_reducible assumption) ?_)); rotate_left; focus (first | omega | (simp; done) | (simp; omega))) | with_reducible exact Only.refl _ _ | (with_reducible refine Only.drew ?_) | (with_reducible refine Only.setL ?_ _ _ _) | (with_reducible refine Only.setR ?_ _ _ _) | (with_reducible refine Only.alloc ?_ _) | (with_reducible refine EL.drew ?_) | (focus (with_reducible refine EL.other ?_ (by omega) _ _ _)) | ((with_reducible refine Only.setCell ?_ (Or.inr ?_) _); rotate_left; focus (first | omega | (simp; done) | (simp; omega))) | (focus (with_reducible refine EL.alloc ?_ (by (first | omega | (simp; omega))) _)) | (with_reducible refine EL.other ?_ (by with_reducible assumption) _ _ _) | (with_reducible refine EL.set ?_ (by with_reducible assumption) (by with_reducible assumption) _) | (focus (with_reducible refine EL.set ?_ (by omega) (by with_reducible assumption) _)) | ((with_reducible refine EL.below ?_ (by with_reducible assumption) ?_); rotate_left; focus (first | omega | (simp; omega))) | ((with_reducible refine Only.trans ?_ (Only.of_below (by with_reducible assumption)))) )); done))
set_option maxHeartbeats 2000000 in
theorem same_c (b1 b2 n c1 c2 : Nat) (g : Nat → Pk) (w : World) (h1 : PRow w b1 n g) (h2 : PRow w b2 n g) (hn : n ≤ 1000) : Calls Try.prog 32 #[.slice (some ⟨b1, 0, none⟩) n c1, .slice (some ⟨b2, 0, none⟩) n c2] w fun ee w' => ee = .returned (.bool true) ∧ Below w.heap.size w w' := by
  have H1 := Lib.hid h1
  have H2 := Lib.hid h2
  clear h1 h2
  go_enter Try.func32, Try.ntmps32
  go_wp2_with fail
  go_loopw [14] (fun i wr => ∃ (k : Nat), k ≤ n ∧ i = .int .i64 k ∧ Below w.heap.size w wr) (fun i _ => n - (intOf i).toNat)
  case atStart => exact ⟨0, Nat.zero_le _, rfl, Below.refl _ _⟩
  case round =>
    obtain ⟨k, hk, rfl, hB⟩ := hrel
    by_cases hlt : k < n
    · have hr1 := H1.out.below hB
      have hr2 := H2.out.below hB
      have l1 := hr1.1
      have l2 := hr2.1
      obtain ⟨p0, p1, p2, p3, p4, p5⟩ := hr1.2 k hlt
      obtain ⟨q0, q1, q2, q3, q4, q5⟩ := hr2.2 k hlt
      have hsz := hB.size
      clear hr1 hr2
      have E := eqPk (g k).i (g k).n (g k).a (g k).b (g k).c (g k).d
      generalize (g k).i = pi at *
      generalize (g k).n = pn at *
      generalize (g k).a = pa at *
      generalize (g k).b = pb at *
      generalize (g k).c = pc at *
      generalize (g k).d = pd at *
      go_wp2
      obtain ⟨Cl, hCl⟩ : ∃ Cl : List Value → World → Prop, Cl = ((fun ps wz => (wz.cell? ⟨wr.heap.size, 0, none⟩ = some (.int .u64 pi) ∧ wz.cell? ⟨wr.heap.size, 1, none⟩ = some (.int .i64 pn) ∧ wz.cell? ⟨wr.heap.size, 2, none⟩ = some (.int .u16 pa) ∧ wz.cell? ⟨wr.heap.size, 3, none⟩ = some (.int .u16 pb) ∧ wz.cell? ⟨wr.heap.size, 4, none⟩ = some (.int .u16 pc) ∧ wz.cell? ⟨wr.heap.size, 5, none⟩ = some (.int .u16 pd) ∧ wr.heap.size < wz.heap.size) ∧ (wz.cell? ⟨b2, k * 6, none⟩ = some (.int .u64 pi) ∧ wz.cell? ⟨b2, k * 6 + 1, none⟩ = some (.int .i64 pn) ∧ wz.cell? ⟨b2, k * 6 + 2, none⟩ = some (.int .u16 pa) ∧ wz.cell? ⟨b2, k * 6 + 3, none⟩ = some (.int .u16 pb) ∧ wz.cell? ⟨b2, k * 6 + 4, none⟩ = some (.int .u16 pc) ∧ wz.cell? ⟨b2, k * 6 + 5, none⟩ = some (.int .u16 pd)) ∧ Below w.heap.size w wz)) := ⟨_, rfl⟩; have HCl := Lib.hid hCl; clear hCl; refine wp_region_eff [] Cl (by kernel_rfl) (by kernel_rfl) (by rw [HCl.out]; (try simp only [List.nil_append, List.cons_append]); (try dsimp only); ((repeat' apply And.intro) <;> first | (simp [go_sem, *]; done) | omega | (repeat' (first | (with_reducible refine RP.drew ?_) | (focus (with_reducible refine RP.alloc ?_ _)) | (focus (with_reducible refine RP.other ?_ (by with_reducible assumption) (by with_reducible assumption) _ _ _)) | (focus (with_reducible refine RP.other ?_ (by omega) (by omega) _ _ _)) | (with_reducible refine RP.below ?_ (by with_reducible assumption)) | (with_reducible refine Only.setQ ?_ _ _ _) | ((with_reducible refine Only.trans ?_ (by with_reducible assumption))) | with_reducible exact Below.refl _ _ | with_reducible assumption | ((with_reducible refine Below.drew ?_)) | ((with_reducible refine below_drewN ?_ _)) | ((with_reducible refine Below.alloc ?_ ?_ _); rotate_left; focus (first | omega | (simp; done) | (simp; omega))) | ((with_reducible refine Below.setCell ?_ ?_ _); rotate_left; focus (first | omega | (simp; done) | (simp; omega))) | ((with_reducible refine Below.trans ?_ (Below.mono (by with_reducible assumption) ?_)); rotate_left; focus (first | omega | (simp; done) | (simp; omega))) | with_reducible exact Only.refl _ _ | (with_reducible refine Only.drew ?_) | (with_reducible refine Only.setL ?_ _ _ _) | (with_reducible refine Only.setR ?_ _ _ _) | (with_reducible refine Only.alloc ?_ _) | (with_reducible refine EL.drew ?_) | (focus (with_reducible refine EL.other ?_ (by omega) _ _ _)) | ((with_reducible refine Only.setCell ?_ (Or.inr ?_) _); rotate_left; focus (first | omega | (simp; done) | (simp; omega))) | (focus (with_reducible refine EL.alloc ?_ (by (first | omega | (simp; omega))) _)) | (with_reducible refine EL.other ?_ (by with_reducible assumption) _ _ _) | (with_reducible refine EL.set ?_ (by with_reducible assumption) (by with_reducible assumption) _) | (focus (with_reducible refine EL.set ?_ (by omega) (by with_reducible assumption) _)) | ((with_reducible refine EL.below ?_ (by with_reducible assumption) ?_); rotate_left; focus (first | omega | (simp; omega))) | ((with_reducible refine Only.trans ?_ (Only.of_below (by with_reducible assumption)))) )))) ?_
      (repeat (first | (refine wE_skip (by rfl) ?_; simp only [Act.put, Nat.reduceAdd, List.setIfInBounds_toArray, List.set_cons_zero, List.set_cons_succ, List.nil_append, List.cons_append]) | (refine wE_open (by rfl) (by rfl) ?_; apply Exists.intro; refine ⟨fun vs wq hw => ?_, ?_⟩; (focus (rw [HCl.out] at hw; (try simp only [List.nil_append, List.cons_append] at hw); (try dsimp only at hw); go_split_ands; go_simp <;> first | with_reducible exact (rfl : Value.bool false = _) | with_reducible exact (rfl : Value.bool true = _) | ((try go_bits) <;> exact rfl))); simp only [Act.put, Nat.reduceAdd, List.setIfInBounds_toArray, List.set_cons_zero, List.set_cons_succ, List.nil_append, List.cons_append]) | (refine wE_seal (by rfl) (by rfl) (by kernel_rfl) ?_; apply Exists.intro; refine ⟨fun wq hw => ?_, ?_⟩; (focus (rw [HCl.out] at hw; (try simp only [List.nil_append, List.cons_append] at hw); (try dsimp only at hw); go_split_ands; go_simp <;> (try go_bits) <;> exact rfl)); simp only [Act.put, Nat.reduceAdd, List.setIfInBounds_toArray, List.set_cons_zero, List.set_cons_succ, List.nil_append, List.cons_append]) | (refine wE_seal (by rfl) (by rfl) (by kernel_rfl) ?_; apply Exists.intro; refine ⟨fun wq hw => ?_, ?_⟩; (focus (rw [HCl.out] at hw; (try simp only [List.nil_append, List.cons_append] at hw); (try dsimp only at hw); go_split_ands; go_simp; fail)); simp only [Act.put, Nat.reduceAdd, List.setIfInBounds_toArray, List.set_cons_zero, List.set_cons_succ, List.nil_append, List.cons_append]) | (refine wE_eff (by rfl) (by rfl) (fun wq hw => ?_) (fun u hu => ?_); (focus (rw [HCl.out] at hw; (try simp only [List.nil_append, List.cons_append] at hw); (try dsimp only at hw); go_split_ands; go_simp; rw [HCl.out]; (try simp only [List.nil_append, List.cons_append]); (try dsimp only); skip; ((repeat' apply And.intro) <;> first | (simp [go_sem, *]; done) | omega | (repeat' (first | (with_reducible refine RP.drew ?_) | (focus (with_reducible refine RP.alloc ?_ _)) | (focus (with_reducible refine RP.other ?_ (by with_reducible assumption) (by with_reducible assumption) _ _ _)) | (focus (with_reducible refine RP.other ?_ (by omega) (by omega) _ _ _)) | (with_reducible refine RP.below ?_ (by with_reducible assumption)) | (with_reducible refine Only.setQ ?_ _ _ _) | ((with_reducible refine Only.trans ?_ (by with_reducible assumption))) | with_reducible exact Below.refl _ _ | with_reducible assumption | ((with_reducible refine Below.drew ?_)) | ((with_reducible refine below_drewN ?_ _)) | ((with_reducible refine Below.alloc ?_ ?_ _); rotate_left; focus (first | omega | (simp; done) | (simp; omega))) | ((with_reducible refine Below.setCell ?_ ?_ _); rotate_left; focus (first | omega | (simp; done) | (simp; omega))) | ((with_reducible refine Below.trans ?_ (Below.mono (by with_reducible assumption) ?_)); rotate_left; focus (first | omega | (simp; done) | (simp; omega))) | with_reducible exact Only.refl _ _ | (with_reducible refine Only.drew ?_) | (with_reducible refine Only.setL ?_ _ _ _) | (with_reducible refine Only.setR ?_ _ _ _) | (with_reducible refine Only.alloc ?_ _) | (with_reducible refine EL.drew ?_) | (focus (with_reducible refine EL.other ?_ (by omega) _ _ _)) | ((with_reducible refine Only.setCell ?_ (Or.inr ?_) _); rotate_left; focus (first | omega | (simp; done) | (simp; omega))) | (focus (with_reducible refine EL.alloc ?_ (by (first | omega | (simp; omega))) _)) | (with_reducible refine EL.other ?_ (by with_reducible assumption) _ _ _) | (with_reducible refine EL.set ?_ (by with_reducible assumption) (by with_reducible assumption) _) | (focus (with_reducible refine EL.set ?_ (by omega) (by with_reducible assumption) _)) | ((with_reducible refine EL.below ?_ (by with_reducible assumption) ?_); rotate_left; focus (first | omega | (simp; omega))) | ((with_reducible refine Only.trans ?_ (Only.of_below (by with_reducible assumption)))) ))))); clear hu; simp only [Act.put, Nat.reduceAdd, List.setIfInBounds_toArray, List.set_cons_zero, List.set_cons_succ, List.nil_append, List.cons_append])))
      refine wE_nil ?_; intro w' hw; rw [HCl.out] at hw; (try simp only [List.nil_append, List.cons_append] at hw); (try dsimp only at hw); clear HCl
      go_split_ands
      go_wp2
      go_roundw
      case rel => exact ⟨k + 1, by omega, by go_num, (by repeat' (first | (with_reducible refine RP.drew ?_) | (focus (with_reducible refine RP.alloc ?_ _)) | (focus (with_reducible refine RP.other ?_ (by with_reducible assumption) (by with_reducible assumption) _ _ _)) | (focus (with_reducible refine RP.other ?_ (by omega) (by omega) _ _ _)) | (with_reducible refine RP.below ?_ (by with_reducible assumption)) | (with_reducible refine Only.setQ ?_ _ _ _) | ((with_reducible refine Only.trans ?_ (by with_reducible assumption))) | with_reducible exact Below.refl _ _ | with_reducible assumption | ((with_reducible refine Below.drew ?_)) | ((with_reducible refine below_drewN ?_ _)) | ((with_reducible refine Below.alloc ?_ ?_ _); rotate_left; focus (first | omega | (simp; done) | (simp; omega))) | ((with_reducible refine Below.setCell ?_ ?_ _); rotate_left; focus (first | omega | (simp; done) | (simp; omega))) | ((with_reducible refine Below.trans ?_ (Below.mono (by with_reducible assumption) ?_)); rotate_left; focus (first | omega | (simp; done) | (simp; omega))) | with_reducible exact Only.refl _ _ | (with_reducible refine Only.drew ?_) | (with_reducible refine Only.setL ?_ _ _ _) | (with_reducible refine Only.setR ?_ _ _ _) | (with_reducible refine Only.alloc ?_ _) | (with_reducible refine EL.drew ?_) | (focus (with_reducible refine EL.other ?_ (by omega) _ _ _)) | ((with_reducible refine Only.setCell ?_ (Or.inr ?_) _); rotate_left; focus (first | omega | (simp; done) | (simp; omega))) | (focus (with_reducible refine EL.alloc ?_ (by (first | omega | (simp; omega))) _)) | (with_reducible refine EL.other ?_ (by with_reducible assumption) _ _ _) | (with_reducible refine EL.set ?_ (by with_reducible assumption) (by with_reducible assumption) _) | (focus (with_reducible refine EL.set ?_ (by omega) (by with_reducible assumption) _)) | ((with_reducible refine EL.below ?_ (by with_reducible assumption) ?_); rotate_left; focus (first | omega | (simp; omega))) | ((with_reducible refine Only.trans ?_ (Only.of_below (by with_reducible assumption)))) ))⟩
      case measure => simp [intOf]; omega
    · obtain rfl : k = n := by omega
      clear hlt
      go_wp2
      go_ret
      exact ⟨rfl, hB⟩
end Go.Proofs.Ytpjanaljmnfccaa
