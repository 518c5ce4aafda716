import Derived.Test.YtdahjhokcjfioaaPq3
namespace Go.Proofs.Ytdahjhokcjfioaa
set_option linter.unusedVariables false
set_option linter.unusedSimpArgs false
set_option maxRecDepth 100000
open Go.RowKit Fg Reg
attribute [local irreducible] Reg.wE

theorem run_equalIn_ar {P : Program} (d : Nat) (t e : TypeId) (n : Nat) (k : IntKind) (ht : P.underlying t = some (.array n e)) (he : P.underlying e = some (.int k)) (hz : ∀ w, (sizeOf e).run P w = .ok 1 w) (hp : ∀ (cs : Array Value) (i : Nat) (v : Value) w, cs[i]? = some v → (part e cs i).run P w = .ok v w)
    (xs ys : List Int) (hx : xs.length = n) (hy : ys.length = n) (w : World) :
    (Op.equalIn (d + 2) t (.agg (xs.map (Value.int k)).toArray) (.agg (ys.map (Value.int k)).toArray)).run P w = .ok (xs == ys) w := by
  rw [Op.equalIn]
  simp only [Sem.run_bind, run_underlying ht, Result.andThen_ok, hz]
  have key : ∀ (m s : Nat), s + m = n → ∀ w : World, Sem.run P (forIn (List.range' s m) ((none : Option Bool), ()) fun i __s => do
            let __do_lift ← part e (List.map (Value.int k) xs).toArray (i * 1)
            let __do_lift_1 ← part e (List.map (Value.int k) ys).toArray (i * 1)
            let __do_lift ← Op.equalIn (d + 1) e __do_lift __do_lift_1
            if (!__do_lift) = true then pure (ForInStep.done (some false, ())) else pure (ForInStep.yield (none, ()))) w = .ok (if xs.drop s == ys.drop s then (none, ()) else (some false, ())) w := by
    intro m
    induction m with
    | zero =>
      intro s hs w
      rw [List.drop_eq_nil_of_le (by omega), List.drop_eq_nil_of_le (by omega)]
      simp [List.range']
    | succ m ih =>
      intro s hs w
      have h1 : s < xs.length := by omega
      have h2 : s < ys.length := by omega
      rw [List.range'_succ, List.forIn_cons]
      simp only [Sem.run_bind, Nat.mul_one]
      rw [hp _ s (.int k xs[s]) w (by simp [h1]), Result.andThen_ok, hp _ s (.int k ys[s]) w (by simp [h2]), Result.andThen_ok, run_equalIn_int w d e k k _ _ he, Result.andThen_ok]
      rw [List.drop_eq_getElem_cons h1, List.drop_eq_getElem_cons h2, List.cons_beq_cons]
      cases hb : (xs[s] == ys[s]) with
      | false => simp
      | true =>
        have := ih (s + 1) (by omega) w
        simp only [Nat.mul_one] at this
        simpa using this
  have h := key n 0 (by omega) w
  simp only [Std.Legacy.Range.forIn_eq_forIn_range', Std.Legacy.Range.size, Nat.sub_zero, Nat.add_one_sub_one, Nat.div_one]
  rw [h, Result.andThen_ok, List.drop_zero, List.drop_zero]
  cases hb : (xs == ys) <;> simp

theorem run_equalIn_ar4 {P : Program} (d : Nat) (t e : TypeId) (k : IntKind) (ht : P.underlying t = some (.array 4 e)) (he : P.underlying e = some (.int k)) (hz : ∀ w, (sizeOf e).run P w = .ok 1 w) (hp : ∀ (cs : Array Value) (i : Nat) (v : Value) w, cs[i]? = some v → (part e cs i).run P w = .ok v w)
    (a b c f a' b' c' f' : Int) (w : World) :
    (Op.equalIn (d + 2) t (.agg #[.int k a, .int k b, .int k c, .int k f]) (.agg #[.int k a', .int k b', .int k c', .int k f'])).run P w = .ok ([a, b, c, f] == [a', b', c', f']) w :=
  run_equalIn_ar d t e 4 k ht he hz hp [a, b, c, f] [a', b', c', f'] rfl rfl w

theorem eqHd (n : Nat) (a b c d : Int) (w : World) : (Op.equalIn (n + 2) 34 (.agg #[.int .u16 a, .int .u16 b, .int .u16 c, .int .u16 d]) (.agg #[.int .u16 a, .int .u16 b, .int .u16 c, .int .u16 d])).run Try.prog w = .ok true w := by
  have hz : ∀ w, (sizeOf 32).run Try.prog w = .ok 1 w := fun w => by kernel_rfl
  have ha : ∀ w, (isAgg 32).run Try.prog w = .ok false w := fun w => by kernel_rfl
  have h := run_equalIn_ar4 (P := Try.prog) n 34 32 .u16 Try.underlying34 Try.underlying32 hz (fun cs i v w h => by unfold part; simp only [Sem.run_bind, ha, Result.andThen_ok, Bool.false_eq_true, if_false, h]; rfl) a b c d a b c d w
  simpa using h
/-- A packet, held against itself. -/
theorem eqPk (i n a b c d : Int) (w : World) : (Op.equalIn 10000 36 (.agg #[.int .u64 (i), .int .i64 (n), .int .u16 (a), .int .u16 (b), .int .u16 (c), .int .u16 (d)]) (.agg #[.int .u64 (i), .int .i64 (n), .int .u16 (a), .int .u16 (b), .int .u16 (c), .int .u16 (d)])).run Try.prog w = .ok true w := by
  have hz : ∀ w, (sizeOf 28).run Try.prog w = .ok 1 w := fun w => by kernel_rfl
  have ha : ∀ w, (isAgg 28).run Try.prog w = .ok false w := fun w => by kernel_rfl
  have hz1 : ∀ w, (sizeOf 3).run Try.prog w = .ok 1 w := fun w => by kernel_rfl
  have ha1 : ∀ w, (isAgg 3).run Try.prog w = .ok false w := fun w => by kernel_rfl
  have hz2 : ∀ w, (sizeOf 32).run Try.prog w = .ok 1 w := fun w => by kernel_rfl
  have ha2 : ∀ w, (isAgg 32).run Try.prog w = .ok false w := fun w => by kernel_rfl
  have hz3 : ∀ w, (sizeOf 34).run Try.prog w = .ok 4 w := fun w => by kernel_rfl
  have ha3 : ∀ w, (isAgg 34).run Try.prog w = .ok true w := fun w => by kernel_rfl
  have e9 := eqHd 9997
  have u1 := Try.underlying28
  have u2 := Try.underlying3
  have u3 := Try.underlying32
  have hS : Try.prog.underlying 36 = some (.struct (Try.prog.fieldsOf 36)) := by kernel_rfl
  have hp : Try.prog.stoodInHeld 36 = false := by kernel_rfl
  rw [show (10000 : Nat) = 9999 + 1 from rfl, run_equalIn_agg w 9999 36 _ _ hS hp]
  simp only [Program.fieldsOf, Try.underlying36]
  go_simp
/-- A row of packets. -/
def PRow (z : World) (b n : Nat) (g : Nat → Pk) : Prop := b < z.heap.size ∧ ∀ j, j < n → z.cell? ⟨b, j * 6, none⟩ = some (.int .u64 (g j).i) ∧ z.cell? ⟨b, j * 6 + 1, none⟩ = some (.int .i64 (g j).n) ∧ z.cell? ⟨b, j * 6 + 2, none⟩ = some (.int .u16 (g j).a) ∧ z.cell? ⟨b, j * 6 + 3, none⟩ = some (.int .u16 (g j).b) ∧ z.cell? ⟨b, j * 6 + 4, none⟩ = some (.int .u16 (g j).c) ∧ z.cell? ⟨b, j * 6 + 5, none⟩ = some (.int .u16 (g j).d)
theorem PRow.below {z z' : World} {b n : Nat} {g : Nat → Pk} (h : PRow z b n g) (hb : Below z.heap.size z z') : PRow z' b n g :=
  ⟨Nat.lt_of_lt_of_le h.1 hb.size, fun j hj => by
    have hc := fun o => hb.cell (p := ⟨b, o, none⟩) h.1
    simp only [hc]
    exact h.2 j hj⟩
theorem same_nil (w : World) : Calls Try.prog 86 #[.slice none 0 0, .slice none 0 0] w fun ee w' => ee = .returned (.bool true) ∧ Below w.heap.size w w' := by
  go_enter Try.func86, Try.ntmps86
  go_wp2_with fail
  refine wp_loop_rounds 1 ?_
  rw [rounds_succ]
  go_wp2
  (go_ret; refine ⟨?_, ?_⟩; (focus (exact rfl)); ((repeat' (first | (with_reducible refine RP.drew ?_) | (focus (with_reducible refine RP.alloc ?_ _)) | (focus (with_reducible refine RP.other ?_ (by with_reducible assumption) (by with_reducible assumption) _ _ _)) | (focus (with_reducible refine RP.other ?_ (by omega) (by omega) _ _ _)) | (with_reducible refine RP.below ?_ (by with_reducible assumption)) | (with_reducible refine Only.setQ ?_ _ _ _) | ((with_reducible refine Only.trans ?_ (by with_reducible assumption))) | with_reducible exact Below.refl _ _ | with_reducible assumption | ((with_reducible refine Below.drew ?_)) | ((with_reducible refine below_drewN ?_ _)) | ((with_reducible refine Below.alloc ?_ ?_ _); rotate_left; focus (first | omega | (simp; done) | (simp; omega))) | ((with_reducible refine Below.setCell ?_ ?_ _); rotate_left; focus (first | omega | (simp; done) | (simp; omega))) | ((with_reducible refine Below.trans ?_ (Below.mono (by with_reducible assumption) ?_)); rotate_left; focus (first | omega | (simp; done) | (simp; omega))) | with_reducible exact Only.refl _ _ | (with_reducible refine Only.drew ?_) | (with_reducible refine Only.setL ?_ _ _ _) | (with_reducible refine Only.setR ?_ _ _ _) | (with_reducible refine Only.alloc ?_ _) | (with_reducible refine EL.drew ?_) | (focus (with_reducible refine EL.other ?_ (by omega) _ _ _)) | ((with_reducible refine Only.setCell ?_ (Or.inr ?_) _); rotate_left; focus (first | omega | (simp; done) | (simp; omega))) | (focus (with_reducible refine EL.alloc ?_ (by (first | omega | (simp; omega))) _)) | (with_reducible refine EL.other ?_ (by with_reducible assumption) _ _ _) | (with_reducible refine EL.set ?_ (by with_reducible assumption) (by with_reducible assumption) _) | (focus (with_reducible refine EL.set ?_ (by omega) (by with_reducible assumption) _)) | ((with_reducible refine EL.below ?_ (by with_reducible assumption) ?_); rotate_left; focus (first | omega | (simp; omega))) | ((with_reducible refine Only.trans ?_ (Only.of_below (by with_reducible assumption)))) )); done))
end Go.Proofs.Ytdahjhokcjfioaa
