import Derived.Test.YtpabidiggehmnaaBaseA
import Derived.Test.YtpabidiggehmnaaMathA
/- Arrays of numbers, held against one another. -/
namespace Go.Proofs.Ytpabidiggehmnaa
set_option linter.unusedVariables false
set_option linter.unusedSimpArgs false
set_option maxRecDepth 100000
open Go.RowKit Fg Reg

theorem run_equalIn_arr {P : Program} (d : Nat) (t e : TypeId) (n : Nat) (k : IntKind) (ht : P.underlying t = some (.array n e)) (he : P.underlying e = some (.int k)) (hz : ∀ w, (sizeOf e).run P w = .ok 1 w) (hp : ∀ (cs : Array Value) (i : Nat) (v : Value) w, cs[i]? = some v → (part e cs i).run P w = .ok v w)
    (xs ys : List Int) (hx : xs.length = n) (hy : ys.length = n) (w : World) :
    (Op.equalIn (d + 2) t (.agg (xs.map (Value.int k)).toArray) (.agg (ys.map (Value.int k)).toArray)).run P w = .ok (xs == ys) w := by
  rw [Op.equalIn]
  simp only [Sem.run_bind, run_underlying ht, Result.andThen_ok, hz]
  have key : ∀ (m s : Nat), s + m = n → ∀ w : World, Sem.run P (forIn (List.range' s m) ((none : Option Bool), ()) fun i __s => do
            let __do_lift ← part e (List.map (Value.int k) xs).toArray (i * 1)
            let __do_lift_1 ← part e (List.map (Value.int k) ys).toArray (i * 1)
            let __do_lift ← Op.equalIn (d + 1) e __do_lift __do_lift_1
            if (!__do_lift) = true then pure (ForInStep.done (some false, ())) else pure (ForInStep.yield (none, ()))) w = .ok (if xs.drop s == ys.drop s then (none, ()) else (some false, ())) w := by
    intro m
    induction m with
    | zero =>
      intro s hs w
      rw [List.drop_eq_nil_of_le (by omega), List.drop_eq_nil_of_le (by omega)]
      simp [List.range']
    | succ m ih =>
      intro s hs w
      have h1 : s < xs.length := by omega
      have h2 : s < ys.length := by omega
      rw [List.range'_succ, List.forIn_cons]
      simp only [Sem.run_bind, Nat.mul_one]
      rw [hp _ s (.int k xs[s]) w (by simp [h1]), Result.andThen_ok, hp _ s (.int k ys[s]) w (by simp [h2]), Result.andThen_ok, run_equalIn_int w d e k k _ _ he, Result.andThen_ok]
      rw [List.drop_eq_getElem_cons h1, List.drop_eq_getElem_cons h2, List.cons_beq_cons]
      cases hb : (xs[s] == ys[s]) with
      | false => simp
      | true =>
        have := ih (s + 1) (by omega) w
        simp only [Nat.mul_one] at this
        simpa using this
  have h := key n 0 (by omega) w
  simp only [Std.Legacy.Range.forIn_eq_forIn_range', Std.Legacy.Range.size, Nat.sub_zero, Nat.add_one_sub_one, Nat.div_one]
  rw [h, Result.andThen_ok, List.drop_zero, List.drop_zero]
  cases hb : (xs == ys) <;> simp

theorem run_equalIn_arr4 {P : Program} (d : Nat) (t e : TypeId) (k : IntKind) (ht : P.underlying t = some (.array 4 e)) (he : P.underlying e = some (.int k)) (hz : ∀ w, (sizeOf e).run P w = .ok 1 w) (hp : ∀ (cs : Array Value) (i : Nat) (v : Value) w, cs[i]? = some v → (part e cs i).run P w = .ok v w)
    (a b c f a' b' c' f' : Int) (w : World) :
    (Op.equalIn (d + 2) t (.agg #[.int k a, .int k b, .int k c, .int k f]) (.agg #[.int k a', .int k b', .int k c', .int k f'])).run P w = .ok ([a, b, c, f] == [a', b', c', f']) w :=
  run_equalIn_arr d t e 4 k ht he hz hp [a, b, c, f] [a', b', c', f'] rfl rfl w

theorem eqN (a b c f a' b' c' f' : Int) (w : World) : (Op.equalIn 10000 26 (.agg #[.int .u64 a, .int .u64 b, .int .u64 c, .int .u64 f]) (.agg #[.int .u64 a', .int .u64 b', .int .u64 c', .int .u64 f'])).run Try.prog w = .ok ([a, b, c, f] == [a', b', c', f']) w := by
  have hz : ∀ w, (sizeOf 23).run Try.prog w = .ok 1 w := fun w => by kernel_rfl
  have ha : ∀ w, (isAgg 23).run Try.prog w = .ok false w := fun w => by kernel_rfl
  exact run_equalIn_arr4 9998 26 23 .u64 Try.underlying26 Try.underlying23 hz (fun cs i v w h => by unfold part; simp only [Sem.run_bind, ha, Result.andThen_ok, Bool.false_eq_true, if_false, h]; rfl) a b c f a' b' c' f' w
/-- Two numbers, digit by digit. -/
theorem eqDig {x y : Int} (hx : Wd x) (hy : Wd y) (w : World) : (Op.equalIn 10000 26 (.agg #[.int .u64 (d0 x), .int .u64 (d1 x), .int .u64 (d2 x), .int .u64 (d3 x)]) (.agg #[.int .u64 (d0 y), .int .u64 (d1 y), .int .u64 (d2 y), .int .u64 (d3 y)])).run Try.prog w = .ok (decide (x = y)) w := by
  rw [eqN]
  by_cases h : x = y
  · subst h; simp
  · have : ([d0 x, d1 x, d2 x, d3 x] == [d0 y, d1 y, d2 y, d3 y]) = false := by
      rw [beq_eq_false_iff_ne]
      intro e
      simp only [List.cons.injEq, and_true] at e
      have e1 := num4_wd hx
      rw [e.1, e.2.1, e.2.2.1, e.2.2.2, num4_wd hy] at e1
      exact h e1.symm
    rw [this]; simp [h]
end Go.Proofs.Ytpabidiggehmnaa

namespace Go.Proofs.Ytpabidiggehmnaa
set_option linter.unusedVariables false
set_option linter.unusedSimpArgs false
set_option maxRecDepth 100000
open Go.RowKit Fg Reg

theorem refof_c (x : Int) (hx : In x) (w : World) : Calls Try.prog 40 #[.int .u64 x] w fun e w' => e = .returned (.agg #[.int .u64 (d0 x), .int .u64 (d1 x), .int .u64 (d2 x), .int .u64 (d3 x)]) ∧ Below w.heap.size w w' := by
  have b1 : 0 ≤ x ∧ x ≤ 18446744073709551615 := hx
  go_enter Try.func40, Try.ntmps40
  go_wp2
  refine bodyPost_ret (v := .agg #[.int .u64 (d0 x), .int .u64 (d1 x), .int .u64 (d2 x), .int .u64 (d3 x)]) ?_ rfl ⟨rfl, (by repeat' (first | with_reducible exact Below.refl _ _ | with_reducible assumption | ((with_reducible refine Below.drew ?_)) | ((with_reducible refine below_drewN ?_ _)) | ((with_reducible refine Below.alloc ?_ ?_ _); rotate_left; focus (first | omega | (simp; done) | (simp; omega))) | ((with_reducible refine Below.setCell ?_ ?_ _); rotate_left; focus (first | omega | (simp; done) | (simp; omega))) | ((with_reducible refine Below.trans ?_ (Below.mono (by with_reducible assumption) ?_)); rotate_left; focus (first | omega | (simp; done) | (simp; omega)))))⟩
  simp [results, Try.results40, go_sem]
  unfold d0 d1 d2 d3
  omega

theorem reftwo_c (a b : Int) (ha : In a) (hb : In b) (w : World) : Calls Try.prog 31 #[.int .u64 a, .int .u64 b] w fun e w' => e = .returned (.agg #[.int .u64 (d0 (val a b)), .int .u64 (d1 (val a b)), .int .u64 (d2 (val a b)), .int .u64 (d3 (val a b))]) ∧ Below w.heap.size w w' := by
  have b1 : 0 ≤ a ∧ a ≤ 18446744073709551615 := ha
  have b2 : 0 ≤ b ∧ b ≤ 18446744073709551615 := hb
  go_enter Try.func31, Try.ntmps31
  go_wp2
  refine bodyPost_ret (v := .agg #[.int .u64 (d0 (val a b)), .int .u64 (d1 (val a b)), .int .u64 (d2 (val a b)), .int .u64 (d3 (val a b))]) ?_ rfl ⟨rfl, (by repeat' (first | with_reducible exact Below.refl _ _ | with_reducible assumption | ((with_reducible refine Below.drew ?_)) | ((with_reducible refine below_drewN ?_ _)) | ((with_reducible refine Below.alloc ?_ ?_ _); rotate_left; focus (first | omega | (simp; done) | (simp; omega))) | ((with_reducible refine Below.setCell ?_ ?_ _); rotate_left; focus (first | omega | (simp; done) | (simp; omega))) | ((with_reducible refine Below.trans ?_ (Below.mono (by with_reducible assumption) ?_)); rotate_left; focus (first | omega | (simp; done) | (simp; omega)))))⟩
  simp [results, Try.results31, go_sem]
  unfold d0 d1 d2 d3 val
  omega

theorem refhi_c (x : Int) (w : World) : Calls Try.prog 66 #[.agg #[.int .u64 (d0 x), .int .u64 (d1 x), .int .u64 (d2 x), .int .u64 (d3 x)]] w fun e w' => e = .returned (.int .u64 (hi x)) ∧ Below w.heap.size w w' := by
  have b1 := d2_in x
  have b2 := d3_in x
  go_enter Try.func66, Try.ntmps66
  go_wp2
  go_ret
  refine ⟨ret_int ?_, (by repeat' (first | with_reducible exact Below.refl _ _ | with_reducible assumption | ((with_reducible refine Below.drew ?_)) | ((with_reducible refine below_drewN ?_ _)) | ((with_reducible refine Below.alloc ?_ ?_ _); rotate_left; focus (first | omega | (simp; done) | (simp; omega))) | ((with_reducible refine Below.setCell ?_ ?_ _); rotate_left; focus (first | omega | (simp; done) | (simp; omega))) | ((with_reducible refine Below.trans ?_ (Below.mono (by with_reducible assumption) ?_)); rotate_left; focus (first | omega | (simp; done) | (simp; omega)))))⟩
  unfold d2 d3 hi; omega

theorem reflo_c (x : Int) (w : World) : Calls Try.prog 65 #[.agg #[.int .u64 (d0 x), .int .u64 (d1 x), .int .u64 (d2 x), .int .u64 (d3 x)]] w fun e w' => e = .returned (.int .u64 (lo x)) ∧ Below w.heap.size w w' := by
  have b1 := d0_in x
  have b2 := d1_in x
  go_enter Try.func65, Try.ntmps65
  go_wp2
  go_ret
  refine ⟨ret_int ?_, (by repeat' (first | with_reducible exact Below.refl _ _ | with_reducible assumption | ((with_reducible refine Below.drew ?_)) | ((with_reducible refine below_drewN ?_ _)) | ((with_reducible refine Below.alloc ?_ ?_ _); rotate_left; focus (first | omega | (simp; done) | (simp; omega))) | ((with_reducible refine Below.setCell ?_ ?_ _); rotate_left; focus (first | omega | (simp; done) | (simp; omega))) | ((with_reducible refine Below.trans ?_ (Below.mono (by with_reducible assumption) ?_)); rotate_left; focus (first | omega | (simp; done) | (simp; omega)))))⟩
  unfold d0 d1 lo; omega

set_option maxHeartbeats 1000000 in
theorem refadd_c (x0 x1 x2 x3 y0 y1 y2 y3 : Int) (h0 : Dg x0) (h1 : Dg x1) (h2 : Dg x2) (h3 : Dg x3) (g0 : Dg y0) (g1 : Dg y1) (g2 : Dg y2) (g3 : Dg y3) (w : World) : Calls Try.prog 60 #[.agg #[.int .u64 x0, .int .u64 x1, .int .u64 x2, .int .u64 x3], .agg #[.int .u64 y0, .int .u64 y1, .int .u64 y2, .int .u64 y3]] w fun e w' =>
    e = .returned (.tuple #[.agg #[.int .u64 (d0 (num4 x0 x1 x2 x3 + num4 y0 y1 y2 y3)), .int .u64 (d1 (num4 x0 x1 x2 x3 + num4 y0 y1 y2 y3)), .int .u64 (d2 (num4 x0 x1 x2 x3 + num4 y0 y1 y2 y3)), .int .u64 (d3 (num4 x0 x1 x2 x3 + num4 y0 y1 y2 y3))], .int .u64 ((num4 x0 x1 x2 x3 + num4 y0 y1 y2 y3) / 340282366920938463463374607431768211456)]) ∧ Below w.heap.size w w' := by
  unfold Dg at *
  go_enter Try.func60, Try.ntmps60
  go_wp2_with fail
  refine wp_loop_rounds 5 ?_
  iterate 4
    rw [rounds_succ]
    go_wp2_with fail
    go_quiet (fail)
    go_wp2_with fail
  rw [rounds_succ]
  go_wp2
  refine bodyPost_ret (v := .tuple #[.agg #[.int .u64 (d0 (num4 x0 x1 x2 x3 + num4 y0 y1 y2 y3)), .int .u64 (d1 (num4 x0 x1 x2 x3 + num4 y0 y1 y2 y3)), .int .u64 (d2 (num4 x0 x1 x2 x3 + num4 y0 y1 y2 y3)), .int .u64 (d3 (num4 x0 x1 x2 x3 + num4 y0 y1 y2 y3))], .int .u64 ((num4 x0 x1 x2 x3 + num4 y0 y1 y2 y3) / 340282366920938463463374607431768211456)]) ?_ rfl ⟨rfl, (by repeat' (first | with_reducible exact Below.refl _ _ | with_reducible assumption | ((with_reducible refine Below.drew ?_)) | ((with_reducible refine below_drewN ?_ _)) | ((with_reducible refine Below.alloc ?_ ?_ _); rotate_left; focus (first | omega | (simp; done) | (simp; omega))) | ((with_reducible refine Below.setCell ?_ ?_ _); rotate_left; focus (first | omega | (simp; done) | (simp; omega))) | ((with_reducible refine Below.trans ?_ (Below.mono (by with_reducible assumption) ?_)); rotate_left; focus (first | omega | (simp; done) | (simp; omega)))))⟩
  simp [results, Try.results60, go_sem]
  unfold d0 d1 d2 d3 num4
  omega

set_option maxHeartbeats 2000000 in
theorem refless_c (x0 x1 x2 x3 y0 y1 y2 y3 : Int) (h0 : Dg x0) (h1 : Dg x1) (h2 : Dg x2) (h3 : Dg x3) (g0 : Dg y0) (g1 : Dg y1) (g2 : Dg y2) (g3 : Dg y3) (w : World) : Calls Try.prog 56 #[.agg #[.int .u64 x0, .int .u64 x1, .int .u64 x2, .int .u64 x3], .agg #[.int .u64 y0, .int .u64 y1, .int .u64 y2, .int .u64 y3]] w fun e w' => e = .returned (.bool (decide (num4 x0 x1 x2 x3 < num4 y0 y1 y2 y3))) ∧ Below w.heap.size w w' := by
  unfold Dg at *
  by_cases e3 : x3 = y3
  · subst e3
    by_cases e2 : x2 = y2
    · subst e2
      by_cases e1 : x1 = y1
      · subst e1
        by_cases e0 : x0 = y0
        · subst e0
          have e : decide (num4 x0 x1 x2 x3 < num4 x0 x1 x2 x3) = false := by simp
          rw [e]
          clear e
          go_enter Try.func56, Try.ntmps56
          go_wp2_with fail
          refine wp_loop_rounds 5 ?_
          rw [rounds_succ]
          go_wp2_with fail
          go_quiet (fail)
          go_wp2_with fail
          rw [rounds_succ]
          go_wp2_with fail
          go_quiet (fail)
          go_wp2_with fail
          rw [rounds_succ]
          go_wp2_with fail
          go_quiet (fail)
          go_wp2_with fail
          rw [rounds_succ]
          go_wp2_with fail
          go_quiet (fail)
          go_wp2_with fail
          rw [rounds_succ]
          go_wp2_with fail
          go_ret
          exact ⟨rfl, (by repeat' (first | with_reducible exact Below.refl _ _ | with_reducible assumption | ((with_reducible refine Below.drew ?_)) | ((with_reducible refine below_drewN ?_ _)) | ((with_reducible refine Below.alloc ?_ ?_ _); rotate_left; focus (first | omega | (simp; done) | (simp; omega))) | ((with_reducible refine Below.setCell ?_ ?_ _); rotate_left; focus (first | omega | (simp; done) | (simp; omega))) | ((with_reducible refine Below.trans ?_ (Below.mono (by with_reducible assumption) ?_)); rotate_left; focus (first | omega | (simp; done) | (simp; omega)))))⟩
        · have e : decide (num4 x0 x1 x2 x3 < num4 y0 x1 x2 x3) = decide (x0 < y0) := by unfold num4; rw [decide_eq_decide]; omega
          rw [e]
          clear e
          have e' : (x0 == y0) = false := by simpa using e0
          go_enter Try.func56, Try.ntmps56
          go_wp2_with fail
          refine wp_loop_rounds 4 ?_
          rw [rounds_succ]
          go_wp2_with fail
          go_quiet (fail)
          go_wp2_with fail
          rw [rounds_succ]
          go_wp2_with fail
          go_quiet (fail)
          go_wp2_with fail
          rw [rounds_succ]
          go_wp2_with fail
          go_quiet (fail)
          go_wp2_with fail
          rw [rounds_succ]
          go_wp2_with fail
          go_quiet (fail)
          go_wp2_with fail
          go_quiet (fail)
          go_wp2_with fail
          go_ret
          exact ⟨rfl, (by repeat' (first | with_reducible exact Below.refl _ _ | with_reducible assumption | ((with_reducible refine Below.drew ?_)) | ((with_reducible refine below_drewN ?_ _)) | ((with_reducible refine Below.alloc ?_ ?_ _); rotate_left; focus (first | omega | (simp; done) | (simp; omega))) | ((with_reducible refine Below.setCell ?_ ?_ _); rotate_left; focus (first | omega | (simp; done) | (simp; omega))) | ((with_reducible refine Below.trans ?_ (Below.mono (by with_reducible assumption) ?_)); rotate_left; focus (first | omega | (simp; done) | (simp; omega)))))⟩
      · have e : decide (num4 x0 x1 x2 x3 < num4 y0 y1 x2 x3) = decide (x1 < y1) := by unfold num4; rw [decide_eq_decide]; omega
        rw [e]
        clear e
        have e' : (x1 == y1) = false := by simpa using e1
        go_enter Try.func56, Try.ntmps56
        go_wp2_with fail
        refine wp_loop_rounds 3 ?_
        rw [rounds_succ]
        go_wp2_with fail
        go_quiet (fail)
        go_wp2_with fail
        rw [rounds_succ]
        go_wp2_with fail
        go_quiet (fail)
        go_wp2_with fail
        rw [rounds_succ]
        go_wp2_with fail
        go_quiet (fail)
        go_wp2_with fail
        go_quiet (fail)
        go_wp2_with fail
        go_ret
        exact ⟨rfl, (by repeat' (first | with_reducible exact Below.refl _ _ | with_reducible assumption | ((with_reducible refine Below.drew ?_)) | ((with_reducible refine below_drewN ?_ _)) | ((with_reducible refine Below.alloc ?_ ?_ _); rotate_left; focus (first | omega | (simp; done) | (simp; omega))) | ((with_reducible refine Below.setCell ?_ ?_ _); rotate_left; focus (first | omega | (simp; done) | (simp; omega))) | ((with_reducible refine Below.trans ?_ (Below.mono (by with_reducible assumption) ?_)); rotate_left; focus (first | omega | (simp; done) | (simp; omega)))))⟩
    · have e : decide (num4 x0 x1 x2 x3 < num4 y0 y1 y2 x3) = decide (x2 < y2) := by unfold num4; rw [decide_eq_decide]; omega
      rw [e]
      clear e
      have e' : (x2 == y2) = false := by simpa using e2
      go_enter Try.func56, Try.ntmps56
      go_wp2_with fail
      refine wp_loop_rounds 2 ?_
      rw [rounds_succ]
      go_wp2_with fail
      go_quiet (fail)
      go_wp2_with fail
      rw [rounds_succ]
      go_wp2_with fail
      go_quiet (fail)
      go_wp2_with fail
      go_quiet (fail)
      go_wp2_with fail
      go_ret
      exact ⟨rfl, (by repeat' (first | with_reducible exact Below.refl _ _ | with_reducible assumption | ((with_reducible refine Below.drew ?_)) | ((with_reducible refine below_drewN ?_ _)) | ((with_reducible refine Below.alloc ?_ ?_ _); rotate_left; focus (first | omega | (simp; done) | (simp; omega))) | ((with_reducible refine Below.setCell ?_ ?_ _); rotate_left; focus (first | omega | (simp; done) | (simp; omega))) | ((with_reducible refine Below.trans ?_ (Below.mono (by with_reducible assumption) ?_)); rotate_left; focus (first | omega | (simp; done) | (simp; omega)))))⟩
  · have e : decide (num4 x0 x1 x2 x3 < num4 y0 y1 y2 y3) = decide (x3 < y3) := by unfold num4; rw [decide_eq_decide]; omega
    rw [e]
    clear e
    have e' : (x3 == y3) = false := by simpa using e3
    go_enter Try.func56, Try.ntmps56
    go_wp2_with fail
    refine wp_loop_rounds 1 ?_
    rw [rounds_succ]
    go_wp2_with fail
    go_quiet (fail)
    go_wp2_with fail
    go_quiet (fail)
    go_wp2_with fail
    go_ret
    exact ⟨rfl, (by repeat' (first | with_reducible exact Below.refl _ _ | with_reducible assumption | ((with_reducible refine Below.drew ?_)) | ((with_reducible refine below_drewN ?_ _)) | ((with_reducible refine Below.alloc ?_ ?_ _); rotate_left; focus (first | omega | (simp; done) | (simp; omega))) | ((with_reducible refine Below.setCell ?_ ?_ _); rotate_left; focus (first | omega | (simp; done) | (simp; omega))) | ((with_reducible refine Below.trans ?_ (Below.mono (by with_reducible assumption) ?_)); rotate_left; focus (first | omega | (simp; done) | (simp; omega)))))⟩
end Go.Proofs.Ytpabidiggehmnaa

namespace Go.Proofs.Ytpabidiggehmnaa
set_option linter.unusedVariables false
set_option linter.unusedSimpArgs false
set_option maxRecDepth 100000
open Go.RowKit Fg Reg

theorem refplus_c (x0 x1 x2 x3 y0 y1 y2 y3 : Int) (h0 : Dg x0) (h1 : Dg x1) (h2 : Dg x2) (h3 : Dg x3) (g0 : Dg y0) (g1 : Dg y1) (g2 : Dg y2) (g3 : Dg y3) (w : World) : Calls Try.prog 35 #[.agg #[.int .u64 x0, .int .u64 x1, .int .u64 x2, .int .u64 x3], .agg #[.int .u64 y0, .int .u64 y1, .int .u64 y2, .int .u64 y3]] w fun e w' => e = .returned (.agg #[.int .u64 (d0 (num4 x0 x1 x2 x3 + num4 y0 y1 y2 y3)), .int .u64 (d1 (num4 x0 x1 x2 x3 + num4 y0 y1 y2 y3)), .int .u64 (d2 (num4 x0 x1 x2 x3 + num4 y0 y1 y2 y3)), .int .u64 (d3 (num4 x0 x1 x2 x3 + num4 y0 y1 y2 y3))]) ∧ Below w.heap.size w w' := by
  go_enter Try.func35, Try.ntmps35
  go_wp2_with (go_at_call 60; refine (refadd_c _ _ _ _ _ _ _ _ h0 h1 h2 h3 g0 g1 g2 g3 _).mono ?_; rintro e w' ⟨rfl, hbel⟩; obtain ⟨hcc, hff⟩ := bcell hbel; have hsz := hbel.size; (try simp at hsz); have hF : (w'.cell? ⟨w.heap.size + 1 + 1, 0, none⟩ = some (.int .u64 0) ∧ w'.cell? ⟨w.heap.size + 1 + 1, 1, none⟩ = some (.int .u64 0) ∧ w'.cell? ⟨w.heap.size + 1 + 1, 2, none⟩ = some (.int .u64 0) ∧ w'.cell? ⟨w.heap.size + 1 + 1, 3, none⟩ = some (.int .u64 0) ∧ w'.frozen? ⟨w.heap.size + 1 + 1, 0, none⟩ = false ∧ w'.frozen? ⟨w.heap.size + 1 + 1, 1, none⟩ = false ∧ w'.frozen? ⟨w.heap.size + 1 + 1, 2, none⟩ = false ∧ w'.frozen? ⟨w.heap.size + 1 + 1, 3, none⟩ = false ∧ w.heap.size + 1 + 1 < w'.heap.size) := (by ((repeat' apply And.intro) <;> first | (simp [go_sem, *]; done) | omega | (repeat' (first | with_reducible exact Below.refl _ _ | with_reducible assumption | ((with_reducible refine Below.drew ?_)) | ((with_reducible refine below_drewN ?_ _)) | ((with_reducible refine Below.alloc ?_ ?_ _); rotate_left; focus (first | omega | (simp; done) | (simp; omega))) | ((with_reducible refine Below.setCell ?_ ?_ _); rotate_left; focus (first | omega | (simp; done) | (simp; omega))) | ((with_reducible refine Below.trans ?_ (Below.mono (by with_reducible assumption) ?_)); rotate_left; focus (first | omega | (simp; done) | (simp; omega))))))); go_split_ands)
  refine bodyPost_ret (v := .agg #[.int .u64 (d0 (num4 x0 x1 x2 x3 + num4 y0 y1 y2 y3)), .int .u64 (d1 (num4 x0 x1 x2 x3 + num4 y0 y1 y2 y3)), .int .u64 (d2 (num4 x0 x1 x2 x3 + num4 y0 y1 y2 y3)), .int .u64 (d3 (num4 x0 x1 x2 x3 + num4 y0 y1 y2 y3))]) ?_ rfl ⟨rfl, (by repeat' (first | with_reducible exact Below.refl _ _ | with_reducible assumption | ((with_reducible refine Below.drew ?_)) | ((with_reducible refine below_drewN ?_ _)) | ((with_reducible refine Below.alloc ?_ ?_ _); rotate_left; focus (first | omega | (simp; done) | (simp; omega))) | ((with_reducible refine Below.setCell ?_ ?_ _); rotate_left; focus (first | omega | (simp; done) | (simp; omega))) | ((with_reducible refine Below.trans ?_ (Below.mono (by with_reducible assumption) ?_)); rotate_left; focus (first | omega | (simp; done) | (simp; omega)))))⟩
  simp [results, Try.results35, go_sem, *]

end Go.Proofs.Ytpabidiggehmnaa

namespace Go.Proofs.Ytpabidiggehmnaa
set_option linter.unusedVariables false
set_option linter.unusedSimpArgs false
set_option maxRecDepth 100000
open Go.RowKit Fg Reg

theorem refplus_d (x y : Int) (hx : Wd x) (hy : Wd y) (w : World) : Calls Try.prog 35 #[.agg #[.int .u64 (d0 x), .int .u64 (d1 x), .int .u64 (d2 x), .int .u64 (d3 x)], .agg #[.int .u64 (d0 y), .int .u64 (d1 y), .int .u64 (d2 y), .int .u64 (d3 y)]] w fun e w' => e = .returned (.agg #[.int .u64 (d0 (x + y)), .int .u64 (d1 (x + y)), .int .u64 (d2 (x + y)), .int .u64 (d3 (x + y))]) ∧ Below w.heap.size w w' := by
  have h := refplus_c (d0 x) (d1 x) (d2 x) (d3 x) (d0 y) (d1 y) (d2 y) (d3 y) (d0_in x) (d1_in x) (d2_in x) (d3_in x) (d0_in y) (d1_in y) (d2_in y) (d3_in y) w
  rwa [num4_wd hx, num4_wd hy] at h
theorem refless_d (x y : Int) (hx : Wd x) (hy : Wd y) (w : World) : Calls Try.prog 56 #[.agg #[.int .u64 (d0 x), .int .u64 (d1 x), .int .u64 (d2 x), .int .u64 (d3 x)], .agg #[.int .u64 (d0 y), .int .u64 (d1 y), .int .u64 (d2 y), .int .u64 (d3 y)]] w fun e w' => e = .returned (.bool (decide (x < y))) ∧ Below w.heap.size w w' := by
  have h := refless_c (d0 x) (d1 x) (d2 x) (d3 x) (d0 y) (d1 y) (d2 y) (d3 y) (d0_in x) (d1_in x) (d2_in x) (d3_in x) (d0_in y) (d1_in y) (d2_in y) (d3_in y) w
  rwa [num4_wd hx, num4_wd hy] at h
theorem refadd_d (x y : Int) (hx : Wd x) (hy : Wd y) (w : World) : Calls Try.prog 60 #[.agg #[.int .u64 (d0 x), .int .u64 (d1 x), .int .u64 (d2 x), .int .u64 (d3 x)], .agg #[.int .u64 (d0 y), .int .u64 (d1 y), .int .u64 (d2 y), .int .u64 (d3 y)]] w fun e w' => e = .returned (.tuple #[.agg #[.int .u64 (d0 (x + y)), .int .u64 (d1 (x + y)), .int .u64 (d2 (x + y)), .int .u64 (d3 (x + y))], .int .u64 ((x + y) / 340282366920938463463374607431768211456)]) ∧ Below w.heap.size w w' := by
  have h := refadd_c (d0 x) (d1 x) (d2 x) (d3 x) (d0 y) (d1 y) (d2 y) (d3 y) (d0_in x) (d1_in x) (d2_in x) (d3_in x) (d0_in y) (d1_in y) (d2_in y) (d3_in y) w
  rwa [num4_wd hx, num4_wd hy] at h

end Go.Proofs.Ytpabidiggehmnaa

namespace Go.Proofs.Ytpabidiggehmnaa
set_option linter.unusedVariables false
set_option linter.unusedSimpArgs false
set_option maxRecDepth 100000
open Go.RowKit Fg Reg

end Go.Proofs.Ytpabidiggehmnaa

namespace Go.Proofs.Ytpabidiggehmnaa
set_option linter.unusedVariables false
set_option linter.unusedSimpArgs false
set_option maxRecDepth 100000
open Go.RowKit Fg Reg

end Go.Proofs.Ytpabidiggehmnaa

namespace Go.Proofs.Ytpabidiggehmnaa
set_option linter.unusedVariables false
set_option linter.unusedSimpArgs false
set_option maxRecDepth 100000
open Go.RowKit Fg Reg

theorem low_hi {a : Int} (ha : In a) : d1 a = a / 4294967296 ∧ d2 a = 0 ∧ d3 a = 0 := by unfold In at ha; unfold d1 d2 d3; omega
set_option maxRecDepth 100000 in
set_option maxHeartbeats 4000000 in
theorem refmul_c (a b : Int) (ha : In a) (hb : In b) (w : World) : Calls Try.prog 57 #[.int .u64 a, .int .u64 b] w fun e w' => e = .returned (.agg #[.int .u64 (d0 (a * b)), .int .u64 (d1 (a * b)), .int .u64 (d2 (a * b)), .int .u64 (d3 (a * b))]) ∧ Below w.heap.size w w' := by
  go_enter Try.func57, Try.ntmps57
  go_wp2_with (first
    | (go_at_call_of 40 (Value.int IntKind.u64 a); refine (refof_c a ha _).mono ?_; rintro e wA ⟨rfl, hbelA⟩; obtain ⟨hccA, hffA⟩ := bcell hbelA; have hszA := hbelA.size; (try simp at hszA); have hF : (wA.cell? ⟨w.heap.size, 0, none⟩ = some (.int .u64 0) ∧ wA.cell? ⟨w.heap.size, 1, none⟩ = some (.int .u64 0) ∧ wA.cell? ⟨w.heap.size, 2, none⟩ = some (.int .u64 0) ∧ wA.cell? ⟨w.heap.size, 3, none⟩ = some (.int .u64 0) ∧ wA.frozen? ⟨w.heap.size, 0, none⟩ = false ∧ wA.frozen? ⟨w.heap.size, 1, none⟩ = false ∧ wA.frozen? ⟨w.heap.size, 2, none⟩ = false ∧ wA.frozen? ⟨w.heap.size, 3, none⟩ = false ∧ w.heap.size < wA.heap.size) := (by ((repeat' apply And.intro) <;> first | (simp [go_sem, *]; done) | omega | (repeat' (first | with_reducible exact Below.refl _ _ | with_reducible assumption | ((with_reducible refine Below.drew ?_)) | ((with_reducible refine below_drewN ?_ _)) | ((with_reducible refine Below.alloc ?_ ?_ _); rotate_left; focus (first | omega | (simp; done) | (simp; omega))) | ((with_reducible refine Below.setCell ?_ ?_ _); rotate_left; focus (first | omega | (simp; done) | (simp; omega))) | ((with_reducible refine Below.trans ?_ (Below.mono (by with_reducible assumption) ?_)); rotate_left; focus (first | omega | (simp; done) | (simp; omega))))))); go_split_ands)
    | (go_at_call_of 40 (Value.int IntKind.u64 b); refine (refof_c b hb _).mono ?_; rintro e wB ⟨rfl, hbelB⟩; obtain ⟨hccB, hffB⟩ := bcell hbelB; have hszB := hbelB.size; (try simp at hszB); have n3 : w.heap.size < wB.heap.size := (by omega); have n2 : wA.heap.size < wB.heap.size := (by omega); have hF : (wB.cell? ⟨w.heap.size, 0, none⟩ = some (.int .u64 0) ∧ wB.cell? ⟨w.heap.size, 1, none⟩ = some (.int .u64 0) ∧ wB.cell? ⟨w.heap.size, 2, none⟩ = some (.int .u64 0) ∧ wB.cell? ⟨w.heap.size, 3, none⟩ = some (.int .u64 0) ∧ wB.frozen? ⟨w.heap.size, 0, none⟩ = false ∧ wB.frozen? ⟨w.heap.size, 1, none⟩ = false ∧ wB.frozen? ⟨w.heap.size, 2, none⟩ = false ∧ wB.frozen? ⟨w.heap.size, 3, none⟩ = false ∧ w.heap.size < wB.heap.size) ∧ (wB.cell? ⟨wA.heap.size, 0, none⟩ = some (.int .u64 (d0 a)) ∧ wB.cell? ⟨wA.heap.size, 1, none⟩ = some (.int .u64 (d1 a)) ∧ wB.cell? ⟨wA.heap.size, 2, none⟩ = some (.int .u64 (d2 a)) ∧ wB.cell? ⟨wA.heap.size, 3, none⟩ = some (.int .u64 (d3 a)) ∧ wA.heap.size < wB.heap.size) := (by ((repeat' apply And.intro) <;> first | (simp [go_sem, *]; done) | omega | (repeat' (first | with_reducible exact Below.refl _ _ | with_reducible assumption | ((with_reducible refine Below.drew ?_)) | ((with_reducible refine below_drewN ?_ _)) | ((with_reducible refine Below.alloc ?_ ?_ _); rotate_left; focus (first | omega | (simp; done) | (simp; omega))) | ((with_reducible refine Below.setCell ?_ ?_ _); rotate_left; focus (first | omega | (simp; done) | (simp; omega))) | ((with_reducible refine Below.trans ?_ (Below.mono (by with_reducible assumption) ?_)); rotate_left; focus (first | omega | (simp; done) | (simp; omega))))))); go_split_ands))
  go_loopw [17] (fun i wr => ∃ k : Nat, k ≤ 2 ∧ i = .int .i64 k ∧ (wr.cell? ⟨w.heap.size, 0, none⟩ = some (.int .u64 0) ∧ wr.cell? ⟨w.heap.size, 1, none⟩ = some (.int .u64 0) ∧ wr.cell? ⟨w.heap.size, 2, none⟩ = some (.int .u64 0) ∧ wr.cell? ⟨w.heap.size, 3, none⟩ = some (.int .u64 0) ∧ wr.frozen? ⟨w.heap.size, 0, none⟩ = false ∧ wr.frozen? ⟨w.heap.size, 1, none⟩ = false ∧ wr.frozen? ⟨w.heap.size, 2, none⟩ = false ∧ wr.frozen? ⟨w.heap.size, 3, none⟩ = false ∧ w.heap.size < wr.heap.size) ∧ (wr.cell? ⟨wA.heap.size, 0, none⟩ = some (.int .u64 (d0 a)) ∧ wr.cell? ⟨wA.heap.size, 1, none⟩ = some (.int .u64 (d1 a)) ∧ wr.cell? ⟨wA.heap.size, 2, none⟩ = some (.int .u64 (d2 a)) ∧ wr.cell? ⟨wA.heap.size, 3, none⟩ = some (.int .u64 (d3 a)) ∧ wA.heap.size < wr.heap.size) ∧ (wr.cell? ⟨wB.heap.size, 0, none⟩ = some (.int .u64 (d0 b)) ∧ wr.cell? ⟨wB.heap.size, 1, none⟩ = some (.int .u64 (d1 b)) ∧ wr.cell? ⟨wB.heap.size, 2, none⟩ = some (.int .u64 (d2 b)) ∧ wr.cell? ⟨wB.heap.size, 3, none⟩ = some (.int .u64 (d3 b)) ∧ wB.heap.size < wr.heap.size) ∧ (wr.cell? ⟨wB.heap.size + 1, 0, none⟩ = some (.int .u64 (d0 (mpart a b (2 * k)))) ∧ wr.cell? ⟨wB.heap.size + 1, 1, none⟩ = some (.int .u64 (d1 (mpart a b (2 * k)))) ∧ wr.cell? ⟨wB.heap.size + 1, 2, none⟩ = some (.int .u64 (d2 (mpart a b (2 * k)))) ∧ wr.cell? ⟨wB.heap.size + 1, 3, none⟩ = some (.int .u64 (d3 (mpart a b (2 * k)))) ∧ wr.frozen? ⟨wB.heap.size + 1, 0, none⟩ = false ∧ wr.frozen? ⟨wB.heap.size + 1, 1, none⟩ = false ∧ wr.frozen? ⟨wB.heap.size + 1, 2, none⟩ = false ∧ wr.frozen? ⟨wB.heap.size + 1, 3, none⟩ = false ∧ wB.heap.size + 1 < wr.heap.size) ∧ Below w.heap.size w wr) (fun i _ => 2 - (intOf i).toNat)
  case atStart =>
    have z0 : d0 (mpart a b 0) = 0 := rfl
    have z1 : d1 (mpart a b 0) = 0 := rfl
    have z2 : d2 (mpart a b 0) = 0 := rfl
    have z3 : d3 (mpart a b 0) = 0 := rfl
    refine ⟨0, by omega, rfl, ?_⟩
    simp only [Nat.mul_zero, z0, z1, z2, z3]
    ((repeat' apply And.intro) <;> first | (simp [go_sem, *]; done) | omega | (repeat' (first | with_reducible exact Below.refl _ _ | with_reducible assumption | ((with_reducible refine Below.drew ?_)) | ((with_reducible refine below_drewN ?_ _)) | ((with_reducible refine Below.alloc ?_ ?_ _); rotate_left; focus (first | omega | (simp; done) | (simp; omega))) | ((with_reducible refine Below.setCell ?_ ?_ _); rotate_left; focus (first | omega | (simp; done) | (simp; omega))) | ((with_reducible refine Below.trans ?_ (Below.mono (by with_reducible assumption) ?_)); rotate_left; focus (first | omega | (simp; done) | (simp; omega))))))
  case round =>
    obtain ⟨k, hk, rfl, h1, h2, h3, h4, h5⟩ := hrel
    obtain ⟨wo, rfl⟩ : ∃ wo : World, wo = wr := ⟨_, rfl⟩
    rcases (by omega : k = 0 ∨ k = 1 ∨ k = 2) with rfl | rfl | rfl
    · (rw [show ((0 : Nat) : Int) = 0 from rfl])
      go_wp2_with fail
      go_loopw [20] (fun i wr => ∃ k : Nat, k ≤ 2 ∧ i = .int .i64 k ∧ (wr.cell? ⟨w.heap.size, 0, none⟩ = some (.int .u64 0) ∧ wr.cell? ⟨w.heap.size, 1, none⟩ = some (.int .u64 0) ∧ wr.cell? ⟨w.heap.size, 2, none⟩ = some (.int .u64 0) ∧ wr.cell? ⟨w.heap.size, 3, none⟩ = some (.int .u64 0) ∧ wr.frozen? ⟨w.heap.size, 0, none⟩ = false ∧ wr.frozen? ⟨w.heap.size, 1, none⟩ = false ∧ wr.frozen? ⟨w.heap.size, 2, none⟩ = false ∧ wr.frozen? ⟨w.heap.size, 3, none⟩ = false ∧ w.heap.size < wr.heap.size) ∧ (wr.cell? ⟨wA.heap.size, 0, none⟩ = some (.int .u64 (d0 a)) ∧ wr.cell? ⟨wA.heap.size, 1, none⟩ = some (.int .u64 (d1 a)) ∧ wr.cell? ⟨wA.heap.size, 2, none⟩ = some (.int .u64 (d2 a)) ∧ wr.cell? ⟨wA.heap.size, 3, none⟩ = some (.int .u64 (d3 a)) ∧ wA.heap.size < wr.heap.size) ∧ (wr.cell? ⟨wB.heap.size, 0, none⟩ = some (.int .u64 (d0 b)) ∧ wr.cell? ⟨wB.heap.size, 1, none⟩ = some (.int .u64 (d1 b)) ∧ wr.cell? ⟨wB.heap.size, 2, none⟩ = some (.int .u64 (d2 b)) ∧ wr.cell? ⟨wB.heap.size, 3, none⟩ = some (.int .u64 (d3 b)) ∧ wB.heap.size < wr.heap.size) ∧ (wr.cell? ⟨wB.heap.size + 1, 0, none⟩ = some (.int .u64 (d0 (mpart a b (0 + k)))) ∧ wr.cell? ⟨wB.heap.size + 1, 1, none⟩ = some (.int .u64 (d1 (mpart a b (0 + k)))) ∧ wr.cell? ⟨wB.heap.size + 1, 2, none⟩ = some (.int .u64 (d2 (mpart a b (0 + k)))) ∧ wr.cell? ⟨wB.heap.size + 1, 3, none⟩ = some (.int .u64 (d3 (mpart a b (0 + k)))) ∧ wr.frozen? ⟨wB.heap.size + 1, 0, none⟩ = false ∧ wr.frozen? ⟨wB.heap.size + 1, 1, none⟩ = false ∧ wr.frozen? ⟨wB.heap.size + 1, 2, none⟩ = false ∧ wr.frozen? ⟨wB.heap.size + 1, 3, none⟩ = false ∧ wB.heap.size + 1 < wr.heap.size) ∧ Below w.heap.size w wr) (fun i _ => 2 - (intOf i).toNat)
      case atStart => exact ⟨0, by omega, rfl, h1, h2, h3, h4, h5⟩
      case round =>
        clear h1 h2 h3 h4 h5
        obtain ⟨k, hk, rfl, h1, h2, h3, h4, h5⟩ := hrel
        obtain ⟨wo, rfl⟩ : ∃ wo : World, wo = wr := ⟨_, rfl⟩
        rcases (by omega : k = 0 ∨ k = 1 ∨ k = 2) with rfl | rfl | rfl
        · have g1 := mpart_in ha hb 0
          have g1' : Wd (mpart a b 0) := g1
          have e2 := half_mul (d0_in a) (d0_in b)
          obtain ⟨p, hp⟩ : ∃ p, p = d0 a * d0 b := ⟨_, rfl⟩
          rw [← hp] at e2
          have y0 : Dg (p % 4294967296) := by unfold Dg; omega
          have y1 : Dg (p / 4294967296) := by unfold Dg; omega
          have yz : Dg 0 := by unfold Dg; omega
          have ac : num4 (d0 (mpart a b 0)) (d1 (mpart a b 0)) (d2 (mpart a b 0)) (d3 (mpart a b 0)) + num4 (p % 4294967296) (p / 4294967296) 0 0 = mpart a b 1 := by
            rw [num4_wd g1']
            have e3 : mpart a b 1 = mpart a b 0 + p * 1 := by
              rw [hp]
              have l1 := low_hi ha
              have l2 := low_hi hb
              simp only [mpart, l1.1, l2.1, d0]
              try omega
            rw [e3]; unfold num4; omega
          have Hac := Lib.hid ac; clear ac g1 g1'
          have Hp := Lib.hid hp; clear hp
          rw [show ((0 : Nat) : Int) = 0 from rfl]
          have ew : IntKind.u64.wrap (d0 a * d0 b) = p := by rw [← Hp.out, wrap_u64]; omega
          go_wp2_with fail
          obtain ⟨Cl, hCl⟩ : ∃ Cl : List Value → World → Prop, Cl = ((fun ps w' => (w'.cell? ⟨w.heap.size, 0, none⟩ = some (.int .u64 0) ∧ w'.cell? ⟨w.heap.size, 1, none⟩ = some (.int .u64 0) ∧ w'.cell? ⟨w.heap.size, 2, none⟩ = some (.int .u64 0) ∧ w'.cell? ⟨w.heap.size, 3, none⟩ = some (.int .u64 0) ∧ w'.frozen? ⟨w.heap.size, 0, none⟩ = false ∧ w'.frozen? ⟨w.heap.size, 1, none⟩ = false ∧ w'.frozen? ⟨w.heap.size, 2, none⟩ = false ∧ w'.frozen? ⟨w.heap.size, 3, none⟩ = false ∧ w.heap.size < w'.heap.size) ∧ (w'.cell? ⟨wA.heap.size, 0, none⟩ = some (.int .u64 (d0 a)) ∧ w'.cell? ⟨wA.heap.size, 1, none⟩ = some (.int .u64 (d1 a)) ∧ w'.cell? ⟨wA.heap.size, 2, none⟩ = some (.int .u64 (d2 a)) ∧ w'.cell? ⟨wA.heap.size, 3, none⟩ = some (.int .u64 (d3 a)) ∧ wA.heap.size < w'.heap.size) ∧ (w'.cell? ⟨wB.heap.size, 0, none⟩ = some (.int .u64 (d0 b)) ∧ w'.cell? ⟨wB.heap.size, 1, none⟩ = some (.int .u64 (d1 b)) ∧ w'.cell? ⟨wB.heap.size, 2, none⟩ = some (.int .u64 (d2 b)) ∧ w'.cell? ⟨wB.heap.size, 3, none⟩ = some (.int .u64 (d3 b)) ∧ wB.heap.size < w'.heap.size) ∧ (w'.cell? ⟨wB.heap.size + 1, 0, none⟩ = some (.int .u64 (d0 (mpart a b 0))) ∧ w'.cell? ⟨wB.heap.size + 1, 1, none⟩ = some (.int .u64 (d1 (mpart a b 0))) ∧ w'.cell? ⟨wB.heap.size + 1, 2, none⟩ = some (.int .u64 (d2 (mpart a b 0))) ∧ w'.cell? ⟨wB.heap.size + 1, 3, none⟩ = some (.int .u64 (d3 (mpart a b 0))) ∧ w'.frozen? ⟨wB.heap.size + 1, 0, none⟩ = false ∧ w'.frozen? ⟨wB.heap.size + 1, 1, none⟩ = false ∧ w'.frozen? ⟨wB.heap.size + 1, 2, none⟩ = false ∧ w'.frozen? ⟨wB.heap.size + 1, 3, none⟩ = false ∧ wB.heap.size + 1 < w'.heap.size) ∧ Below w.heap.size w w')) := ⟨_, rfl⟩; have HCl := Lib.hid hCl; clear hCl; refine wp_region_eff [] Cl (by kernel_rfl) (by kernel_rfl) (by rw [HCl.out]; (try simp only [List.nil_append, List.cons_append]); (try dsimp only); ((repeat' apply And.intro) <;> first | (simp [go_sem, *]; done) | omega | (repeat' (first | with_reducible exact Below.refl _ _ | with_reducible assumption | ((with_reducible refine Below.drew ?_)) | ((with_reducible refine below_drewN ?_ _)) | ((with_reducible refine Below.alloc ?_ ?_ _); rotate_left; focus (first | omega | (simp; done) | (simp; omega))) | ((with_reducible refine Below.setCell ?_ ?_ _); rotate_left; focus (first | omega | (simp; done) | (simp; omega))) | ((with_reducible refine Below.trans ?_ (Below.mono (by with_reducible assumption) ?_)); rotate_left; focus (first | omega | (simp; done) | (simp; omega))))))) ?_
          (repeat (first | (refine wE_skip (by rfl) ?_; simp only [Act.put, Nat.reduceAdd, List.setIfInBounds_toArray, List.set_cons_zero, List.set_cons_succ, List.nil_append, List.cons_append]) | (refine wE_open (by rfl) (by rfl) ?_; apply Exists.intro; refine ⟨fun vs wq hw => ?_, ?_⟩; (focus (rw [HCl.out] at hw; (try simp only [List.nil_append, List.cons_append] at hw); (try dsimp only at hw); go_split_ands; go_simp <;> first | with_reducible exact (rfl : Value.bool false = _) | with_reducible exact (rfl : Value.bool true = _) | ((try go_bits) <;> exact rfl))); simp only [Act.put, Nat.reduceAdd, List.setIfInBounds_toArray, List.set_cons_zero, List.set_cons_succ, List.nil_append, List.cons_append]) | (refine wE_seal (by rfl) (by rfl) (by kernel_rfl) ?_; apply Exists.intro; refine ⟨fun wq hw => ?_, ?_⟩; (focus (rw [HCl.out] at hw; (try simp only [List.nil_append, List.cons_append] at hw); (try dsimp only at hw); go_split_ands; go_simp <;> (try go_bits) <;> exact rfl)); simp only [Act.put, Nat.reduceAdd, List.setIfInBounds_toArray, List.set_cons_zero, List.set_cons_succ, List.nil_append, List.cons_append]) | (refine wE_seal (by rfl) (by rfl) (by kernel_rfl) ?_; apply Exists.intro; refine ⟨fun wq hw => ?_, ?_⟩; (focus (rw [HCl.out] at hw; (try simp only [List.nil_append, List.cons_append] at hw); (try dsimp only at hw); go_split_ands; go_simp; fail)); simp only [Act.put, Nat.reduceAdd, List.setIfInBounds_toArray, List.set_cons_zero, List.set_cons_succ, List.nil_append, List.cons_append]) | (refine wE_eff (by rfl) (by rfl) (fun wq hw => ?_) (fun u hu => ?_); (focus (rw [HCl.out] at hw; (try simp only [List.nil_append, List.cons_append] at hw); (try dsimp only at hw); go_split_ands; go_simp; rw [HCl.out]; (try simp only [List.nil_append, List.cons_append]); (try dsimp only); skip; ((repeat' apply And.intro) <;> first | (simp [go_sem, *]; done) | omega | (repeat' (first | with_reducible exact Below.refl _ _ | with_reducible assumption | ((with_reducible refine Below.drew ?_)) | ((with_reducible refine below_drewN ?_ _)) | ((with_reducible refine Below.alloc ?_ ?_ _); rotate_left; focus (first | omega | (simp; done) | (simp; omega))) | ((with_reducible refine Below.setCell ?_ ?_ _); rotate_left; focus (first | omega | (simp; done) | (simp; omega))) | ((with_reducible refine Below.trans ?_ (Below.mono (by with_reducible assumption) ?_)); rotate_left; focus (first | omega | (simp; done) | (simp; omega)))))))); clear hu; simp only [Act.put, Nat.reduceAdd, List.setIfInBounds_toArray, List.set_cons_zero, List.set_cons_succ, List.nil_append, List.cons_append])))
          refine wE_nil ?_; intro w' hw; rw [HCl.out] at hw; (try simp only [List.nil_append, List.cons_append] at hw); (try dsimp only at hw); clear HCl
          clear h1 h2 h3 h4 h5
          obtain ⟨h1, h2, h3, h4, h5⟩ := hw
          go_wp2_with (go_at_call 35; (refine (refplus_c _ _ _ _ _ _ _ _ (d0_in _) (d1_in _) (d2_in _) (d3_in _) y0 y1 yz yz _).mono ?_); rw [Hac.out]; rintro e w2 ⟨rfl, hbel⟩; obtain ⟨hcc, hff⟩ := bcell hbel; have hsz := hbel.size; (try simp at hsz); have hF : (w2.cell? ⟨w.heap.size, 0, none⟩ = some (.int .u64 0) ∧ w2.cell? ⟨w.heap.size, 1, none⟩ = some (.int .u64 0) ∧ w2.cell? ⟨w.heap.size, 2, none⟩ = some (.int .u64 0) ∧ w2.cell? ⟨w.heap.size, 3, none⟩ = some (.int .u64 0) ∧ w2.frozen? ⟨w.heap.size, 0, none⟩ = false ∧ w2.frozen? ⟨w.heap.size, 1, none⟩ = false ∧ w2.frozen? ⟨w.heap.size, 2, none⟩ = false ∧ w2.frozen? ⟨w.heap.size, 3, none⟩ = false ∧ w.heap.size < w2.heap.size) ∧ (w2.cell? ⟨wA.heap.size, 0, none⟩ = some (.int .u64 (d0 a)) ∧ w2.cell? ⟨wA.heap.size, 1, none⟩ = some (.int .u64 (d1 a)) ∧ w2.cell? ⟨wA.heap.size, 2, none⟩ = some (.int .u64 (d2 a)) ∧ w2.cell? ⟨wA.heap.size, 3, none⟩ = some (.int .u64 (d3 a)) ∧ wA.heap.size < w2.heap.size) ∧ (w2.cell? ⟨wB.heap.size, 0, none⟩ = some (.int .u64 (d0 b)) ∧ w2.cell? ⟨wB.heap.size, 1, none⟩ = some (.int .u64 (d1 b)) ∧ w2.cell? ⟨wB.heap.size, 2, none⟩ = some (.int .u64 (d2 b)) ∧ w2.cell? ⟨wB.heap.size, 3, none⟩ = some (.int .u64 (d3 b)) ∧ wB.heap.size < w2.heap.size) ∧ (w2.cell? ⟨wB.heap.size + 1, 0, none⟩ = some (.int .u64 (d0 (mpart a b 0))) ∧ w2.cell? ⟨wB.heap.size + 1, 1, none⟩ = some (.int .u64 (d1 (mpart a b 0))) ∧ w2.cell? ⟨wB.heap.size + 1, 2, none⟩ = some (.int .u64 (d2 (mpart a b 0))) ∧ w2.cell? ⟨wB.heap.size + 1, 3, none⟩ = some (.int .u64 (d3 (mpart a b 0))) ∧ w2.frozen? ⟨wB.heap.size + 1, 0, none⟩ = false ∧ w2.frozen? ⟨wB.heap.size + 1, 1, none⟩ = false ∧ w2.frozen? ⟨wB.heap.size + 1, 2, none⟩ = false ∧ w2.frozen? ⟨wB.heap.size + 1, 3, none⟩ = false ∧ wB.heap.size + 1 < w2.heap.size) := (by ((repeat' apply And.intro) <;> first | (simp [go_sem, *]; done) | omega | (repeat' (first | with_reducible exact Below.refl _ _ | with_reducible assumption | ((with_reducible refine Below.drew ?_)) | ((with_reducible refine below_drewN ?_ _)) | ((with_reducible refine Below.alloc ?_ ?_ _); rotate_left; focus (first | omega | (simp; done) | (simp; omega))) | ((with_reducible refine Below.setCell ?_ ?_ _); rotate_left; focus (first | omega | (simp; done) | (simp; omega))) | ((with_reducible refine Below.trans ?_ (Below.mono (by with_reducible assumption) ?_)); rotate_left; focus (first | omega | (simp; done) | (simp; omega))))))); go_split_ands)
          go_roundw
          case rel =>
            refine ⟨1, by omega, by go_num, ?_⟩
            ((repeat' apply And.intro) <;> first | (simp [go_sem, *]; done) | omega | (repeat' (first | with_reducible exact Below.refl _ _ | with_reducible assumption | ((with_reducible refine Below.drew ?_)) | ((with_reducible refine below_drewN ?_ _)) | ((with_reducible refine Below.alloc ?_ ?_ _); rotate_left; focus (first | omega | (simp; done) | (simp; omega))) | ((with_reducible refine Below.setCell ?_ ?_ _); rotate_left; focus (first | omega | (simp; done) | (simp; omega))) | ((with_reducible refine Below.trans ?_ (Below.mono (by with_reducible assumption) ?_)); rotate_left; focus (first | omega | (simp; done) | (simp; omega))))))
          case measure => simp [intOf]
        · have g1 := mpart_in ha hb 1
          have g1' : Wd (mpart a b 1) := g1
          have e2 := half_mul (d0_in a) (d1_in b)
          obtain ⟨p, hp⟩ : ∃ p, p = d0 a * d1 b := ⟨_, rfl⟩
          rw [← hp] at e2
          have y0 : Dg (p % 4294967296) := by unfold Dg; omega
          have y1 : Dg (p / 4294967296) := by unfold Dg; omega
          have yz : Dg 0 := by unfold Dg; omega
          have ac : num4 (d0 (mpart a b 1)) (d1 (mpart a b 1)) (d2 (mpart a b 1)) (d3 (mpart a b 1)) + num4 0 (p % 4294967296) (p / 4294967296) 0 = mpart a b 2 := by
            rw [num4_wd g1']
            have e3 : mpart a b 2 = mpart a b 1 + p * 4294967296 := by
              rw [hp]
              have l1 := low_hi ha
              have l2 := low_hi hb
              simp only [mpart, l1.1, l2.1, d0]
              try omega
            rw [e3]; unfold num4; omega
          have Hac := Lib.hid ac; clear ac g1 g1'
          have Hp := Lib.hid hp; clear hp
          rw [show ((1 : Nat) : Int) = 1 from rfl]
          have ew : IntKind.u64.wrap (d0 a * d1 b) = p := by rw [← Hp.out, wrap_u64]; omega
          go_wp2_with fail
          obtain ⟨Cl, hCl⟩ : ∃ Cl : List Value → World → Prop, Cl = ((fun ps w' => (w'.cell? ⟨w.heap.size, 0, none⟩ = some (.int .u64 0) ∧ w'.cell? ⟨w.heap.size, 1, none⟩ = some (.int .u64 0) ∧ w'.cell? ⟨w.heap.size, 2, none⟩ = some (.int .u64 0) ∧ w'.cell? ⟨w.heap.size, 3, none⟩ = some (.int .u64 0) ∧ w'.frozen? ⟨w.heap.size, 0, none⟩ = false ∧ w'.frozen? ⟨w.heap.size, 1, none⟩ = false ∧ w'.frozen? ⟨w.heap.size, 2, none⟩ = false ∧ w'.frozen? ⟨w.heap.size, 3, none⟩ = false ∧ w.heap.size < w'.heap.size) ∧ (w'.cell? ⟨wA.heap.size, 0, none⟩ = some (.int .u64 (d0 a)) ∧ w'.cell? ⟨wA.heap.size, 1, none⟩ = some (.int .u64 (d1 a)) ∧ w'.cell? ⟨wA.heap.size, 2, none⟩ = some (.int .u64 (d2 a)) ∧ w'.cell? ⟨wA.heap.size, 3, none⟩ = some (.int .u64 (d3 a)) ∧ wA.heap.size < w'.heap.size) ∧ (w'.cell? ⟨wB.heap.size, 0, none⟩ = some (.int .u64 (d0 b)) ∧ w'.cell? ⟨wB.heap.size, 1, none⟩ = some (.int .u64 (d1 b)) ∧ w'.cell? ⟨wB.heap.size, 2, none⟩ = some (.int .u64 (d2 b)) ∧ w'.cell? ⟨wB.heap.size, 3, none⟩ = some (.int .u64 (d3 b)) ∧ wB.heap.size < w'.heap.size) ∧ (w'.cell? ⟨wB.heap.size + 1, 0, none⟩ = some (.int .u64 (d0 (mpart a b 1))) ∧ w'.cell? ⟨wB.heap.size + 1, 1, none⟩ = some (.int .u64 (d1 (mpart a b 1))) ∧ w'.cell? ⟨wB.heap.size + 1, 2, none⟩ = some (.int .u64 (d2 (mpart a b 1))) ∧ w'.cell? ⟨wB.heap.size + 1, 3, none⟩ = some (.int .u64 (d3 (mpart a b 1))) ∧ w'.frozen? ⟨wB.heap.size + 1, 0, none⟩ = false ∧ w'.frozen? ⟨wB.heap.size + 1, 1, none⟩ = false ∧ w'.frozen? ⟨wB.heap.size + 1, 2, none⟩ = false ∧ w'.frozen? ⟨wB.heap.size + 1, 3, none⟩ = false ∧ wB.heap.size + 1 < w'.heap.size) ∧ Below w.heap.size w w')) := ⟨_, rfl⟩; have HCl := Lib.hid hCl; clear hCl; refine wp_region_eff [] Cl (by kernel_rfl) (by kernel_rfl) (by rw [HCl.out]; (try simp only [List.nil_append, List.cons_append]); (try dsimp only); ((repeat' apply And.intro) <;> first | (simp [go_sem, *]; done) | omega | (repeat' (first | with_reducible exact Below.refl _ _ | with_reducible assumption | ((with_reducible refine Below.drew ?_)) | ((with_reducible refine below_drewN ?_ _)) | ((with_reducible refine Below.alloc ?_ ?_ _); rotate_left; focus (first | omega | (simp; done) | (simp; omega))) | ((with_reducible refine Below.setCell ?_ ?_ _); rotate_left; focus (first | omega | (simp; done) | (simp; omega))) | ((with_reducible refine Below.trans ?_ (Below.mono (by with_reducible assumption) ?_)); rotate_left; focus (first | omega | (simp; done) | (simp; omega))))))) ?_
          (repeat (first | (refine wE_skip (by rfl) ?_; simp only [Act.put, Nat.reduceAdd, List.setIfInBounds_toArray, List.set_cons_zero, List.set_cons_succ, List.nil_append, List.cons_append]) | (refine wE_open (by rfl) (by rfl) ?_; apply Exists.intro; refine ⟨fun vs wq hw => ?_, ?_⟩; (focus (rw [HCl.out] at hw; (try simp only [List.nil_append, List.cons_append] at hw); (try dsimp only at hw); go_split_ands; go_simp <;> first | with_reducible exact (rfl : Value.bool false = _) | with_reducible exact (rfl : Value.bool true = _) | ((try go_bits) <;> exact rfl))); simp only [Act.put, Nat.reduceAdd, List.setIfInBounds_toArray, List.set_cons_zero, List.set_cons_succ, List.nil_append, List.cons_append]) | (refine wE_seal (by rfl) (by rfl) (by kernel_rfl) ?_; apply Exists.intro; refine ⟨fun wq hw => ?_, ?_⟩; (focus (rw [HCl.out] at hw; (try simp only [List.nil_append, List.cons_append] at hw); (try dsimp only at hw); go_split_ands; go_simp <;> (try go_bits) <;> exact rfl)); simp only [Act.put, Nat.reduceAdd, List.setIfInBounds_toArray, List.set_cons_zero, List.set_cons_succ, List.nil_append, List.cons_append]) | (refine wE_seal (by rfl) (by rfl) (by kernel_rfl) ?_; apply Exists.intro; refine ⟨fun wq hw => ?_, ?_⟩; (focus (rw [HCl.out] at hw; (try simp only [List.nil_append, List.cons_append] at hw); (try dsimp only at hw); go_split_ands; go_simp; fail)); simp only [Act.put, Nat.reduceAdd, List.setIfInBounds_toArray, List.set_cons_zero, List.set_cons_succ, List.nil_append, List.cons_append]) | (refine wE_eff (by rfl) (by rfl) (fun wq hw => ?_) (fun u hu => ?_); (focus (rw [HCl.out] at hw; (try simp only [List.nil_append, List.cons_append] at hw); (try dsimp only at hw); go_split_ands; go_simp; rw [HCl.out]; (try simp only [List.nil_append, List.cons_append]); (try dsimp only); skip; ((repeat' apply And.intro) <;> first | (simp [go_sem, *]; done) | omega | (repeat' (first | with_reducible exact Below.refl _ _ | with_reducible assumption | ((with_reducible refine Below.drew ?_)) | ((with_reducible refine below_drewN ?_ _)) | ((with_reducible refine Below.alloc ?_ ?_ _); rotate_left; focus (first | omega | (simp; done) | (simp; omega))) | ((with_reducible refine Below.setCell ?_ ?_ _); rotate_left; focus (first | omega | (simp; done) | (simp; omega))) | ((with_reducible refine Below.trans ?_ (Below.mono (by with_reducible assumption) ?_)); rotate_left; focus (first | omega | (simp; done) | (simp; omega)))))))); clear hu; simp only [Act.put, Nat.reduceAdd, List.setIfInBounds_toArray, List.set_cons_zero, List.set_cons_succ, List.nil_append, List.cons_append])))
          refine wE_nil ?_; intro w' hw; rw [HCl.out] at hw; (try simp only [List.nil_append, List.cons_append] at hw); (try dsimp only at hw); clear HCl
          clear h1 h2 h3 h4 h5
          obtain ⟨h1, h2, h3, h4, h5⟩ := hw
          go_wp2_with (go_at_call 35; (refine (refplus_c _ _ _ _ _ _ _ _ (d0_in _) (d1_in _) (d2_in _) (d3_in _) yz y0 y1 yz _).mono ?_); rw [Hac.out]; rintro e w2 ⟨rfl, hbel⟩; obtain ⟨hcc, hff⟩ := bcell hbel; have hsz := hbel.size; (try simp at hsz); have hF : (w2.cell? ⟨w.heap.size, 0, none⟩ = some (.int .u64 0) ∧ w2.cell? ⟨w.heap.size, 1, none⟩ = some (.int .u64 0) ∧ w2.cell? ⟨w.heap.size, 2, none⟩ = some (.int .u64 0) ∧ w2.cell? ⟨w.heap.size, 3, none⟩ = some (.int .u64 0) ∧ w2.frozen? ⟨w.heap.size, 0, none⟩ = false ∧ w2.frozen? ⟨w.heap.size, 1, none⟩ = false ∧ w2.frozen? ⟨w.heap.size, 2, none⟩ = false ∧ w2.frozen? ⟨w.heap.size, 3, none⟩ = false ∧ w.heap.size < w2.heap.size) ∧ (w2.cell? ⟨wA.heap.size, 0, none⟩ = some (.int .u64 (d0 a)) ∧ w2.cell? ⟨wA.heap.size, 1, none⟩ = some (.int .u64 (d1 a)) ∧ w2.cell? ⟨wA.heap.size, 2, none⟩ = some (.int .u64 (d2 a)) ∧ w2.cell? ⟨wA.heap.size, 3, none⟩ = some (.int .u64 (d3 a)) ∧ wA.heap.size < w2.heap.size) ∧ (w2.cell? ⟨wB.heap.size, 0, none⟩ = some (.int .u64 (d0 b)) ∧ w2.cell? ⟨wB.heap.size, 1, none⟩ = some (.int .u64 (d1 b)) ∧ w2.cell? ⟨wB.heap.size, 2, none⟩ = some (.int .u64 (d2 b)) ∧ w2.cell? ⟨wB.heap.size, 3, none⟩ = some (.int .u64 (d3 b)) ∧ wB.heap.size < w2.heap.size) ∧ (w2.cell? ⟨wB.heap.size + 1, 0, none⟩ = some (.int .u64 (d0 (mpart a b 1))) ∧ w2.cell? ⟨wB.heap.size + 1, 1, none⟩ = some (.int .u64 (d1 (mpart a b 1))) ∧ w2.cell? ⟨wB.heap.size + 1, 2, none⟩ = some (.int .u64 (d2 (mpart a b 1))) ∧ w2.cell? ⟨wB.heap.size + 1, 3, none⟩ = some (.int .u64 (d3 (mpart a b 1))) ∧ w2.frozen? ⟨wB.heap.size + 1, 0, none⟩ = false ∧ w2.frozen? ⟨wB.heap.size + 1, 1, none⟩ = false ∧ w2.frozen? ⟨wB.heap.size + 1, 2, none⟩ = false ∧ w2.frozen? ⟨wB.heap.size + 1, 3, none⟩ = false ∧ wB.heap.size + 1 < w2.heap.size) := (by ((repeat' apply And.intro) <;> first | (simp [go_sem, *]; done) | omega | (repeat' (first | with_reducible exact Below.refl _ _ | with_reducible assumption | ((with_reducible refine Below.drew ?_)) | ((with_reducible refine below_drewN ?_ _)) | ((with_reducible refine Below.alloc ?_ ?_ _); rotate_left; focus (first | omega | (simp; done) | (simp; omega))) | ((with_reducible refine Below.setCell ?_ ?_ _); rotate_left; focus (first | omega | (simp; done) | (simp; omega))) | ((with_reducible refine Below.trans ?_ (Below.mono (by with_reducible assumption) ?_)); rotate_left; focus (first | omega | (simp; done) | (simp; omega))))))); go_split_ands)
          go_roundw
          case rel =>
            refine ⟨2, by omega, by go_num, ?_⟩
            ((repeat' apply And.intro) <;> first | (simp [go_sem, *]; done) | omega | (repeat' (first | with_reducible exact Below.refl _ _ | with_reducible assumption | ((with_reducible refine Below.drew ?_)) | ((with_reducible refine below_drewN ?_ _)) | ((with_reducible refine Below.alloc ?_ ?_ _); rotate_left; focus (first | omega | (simp; done) | (simp; omega))) | ((with_reducible refine Below.setCell ?_ ?_ _); rotate_left; focus (first | omega | (simp; done) | (simp; omega))) | ((with_reducible refine Below.trans ?_ (Below.mono (by with_reducible assumption) ?_)); rotate_left; focus (first | omega | (simp; done) | (simp; omega))))))
          case measure => simp [intOf]
        · go_wp2
          go_roundw
          case rel => exact ⟨1, by omega, by go_num, h1, h2, h3, h4, h5⟩
          case measure => simp [intOf]
    · (rw [show ((1 : Nat) : Int) = 1 from rfl])
      go_wp2_with fail
      go_loopw [20] (fun i wr => ∃ k : Nat, k ≤ 2 ∧ i = .int .i64 k ∧ (wr.cell? ⟨w.heap.size, 0, none⟩ = some (.int .u64 0) ∧ wr.cell? ⟨w.heap.size, 1, none⟩ = some (.int .u64 0) ∧ wr.cell? ⟨w.heap.size, 2, none⟩ = some (.int .u64 0) ∧ wr.cell? ⟨w.heap.size, 3, none⟩ = some (.int .u64 0) ∧ wr.frozen? ⟨w.heap.size, 0, none⟩ = false ∧ wr.frozen? ⟨w.heap.size, 1, none⟩ = false ∧ wr.frozen? ⟨w.heap.size, 2, none⟩ = false ∧ wr.frozen? ⟨w.heap.size, 3, none⟩ = false ∧ w.heap.size < wr.heap.size) ∧ (wr.cell? ⟨wA.heap.size, 0, none⟩ = some (.int .u64 (d0 a)) ∧ wr.cell? ⟨wA.heap.size, 1, none⟩ = some (.int .u64 (d1 a)) ∧ wr.cell? ⟨wA.heap.size, 2, none⟩ = some (.int .u64 (d2 a)) ∧ wr.cell? ⟨wA.heap.size, 3, none⟩ = some (.int .u64 (d3 a)) ∧ wA.heap.size < wr.heap.size) ∧ (wr.cell? ⟨wB.heap.size, 0, none⟩ = some (.int .u64 (d0 b)) ∧ wr.cell? ⟨wB.heap.size, 1, none⟩ = some (.int .u64 (d1 b)) ∧ wr.cell? ⟨wB.heap.size, 2, none⟩ = some (.int .u64 (d2 b)) ∧ wr.cell? ⟨wB.heap.size, 3, none⟩ = some (.int .u64 (d3 b)) ∧ wB.heap.size < wr.heap.size) ∧ (wr.cell? ⟨wB.heap.size + 1, 0, none⟩ = some (.int .u64 (d0 (mpart a b (2 + k)))) ∧ wr.cell? ⟨wB.heap.size + 1, 1, none⟩ = some (.int .u64 (d1 (mpart a b (2 + k)))) ∧ wr.cell? ⟨wB.heap.size + 1, 2, none⟩ = some (.int .u64 (d2 (mpart a b (2 + k)))) ∧ wr.cell? ⟨wB.heap.size + 1, 3, none⟩ = some (.int .u64 (d3 (mpart a b (2 + k)))) ∧ wr.frozen? ⟨wB.heap.size + 1, 0, none⟩ = false ∧ wr.frozen? ⟨wB.heap.size + 1, 1, none⟩ = false ∧ wr.frozen? ⟨wB.heap.size + 1, 2, none⟩ = false ∧ wr.frozen? ⟨wB.heap.size + 1, 3, none⟩ = false ∧ wB.heap.size + 1 < wr.heap.size) ∧ Below w.heap.size w wr) (fun i _ => 2 - (intOf i).toNat)
      case atStart => exact ⟨0, by omega, rfl, h1, h2, h3, h4, h5⟩
      case round =>
        clear h1 h2 h3 h4 h5
        obtain ⟨k, hk, rfl, h1, h2, h3, h4, h5⟩ := hrel
        obtain ⟨wo, rfl⟩ : ∃ wo : World, wo = wr := ⟨_, rfl⟩
        rcases (by omega : k = 0 ∨ k = 1 ∨ k = 2) with rfl | rfl | rfl
        · have g1 := mpart_in ha hb 2
          have g1' : Wd (mpart a b 2) := g1
          have e2 := half_mul (d1_in a) (d0_in b)
          obtain ⟨p, hp⟩ : ∃ p, p = d1 a * d0 b := ⟨_, rfl⟩
          rw [← hp] at e2
          have y0 : Dg (p % 4294967296) := by unfold Dg; omega
          have y1 : Dg (p / 4294967296) := by unfold Dg; omega
          have yz : Dg 0 := by unfold Dg; omega
          have ac : num4 (d0 (mpart a b 2)) (d1 (mpart a b 2)) (d2 (mpart a b 2)) (d3 (mpart a b 2)) + num4 0 (p % 4294967296) (p / 4294967296) 0 = mpart a b 3 := by
            rw [num4_wd g1']
            have e3 : mpart a b 3 = mpart a b 2 + p * 4294967296 := by
              rw [hp]
              have l1 := low_hi ha
              have l2 := low_hi hb
              simp only [mpart, l1.1, l2.1, d0]
              try omega
            rw [e3]; unfold num4; omega
          have Hac := Lib.hid ac; clear ac g1 g1'
          have Hp := Lib.hid hp; clear hp
          rw [show ((0 : Nat) : Int) = 0 from rfl]
          have ew : IntKind.u64.wrap (d1 a * d0 b) = p := by rw [← Hp.out, wrap_u64]; omega
          go_wp2_with fail
          obtain ⟨Cl, hCl⟩ : ∃ Cl : List Value → World → Prop, Cl = ((fun ps w' => (w'.cell? ⟨w.heap.size, 0, none⟩ = some (.int .u64 0) ∧ w'.cell? ⟨w.heap.size, 1, none⟩ = some (.int .u64 0) ∧ w'.cell? ⟨w.heap.size, 2, none⟩ = some (.int .u64 0) ∧ w'.cell? ⟨w.heap.size, 3, none⟩ = some (.int .u64 0) ∧ w'.frozen? ⟨w.heap.size, 0, none⟩ = false ∧ w'.frozen? ⟨w.heap.size, 1, none⟩ = false ∧ w'.frozen? ⟨w.heap.size, 2, none⟩ = false ∧ w'.frozen? ⟨w.heap.size, 3, none⟩ = false ∧ w.heap.size < w'.heap.size) ∧ (w'.cell? ⟨wA.heap.size, 0, none⟩ = some (.int .u64 (d0 a)) ∧ w'.cell? ⟨wA.heap.size, 1, none⟩ = some (.int .u64 (d1 a)) ∧ w'.cell? ⟨wA.heap.size, 2, none⟩ = some (.int .u64 (d2 a)) ∧ w'.cell? ⟨wA.heap.size, 3, none⟩ = some (.int .u64 (d3 a)) ∧ wA.heap.size < w'.heap.size) ∧ (w'.cell? ⟨wB.heap.size, 0, none⟩ = some (.int .u64 (d0 b)) ∧ w'.cell? ⟨wB.heap.size, 1, none⟩ = some (.int .u64 (d1 b)) ∧ w'.cell? ⟨wB.heap.size, 2, none⟩ = some (.int .u64 (d2 b)) ∧ w'.cell? ⟨wB.heap.size, 3, none⟩ = some (.int .u64 (d3 b)) ∧ wB.heap.size < w'.heap.size) ∧ (w'.cell? ⟨wB.heap.size + 1, 0, none⟩ = some (.int .u64 (d0 (mpart a b 2))) ∧ w'.cell? ⟨wB.heap.size + 1, 1, none⟩ = some (.int .u64 (d1 (mpart a b 2))) ∧ w'.cell? ⟨wB.heap.size + 1, 2, none⟩ = some (.int .u64 (d2 (mpart a b 2))) ∧ w'.cell? ⟨wB.heap.size + 1, 3, none⟩ = some (.int .u64 (d3 (mpart a b 2))) ∧ w'.frozen? ⟨wB.heap.size + 1, 0, none⟩ = false ∧ w'.frozen? ⟨wB.heap.size + 1, 1, none⟩ = false ∧ w'.frozen? ⟨wB.heap.size + 1, 2, none⟩ = false ∧ w'.frozen? ⟨wB.heap.size + 1, 3, none⟩ = false ∧ wB.heap.size + 1 < w'.heap.size) ∧ Below w.heap.size w w')) := ⟨_, rfl⟩; have HCl := Lib.hid hCl; clear hCl; refine wp_region_eff [] Cl (by kernel_rfl) (by kernel_rfl) (by rw [HCl.out]; (try simp only [List.nil_append, List.cons_append]); (try dsimp only); ((repeat' apply And.intro) <;> first | (simp [go_sem, *]; done) | omega | (repeat' (first | with_reducible exact Below.refl _ _ | with_reducible assumption | ((with_reducible refine Below.drew ?_)) | ((with_reducible refine below_drewN ?_ _)) | ((with_reducible refine Below.alloc ?_ ?_ _); rotate_left; focus (first | omega | (simp; done) | (simp; omega))) | ((with_reducible refine Below.setCell ?_ ?_ _); rotate_left; focus (first | omega | (simp; done) | (simp; omega))) | ((with_reducible refine Below.trans ?_ (Below.mono (by with_reducible assumption) ?_)); rotate_left; focus (first | omega | (simp; done) | (simp; omega))))))) ?_
          (repeat (first | (refine wE_skip (by rfl) ?_; simp only [Act.put, Nat.reduceAdd, List.setIfInBounds_toArray, List.set_cons_zero, List.set_cons_succ, List.nil_append, List.cons_append]) | (refine wE_open (by rfl) (by rfl) ?_; apply Exists.intro; refine ⟨fun vs wq hw => ?_, ?_⟩; (focus (rw [HCl.out] at hw; (try simp only [List.nil_append, List.cons_append] at hw); (try dsimp only at hw); go_split_ands; go_simp <;> first | with_reducible exact (rfl : Value.bool false = _) | with_reducible exact (rfl : Value.bool true = _) | ((try go_bits) <;> exact rfl))); simp only [Act.put, Nat.reduceAdd, List.setIfInBounds_toArray, List.set_cons_zero, List.set_cons_succ, List.nil_append, List.cons_append]) | (refine wE_seal (by rfl) (by rfl) (by kernel_rfl) ?_; apply Exists.intro; refine ⟨fun wq hw => ?_, ?_⟩; (focus (rw [HCl.out] at hw; (try simp only [List.nil_append, List.cons_append] at hw); (try dsimp only at hw); go_split_ands; go_simp <;> (try go_bits) <;> exact rfl)); simp only [Act.put, Nat.reduceAdd, List.setIfInBounds_toArray, List.set_cons_zero, List.set_cons_succ, List.nil_append, List.cons_append]) | (refine wE_seal (by rfl) (by rfl) (by kernel_rfl) ?_; apply Exists.intro; refine ⟨fun wq hw => ?_, ?_⟩; (focus (rw [HCl.out] at hw; (try simp only [List.nil_append, List.cons_append] at hw); (try dsimp only at hw); go_split_ands; go_simp; fail)); simp only [Act.put, Nat.reduceAdd, List.setIfInBounds_toArray, List.set_cons_zero, List.set_cons_succ, List.nil_append, List.cons_append]) | (refine wE_eff (by rfl) (by rfl) (fun wq hw => ?_) (fun u hu => ?_); (focus (rw [HCl.out] at hw; (try simp only [List.nil_append, List.cons_append] at hw); (try dsimp only at hw); go_split_ands; go_simp; rw [HCl.out]; (try simp only [List.nil_append, List.cons_append]); (try dsimp only); skip; ((repeat' apply And.intro) <;> first | (simp [go_sem, *]; done) | omega | (repeat' (first | with_reducible exact Below.refl _ _ | with_reducible assumption | ((with_reducible refine Below.drew ?_)) | ((with_reducible refine below_drewN ?_ _)) | ((with_reducible refine Below.alloc ?_ ?_ _); rotate_left; focus (first | omega | (simp; done) | (simp; omega))) | ((with_reducible refine Below.setCell ?_ ?_ _); rotate_left; focus (first | omega | (simp; done) | (simp; omega))) | ((with_reducible refine Below.trans ?_ (Below.mono (by with_reducible assumption) ?_)); rotate_left; focus (first | omega | (simp; done) | (simp; omega)))))))); clear hu; simp only [Act.put, Nat.reduceAdd, List.setIfInBounds_toArray, List.set_cons_zero, List.set_cons_succ, List.nil_append, List.cons_append])))
          refine wE_nil ?_; intro w' hw; rw [HCl.out] at hw; (try simp only [List.nil_append, List.cons_append] at hw); (try dsimp only at hw); clear HCl
          clear h1 h2 h3 h4 h5
          obtain ⟨h1, h2, h3, h4, h5⟩ := hw
          go_wp2_with (go_at_call 35; (refine (refplus_c _ _ _ _ _ _ _ _ (d0_in _) (d1_in _) (d2_in _) (d3_in _) yz y0 y1 yz _).mono ?_); rw [Hac.out]; rintro e w2 ⟨rfl, hbel⟩; obtain ⟨hcc, hff⟩ := bcell hbel; have hsz := hbel.size; (try simp at hsz); have hF : (w2.cell? ⟨w.heap.size, 0, none⟩ = some (.int .u64 0) ∧ w2.cell? ⟨w.heap.size, 1, none⟩ = some (.int .u64 0) ∧ w2.cell? ⟨w.heap.size, 2, none⟩ = some (.int .u64 0) ∧ w2.cell? ⟨w.heap.size, 3, none⟩ = some (.int .u64 0) ∧ w2.frozen? ⟨w.heap.size, 0, none⟩ = false ∧ w2.frozen? ⟨w.heap.size, 1, none⟩ = false ∧ w2.frozen? ⟨w.heap.size, 2, none⟩ = false ∧ w2.frozen? ⟨w.heap.size, 3, none⟩ = false ∧ w.heap.size < w2.heap.size) ∧ (w2.cell? ⟨wA.heap.size, 0, none⟩ = some (.int .u64 (d0 a)) ∧ w2.cell? ⟨wA.heap.size, 1, none⟩ = some (.int .u64 (d1 a)) ∧ w2.cell? ⟨wA.heap.size, 2, none⟩ = some (.int .u64 (d2 a)) ∧ w2.cell? ⟨wA.heap.size, 3, none⟩ = some (.int .u64 (d3 a)) ∧ wA.heap.size < w2.heap.size) ∧ (w2.cell? ⟨wB.heap.size, 0, none⟩ = some (.int .u64 (d0 b)) ∧ w2.cell? ⟨wB.heap.size, 1, none⟩ = some (.int .u64 (d1 b)) ∧ w2.cell? ⟨wB.heap.size, 2, none⟩ = some (.int .u64 (d2 b)) ∧ w2.cell? ⟨wB.heap.size, 3, none⟩ = some (.int .u64 (d3 b)) ∧ wB.heap.size < w2.heap.size) ∧ (w2.cell? ⟨wB.heap.size + 1, 0, none⟩ = some (.int .u64 (d0 (mpart a b 2))) ∧ w2.cell? ⟨wB.heap.size + 1, 1, none⟩ = some (.int .u64 (d1 (mpart a b 2))) ∧ w2.cell? ⟨wB.heap.size + 1, 2, none⟩ = some (.int .u64 (d2 (mpart a b 2))) ∧ w2.cell? ⟨wB.heap.size + 1, 3, none⟩ = some (.int .u64 (d3 (mpart a b 2))) ∧ w2.frozen? ⟨wB.heap.size + 1, 0, none⟩ = false ∧ w2.frozen? ⟨wB.heap.size + 1, 1, none⟩ = false ∧ w2.frozen? ⟨wB.heap.size + 1, 2, none⟩ = false ∧ w2.frozen? ⟨wB.heap.size + 1, 3, none⟩ = false ∧ wB.heap.size + 1 < w2.heap.size) := (by ((repeat' apply And.intro) <;> first | (simp [go_sem, *]; done) | omega | (repeat' (first | with_reducible exact Below.refl _ _ | with_reducible assumption | ((with_reducible refine Below.drew ?_)) | ((with_reducible refine below_drewN ?_ _)) | ((with_reducible refine Below.alloc ?_ ?_ _); rotate_left; focus (first | omega | (simp; done) | (simp; omega))) | ((with_reducible refine Below.setCell ?_ ?_ _); rotate_left; focus (first | omega | (simp; done) | (simp; omega))) | ((with_reducible refine Below.trans ?_ (Below.mono (by with_reducible assumption) ?_)); rotate_left; focus (first | omega | (simp; done) | (simp; omega))))))); go_split_ands)
          go_roundw
          case rel =>
            refine ⟨1, by omega, by go_num, ?_⟩
            ((repeat' apply And.intro) <;> first | (simp [go_sem, *]; done) | omega | (repeat' (first | with_reducible exact Below.refl _ _ | with_reducible assumption | ((with_reducible refine Below.drew ?_)) | ((with_reducible refine below_drewN ?_ _)) | ((with_reducible refine Below.alloc ?_ ?_ _); rotate_left; focus (first | omega | (simp; done) | (simp; omega))) | ((with_reducible refine Below.setCell ?_ ?_ _); rotate_left; focus (first | omega | (simp; done) | (simp; omega))) | ((with_reducible refine Below.trans ?_ (Below.mono (by with_reducible assumption) ?_)); rotate_left; focus (first | omega | (simp; done) | (simp; omega))))))
          case measure => simp [intOf]
        · have g1 := mpart_in ha hb 3
          have g1' : Wd (mpart a b 3) := g1
          have e2 := half_mul (d1_in a) (d1_in b)
          obtain ⟨p, hp⟩ : ∃ p, p = d1 a * d1 b := ⟨_, rfl⟩
          rw [← hp] at e2
          have y0 : Dg (p % 4294967296) := by unfold Dg; omega
          have y1 : Dg (p / 4294967296) := by unfold Dg; omega
          have yz : Dg 0 := by unfold Dg; omega
          have ac : num4 (d0 (mpart a b 3)) (d1 (mpart a b 3)) (d2 (mpart a b 3)) (d3 (mpart a b 3)) + num4 0 0 (p % 4294967296) (p / 4294967296) = mpart a b 4 := by
            rw [num4_wd g1']
            have e3 : mpart a b 4 = mpart a b 3 + p * 18446744073709551616 := by
              rw [hp]
              have l1 := low_hi ha
              have l2 := low_hi hb
              simp only [mpart, l1.1, l2.1, d0]
              try omega
            rw [e3]; unfold num4; omega
          have Hac := Lib.hid ac; clear ac g1 g1'
          have Hp := Lib.hid hp; clear hp
          rw [show ((1 : Nat) : Int) = 1 from rfl]
          have ew : IntKind.u64.wrap (d1 a * d1 b) = p := by rw [← Hp.out, wrap_u64]; omega
          go_wp2_with fail
          obtain ⟨Cl, hCl⟩ : ∃ Cl : List Value → World → Prop, Cl = ((fun ps w' => (w'.cell? ⟨w.heap.size, 0, none⟩ = some (.int .u64 0) ∧ w'.cell? ⟨w.heap.size, 1, none⟩ = some (.int .u64 0) ∧ w'.cell? ⟨w.heap.size, 2, none⟩ = some (.int .u64 0) ∧ w'.cell? ⟨w.heap.size, 3, none⟩ = some (.int .u64 0) ∧ w'.frozen? ⟨w.heap.size, 0, none⟩ = false ∧ w'.frozen? ⟨w.heap.size, 1, none⟩ = false ∧ w'.frozen? ⟨w.heap.size, 2, none⟩ = false ∧ w'.frozen? ⟨w.heap.size, 3, none⟩ = false ∧ w.heap.size < w'.heap.size) ∧ (w'.cell? ⟨wA.heap.size, 0, none⟩ = some (.int .u64 (d0 a)) ∧ w'.cell? ⟨wA.heap.size, 1, none⟩ = some (.int .u64 (d1 a)) ∧ w'.cell? ⟨wA.heap.size, 2, none⟩ = some (.int .u64 (d2 a)) ∧ w'.cell? ⟨wA.heap.size, 3, none⟩ = some (.int .u64 (d3 a)) ∧ wA.heap.size < w'.heap.size) ∧ (w'.cell? ⟨wB.heap.size, 0, none⟩ = some (.int .u64 (d0 b)) ∧ w'.cell? ⟨wB.heap.size, 1, none⟩ = some (.int .u64 (d1 b)) ∧ w'.cell? ⟨wB.heap.size, 2, none⟩ = some (.int .u64 (d2 b)) ∧ w'.cell? ⟨wB.heap.size, 3, none⟩ = some (.int .u64 (d3 b)) ∧ wB.heap.size < w'.heap.size) ∧ (w'.cell? ⟨wB.heap.size + 1, 0, none⟩ = some (.int .u64 (d0 (mpart a b 3))) ∧ w'.cell? ⟨wB.heap.size + 1, 1, none⟩ = some (.int .u64 (d1 (mpart a b 3))) ∧ w'.cell? ⟨wB.heap.size + 1, 2, none⟩ = some (.int .u64 (d2 (mpart a b 3))) ∧ w'.cell? ⟨wB.heap.size + 1, 3, none⟩ = some (.int .u64 (d3 (mpart a b 3))) ∧ w'.frozen? ⟨wB.heap.size + 1, 0, none⟩ = false ∧ w'.frozen? ⟨wB.heap.size + 1, 1, none⟩ = false ∧ w'.frozen? ⟨wB.heap.size + 1, 2, none⟩ = false ∧ w'.frozen? ⟨wB.heap.size + 1, 3, none⟩ = false ∧ wB.heap.size + 1 < w'.heap.size) ∧ Below w.heap.size w w')) := ⟨_, rfl⟩; have HCl := Lib.hid hCl; clear hCl; refine wp_region_eff [] Cl (by kernel_rfl) (by kernel_rfl) (by rw [HCl.out]; (try simp only [List.nil_append, List.cons_append]); (try dsimp only); ((repeat' apply And.intro) <;> first | (simp [go_sem, *]; done) | omega | (repeat' (first | with_reducible exact Below.refl _ _ | with_reducible assumption | ((with_reducible refine Below.drew ?_)) | ((with_reducible refine below_drewN ?_ _)) | ((with_reducible refine Below.alloc ?_ ?_ _); rotate_left; focus (first | omega | (simp; done) | (simp; omega))) | ((with_reducible refine Below.setCell ?_ ?_ _); rotate_left; focus (first | omega | (simp; done) | (simp; omega))) | ((with_reducible refine Below.trans ?_ (Below.mono (by with_reducible assumption) ?_)); rotate_left; focus (first | omega | (simp; done) | (simp; omega))))))) ?_
          (repeat (first | (refine wE_skip (by rfl) ?_; simp only [Act.put, Nat.reduceAdd, List.setIfInBounds_toArray, List.set_cons_zero, List.set_cons_succ, List.nil_append, List.cons_append]) | (refine wE_open (by rfl) (by rfl) ?_; apply Exists.intro; refine ⟨fun vs wq hw => ?_, ?_⟩; (focus (rw [HCl.out] at hw; (try simp only [List.nil_append, List.cons_append] at hw); (try dsimp only at hw); go_split_ands; go_simp <;> first | with_reducible exact (rfl : Value.bool false = _) | with_reducible exact (rfl : Value.bool true = _) | ((try go_bits) <;> exact rfl))); simp only [Act.put, Nat.reduceAdd, List.setIfInBounds_toArray, List.set_cons_zero, List.set_cons_succ, List.nil_append, List.cons_append]) | (refine wE_seal (by rfl) (by rfl) (by kernel_rfl) ?_; apply Exists.intro; refine ⟨fun wq hw => ?_, ?_⟩; (focus (rw [HCl.out] at hw; (try simp only [List.nil_append, List.cons_append] at hw); (try dsimp only at hw); go_split_ands; go_simp <;> (try go_bits) <;> exact rfl)); simp only [Act.put, Nat.reduceAdd, List.setIfInBounds_toArray, List.set_cons_zero, List.set_cons_succ, List.nil_append, List.cons_append]) | (refine wE_seal (by rfl) (by rfl) (by kernel_rfl) ?_; apply Exists.intro; refine ⟨fun wq hw => ?_, ?_⟩; (focus (rw [HCl.out] at hw; (try simp only [List.nil_append, List.cons_append] at hw); (try dsimp only at hw); go_split_ands; go_simp; fail)); simp only [Act.put, Nat.reduceAdd, List.setIfInBounds_toArray, List.set_cons_zero, List.set_cons_succ, List.nil_append, List.cons_append]) | (refine wE_eff (by rfl) (by rfl) (fun wq hw => ?_) (fun u hu => ?_); (focus (rw [HCl.out] at hw; (try simp only [List.nil_append, List.cons_append] at hw); (try dsimp only at hw); go_split_ands; go_simp; rw [HCl.out]; (try simp only [List.nil_append, List.cons_append]); (try dsimp only); skip; ((repeat' apply And.intro) <;> first | (simp [go_sem, *]; done) | omega | (repeat' (first | with_reducible exact Below.refl _ _ | with_reducible assumption | ((with_reducible refine Below.drew ?_)) | ((with_reducible refine below_drewN ?_ _)) | ((with_reducible refine Below.alloc ?_ ?_ _); rotate_left; focus (first | omega | (simp; done) | (simp; omega))) | ((with_reducible refine Below.setCell ?_ ?_ _); rotate_left; focus (first | omega | (simp; done) | (simp; omega))) | ((with_reducible refine Below.trans ?_ (Below.mono (by with_reducible assumption) ?_)); rotate_left; focus (first | omega | (simp; done) | (simp; omega)))))))); clear hu; simp only [Act.put, Nat.reduceAdd, List.setIfInBounds_toArray, List.set_cons_zero, List.set_cons_succ, List.nil_append, List.cons_append])))
          refine wE_nil ?_; intro w' hw; rw [HCl.out] at hw; (try simp only [List.nil_append, List.cons_append] at hw); (try dsimp only at hw); clear HCl
          clear h1 h2 h3 h4 h5
          obtain ⟨h1, h2, h3, h4, h5⟩ := hw
          go_wp2_with (go_at_call 35; (refine (refplus_c _ _ _ _ _ _ _ _ (d0_in _) (d1_in _) (d2_in _) (d3_in _) yz yz y0 y1 _).mono ?_); rw [Hac.out]; rintro e w2 ⟨rfl, hbel⟩; obtain ⟨hcc, hff⟩ := bcell hbel; have hsz := hbel.size; (try simp at hsz); have hF : (w2.cell? ⟨w.heap.size, 0, none⟩ = some (.int .u64 0) ∧ w2.cell? ⟨w.heap.size, 1, none⟩ = some (.int .u64 0) ∧ w2.cell? ⟨w.heap.size, 2, none⟩ = some (.int .u64 0) ∧ w2.cell? ⟨w.heap.size, 3, none⟩ = some (.int .u64 0) ∧ w2.frozen? ⟨w.heap.size, 0, none⟩ = false ∧ w2.frozen? ⟨w.heap.size, 1, none⟩ = false ∧ w2.frozen? ⟨w.heap.size, 2, none⟩ = false ∧ w2.frozen? ⟨w.heap.size, 3, none⟩ = false ∧ w.heap.size < w2.heap.size) ∧ (w2.cell? ⟨wA.heap.size, 0, none⟩ = some (.int .u64 (d0 a)) ∧ w2.cell? ⟨wA.heap.size, 1, none⟩ = some (.int .u64 (d1 a)) ∧ w2.cell? ⟨wA.heap.size, 2, none⟩ = some (.int .u64 (d2 a)) ∧ w2.cell? ⟨wA.heap.size, 3, none⟩ = some (.int .u64 (d3 a)) ∧ wA.heap.size < w2.heap.size) ∧ (w2.cell? ⟨wB.heap.size, 0, none⟩ = some (.int .u64 (d0 b)) ∧ w2.cell? ⟨wB.heap.size, 1, none⟩ = some (.int .u64 (d1 b)) ∧ w2.cell? ⟨wB.heap.size, 2, none⟩ = some (.int .u64 (d2 b)) ∧ w2.cell? ⟨wB.heap.size, 3, none⟩ = some (.int .u64 (d3 b)) ∧ wB.heap.size < w2.heap.size) ∧ (w2.cell? ⟨wB.heap.size + 1, 0, none⟩ = some (.int .u64 (d0 (mpart a b 3))) ∧ w2.cell? ⟨wB.heap.size + 1, 1, none⟩ = some (.int .u64 (d1 (mpart a b 3))) ∧ w2.cell? ⟨wB.heap.size + 1, 2, none⟩ = some (.int .u64 (d2 (mpart a b 3))) ∧ w2.cell? ⟨wB.heap.size + 1, 3, none⟩ = some (.int .u64 (d3 (mpart a b 3))) ∧ w2.frozen? ⟨wB.heap.size + 1, 0, none⟩ = false ∧ w2.frozen? ⟨wB.heap.size + 1, 1, none⟩ = false ∧ w2.frozen? ⟨wB.heap.size + 1, 2, none⟩ = false ∧ w2.frozen? ⟨wB.heap.size + 1, 3, none⟩ = false ∧ wB.heap.size + 1 < w2.heap.size) := (by ((repeat' apply And.intro) <;> first | (simp [go_sem, *]; done) | omega | (repeat' (first | with_reducible exact Below.refl _ _ | with_reducible assumption | ((with_reducible refine Below.drew ?_)) | ((with_reducible refine below_drewN ?_ _)) | ((with_reducible refine Below.alloc ?_ ?_ _); rotate_left; focus (first | omega | (simp; done) | (simp; omega))) | ((with_reducible refine Below.setCell ?_ ?_ _); rotate_left; focus (first | omega | (simp; done) | (simp; omega))) | ((with_reducible refine Below.trans ?_ (Below.mono (by with_reducible assumption) ?_)); rotate_left; focus (first | omega | (simp; done) | (simp; omega))))))); go_split_ands)
          go_roundw
          case rel =>
            refine ⟨2, by omega, by go_num, ?_⟩
            ((repeat' apply And.intro) <;> first | (simp [go_sem, *]; done) | omega | (repeat' (first | with_reducible exact Below.refl _ _ | with_reducible assumption | ((with_reducible refine Below.drew ?_)) | ((with_reducible refine below_drewN ?_ _)) | ((with_reducible refine Below.alloc ?_ ?_ _); rotate_left; focus (first | omega | (simp; done) | (simp; omega))) | ((with_reducible refine Below.setCell ?_ ?_ _); rotate_left; focus (first | omega | (simp; done) | (simp; omega))) | ((with_reducible refine Below.trans ?_ (Below.mono (by with_reducible assumption) ?_)); rotate_left; focus (first | omega | (simp; done) | (simp; omega))))))
          case measure => simp [intOf]
        · go_wp2
          go_roundw
          case rel => exact ⟨2, by omega, by go_num, h1, h2, h3, h4, h5⟩
          case measure => simp [intOf]
    · go_wp2
      rw [show 2 * 2 = 4 from rfl, mpart_last] at *
      refine bodyPost_ret (v := .agg #[.int .u64 (d0 (a * b)), .int .u64 (d1 (a * b)), .int .u64 (d2 (a * b)), .int .u64 (d3 (a * b))]) (by simp [results, Try.results57, go_sem, *]) rfl ⟨rfl, (by repeat' (first | with_reducible exact Below.refl _ _ | with_reducible assumption | ((with_reducible refine Below.drew ?_)) | ((with_reducible refine below_drewN ?_ _)) | ((with_reducible refine Below.alloc ?_ ?_ _); rotate_left; focus (first | omega | (simp; done) | (simp; omega))) | ((with_reducible refine Below.setCell ?_ ?_ _); rotate_left; focus (first | omega | (simp; done) | (simp; omega))) | ((with_reducible refine Below.trans ?_ (Below.mono (by with_reducible assumption) ?_)); rotate_left; focus (first | omega | (simp; done) | (simp; omega)))))⟩
end Go.Proofs.Ytpabidiggehmnaa
