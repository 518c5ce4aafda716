import Derived.Test.YtlenmhbhakeonaaBaseA
import Derived.Test.YtlenmhbhakeonaaMathA
/- Arrays of numbers, held against one another. -/
namespace Go.Proofs.Ytlenmhbhakeonaa
set_option linter.unusedVariables false
set_option linter.unusedSimpArgs false
set_option maxRecDepth 100000
open Go.RowKit Fg Reg

theorem run_equalIn_arr {P : Program} (d : Nat) (t e : TypeId) (n : Nat) (k : IntKind) (ht : P.underlying t = some (.array n e)) (he : P.underlying e = some (.int k)) (hz : ∀ w, (sizeOf e).run P w = .ok 1 w) (hp : ∀ (cs : Array Value) (i : Nat) (v : Value) w, cs[i]? = some v → (part e cs i).run P w = .ok v w)
    (xs ys : List Int) (hx : xs.length = n) (hy : ys.length = n) (w : World) :
    (Op.equalIn (d + 2) t (.agg (xs.map (Value.int k)).toArray) (.agg (ys.map (Value.int k)).toArray)).run P w = .ok (xs == ys) w := by
  rw [Op.equalIn]
  simp only [Sem.run_bind, run_underlying ht, Result.andThen_ok, hz]
  have key : ∀ (m s : Nat), s + m = n → ∀ w : World, Sem.run P (forIn (List.range' s m) ((none : Option Bool), ()) fun i __s => do
            let __do_lift ← part e (List.map (Value.int k) xs).toArray (i * 1)
            let __do_lift_1 ← part e (List.map (Value.int k) ys).toArray (i * 1)
            let __do_lift ← Op.equalIn (d + 1) e __do_lift __do_lift_1
            if (!__do_lift) = true then pure (ForInStep.done (some false, ())) else pure (ForInStep.yield (none, ()))) w = .ok (if xs.drop s == ys.drop s then (none, ()) else (some false, ())) w := by
    intro m
    induction m with
    | zero =>
      intro s hs w
      rw [List.drop_eq_nil_of_le (by omega), List.drop_eq_nil_of_le (by omega)]
      simp [List.range']
    | succ m ih =>
      intro s hs w
      have h1 : s < xs.length := by omega
      have h2 : s < ys.length := by omega
      rw [List.range'_succ, List.forIn_cons]
      simp only [Sem.run_bind, Nat.mul_one]
      rw [hp _ s (.int k xs[s]) w (by simp [h1]), Result.andThen_ok, hp _ s (.int k ys[s]) w (by simp [h2]), Result.andThen_ok, run_equalIn_int w d e k k _ _ he, Result.andThen_ok]
      rw [List.drop_eq_getElem_cons h1, List.drop_eq_getElem_cons h2, List.cons_beq_cons]
      cases hb : (xs[s] == ys[s]) with
      | false => simp
      | true =>
        have := ih (s + 1) (by omega) w
        simp only [Nat.mul_one] at this
        simpa using this
  have h := key n 0 (by omega) w
  simp only [Std.Legacy.Range.forIn_eq_forIn_range', Std.Legacy.Range.size, Nat.sub_zero, Nat.add_one_sub_one, Nat.div_one]
  rw [h, Result.andThen_ok, List.drop_zero, List.drop_zero]
  cases hb : (xs == ys) <;> simp

theorem run_equalIn_arr4 {P : Program} (d : Nat) (t e : TypeId) (k : IntKind) (ht : P.underlying t = some (.array 4 e)) (he : P.underlying e = some (.int k)) (hz : ∀ w, (sizeOf e).run P w = .ok 1 w) (hp : ∀ (cs : Array Value) (i : Nat) (v : Value) w, cs[i]? = some v → (part e cs i).run P w = .ok v w)
    (a b c f a' b' c' f' : Int) (w : World) :
    (Op.equalIn (d + 2) t (.agg #[.int k a, .int k b, .int k c, .int k f]) (.agg #[.int k a', .int k b', .int k c', .int k f'])).run P w = .ok ([a, b, c, f] == [a', b', c', f']) w :=
  run_equalIn_arr d t e 4 k ht he hz hp [a, b, c, f] [a', b', c', f'] rfl rfl w

end Go.Proofs.Ytlenmhbhakeonaa

namespace Go.Proofs.Ytlenmhbhakeonaa
set_option linter.unusedVariables false
set_option linter.unusedSimpArgs false
set_option maxRecDepth 100000
open Go.RowKit Fg Reg

end Go.Proofs.Ytlenmhbhakeonaa

namespace Go.Proofs.Ytlenmhbhakeonaa
set_option linter.unusedVariables false
set_option linter.unusedSimpArgs false
set_option maxRecDepth 100000
open Go.RowKit Fg Reg

end Go.Proofs.Ytlenmhbhakeonaa

namespace Go.Proofs.Ytlenmhbhakeonaa
set_option linter.unusedVariables false
set_option linter.unusedSimpArgs false
set_option maxRecDepth 100000
open Go.RowKit Fg Reg

end Go.Proofs.Ytlenmhbhakeonaa

namespace Go.Proofs.Ytlenmhbhakeonaa
set_option linter.unusedVariables false
set_option linter.unusedSimpArgs false
set_option maxRecDepth 100000
open Go.RowKit Fg Reg

end Go.Proofs.Ytlenmhbhakeonaa

namespace Go.Proofs.Ytlenmhbhakeonaa
set_option linter.unusedVariables false
set_option linter.unusedSimpArgs false
set_option maxRecDepth 100000
open Go.RowKit Fg Reg

end Go.Proofs.Ytlenmhbhakeonaa

namespace Go.Proofs.Ytlenmhbhakeonaa
set_option linter.unusedVariables false
set_option linter.unusedSimpArgs false
set_option maxRecDepth 100000
open Go.RowKit Fg Reg

theorem low_hi {a : Int} (ha : In a) : d1 a = a / 4294967296 ∧ d2 a = 0 ∧ d3 a = 0 := by unfold In at ha; unfold d1 d2 d3; omega
end Go.Proofs.Ytlenmhbhakeonaa
