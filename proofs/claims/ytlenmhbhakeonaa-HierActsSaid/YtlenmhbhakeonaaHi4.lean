/- What a class may have below it. -/
import Derived.Test.YtlenmhbhakeonaaHi3
namespace Go.Proofs.Ytlenmhbhakeonaa
set_option linter.unusedVariables false
set_option linter.unusedSimpArgs false
set_option maxRecDepth 100000
open Go.RowKit Fg Reg Go.Maps
attribute [local irreducible] Reg.wE

def hol (f : Int → Option Cls) (i : Int) : Bool := (i == 0) || (match f i with | some c => !c.leaf | none => false)
theorem holds_c {w : World} {tb mb : Nat} {f : Int → Option Cls} (h : HT w tb mb f) {i : Int} (hi : iok i) : Calls Try.prog 72 #[.pointer (some ⟨tb, 0, none⟩), .int .i64 i] w fun ee w' => ee = .returned (.bool (hol f i)) ∧ Below w.heap.size w w' := by
  have c0 := h.c0
  have lt := h.lt
  have hl0 := h.look hi true
  unfold hol
  cases hz : (i == 0) with
  | true =>
    rw [Bool.true_or]
    cases hc : f i with
    | none =>
      rw [hc] at hl0
      have hl : (Instr.lookup 108 (.map (some mb)) (.int .i64 i) true).run Try.prog w = .ok (.tuple #[.agg #[.int .i64 0, .int .i64 0, .bool false, .int .u64 0, .int .u64 0, .int .u64 0, .int .u64 0, .int .u64 0, .int .u64 0, .int .u64 0, .int .u64 0, .int .u64 0, .int .i64 0, .int .i64 0], .bool false]) w := hl0
      (clear hl0 h hc; go_enter Try.func72, Try.ntmps72; go_wp2_with (first | go_guarded); refine bodyPost_ret (v := (.bool true)) (by simp [results, Try.results72, go_sem, *]) rfl ⟨rfl, ?_⟩; (repeat' (first | assumption | exact Below.refl _ _ | refine Below.setCell ?_ (by first | (simp; done) | omega | (simp; omega)) _ | refine Below.alloc ?_ (by first | (simp; done) | omega | (simp; omega)) _ | refine Below.drew ?_ | refine below_drewN ?_ _)))
    | some c =>
      rw [hc] at hl0
      have hl : (Instr.lookup 108 (.map (some mb)) (.int .i64 i) true).run Try.prog w = .ok (.tuple #[.agg #[.int .i64 (c).id, .int .i64 (c).par, .bool (c).leaf, .int .u64 (c).ra, .int .u64 (c).rb, .int .u64 (c).rc, .int .u64 (c).la, .int .u64 (c).lb, .int .u64 (c).lc, .int .u64 (c).ua, .int .u64 (c).ub, .int .u64 (c).uc, .int .i64 (c).pk, .int .i64 (c).bt], .bool true]) w := hl0
      (clear hl0 h hc; go_enter Try.func72, Try.ntmps72; go_wp2_with (first | go_guarded); refine bodyPost_ret (v := (.bool true)) (by simp [results, Try.results72, go_sem, *]) rfl ⟨rfl, ?_⟩; (repeat' (first | assumption | exact Below.refl _ _ | refine Below.setCell ?_ (by first | (simp; done) | omega | (simp; omega)) _ | refine Below.alloc ?_ (by first | (simp; done) | omega | (simp; omega)) _ | refine Below.drew ?_ | refine below_drewN ?_ _)))
  | false =>
    rw [Bool.false_or]
    cases hc : f i with
    | none =>
      rw [hc] at hl0
      have hl : (Instr.lookup 108 (.map (some mb)) (.int .i64 i) true).run Try.prog w = .ok (.tuple #[.agg #[.int .i64 0, .int .i64 0, .bool false, .int .u64 0, .int .u64 0, .int .u64 0, .int .u64 0, .int .u64 0, .int .u64 0, .int .u64 0, .int .u64 0, .int .u64 0, .int .i64 0, .int .i64 0], .bool false]) w := hl0
      (clear hl0 h hc; go_enter Try.func72, Try.ntmps72; go_wp2_with (first | go_guarded); refine bodyPost_ret (v := (.bool false)) (by simp [results, Try.results72, go_sem, *]) rfl ⟨rfl, ?_⟩; (repeat' (first | assumption | exact Below.refl _ _ | refine Below.setCell ?_ (by first | (simp; done) | omega | (simp; omega)) _ | refine Below.alloc ?_ (by first | (simp; done) | omega | (simp; omega)) _ | refine Below.drew ?_ | refine below_drewN ?_ _)))
    | some c =>
      rw [hc] at hl0
      have hl : (Instr.lookup 108 (.map (some mb)) (.int .i64 i) true).run Try.prog w = .ok (.tuple #[.agg #[.int .i64 (c).id, .int .i64 (c).par, .bool (c).leaf, .int .u64 (c).ra, .int .u64 (c).rb, .int .u64 (c).rc, .int .u64 (c).la, .int .u64 (c).lb, .int .u64 (c).lc, .int .u64 (c).ua, .int .u64 (c).ub, .int .u64 (c).uc, .int .i64 (c).pk, .int .i64 (c).bt], .bool true]) w := hl0
      show Calls Try.prog 72 #[.pointer (some ⟨tb, 0, none⟩), .int .i64 i] w fun ee w' => ee = .returned (.bool (!c.leaf)) ∧ Below w.heap.size w w'
      cases hlf : c.leaf with
      | true => (clear hl0 h hc; go_enter Try.func72, Try.ntmps72; go_wp2_with (first | go_guarded); refine bodyPost_ret (v := (.bool false)) (by simp [results, Try.results72, go_sem, *]) rfl ⟨rfl, ?_⟩; (repeat' (first | assumption | exact Below.refl _ _ | refine Below.setCell ?_ (by first | (simp; done) | omega | (simp; omega)) _ | refine Below.alloc ?_ (by first | (simp; done) | omega | (simp; omega)) _ | refine Below.drew ?_ | refine below_drewN ?_ _)))
      | false => (clear hl0 h hc; go_enter Try.func72, Try.ntmps72; go_wp2_with (first | go_guarded); refine bodyPost_ret (v := (.bool true)) (by simp [results, Try.results72, go_sem, *]) rfl ⟨rfl, ?_⟩; (repeat' (first | assumption | exact Below.refl _ _ | refine Below.setCell ?_ (by first | (simp; done) | omega | (simp; omega)) _ | refine Below.alloc ?_ (by first | (simp; done) | omega | (simp; omega)) _ | refine Below.drew ?_ | refine below_drewN ?_ _)))
end Go.Proofs.Ytlenmhbhakeonaa
