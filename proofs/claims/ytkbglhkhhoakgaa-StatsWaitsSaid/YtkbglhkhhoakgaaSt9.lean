/- StatsWaits: the law. -/
import Derived.Test.YtkbglhkhhoakgaaSt8
import Derived.OpenShut
namespace Go.Proofs.Ytkbglhkhhoakgaa
set_option linter.unusedVariables false
set_option linter.unusedSimpArgs false
set_option maxRecDepth 100000
open Go.RowKit Fg Reg

theorem nums_of {w : World} {v : Value} (h : Op.FlatSlice w 1 [.int .u64] v) :
    ∃ a, ∃ qs : List Int, ∃ cap, v = .slice a qs.length cap ∧ RwV (fun x : Int => [Value.int .u64 x]) 1 w a qs ∧ ∀ k (h : k < qs.length), 0 ≤ qs[k] ∧ qs[k] ≤ 18446744073709551615 := by
  rcases h with h | ⟨a, cap, h, hc⟩ | ⟨b, o, n, cap, css, h0, rfl, h3, h4, hlt, hn, hi⟩
  · exact ⟨none, [], 0, h, RwV.nil _ _, fun k h => absurd h (Nat.not_lt_zero _)⟩
  · exact ⟨some a, [], cap, h, RwV.nil _ _, fun k h => absurd h (Nat.not_lt_zero _)⟩
  · have h1 : ∀ i, i < n → ∃ q : Int, w.rangeAt b (o + i * 1) [Value.int .u64 q] ∧ (0 ≤ q ∧ q ≤ 18446744073709551615) := fun i hin => by
      obtain ⟨hf, he⟩ := hi i (by omega)
      obtain ⟨_, _, e0, ⟨x0, rfl, w0⟩, rfl⟩ := hf
      rw [e0] at he
      have i0 := bounds_u64 w0
      exact ⟨x0, fun j x hx => he j x hx, ⟨i0.1, by have := i0.2; omega⟩⟩
    obtain ⟨qs, hqs⟩ := Go.Deep.choose_lt h1
    refine ⟨some ⟨b, o, none⟩, (List.range n).map qs, cap, by simp, fun k hk => ?_, fun k hk => ?_⟩
    · have := hqs k (by simpa using hk)
      exact ⟨b, o, rfl, hlt, by simpa using this.1⟩
    · have := hqs k (by simpa using hk)
      simpa using this.2

theorem statsWaits_law (v0 v1 : Value) (cl : Int) {w : World} (s0 : Op.FlatSlice w 1 [.int .u64] v0) (s1 : Op.FlatSlice w 1 [.int .u64] v1) (wc : (Lit.int .i64 cl).wf = true) :
    Calls Try.prog 6 #[v0, v1, .int .i64 cl] w fun e w' => e = .returned (.bool true) ∧ Below w.heap.size w w' := by
  obtain ⟨a1, xs, c1, rfl, h1, q1⟩ := nums_of s0
  obtain ⟨a2, ys, c2, rfl, h2, q2⟩ := nums_of s1
  by_cases hl : xs.length = ys.length
  case neg => exact waits_out cl a1 a2 _ _ c1 c2 (Or.inl hl) w
  by_cases hn : xs.length ≤ 100
  case neg => exact waits_out cl a1 a2 _ _ c1 c2 (Or.inr ⟨hl, by omega⟩) w
  rw [show ys.length = xs.length from hl.symm]
  exact waits_in cl wc xs ys xs.length hn rfl hl.symm q1 q2 a1 a2 c1 c2 w h1 h2
end Go.Proofs.Ytkbglhkhhoakgaa
