/- ShareWakes: the law. -/
import Derived.Test.YtfplniooncdjdaaSh8
import Derived.Test.YtfplniooncdjdaaOpenA
namespace Go.Proofs.Ytfplniooncdjdaa
set_option linter.unusedVariables false
set_option linter.unusedSimpArgs false
set_option maxRecDepth 100000
open Go.RowKit Fg Reg

theorem prs_of {w : World} {v : Value} (h : Op.FlatSlice w 2 [.int .u64, .int .u64] v) :
    ∃ a, ∃ qs : List (Int × Int), ∃ cap, v = .slice a qs.length cap ∧ RwV (fun q : Int × Int => [Value.int .u64 q.1, Value.int .u64 q.2]) 2 w a qs ∧ ∀ k (h : k < qs.length), (0 ≤ qs[k].1 ∧ qs[k].1 ≤ 18446744073709551615) ∧ (0 ≤ qs[k].2 ∧ qs[k].2 ≤ 18446744073709551615) := by
  rcases h with h | ⟨a, cap, h, hc⟩ | ⟨b, o, n, cap, css, h0, rfl, h3, h4, hlt, hn, hi⟩
  · exact ⟨none, [], 0, h, RwV.nil _ _, fun k h => absurd h (Nat.not_lt_zero _)⟩
  · exact ⟨some a, [], cap, h, RwV.nil _ _, fun k h => absurd h (Nat.not_lt_zero _)⟩
  · have h1 : ∀ i, i < n → ∃ q : Int × Int, w.rangeAt b (o + i * 2) [Value.int .u64 q.1, Value.int .u64 q.2] ∧ (0 ≤ q.1 ∧ q.1 ≤ 18446744073709551615) ∧ (0 ≤ q.2 ∧ q.2 ≤ 18446744073709551615) := fun i hin => by
      obtain ⟨hf, he⟩ := hi i (by omega)
      obtain ⟨_, _, e0, ⟨x0, rfl, w0⟩, _, _, rfl, ⟨x1, rfl, w1⟩, rfl⟩ := hf
      rw [e0] at he
      have i0 := in_wf w0
      have i1 := in_wf w1
      exact ⟨(x0, x1), fun j x hx => he j x hx, ⟨i0.1, by have := i0.2; omega⟩, ⟨i1.1, by have := i1.2; omega⟩⟩
    obtain ⟨qs, hqs⟩ := Go.Deep.choose_lt h1
    refine ⟨some ⟨b, o, none⟩, (List.range n).map qs, cap, by simp, fun k hk => ?_, fun k hk => ?_⟩
    · have := hqs k (by simpa using hk)
      exact ⟨b, o, rfl, hlt, by simpa using this.1⟩
    · have := hqs k (by simpa using hk)
      simpa using this.2

theorem shareWakes_law (c1 cd c2 : Int) (v : Value) (tot : Int) {w : World} (w0 : (Lit.int .u64 c1).wf = true) (w1 : (Lit.int .u64 cd).wf = true) (w2 : (Lit.int .u64 c2).wf = true) (hs : Op.FlatSlice w 2 [.int .u64, .int .u64] v) (wt : (Lit.int .u64 tot).wf = true) :
    Calls Try.prog 3 #[.agg #[.int .u64 (c1), .int .u64 (cd), .int .u64 (c2)], v, .int .u64 tot] w fun e w' => e = .returned (.bool true) ∧ Below w.heap.size w w' := by
  have h1 := in_wf w0
  have h2 := in_wf w1
  have h3 := in_wf w2
  have ht := in_wf wt
  obtain ⟨a, qs, cap, rfl, hR, hq⟩ := prs_of hs
  by_cases hn : qs.length ≤ 60
  case neg => exact wakes_out c1 cd c2 h1 h2 h3 a _ cap tot (Or.inl (by omega)) w
  by_cases hk : kind c1 cd c2 = 2 ∨ kind c1 cd c2 = 3
  case neg => exact wakes_out c1 cd c2 h1 h2 h3 a _ cap tot (Or.inr (Or.inl ⟨hn, fun h => hk (Or.inl h), fun h => hk (Or.inr h)⟩)) w
  by_cases hl : tot ≤ 1099511627776
  case neg => exact wakes_out c1 cd c2 h1 h2 h3 a _ cap tot (Or.inr (Or.inr ⟨hn, hk, by omega⟩)) w
  exact wakes_in c1 cd c2 h1 h2 h3 hk qs a cap hn hq tot ht.1 hl w hR
end Go.Proofs.Ytfplniooncdjdaa
