/- Events of a slice handed over: with the bounds of bytes and classes. -/
import Derived.Test.YtdahjhokcjfioaaEv1
namespace Go.Proofs.Ytdahjhokcjfioaa
set_option linter.unusedVariables false
set_option linter.unusedSimpArgs false
set_option maxRecDepth 100000
open Go.RowKit Fg Reg

structure Ev.wf3 (e : Ev) : Prop where
  tm0 : 0 ≤ e.tm
  tm1 : e.tm ≤ 18446744073709551615
  ln0 : -9223372036854775808 ≤ e.ln
  ln1 : e.ln ≤ 9223372036854775807
theorem evs_of3 {w : World} {v : Value} (h : Op.FlatSlice w 12 [.int .i64, .bool, .bool, .int .u64, .int .u64, .int .i64, .int .u64, .int .i64, .int .u16, .int .u16, .int .u16, .int .u16] v) :
    ∃ a es cap, v = .slice a es.length cap ∧ es.length ≤ cap ∧ cap ≤ maxLen ∧ EvsV w a es ∧ ∀ k (h : k < es.length), es[k].wf3 := by
  rcases h with h | ⟨a, cap, h, hc⟩ | ⟨b, o, n, cap, css, h0, rfl, h3, h4, hlt, hn, hi⟩
  · exact ⟨none, [], 0, h, Nat.le_refl _, Nat.zero_le _, fun k h => absurd h (Nat.not_lt_zero _), fun k h => absurd h (Nat.not_lt_zero _)⟩
  · exact ⟨some a, [], cap, h, Nat.zero_le _, hc, fun k h => absurd h (Nat.not_lt_zero _), fun k h => absurd h (Nat.not_lt_zero _)⟩
  · have h1 : ∀ i, i < n → ∃ e : Ev, w.rangeAt b (o + i * 12) e.cells ∧ e.wf3 := fun i hin => by
      obtain ⟨hf, he⟩ := hi i (by omega)
      obtain ⟨_, _, e0, ⟨x0, rfl, w0⟩, _, _, rfl, ⟨x1, rfl⟩, _, _, rfl, ⟨x2, rfl⟩, _, _, rfl, ⟨x3, rfl, w3⟩, _, _, rfl, ⟨x4, rfl, w4⟩, _, _, rfl, ⟨x5, rfl, w5⟩, _, _, rfl, ⟨x6, rfl, w6⟩, _, _, rfl, ⟨x7, rfl, w7⟩, _, _, rfl, ⟨x8, rfl, w8⟩, _, _, rfl, ⟨x9, rfl, w9⟩, _, _, rfl, ⟨x10, rfl, w10⟩, _, _, rfl, ⟨x11, rfl, w11⟩, rfl⟩ := hf
      rw [e0] at he
      have b3 := bounds_u64 w3
      have b7 := bounds_i64 w7
      exact ⟨⟨x0, x1, x2, x3, x4, x5, x6, x7, x8, x9, x10, x11⟩, fun j x hx => he j x hx, ⟨b3.1, by have := b3.2; omega, b7.1, by have := b7.2; omega⟩⟩
    obtain ⟨es, hes⟩ := Go.Deep.choose_lt h1
    refine ⟨some ⟨b, o, none⟩, (List.range n).map es, cap, by simp, by simpa using h3, h4, fun k hk => ?_, fun k hk => ?_⟩
    · have := hes k (by simpa using hk)
      exact ⟨b, o, rfl, hlt, by simpa using this.1⟩
    · have := hes k (by simpa using hk)
      simpa using this.2
end Go.Proofs.Ytdahjhokcjfioaa
