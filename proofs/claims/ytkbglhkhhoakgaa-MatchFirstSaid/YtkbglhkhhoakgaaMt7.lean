/- Rules that came in. -/
import Derived.Test.YtkbglhkhhoakgaaMt6
import Derived.Test.YtkbglhkhhoakgaaOpenA
namespace Go.Proofs.Ytkbglhkhhoakgaa
set_option linter.unusedVariables false
set_option linter.unusedSimpArgs false
set_option maxRecDepth 100000
open Go.RowKit Fg Reg

/-- Four numbers as a function. -/
def four (a b c d : Nat) : Nat → Nat
  | 0 => a
  | 1 => b
  | 2 => c
  | 3 => d
  | _ => 0
theorem four_lt {a b c d : Nat} (ha : a < 65536) (hb : b < 65536) (hc : c < 65536) (hd : d < 65536) : ∀ i, four a b c d i < 65536 := fun i => by
  rcases i with _ | _ | _ | _ | i <;> simp [four] <;> omega
theorem u16_nat {z : Int} (h : (Lit.int .u16 z).wf = true) : ∃ n : Nat, z = n ∧ n < 65536 := by
  have hb := bounds_u16 h
  exact ⟨z.toNat, by omega, by omega⟩
theorem rls_of {w : World} {v : Value} (h : Op.FlatSlice w 9 [.int .u16, .int .u16, .int .u16, .int .u16, .int .u16, .int .u16, .int .u16, .int .u16, .int .i64] v) :
    ∃ a rs cap, v = .slice a rs.length cap ∧ rs.length ≤ cap ∧ cap ≤ maxLen ∧ RlsV w a rs ∧ ∀ k (h : k < rs.length), rs[k].wf := by
  rcases h with h | ⟨a, cap, h, hc⟩ | ⟨b, o, n, cap, css, h0, rfl, h3, h4, hlt, hn, hi⟩
  · exact ⟨none, [], 0, h, Nat.le_refl _, Nat.zero_le _, fun k h => absurd h (Nat.not_lt_zero _), fun k h => absurd h (Nat.not_lt_zero _)⟩
  · exact ⟨some a, [], cap, h, Nat.zero_le _, hc, fun k h => absurd h (Nat.not_lt_zero _), fun k h => absurd h (Nat.not_lt_zero _)⟩
  · have h1 : ∀ i, i < n → ∃ r : Rl, w.rangeAt b (o + i * 9) r.cells ∧ r.wf := fun i hin => by
      obtain ⟨hf, he⟩ := hi i (by omega)
      obtain ⟨_, _, e0, ⟨x0, rfl, w0⟩, _, _, rfl, ⟨x1, rfl, w1⟩, _, _, rfl, ⟨x2, rfl, w2⟩, _, _, rfl, ⟨x3, rfl, w3⟩, _, _, rfl, ⟨x4, rfl, w4⟩, _, _, rfl, ⟨x5, rfl, w5⟩, _, _, rfl, ⟨x6, rfl, w6⟩, _, _, rfl, ⟨x7, rfl, w7⟩, _, _, rfl, ⟨x8, rfl, w8⟩, rfl⟩ := hf
      rw [e0] at he
      obtain ⟨n0, rfl, l0⟩ := u16_nat w0
      obtain ⟨n1, rfl, l1⟩ := u16_nat w1
      obtain ⟨n2, rfl, l2⟩ := u16_nat w2
      obtain ⟨n3, rfl, l3⟩ := u16_nat w3
      obtain ⟨n4, rfl, l4⟩ := u16_nat w4
      obtain ⟨n5, rfl, l5⟩ := u16_nat w5
      obtain ⟨n6, rfl, l6⟩ := u16_nat w6
      obtain ⟨n7, rfl, l7⟩ := u16_nat w7
      exact ⟨⟨four n0 n1 n2 n3, four n4 n5 n6 n7, x8⟩, fun j x hx => he j x hx, ⟨four_lt l0 l1 l2 l3, four_lt l4 l5 l6 l7⟩⟩
    obtain ⟨rs, hrs⟩ := Go.Deep.choose_lt h1
    refine ⟨some ⟨b, o, none⟩, (List.range n).map rs, cap, by simp, by simpa using h3, h4, fun k hk => ?_, fun k hk => ?_⟩
    · have := hrs k (by simpa using hk)
      exact ⟨b, o, rfl, hlt, by simpa using this.1⟩
    · have := hrs k (by simpa using hk)
      simpa using this.2
end Go.Proofs.Ytkbglhkhhoakgaa
