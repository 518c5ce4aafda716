/- MatchFinds: the law. -/
import Derived.Test.YtkbglhkhhoakgaaMt14
namespace Go.Proofs.Ytkbglhkhhoakgaa
set_option linter.unusedVariables false
set_option linter.unusedSimpArgs false
set_option maxRecDepth 100000
open Go.RowKit Fg Reg
attribute [local irreducible] Reg.wE

theorem rwv_cases (rs : List Rl) : rwv rs = 0 ∨ rwv rs = 1 := by
  unfold rwv; split
  · exact .inl rfl
  · exact .inr rfl
theorem matchFinds_law (v : Value) (h0 h1 h2 h3 cl : Int) {w : World} (hs : Op.FlatSlice w 9 [.int .u16, .int .u16, .int .u16, .int .u16, .int .u16, .int .u16, .int .u16, .int .u16, .int .i64] v)
    (w0 : (Lit.int .u16 h0).wf = true) (w1 : (Lit.int .u16 h1).wf = true) (w2 : (Lit.int .u16 h2).wf = true) (w3 : (Lit.int .u16 h3).wf = true) (w4 : (Lit.int .i64 cl).wf = true) :
    Calls Try.prog 3 #[v, .agg #[.int .u16 h0, .int .u16 h1, .int .u16 h2, .int .u16 h3], .int .i64 cl] w fun e w' => e = .returned (.bool true) ∧ Below w.heap.size w w' := by
  obtain ⟨n0, rfl, l0⟩ := u16_nat w0
  obtain ⟨n1, rfl, l1⟩ := u16_nat w1
  obtain ⟨n2, rfl, l2⟩ := u16_nat w2
  obtain ⟨n3, rfl, l3⟩ := u16_nat w3
  obtain ⟨a, rs, cap, rfl, hc1, hc2, hR, hwf⟩ := rls_of hs
  have hh := four_lt l0 l1 l2 l3
  rcases Nat.lt_or_ge 60 rs.length with hl | hl
  · exact finds_big a rs.length cap (four n0 n1 n2 n3) cl hl w
  · rcases Nat.lt_or_ge 32 rs.length with hl2 | hl2
    · exact finds_long a rs.length cap (four n0 n1 n2 n3) cl hl2 hl w
    · rcases rwv_cases rs with h | h
      · exact finds_ok rs a cap (four n0 n1 n2 n3) cl hl2 hh hwf h _ _ rfl rfl (found_cases h _) w hR
      · exact finds_bad rs a cap (four n0 n1 n2 n3) cl hl2 hwf h w hR
end Go.Proofs.Ytkbglhkhhoakgaa
