/- MatchFirst: the law. -/
import Derived.Test.YtkbglhkhhoakgaaMt16
namespace Go.Proofs.Ytkbglhkhhoakgaa
set_option linter.unusedVariables false
set_option linter.unusedSimpArgs false
set_option maxRecDepth 100000
open Go.RowKit Fg Reg
attribute [local irreducible] Reg.wE

theorem matchFirst_law (v : Value) (h0 h1 h2 h3 n : Int) {w : World} (hs : Op.FlatSlice w 9 [.int .u16, .int .u16, .int .u16, .int .u16, .int .u16, .int .u16, .int .u16, .int .u16, .int .i64] v)
    (w0 : (Lit.int .u16 h0).wf = true) (w1 : (Lit.int .u16 h1).wf = true) (w2 : (Lit.int .u16 h2).wf = true) (w3 : (Lit.int .u16 h3).wf = true) (w4 : (Lit.int .i64 n).wf = true) :
    Calls Try.prog 4 #[v, .agg #[.int .u16 h0, .int .u16 h1, .int .u16 h2, .int .u16 h3], .int .i64 n] w fun e w' => e = .returned (.bool true) ∧ Below w.heap.size w w' := by
  obtain ⟨n0, rfl, l0⟩ := u16_nat w0
  obtain ⟨n1, rfl, l1⟩ := u16_nat w1
  obtain ⟨n2, rfl, l2⟩ := u16_nat w2
  obtain ⟨n3, rfl, l3⟩ := u16_nat w3
  obtain ⟨a, rs, cap, rfl, hc1, hc2, hR, hwf⟩ := rls_of hs
  have hh := four_lt l0 l1 l2 l3
  rcases Nat.eq_zero_or_pos rs.length with hl | hl
  · exact first_out rs a cap (four n0 n1 n2 n3) n hwf (.inl hl) w hR
  · rcases Nat.lt_or_ge 30 rs.length with hl2 | hl2
    · exact first_out rs a cap (four n0 n1 n2 n3) n hwf (.inr (.inl ⟨hl, hl2⟩)) w hR
    · rcases rwv_cases rs with h | h
      · by_cases hn : n < 0
        · exact first_out rs a cap (four n0 n1 n2 n3) n hwf (.inr (.inr (.inr ⟨hl, hl2, h, hn⟩))) w hR
        · obtain ⟨b, o, rfl, -, -⟩ := hR 0 hl
          have hm : n.tmod (rs.length : Int) = n % (rs.length : Int) := Int.tmod_eq_emod_of_nonneg (by omega)
          have h0' := Int.emod_nonneg n (show (rs.length : Int) ≠ 0 by omega)
          have h1' := Int.emod_lt_of_pos n (show (0 : Int) < rs.length by omega)
          exact first_in rs b o cap (four n0 n1 n2 n3) n (n % (rs.length : Int)).toNat (by omega) (by omega) (by rw [hm]; omega) hl2 hwf hh h _ _ rfl rfl (found_cases h _) w hR
      · exact first_out rs a cap (four n0 n1 n2 n3) n hwf (.inr (.inr (.inl ⟨hl, hl2, h⟩))) w hR
end Go.Proofs.Ytkbglhkhhoakgaa
