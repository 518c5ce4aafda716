/- AvlActs. -/
import Derived.Test.YtikmdkmejbcmmaaAv30
namespace Go.Proofs.Ytikmdkmejbcmmaa
set_option linter.unusedVariables false
set_option linter.unusedSimpArgs false
set_option maxRecDepth 100000
open Go.RowKit Fg Reg
attribute [local irreducible] Reg.wE NT

theorem avlActs_law (v : Value) {w : World} (hs : Op.FlatSlice w 6 [.int .i64, .int .u64, .int .i64, .int .u64, .int .i64, .int .u64] v) :
    Calls Try.prog 3 #[v] w fun ee w' => ee = .returned (.bool true) ∧ Below w.heap.size w w' := by
  obtain ⟨ad, l, cap, rfl, hR⟩ := acs_of hs
  by_cases hn : l.length ≤ 80
  · exact acts_c l l.length rfl ad cap w hR hn
  · obtain ⟨n, hln⟩ : ∃ n, l.length = n := ⟨_, rfl⟩
    rw [hln] at hn ⊢
    have D1 : decide (80 < (n : Int)) = true := decide_eq_true (by omega)
    have K := Lib.hid (three_c w)
    clear hs hR hln hn
    go_enter Try.func3, Try.ntmps3
    go_wp2_with (go_at_call 12; (with_reducible refine K.out.mono ?_); rintro _ w1 ⟨rfl, hbel⟩)
    go_ret
    exact ⟨rfl, by with_reducible assumption⟩
end Go.Proofs.Ytikmdkmejbcmmaa
