/- Maps of int keys. -/
import Derived.Test.YtlenmhbhakeonaaMap0
namespace Go.Proofs.Ytlenmhbhakeonaa
set_option linter.unusedVariables false
set_option linter.unusedSimpArgs false
set_option maxRecDepth 100000
open Go.RowKit Fg Reg Go.Maps
/-- Int keys. -/
def ikv (x : Int) : Value := .int .i64 x
def iok (x : Int) : Prop := (Lit.int .i64 x).wf = true
theorem ikok : KeyOk Try.prog 3 ikv iok where
  keyed := int_keyed Try.underlying3
  lit x hx := ⟨_, keyOf_int_mk Try.underlying3 hx⟩
  inj x y _ _ h := by simpa [ikv] using h
theorem ikv_inj (x y : Int) (h : ikv x = ikv y) : x = y := by simpa [ikv] using h
end Go.Proofs.Ytlenmhbhakeonaa
