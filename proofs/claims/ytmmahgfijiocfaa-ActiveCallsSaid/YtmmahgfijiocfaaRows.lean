/-
  No cell of these rows narrows 'for every input' (looked for: loops, veiled, ifaces, maps, wideKeys, modest, calm, conditions, laid).
  DERIVED. THE GIVEN ROWS OF THIS SEAT. 4 by the template 'for every input the law returns true; each argument reads behind the call as it read before'; 0 by the template 'total and deterministic' (their statements: YtmmahgfijiocfaaTotals.lean).
  GIVEN WITH THE SEED: the statements are not yours to turn. If you find one false, say at which input.
  Laid BY PROGRAM, IN A SANDBOX (cutbox-rows.mjs): the forced cells as the released guide's own fill.sh prints them over the translation 099233805e10a2ae… (all of the seat's roots in one cut). By AI agents, Wed Nov 11 2026. No macro, syntax, notation, axiom, sorry.
-/
import Derived.Test.YtmmahgfijiocfaaChecked
import GoSem.Claim
import GoSem.ClaimJoined
import GoSem.ClaimMapViews
import Derived.JoinedTies
import Derived.KernelRfl
namespace Go.Proofs.Ytmmahgfijiocfaa
/- THE CELL 'sum', in the pinned program and in every row, IS THE sha256 OF THE DUMP (.gsa) THAT YtmmahgfijiocfaaProg.lean LOADS. Nothing in Lean hashes anything: it is a label: what it is worth is what the hold of that sum in a sandbox is worth. -/
noncomputable def Try.pinned : Pinned := { name := "ytmmahgfijiocfaa", sum := "099233805e10a2ae8bfd5a042fa959dccccb2f51eb0edfa7284d432674a32559", checked := Try.checked }
namespace Rows
def none {H : Type} : Left H := { results := [], args := [] }

/-- 'floodgatelaw23.ActiveCalls': WHATEVER THE INPUT: true; the input reads as it did. -/
def activeCallsSpec : ChangeSpec := { name := "activeCalls", fn := fun _ => fun
  | [d1, d2] => { results := [.lit (.bool true)], args := [d1, d2] }
  | _ => none }
def activeCallsRow : OpenClaim := { program := "ytmmahgfijiocfaa", sum := "099233805e10a2ae8bfd5a042fa959dccccb2f51eb0edfa7284d432674a32559", func := "floodgate/floodgatelaw23.ActiveCalls", spec := "activeCalls", unfollowed := true, recurses := true, apart := false }
def ActiveCallsSaid : Prop := activeCallsRow.holds Try.pinned (OpenSpec.ofChange activeCallsSpec)

/-- ITS FALSE NEIGHBOUR: 'it returns false'. Refute it at one input. -/
def activeCallsWrong : ChangeSpec := { name := "activeCalls", fn := fun _ => fun
  | [d1, d2] => { results := [.lit (.bool false)], args := [d1, d2] }
  | _ => none }
def ActiveCallsWrongFalsely : Prop := activeCallsRow.holds Try.pinned (OpenSpec.ofChange activeCallsWrong)

/-- 'floodgatelaw23.ActiveBack': WHATEVER THE INPUT: true; the input reads as it did. -/
def activeBackSpec : ChangeSpec := { name := "activeBack", fn := fun _ => fun
  | [d1, d2, d3] => { results := [.lit (.bool true)], args := [d1, d2, d3] }
  | _ => none }
def activeBackRow : OpenClaim := { program := "ytmmahgfijiocfaa", sum := "099233805e10a2ae8bfd5a042fa959dccccb2f51eb0edfa7284d432674a32559", func := "floodgate/floodgatelaw23.ActiveBack", spec := "activeBack", unfollowed := true, recurses := true, apart := false }
def ActiveBackSaid : Prop := activeBackRow.holds Try.pinned (OpenSpec.ofChange activeBackSpec)

/-- ITS FALSE NEIGHBOUR: 'it returns false'. Refute it at one input. -/
def activeBackWrong : ChangeSpec := { name := "activeBack", fn := fun _ => fun
  | [d1, d2, d3] => { results := [.lit (.bool false)], args := [d1, d2, d3] }
  | _ => none }
def ActiveBackWrongFalsely : Prop := activeBackRow.holds Try.pinned (OpenSpec.ofChange activeBackWrong)

/-- 'floodgatelaw23.ActiveNil': WHATEVER THE INPUT: true; the input reads as it did. -/
def activeNilSpec : ChangeSpec := { name := "activeNil", fn := fun _ => fun
  | [d] => { results := [.lit (.bool true)], args := [d] }
  | _ => none }
def activeNilRow : OpenClaim := { program := "ytmmahgfijiocfaa", sum := "099233805e10a2ae8bfd5a042fa959dccccb2f51eb0edfa7284d432674a32559", func := "floodgate/floodgatelaw23.ActiveNil", spec := "activeNil", unfollowed := true, recurses := true, apart := false }
def ActiveNilSaid : Prop := activeNilRow.holds Try.pinned (OpenSpec.ofChange activeNilSpec)

/-- ITS FALSE NEIGHBOUR: 'it returns false'. Refute it at one input. -/
def activeNilWrong : ChangeSpec := { name := "activeNil", fn := fun _ => fun
  | [d] => { results := [.lit (.bool false)], args := [d] }
  | _ => none }
def ActiveNilWrongFalsely : Prop := activeNilRow.holds Try.pinned (OpenSpec.ofChange activeNilWrong)

/-- 'floodgatelaw31.SpansBelow': WHATEVER THE INPUT: true; the input reads as it did. -/
def spansBelowSpec : ChangeSpec := { name := "spansBelow", fn := fun _ => fun
  | [d1, d2] => { results := [.lit (.bool true)], args := [d1, d2] }
  | _ => none }
def spansBelowRow : OpenClaim := { program := "ytmmahgfijiocfaa", sum := "099233805e10a2ae8bfd5a042fa959dccccb2f51eb0edfa7284d432674a32559", func := "floodgate/floodgatelaw31.SpansBelow", spec := "spansBelow", unfollowed := true, recurses := true, apart := false }
def SpansBelowSaid : Prop := spansBelowRow.holds Try.pinned (OpenSpec.ofChange spansBelowSpec)

/-- ITS FALSE NEIGHBOUR: 'it returns false'. Refute it at one input. -/
def spansBelowWrong : ChangeSpec := { name := "spansBelow", fn := fun _ => fun
  | [d1, d2] => { results := [.lit (.bool false)], args := [d1, d2] }
  | _ => none }
def SpansBelowWrongFalsely : Prop := spansBelowRow.holds Try.pinned (OpenSpec.ofChange spansBelowWrong)

/- THE SECOND FORM. 'bulk': how many values and letters a reading holds, each counted each time it is reached (what is shared counts as often as it is met; a slice's spare places count too). A statement '..UptoSaid' is the law's where the arguments, and the package variables that the reading takes, are together of bulk at most 1048576: NARROWER than '..Said'. Prove '..Said' where nothing that the law and all that it calls make is longer than what came in: it says more and counts as full. Else prove '..UptoSaid'. A law counts once. -/
mutual
def uptoBulk {H : Type} : DataW H → Nat
  | .lit (.string bytes) => bytes.length + 1
  | .lit _ => 1
  | .nil => 1
  | .ptr d => uptoBulk d + 1
  | .slice elems spare => uptoBulkAll elems + uptoBulkAll spare + 1
  | .agg parts => uptoBulkAll parts + 1
  | .iface _ d => uptoBulk d + 1
  | .map entries => uptoBulkEntries entries + 1
  | .held _ => 1
def uptoBulkAll {H : Type} : List (DataW H) → Nat
  | [] => 0
  | d :: r => uptoBulk d + uptoBulkAll r
def uptoBulkEntries {H : Type} : List (Lit × DataW H) → Nat
  | [] => 0
  | x :: r => uptoBulkEntry x + uptoBulkEntries r
def uptoBulkEntry {H : Type} : Lit × DataW H → Nat
  | (.string bytes, d) => bytes.length + uptoBulk d + 1
  | (_, d) => uptoBulk d + 1
 end
def uptoSmall : (H : Type) → List (DataW H) → Bool := fun _ ds => decide (uptoBulkAll ds ≤ 1048576)
def OpenSpec.upto (s : _root_.Go.ChangeSpec) : _root_.Go.OpenSpec := { _root_.Go.OpenSpec.ofChange s with cond := some uptoSmall }

/-- 'floodgatelaw23.ActiveCalls', WHERE WHAT IT READS IS OF BULK AT MOST 1048576: true; the input reads as it did. -/
def activeCallsUptoRow : OpenClaim := { program := "ytmmahgfijiocfaa", sum := "099233805e10a2ae8bfd5a042fa959dccccb2f51eb0edfa7284d432674a32559", func := "floodgate/floodgatelaw23.ActiveCalls", spec := "activeCalls", unfollowed := true, recurses := true, apart := false, narrowed := true }
def ActiveCallsUptoSaid : Prop := activeCallsUptoRow.holds Try.pinned (OpenSpec.upto activeCallsSpec)

/-- 'floodgatelaw23.ActiveBack', WHERE WHAT IT READS IS OF BULK AT MOST 1048576: true; the input reads as it did. -/
def activeBackUptoRow : OpenClaim := { program := "ytmmahgfijiocfaa", sum := "099233805e10a2ae8bfd5a042fa959dccccb2f51eb0edfa7284d432674a32559", func := "floodgate/floodgatelaw23.ActiveBack", spec := "activeBack", unfollowed := true, recurses := true, apart := false, narrowed := true }
def ActiveBackUptoSaid : Prop := activeBackUptoRow.holds Try.pinned (OpenSpec.upto activeBackSpec)

/-- 'floodgatelaw23.ActiveNil', WHERE WHAT IT READS IS OF BULK AT MOST 1048576: true; the input reads as it did. -/
def activeNilUptoRow : OpenClaim := { program := "ytmmahgfijiocfaa", sum := "099233805e10a2ae8bfd5a042fa959dccccb2f51eb0edfa7284d432674a32559", func := "floodgate/floodgatelaw23.ActiveNil", spec := "activeNil", unfollowed := true, recurses := true, apart := false, narrowed := true }
def ActiveNilUptoSaid : Prop := activeNilUptoRow.holds Try.pinned (OpenSpec.upto activeNilSpec)

/-- 'floodgatelaw31.SpansBelow', WHERE WHAT IT READS IS OF BULK AT MOST 1048576: true; the input reads as it did. -/
def spansBelowUptoRow : OpenClaim := { program := "ytmmahgfijiocfaa", sum := "099233805e10a2ae8bfd5a042fa959dccccb2f51eb0edfa7284d432674a32559", func := "floodgate/floodgatelaw31.SpansBelow", spec := "spansBelow", unfollowed := true, recurses := true, apart := false, narrowed := true }
def SpansBelowUptoSaid : Prop := spansBelowUptoRow.holds Try.pinned (OpenSpec.upto spansBelowSpec)

end Rows
end Go.Proofs.Ytmmahgfijiocfaa
