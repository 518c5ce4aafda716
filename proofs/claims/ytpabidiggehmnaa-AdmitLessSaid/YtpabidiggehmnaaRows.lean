/-
  No cell of these rows narrows 'for every input' (looked for: loops, veiled, ifaces, maps, wideKeys, modest, calm, conditions, laid).
  DERIVED. THE GIVEN ROWS OF THIS SEAT. 8 by the template 'for every input the law returns true; each argument reads behind the call as it read before'; 0 by the template 'total and deterministic' (their statements: YtpabidiggehmnaaTotals.lean).
  GIVEN WITH THE SEED: the statements are not yours to turn. If you find one false, say at which input.
  Laid BY PROGRAM, IN A SANDBOX (cutbox-rows.mjs): the forced cells as the released guide's own fill.sh prints them over the translation 6b964fb6765f734a… (all of the seat's roots in one cut). By AI agents, Wed Nov 11 2026. No macro, syntax, notation, axiom, sorry.
-/
import Derived.Test.YtpabidiggehmnaaChecked
import GoSem.Claim
import GoSem.ClaimJoined
import GoSem.ClaimMapViews
import Derived.JoinedTies
import Derived.KernelRfl
namespace Go.Proofs.Ytpabidiggehmnaa
/- THE CELL 'sum', in the pinned program and in every row, IS THE sha256 OF THE DUMP (.gsa) THAT YtpabidiggehmnaaProg.lean LOADS. Nothing in Lean hashes anything: it is a label: what it is worth is what the hold of that sum in a sandbox is worth. -/
noncomputable def Try.pinned : Pinned := { name := "ytpabidiggehmnaa", sum := "6b964fb6765f734a2e4c69aa4a658abb565e9a8d7dc663a93a8c257677b48f6d", checked := Try.checked }
namespace Rows
def none {H : Type} : Left H := { results := [], args := [] }

/-- 'floodgatelaw07.SumServes': WHATEVER THE INPUT: true; the input reads as it did. -/
def sumServesSpec : ChangeSpec := { name := "sumServes", fn := fun _ => fun
  | [d1, d2] => { results := [.lit (.bool true)], args := [d1, d2] }
  | _ => none }
def sumServesRow : OpenClaim := { program := "ytpabidiggehmnaa", sum := "6b964fb6765f734a2e4c69aa4a658abb565e9a8d7dc663a93a8c257677b48f6d", func := "floodgate/floodgatelaw07.SumServes", spec := "sumServes", unfollowed := true, recurses := true, apart := false }
def SumServesSaid : Prop := sumServesRow.holds Try.pinned (OpenSpec.ofChange sumServesSpec)

/-- ITS FALSE NEIGHBOUR: 'it returns false'. Refute it at one input. -/
def sumServesWrong : ChangeSpec := { name := "sumServes", fn := fun _ => fun
  | [d1, d2] => { results := [.lit (.bool false)], args := [d1, d2] }
  | _ => none }
def SumServesWrongFalsely : Prop := sumServesRow.holds Try.pinned (OpenSpec.ofChange sumServesWrong)

/-- 'floodgatelaw07.SumKnees': WHATEVER THE INPUT: true; the input reads as it did. -/
def sumKneesSpec : ChangeSpec := { name := "sumKnees", fn := fun _ => fun
  | [d] => { results := [.lit (.bool true)], args := [d] }
  | _ => none }
def sumKneesRow : OpenClaim := { program := "ytpabidiggehmnaa", sum := "6b964fb6765f734a2e4c69aa4a658abb565e9a8d7dc663a93a8c257677b48f6d", func := "floodgate/floodgatelaw07.SumKnees", spec := "sumKnees", unfollowed := true, recurses := true, apart := false }
def SumKneesSaid : Prop := sumKneesRow.holds Try.pinned (OpenSpec.ofChange sumKneesSpec)

/-- ITS FALSE NEIGHBOUR: 'it returns false'. Refute it at one input. -/
def sumKneesWrong : ChangeSpec := { name := "sumKnees", fn := fun _ => fun
  | [d] => { results := [.lit (.bool false)], args := [d] }
  | _ => none }
def SumKneesWrongFalsely : Prop := sumKneesRow.holds Try.pinned (OpenSpec.ofChange sumKneesWrong)

/-- 'floodgatelaw07.SumStraight': WHATEVER THE INPUT: true; the input reads as it did. -/
def sumStraightSpec : ChangeSpec := { name := "sumStraight", fn := fun _ => fun
  | [d1, d2, d3] => { results := [.lit (.bool true)], args := [d1, d2, d3] }
  | _ => none }
def sumStraightRow : OpenClaim := { program := "ytpabidiggehmnaa", sum := "6b964fb6765f734a2e4c69aa4a658abb565e9a8d7dc663a93a8c257677b48f6d", func := "floodgate/floodgatelaw07.SumStraight", spec := "sumStraight", unfollowed := true, recurses := true, apart := false }
def SumStraightSaid : Prop := sumStraightRow.holds Try.pinned (OpenSpec.ofChange sumStraightSpec)

/-- ITS FALSE NEIGHBOUR: 'it returns false'. Refute it at one input. -/
def sumStraightWrong : ChangeSpec := { name := "sumStraight", fn := fun _ => fun
  | [d1, d2, d3] => { results := [.lit (.bool false)], args := [d1, d2, d3] }
  | _ => none }
def SumStraightWrongFalsely : Prop := sumStraightRow.holds Try.pinned (OpenSpec.ofChange sumStraightWrong)

/-- 'floodgatelaw07.SumSteep': WHATEVER THE INPUT: true; the input reads as it did. -/
def sumSteepSpec : ChangeSpec := { name := "sumSteep", fn := fun _ => fun
  | [d1, d2] => { results := [.lit (.bool true)], args := [d1, d2] }
  | _ => none }
def sumSteepRow : OpenClaim := { program := "ytpabidiggehmnaa", sum := "6b964fb6765f734a2e4c69aa4a658abb565e9a8d7dc663a93a8c257677b48f6d", func := "floodgate/floodgatelaw07.SumSteep", spec := "sumSteep", unfollowed := true, recurses := true, apart := false }
def SumSteepSaid : Prop := sumSteepRow.holds Try.pinned (OpenSpec.ofChange sumSteepSpec)

/-- ITS FALSE NEIGHBOUR: 'it returns false'. Refute it at one input. -/
def sumSteepWrong : ChangeSpec := { name := "sumSteep", fn := fun _ => fun
  | [d1, d2] => { results := [.lit (.bool false)], args := [d1, d2] }
  | _ => none }
def SumSteepWrongFalsely : Prop := sumSteepRow.holds Try.pinned (OpenSpec.ofChange sumSteepWrong)

/-- 'floodgatelaw08.AdmitFits': WHATEVER THE INPUT: true; the input reads as it did. -/
def admitFitsSpec : ChangeSpec := { name := "admitFits", fn := fun _ => fun
  | [d1, d2] => { results := [.lit (.bool true)], args := [d1, d2] }
  | _ => none }
def admitFitsRow : OpenClaim := { program := "ytpabidiggehmnaa", sum := "6b964fb6765f734a2e4c69aa4a658abb565e9a8d7dc663a93a8c257677b48f6d", func := "floodgate/floodgatelaw08.AdmitFits", spec := "admitFits", unfollowed := true, recurses := true, apart := false }
def AdmitFitsSaid : Prop := admitFitsRow.holds Try.pinned (OpenSpec.ofChange admitFitsSpec)

/-- ITS FALSE NEIGHBOUR: 'it returns false'. Refute it at one input. -/
def admitFitsWrong : ChangeSpec := { name := "admitFits", fn := fun _ => fun
  | [d1, d2] => { results := [.lit (.bool false)], args := [d1, d2] }
  | _ => none }
def AdmitFitsWrongFalsely : Prop := admitFitsRow.holds Try.pinned (OpenSpec.ofChange admitFitsWrong)

/-- 'floodgatelaw08.AdmitHolds': WHATEVER THE INPUT: true; the input reads as it did. -/
def admitHoldsSpec : ChangeSpec := { name := "admitHolds", fn := fun _ => fun
  | [d1, d2, d3] => { results := [.lit (.bool true)], args := [d1, d2, d3] }
  | _ => none }
def admitHoldsRow : OpenClaim := { program := "ytpabidiggehmnaa", sum := "6b964fb6765f734a2e4c69aa4a658abb565e9a8d7dc663a93a8c257677b48f6d", func := "floodgate/floodgatelaw08.AdmitHolds", spec := "admitHolds", unfollowed := true, recurses := true, apart := false }
def AdmitHoldsSaid : Prop := admitHoldsRow.holds Try.pinned (OpenSpec.ofChange admitHoldsSpec)

/-- ITS FALSE NEIGHBOUR: 'it returns false'. Refute it at one input. -/
def admitHoldsWrong : ChangeSpec := { name := "admitHolds", fn := fun _ => fun
  | [d1, d2, d3] => { results := [.lit (.bool false)], args := [d1, d2, d3] }
  | _ => none }
def AdmitHoldsWrongFalsely : Prop := admitHoldsRow.holds Try.pinned (OpenSpec.ofChange admitHoldsWrong)

/-- 'floodgatelaw08.AdmitLess': WHATEVER THE INPUT: true; the input reads as it did. -/
def admitLessSpec : ChangeSpec := { name := "admitLess", fn := fun _ => fun
  | [d1, d2, d3] => { results := [.lit (.bool true)], args := [d1, d2, d3] }
  | _ => none }
def admitLessRow : OpenClaim := { program := "ytpabidiggehmnaa", sum := "6b964fb6765f734a2e4c69aa4a658abb565e9a8d7dc663a93a8c257677b48f6d", func := "floodgate/floodgatelaw08.AdmitLess", spec := "admitLess", unfollowed := true, recurses := true, apart := false }
def AdmitLessSaid : Prop := admitLessRow.holds Try.pinned (OpenSpec.ofChange admitLessSpec)

/-- ITS FALSE NEIGHBOUR: 'it returns false'. Refute it at one input. -/
def admitLessWrong : ChangeSpec := { name := "admitLess", fn := fun _ => fun
  | [d1, d2, d3] => { results := [.lit (.bool false)], args := [d1, d2, d3] }
  | _ => none }
def AdmitLessWrongFalsely : Prop := admitLessRow.holds Try.pinned (OpenSpec.ofChange admitLessWrong)

/-- 'floodgatelaw08.AdmitRoom': WHATEVER THE INPUT: true; the input reads as it did. -/
def admitRoomSpec : ChangeSpec := { name := "admitRoom", fn := fun _ => fun
  | [d1, d2] => { results := [.lit (.bool true)], args := [d1, d2] }
  | _ => none }
def admitRoomRow : OpenClaim := { program := "ytpabidiggehmnaa", sum := "6b964fb6765f734a2e4c69aa4a658abb565e9a8d7dc663a93a8c257677b48f6d", func := "floodgate/floodgatelaw08.AdmitRoom", spec := "admitRoom", unfollowed := true, recurses := true, apart := false }
def AdmitRoomSaid : Prop := admitRoomRow.holds Try.pinned (OpenSpec.ofChange admitRoomSpec)

/-- ITS FALSE NEIGHBOUR: 'it returns false'. Refute it at one input. -/
def admitRoomWrong : ChangeSpec := { name := "admitRoom", fn := fun _ => fun
  | [d1, d2] => { results := [.lit (.bool false)], args := [d1, d2] }
  | _ => none }
def AdmitRoomWrongFalsely : Prop := admitRoomRow.holds Try.pinned (OpenSpec.ofChange admitRoomWrong)

/- THE SECOND FORM. 'bulk': how many values and letters a reading holds, each counted each time it is reached (what is shared counts as often as it is met; a slice's spare places count too). A statement '..UptoSaid' is the law's where the arguments, and the package variables that the reading takes, are together of bulk at most 1048576: NARROWER than '..Said'. Prove '..Said' where nothing that the law and all that it calls make is longer than what came in: it says more and counts as full. Else prove '..UptoSaid'. A law counts once. -/
mutual
def uptoBulk {H : Type} : DataW H → Nat
  | .lit (.string bytes) => bytes.length + 1
  | .lit _ => 1
  | .nil => 1
  | .ptr d => uptoBulk d + 1
  | .slice elems spare => uptoBulkAll elems + uptoBulkAll spare + 1
  | .agg parts => uptoBulkAll parts + 1
  | .iface _ d => uptoBulk d + 1
  | .map entries => uptoBulkEntries entries + 1
  | .held _ => 1
def uptoBulkAll {H : Type} : List (DataW H) → Nat
  | [] => 0
  | d :: r => uptoBulk d + uptoBulkAll r
def uptoBulkEntries {H : Type} : List (Lit × DataW H) → Nat
  | [] => 0
  | x :: r => uptoBulkEntry x + uptoBulkEntries r
def uptoBulkEntry {H : Type} : Lit × DataW H → Nat
  | (.string bytes, d) => bytes.length + uptoBulk d + 1
  | (_, d) => uptoBulk d + 1
 end
def uptoSmall : (H : Type) → List (DataW H) → Bool := fun _ ds => decide (uptoBulkAll ds ≤ 1048576)
def OpenSpec.upto (s : _root_.Go.ChangeSpec) : _root_.Go.OpenSpec := { _root_.Go.OpenSpec.ofChange s with cond := some uptoSmall }

/-- 'floodgatelaw07.SumServes', WHERE WHAT IT READS IS OF BULK AT MOST 1048576: true; the input reads as it did. -/
def sumServesUptoRow : OpenClaim := { program := "ytpabidiggehmnaa", sum := "6b964fb6765f734a2e4c69aa4a658abb565e9a8d7dc663a93a8c257677b48f6d", func := "floodgate/floodgatelaw07.SumServes", spec := "sumServes", unfollowed := true, recurses := true, apart := false, narrowed := true }
def SumServesUptoSaid : Prop := sumServesUptoRow.holds Try.pinned (OpenSpec.upto sumServesSpec)

/-- 'floodgatelaw07.SumKnees', WHERE WHAT IT READS IS OF BULK AT MOST 1048576: true; the input reads as it did. -/
def sumKneesUptoRow : OpenClaim := { program := "ytpabidiggehmnaa", sum := "6b964fb6765f734a2e4c69aa4a658abb565e9a8d7dc663a93a8c257677b48f6d", func := "floodgate/floodgatelaw07.SumKnees", spec := "sumKnees", unfollowed := true, recurses := true, apart := false, narrowed := true }
def SumKneesUptoSaid : Prop := sumKneesUptoRow.holds Try.pinned (OpenSpec.upto sumKneesSpec)

/-- 'floodgatelaw07.SumStraight', WHERE WHAT IT READS IS OF BULK AT MOST 1048576: true; the input reads as it did. -/
def sumStraightUptoRow : OpenClaim := { program := "ytpabidiggehmnaa", sum := "6b964fb6765f734a2e4c69aa4a658abb565e9a8d7dc663a93a8c257677b48f6d", func := "floodgate/floodgatelaw07.SumStraight", spec := "sumStraight", unfollowed := true, recurses := true, apart := false, narrowed := true }
def SumStraightUptoSaid : Prop := sumStraightUptoRow.holds Try.pinned (OpenSpec.upto sumStraightSpec)

/-- 'floodgatelaw07.SumSteep', WHERE WHAT IT READS IS OF BULK AT MOST 1048576: true; the input reads as it did. -/
def sumSteepUptoRow : OpenClaim := { program := "ytpabidiggehmnaa", sum := "6b964fb6765f734a2e4c69aa4a658abb565e9a8d7dc663a93a8c257677b48f6d", func := "floodgate/floodgatelaw07.SumSteep", spec := "sumSteep", unfollowed := true, recurses := true, apart := false, narrowed := true }
def SumSteepUptoSaid : Prop := sumSteepUptoRow.holds Try.pinned (OpenSpec.upto sumSteepSpec)

/-- 'floodgatelaw08.AdmitFits', WHERE WHAT IT READS IS OF BULK AT MOST 1048576: true; the input reads as it did. -/
def admitFitsUptoRow : OpenClaim := { program := "ytpabidiggehmnaa", sum := "6b964fb6765f734a2e4c69aa4a658abb565e9a8d7dc663a93a8c257677b48f6d", func := "floodgate/floodgatelaw08.AdmitFits", spec := "admitFits", unfollowed := true, recurses := true, apart := false, narrowed := true }
def AdmitFitsUptoSaid : Prop := admitFitsUptoRow.holds Try.pinned (OpenSpec.upto admitFitsSpec)

/-- 'floodgatelaw08.AdmitHolds', WHERE WHAT IT READS IS OF BULK AT MOST 1048576: true; the input reads as it did. -/
def admitHoldsUptoRow : OpenClaim := { program := "ytpabidiggehmnaa", sum := "6b964fb6765f734a2e4c69aa4a658abb565e9a8d7dc663a93a8c257677b48f6d", func := "floodgate/floodgatelaw08.AdmitHolds", spec := "admitHolds", unfollowed := true, recurses := true, apart := false, narrowed := true }
def AdmitHoldsUptoSaid : Prop := admitHoldsUptoRow.holds Try.pinned (OpenSpec.upto admitHoldsSpec)

/-- 'floodgatelaw08.AdmitLess', WHERE WHAT IT READS IS OF BULK AT MOST 1048576: true; the input reads as it did. -/
def admitLessUptoRow : OpenClaim := { program := "ytpabidiggehmnaa", sum := "6b964fb6765f734a2e4c69aa4a658abb565e9a8d7dc663a93a8c257677b48f6d", func := "floodgate/floodgatelaw08.AdmitLess", spec := "admitLess", unfollowed := true, recurses := true, apart := false, narrowed := true }
def AdmitLessUptoSaid : Prop := admitLessUptoRow.holds Try.pinned (OpenSpec.upto admitLessSpec)

/-- 'floodgatelaw08.AdmitRoom', WHERE WHAT IT READS IS OF BULK AT MOST 1048576: true; the input reads as it did. -/
def admitRoomUptoRow : OpenClaim := { program := "ytpabidiggehmnaa", sum := "6b964fb6765f734a2e4c69aa4a658abb565e9a8d7dc663a93a8c257677b48f6d", func := "floodgate/floodgatelaw08.AdmitRoom", spec := "admitRoom", unfollowed := true, recurses := true, apart := false, narrowed := true }
def AdmitRoomUptoSaid : Prop := admitRoomUptoRow.holds Try.pinned (OpenSpec.upto admitRoomSpec)

end Rows
end Go.Proofs.Ytpabidiggehmnaa
