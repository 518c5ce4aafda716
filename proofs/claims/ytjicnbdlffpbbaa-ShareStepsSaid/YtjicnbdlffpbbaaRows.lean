/-
  No cell of these rows narrows 'for every input' (looked for: loops, veiled, ifaces, maps, wideKeys, modest, calm, conditions, laid).
  DERIVED. THE GIVEN ROWS OF THIS SEAT. 12 by the template 'for every input the law returns true; each argument reads behind the call as it read before'; 0 by the template 'total and deterministic' (their statements: YtjicnbdlffpbbaaTotals.lean).
  GIVEN WITH THE SEED: the statements are not yours to turn. If you find one false, say at which input.
  Laid BY PROGRAM, IN A SANDBOX (cutbox-rows.mjs): the forced cells as the released guide's own fill.sh prints them over the translation 962c9c43c4b4730b… (all of the seat's roots in one cut). By AI agents, Wed Nov 11 2026. No macro, syntax, notation, axiom, sorry.
-/
import Derived.Test.YtjicnbdlffpbbaaChecked
import GoSem.Claim
import GoSem.ClaimJoined
import GoSem.ClaimMapViews
import Derived.JoinedTies
import Derived.KernelRfl
namespace Go.Proofs.Ytjicnbdlffpbbaa
/- THE CELL 'sum', in the pinned program and in every row, IS THE sha256 OF THE DUMP (.gsa) THAT YtjicnbdlffpbbaaProg.lean LOADS. Nothing in Lean hashes anything: it is a label: what it is worth is what the hold of that sum in a sandbox is worth. -/
noncomputable def Try.pinned : Pinned := { name := "ytjicnbdlffpbbaa", sum := "962c9c43c4b4730b55196ec56aaab9e50721d13a9239898a0d27aaad35572149", checked := Try.checked }
namespace Rows
def none {H : Type} : Left H := { results := [], args := [] }

/-- 'floodgatelaw06.LinesTells': WHATEVER THE INPUT: true; the input reads as it did. -/
def linesTellsSpec : ChangeSpec := { name := "linesTells", fn := fun _ => fun
  | [d1, d2, d3] => { results := [.lit (.bool true)], args := [d1, d2, d3] }
  | _ => none }
def linesTellsRow : OpenClaim := { program := "ytjicnbdlffpbbaa", sum := "962c9c43c4b4730b55196ec56aaab9e50721d13a9239898a0d27aaad35572149", func := "floodgate/floodgatelaw06.LinesTells", spec := "linesTells", apart := false }
def LinesTellsSaid : Prop := linesTellsRow.holds Try.pinned (OpenSpec.ofChange linesTellsSpec)

/-- ITS FALSE NEIGHBOUR: 'it returns false'. Refute it at one input. -/
def linesTellsWrong : ChangeSpec := { name := "linesTells", fn := fun _ => fun
  | [d1, d2, d3] => { results := [.lit (.bool false)], args := [d1, d2, d3] }
  | _ => none }
def LinesTellsWrongFalsely : Prop := linesTellsRow.holds Try.pinned (OpenSpec.ofChange linesTellsWrong)

/-- 'floodgatelaw06.LinesMeet': WHATEVER THE INPUT: true; the input reads as it did. -/
def linesMeetSpec : ChangeSpec := { name := "linesMeet", fn := fun _ => fun
  | [d1, d2, d3] => { results := [.lit (.bool true)], args := [d1, d2, d3] }
  | _ => none }
def linesMeetRow : OpenClaim := { program := "ytjicnbdlffpbbaa", sum := "962c9c43c4b4730b55196ec56aaab9e50721d13a9239898a0d27aaad35572149", func := "floodgate/floodgatelaw06.LinesMeet", spec := "linesMeet", apart := false }
def LinesMeetSaid : Prop := linesMeetRow.holds Try.pinned (OpenSpec.ofChange linesMeetSpec)

/-- ITS FALSE NEIGHBOUR: 'it returns false'. Refute it at one input. -/
def linesMeetWrong : ChangeSpec := { name := "linesMeet", fn := fun _ => fun
  | [d1, d2, d3] => { results := [.lit (.bool false)], args := [d1, d2, d3] }
  | _ => none }
def LinesMeetWrongFalsely : Prop := linesMeetRow.holds Try.pinned (OpenSpec.ofChange linesMeetWrong)

/-- 'floodgatelaw06.LinesEligible': WHATEVER THE INPUT: true; the input reads as it did. -/
def linesEligibleSpec : ChangeSpec := { name := "linesEligible", fn := fun _ => fun
  | [d1, d2, d3] => { results := [.lit (.bool true)], args := [d1, d2, d3] }
  | _ => none }
def linesEligibleRow : OpenClaim := { program := "ytjicnbdlffpbbaa", sum := "962c9c43c4b4730b55196ec56aaab9e50721d13a9239898a0d27aaad35572149", func := "floodgate/floodgatelaw06.LinesEligible", spec := "linesEligible", apart := false }
def LinesEligibleSaid : Prop := linesEligibleRow.holds Try.pinned (OpenSpec.ofChange linesEligibleSpec)

/-- ITS FALSE NEIGHBOUR: 'it returns false'. Refute it at one input. -/
def linesEligibleWrong : ChangeSpec := { name := "linesEligible", fn := fun _ => fun
  | [d1, d2, d3] => { results := [.lit (.bool false)], args := [d1, d2, d3] }
  | _ => none }
def LinesEligibleWrongFalsely : Prop := linesEligibleRow.holds Try.pinned (OpenSpec.ofChange linesEligibleWrong)

/-- 'floodgatelaw20.RealTells': WHATEVER THE INPUT: true; the input reads as it did. -/
def realTellsSpec : ChangeSpec := { name := "realTells", fn := fun _ => fun
  | [d1, d2, d3] => { results := [.lit (.bool true)], args := [d1, d2, d3] }
  | _ => none }
def realTellsRow : OpenClaim := { program := "ytjicnbdlffpbbaa", sum := "962c9c43c4b4730b55196ec56aaab9e50721d13a9239898a0d27aaad35572149", func := "floodgate/floodgatelaw20.RealTells", spec := "realTells", unfollowed := true, recurses := true, apart := false }
def RealTellsSaid : Prop := realTellsRow.holds Try.pinned (OpenSpec.ofChange realTellsSpec)

/-- ITS FALSE NEIGHBOUR: 'it returns false'. Refute it at one input. -/
def realTellsWrong : ChangeSpec := { name := "realTells", fn := fun _ => fun
  | [d1, d2, d3] => { results := [.lit (.bool false)], args := [d1, d2, d3] }
  | _ => none }
def RealTellsWrongFalsely : Prop := realTellsRow.holds Try.pinned (OpenSpec.ofChange realTellsWrong)

/-- 'floodgatelaw20.RealEligible': WHATEVER THE INPUT: true; the input reads as it did. -/
def realEligibleSpec : ChangeSpec := { name := "realEligible", fn := fun _ => fun
  | [d1, d2, d3] => { results := [.lit (.bool true)], args := [d1, d2, d3] }
  | _ => none }
def realEligibleRow : OpenClaim := { program := "ytjicnbdlffpbbaa", sum := "962c9c43c4b4730b55196ec56aaab9e50721d13a9239898a0d27aaad35572149", func := "floodgate/floodgatelaw20.RealEligible", spec := "realEligible", unfollowed := true, recurses := true, apart := false }
def RealEligibleSaid : Prop := realEligibleRow.holds Try.pinned (OpenSpec.ofChange realEligibleSpec)

/-- ITS FALSE NEIGHBOUR: 'it returns false'. Refute it at one input. -/
def realEligibleWrong : ChangeSpec := { name := "realEligible", fn := fun _ => fun
  | [d1, d2, d3] => { results := [.lit (.bool false)], args := [d1, d2, d3] }
  | _ => none }
def RealEligibleWrongFalsely : Prop := realEligibleRow.holds Try.pinned (OpenSpec.ofChange realEligibleWrong)

/-- 'floodgatelaw20.RealLeast': WHATEVER THE INPUT: true; the input reads as it did. -/
def realLeastSpec : ChangeSpec := { name := "realLeast", fn := fun _ => fun
  | [d1, d2, d3] => { results := [.lit (.bool true)], args := [d1, d2, d3] }
  | _ => none }
def realLeastRow : OpenClaim := { program := "ytjicnbdlffpbbaa", sum := "962c9c43c4b4730b55196ec56aaab9e50721d13a9239898a0d27aaad35572149", func := "floodgate/floodgatelaw20.RealLeast", spec := "realLeast", unfollowed := true, recurses := true, apart := false }
def RealLeastSaid : Prop := realLeastRow.holds Try.pinned (OpenSpec.ofChange realLeastSpec)

/-- ITS FALSE NEIGHBOUR: 'it returns false'. Refute it at one input. -/
def realLeastWrong : ChangeSpec := { name := "realLeast", fn := fun _ => fun
  | [d1, d2, d3] => { results := [.lit (.bool false)], args := [d1, d2, d3] }
  | _ => none }
def RealLeastWrongFalsely : Prop := realLeastRow.holds Try.pinned (OpenSpec.ofChange realLeastWrong)

/-- 'floodgatelaw20.RealSince': WHATEVER THE INPUT: true; the input reads as it did. -/
def realSinceSpec : ChangeSpec := { name := "realSince", fn := fun _ => fun
  | [d1, d2, d3] => { results := [.lit (.bool true)], args := [d1, d2, d3] }
  | _ => none }
def realSinceRow : OpenClaim := { program := "ytjicnbdlffpbbaa", sum := "962c9c43c4b4730b55196ec56aaab9e50721d13a9239898a0d27aaad35572149", func := "floodgate/floodgatelaw20.RealSince", spec := "realSince", unfollowed := true, recurses := true, apart := false }
def RealSinceSaid : Prop := realSinceRow.holds Try.pinned (OpenSpec.ofChange realSinceSpec)

/-- ITS FALSE NEIGHBOUR: 'it returns false'. Refute it at one input. -/
def realSinceWrong : ChangeSpec := { name := "realSince", fn := fun _ => fun
  | [d1, d2, d3] => { results := [.lit (.bool false)], args := [d1, d2, d3] }
  | _ => none }
def RealSinceWrongFalsely : Prop := realSinceRow.holds Try.pinned (OpenSpec.ofChange realSinceWrong)

/-- 'floodgatelaw21.ShareTells': WHATEVER THE INPUT: true; the input reads as it did. -/
def shareTellsSpec : ChangeSpec := { name := "shareTells", fn := fun _ => fun
  | [d1, d2, d3] => { results := [.lit (.bool true)], args := [d1, d2, d3] }
  | _ => none }
def shareTellsRow : OpenClaim := { program := "ytjicnbdlffpbbaa", sum := "962c9c43c4b4730b55196ec56aaab9e50721d13a9239898a0d27aaad35572149", func := "floodgate/floodgatelaw21.ShareTells", spec := "shareTells", apart := false }
def ShareTellsSaid : Prop := shareTellsRow.holds Try.pinned (OpenSpec.ofChange shareTellsSpec)

/-- ITS FALSE NEIGHBOUR: 'it returns false'. Refute it at one input. -/
def shareTellsWrong : ChangeSpec := { name := "shareTells", fn := fun _ => fun
  | [d1, d2, d3] => { results := [.lit (.bool false)], args := [d1, d2, d3] }
  | _ => none }
def ShareTellsWrongFalsely : Prop := shareTellsRow.holds Try.pinned (OpenSpec.ofChange shareTellsWrong)

/-- 'floodgatelaw21.ShareSteps': WHATEVER THE INPUT: true; the input reads as it did. -/
def shareStepsSpec : ChangeSpec := { name := "shareSteps", fn := fun _ => fun
  | [d1, d2, d3] => { results := [.lit (.bool true)], args := [d1, d2, d3] }
  | _ => none }
def shareStepsRow : OpenClaim := { program := "ytjicnbdlffpbbaa", sum := "962c9c43c4b4730b55196ec56aaab9e50721d13a9239898a0d27aaad35572149", func := "floodgate/floodgatelaw21.ShareSteps", spec := "shareSteps", apart := false }
def ShareStepsSaid : Prop := shareStepsRow.holds Try.pinned (OpenSpec.ofChange shareStepsSpec)

/-- ITS FALSE NEIGHBOUR: 'it returns false'. Refute it at one input. -/
def shareStepsWrong : ChangeSpec := { name := "shareSteps", fn := fun _ => fun
  | [d1, d2, d3] => { results := [.lit (.bool false)], args := [d1, d2, d3] }
  | _ => none }
def ShareStepsWrongFalsely : Prop := shareStepsRow.holds Try.pinned (OpenSpec.ofChange shareStepsWrong)

/-- 'floodgatelaw22.UpperTells': WHATEVER THE INPUT: true; the input reads as it did. -/
def upperTellsSpec : ChangeSpec := { name := "upperTells", fn := fun _ => fun
  | [d1, d2, d3] => { results := [.lit (.bool true)], args := [d1, d2, d3] }
  | _ => none }
def upperTellsRow : OpenClaim := { program := "ytjicnbdlffpbbaa", sum := "962c9c43c4b4730b55196ec56aaab9e50721d13a9239898a0d27aaad35572149", func := "floodgate/floodgatelaw22.UpperTells", spec := "upperTells", apart := false }
def UpperTellsSaid : Prop := upperTellsRow.holds Try.pinned (OpenSpec.ofChange upperTellsSpec)

/-- ITS FALSE NEIGHBOUR: 'it returns false'. Refute it at one input. -/
def upperTellsWrong : ChangeSpec := { name := "upperTells", fn := fun _ => fun
  | [d1, d2, d3] => { results := [.lit (.bool false)], args := [d1, d2, d3] }
  | _ => none }
def UpperTellsWrongFalsely : Prop := upperTellsRow.holds Try.pinned (OpenSpec.ofChange upperTellsWrong)

/-- 'floodgatelaw22.UpperMost': WHATEVER THE INPUT: true; the input reads as it did. -/
def upperMostSpec : ChangeSpec := { name := "upperMost", fn := fun _ => fun
  | [d1, d2, d3] => { results := [.lit (.bool true)], args := [d1, d2, d3] }
  | _ => none }
def upperMostRow : OpenClaim := { program := "ytjicnbdlffpbbaa", sum := "962c9c43c4b4730b55196ec56aaab9e50721d13a9239898a0d27aaad35572149", func := "floodgate/floodgatelaw22.UpperMost", spec := "upperMost", apart := false }
def UpperMostSaid : Prop := upperMostRow.holds Try.pinned (OpenSpec.ofChange upperMostSpec)

/-- ITS FALSE NEIGHBOUR: 'it returns false'. Refute it at one input. -/
def upperMostWrong : ChangeSpec := { name := "upperMost", fn := fun _ => fun
  | [d1, d2, d3] => { results := [.lit (.bool false)], args := [d1, d2, d3] }
  | _ => none }
def UpperMostWrongFalsely : Prop := upperMostRow.holds Try.pinned (OpenSpec.ofChange upperMostWrong)

/-- 'floodgatelaw22.UpperBounds': WHATEVER THE INPUT: true; the input reads as it did. -/
def upperBoundsSpec : ChangeSpec := { name := "upperBounds", fn := fun _ => fun
  | [d1, d2, d3] => { results := [.lit (.bool true)], args := [d1, d2, d3] }
  | _ => none }
def upperBoundsRow : OpenClaim := { program := "ytjicnbdlffpbbaa", sum := "962c9c43c4b4730b55196ec56aaab9e50721d13a9239898a0d27aaad35572149", func := "floodgate/floodgatelaw22.UpperBounds", spec := "upperBounds", apart := false }
def UpperBoundsSaid : Prop := upperBoundsRow.holds Try.pinned (OpenSpec.ofChange upperBoundsSpec)

/-- ITS FALSE NEIGHBOUR: 'it returns false'. Refute it at one input. -/
def upperBoundsWrong : ChangeSpec := { name := "upperBounds", fn := fun _ => fun
  | [d1, d2, d3] => { results := [.lit (.bool false)], args := [d1, d2, d3] }
  | _ => none }
def UpperBoundsWrongFalsely : Prop := upperBoundsRow.holds Try.pinned (OpenSpec.ofChange upperBoundsWrong)

/- THE SECOND FORM. 'bulk': how many values and letters a reading holds, each counted each time it is reached (what is shared counts as often as it is met; a slice's spare places count too). A statement '..UptoSaid' is the law's where the arguments, and the package variables that the reading takes, are together of bulk at most 1048576: NARROWER than '..Said'. Prove '..Said' where nothing that the law and all that it calls make is longer than what came in: it says more and counts as full. Else prove '..UptoSaid'. A law counts once. -/
mutual
def uptoBulk {H : Type} : DataW H → Nat
  | .lit (.string bytes) => bytes.length + 1
  | .lit _ => 1
  | .nil => 1
  | .ptr d => uptoBulk d + 1
  | .slice elems spare => uptoBulkAll elems + uptoBulkAll spare + 1
  | .agg parts => uptoBulkAll parts + 1
  | .iface _ d => uptoBulk d + 1
  | .map entries => uptoBulkEntries entries + 1
  | .held _ => 1
def uptoBulkAll {H : Type} : List (DataW H) → Nat
  | [] => 0
  | d :: r => uptoBulk d + uptoBulkAll r
def uptoBulkEntries {H : Type} : List (Lit × DataW H) → Nat
  | [] => 0
  | x :: r => uptoBulkEntry x + uptoBulkEntries r
def uptoBulkEntry {H : Type} : Lit × DataW H → Nat
  | (.string bytes, d) => bytes.length + uptoBulk d + 1
  | (_, d) => uptoBulk d + 1
 end
def uptoSmall : (H : Type) → List (DataW H) → Bool := fun _ ds => decide (uptoBulkAll ds ≤ 1048576)
def OpenSpec.upto (s : _root_.Go.ChangeSpec) : _root_.Go.OpenSpec := { _root_.Go.OpenSpec.ofChange s with cond := some uptoSmall }

/-- 'floodgatelaw06.LinesTells', WHERE WHAT IT READS IS OF BULK AT MOST 1048576: true; the input reads as it did. -/
def linesTellsUptoRow : OpenClaim := { program := "ytjicnbdlffpbbaa", sum := "962c9c43c4b4730b55196ec56aaab9e50721d13a9239898a0d27aaad35572149", func := "floodgate/floodgatelaw06.LinesTells", spec := "linesTells", apart := false, narrowed := true }
def LinesTellsUptoSaid : Prop := linesTellsUptoRow.holds Try.pinned (OpenSpec.upto linesTellsSpec)

/-- 'floodgatelaw06.LinesMeet', WHERE WHAT IT READS IS OF BULK AT MOST 1048576: true; the input reads as it did. -/
def linesMeetUptoRow : OpenClaim := { program := "ytjicnbdlffpbbaa", sum := "962c9c43c4b4730b55196ec56aaab9e50721d13a9239898a0d27aaad35572149", func := "floodgate/floodgatelaw06.LinesMeet", spec := "linesMeet", apart := false, narrowed := true }
def LinesMeetUptoSaid : Prop := linesMeetUptoRow.holds Try.pinned (OpenSpec.upto linesMeetSpec)

/-- 'floodgatelaw06.LinesEligible', WHERE WHAT IT READS IS OF BULK AT MOST 1048576: true; the input reads as it did. -/
def linesEligibleUptoRow : OpenClaim := { program := "ytjicnbdlffpbbaa", sum := "962c9c43c4b4730b55196ec56aaab9e50721d13a9239898a0d27aaad35572149", func := "floodgate/floodgatelaw06.LinesEligible", spec := "linesEligible", apart := false, narrowed := true }
def LinesEligibleUptoSaid : Prop := linesEligibleUptoRow.holds Try.pinned (OpenSpec.upto linesEligibleSpec)

/-- 'floodgatelaw20.RealTells', WHERE WHAT IT READS IS OF BULK AT MOST 1048576: true; the input reads as it did. -/
def realTellsUptoRow : OpenClaim := { program := "ytjicnbdlffpbbaa", sum := "962c9c43c4b4730b55196ec56aaab9e50721d13a9239898a0d27aaad35572149", func := "floodgate/floodgatelaw20.RealTells", spec := "realTells", unfollowed := true, recurses := true, apart := false, narrowed := true }
def RealTellsUptoSaid : Prop := realTellsUptoRow.holds Try.pinned (OpenSpec.upto realTellsSpec)

/-- 'floodgatelaw20.RealEligible', WHERE WHAT IT READS IS OF BULK AT MOST 1048576: true; the input reads as it did. -/
def realEligibleUptoRow : OpenClaim := { program := "ytjicnbdlffpbbaa", sum := "962c9c43c4b4730b55196ec56aaab9e50721d13a9239898a0d27aaad35572149", func := "floodgate/floodgatelaw20.RealEligible", spec := "realEligible", unfollowed := true, recurses := true, apart := false, narrowed := true }
def RealEligibleUptoSaid : Prop := realEligibleUptoRow.holds Try.pinned (OpenSpec.upto realEligibleSpec)

/-- 'floodgatelaw20.RealLeast', WHERE WHAT IT READS IS OF BULK AT MOST 1048576: true; the input reads as it did. -/
def realLeastUptoRow : OpenClaim := { program := "ytjicnbdlffpbbaa", sum := "962c9c43c4b4730b55196ec56aaab9e50721d13a9239898a0d27aaad35572149", func := "floodgate/floodgatelaw20.RealLeast", spec := "realLeast", unfollowed := true, recurses := true, apart := false, narrowed := true }
def RealLeastUptoSaid : Prop := realLeastUptoRow.holds Try.pinned (OpenSpec.upto realLeastSpec)

/-- 'floodgatelaw20.RealSince', WHERE WHAT IT READS IS OF BULK AT MOST 1048576: true; the input reads as it did. -/
def realSinceUptoRow : OpenClaim := { program := "ytjicnbdlffpbbaa", sum := "962c9c43c4b4730b55196ec56aaab9e50721d13a9239898a0d27aaad35572149", func := "floodgate/floodgatelaw20.RealSince", spec := "realSince", unfollowed := true, recurses := true, apart := false, narrowed := true }
def RealSinceUptoSaid : Prop := realSinceUptoRow.holds Try.pinned (OpenSpec.upto realSinceSpec)

/-- 'floodgatelaw21.ShareTells', WHERE WHAT IT READS IS OF BULK AT MOST 1048576: true; the input reads as it did. -/
def shareTellsUptoRow : OpenClaim := { program := "ytjicnbdlffpbbaa", sum := "962c9c43c4b4730b55196ec56aaab9e50721d13a9239898a0d27aaad35572149", func := "floodgate/floodgatelaw21.ShareTells", spec := "shareTells", apart := false, narrowed := true }
def ShareTellsUptoSaid : Prop := shareTellsUptoRow.holds Try.pinned (OpenSpec.upto shareTellsSpec)

/-- 'floodgatelaw21.ShareSteps', WHERE WHAT IT READS IS OF BULK AT MOST 1048576: true; the input reads as it did. -/
def shareStepsUptoRow : OpenClaim := { program := "ytjicnbdlffpbbaa", sum := "962c9c43c4b4730b55196ec56aaab9e50721d13a9239898a0d27aaad35572149", func := "floodgate/floodgatelaw21.ShareSteps", spec := "shareSteps", apart := false, narrowed := true }
def ShareStepsUptoSaid : Prop := shareStepsUptoRow.holds Try.pinned (OpenSpec.upto shareStepsSpec)

/-- 'floodgatelaw22.UpperTells', WHERE WHAT IT READS IS OF BULK AT MOST 1048576: true; the input reads as it did. -/
def upperTellsUptoRow : OpenClaim := { program := "ytjicnbdlffpbbaa", sum := "962c9c43c4b4730b55196ec56aaab9e50721d13a9239898a0d27aaad35572149", func := "floodgate/floodgatelaw22.UpperTells", spec := "upperTells", apart := false, narrowed := true }
def UpperTellsUptoSaid : Prop := upperTellsUptoRow.holds Try.pinned (OpenSpec.upto upperTellsSpec)

/-- 'floodgatelaw22.UpperMost', WHERE WHAT IT READS IS OF BULK AT MOST 1048576: true; the input reads as it did. -/
def upperMostUptoRow : OpenClaim := { program := "ytjicnbdlffpbbaa", sum := "962c9c43c4b4730b55196ec56aaab9e50721d13a9239898a0d27aaad35572149", func := "floodgate/floodgatelaw22.UpperMost", spec := "upperMost", apart := false, narrowed := true }
def UpperMostUptoSaid : Prop := upperMostUptoRow.holds Try.pinned (OpenSpec.upto upperMostSpec)

/-- 'floodgatelaw22.UpperBounds', WHERE WHAT IT READS IS OF BULK AT MOST 1048576: true; the input reads as it did. -/
def upperBoundsUptoRow : OpenClaim := { program := "ytjicnbdlffpbbaa", sum := "962c9c43c4b4730b55196ec56aaab9e50721d13a9239898a0d27aaad35572149", func := "floodgate/floodgatelaw22.UpperBounds", spec := "upperBounds", apart := false, narrowed := true }
def UpperBoundsUptoSaid : Prop := upperBoundsUptoRow.holds Try.pinned (OpenSpec.upto upperBoundsSpec)

end Rows
end Go.Proofs.Ytjicnbdlffpbbaa
