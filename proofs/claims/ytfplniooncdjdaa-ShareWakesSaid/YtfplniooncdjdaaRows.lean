/-
  No cell of these rows narrows 'for every input' (looked for: loops, veiled, ifaces, maps, wideKeys, modest, calm, conditions, laid).
  DERIVED. THE GIVEN ROWS OF THIS SEAT. 7 by the template 'for every input the law returns true; each argument reads behind the call as it read before'; 0 by the template 'total and deterministic' (their statements: YtfplniooncdjdaaTotals.lean).
  GIVEN WITH THE SEED: the statements are not yours to turn. If you find one false, say at which input.
  Laid BY PROGRAM, IN A SANDBOX (cutbox-rows.mjs): the forced cells as the released guide's own fill.sh prints them over the translation f092bde6de6d2cda… (all of the seat's roots in one cut). By AI agents, Wed Nov 11 2026. No macro, syntax, notation, axiom, sorry.
-/
import Derived.Test.YtfplniooncdjdaaChecked
import GoSem.Claim
import GoSem.ClaimJoined
import GoSem.ClaimMapViews
import Derived.JoinedTies
import Derived.KernelRfl
namespace Go.Proofs.Ytfplniooncdjdaa
/- THE CELL 'sum', in the pinned program and in every row, IS THE sha256 OF THE DUMP (.gsa) THAT YtfplniooncdjdaaProg.lean LOADS. Nothing in Lean hashes anything: it is a label: what it is worth is what the hold of that sum in a sandbox is worth. -/
noncomputable def Try.pinned : Pinned := { name := "ytfplniooncdjdaa", sum := "f092bde6de6d2cdaa63698db43045699eeb0bc8ad4bafeef7c044e24f855cb63", checked := Try.checked }
namespace Rows
def none {H : Type} : Left H := { results := [], args := [] }

/-- 'floodgatelaw21.ShareWakes': WHATEVER THE INPUT: true; the input reads as it did. -/
def shareWakesSpec : ChangeSpec := { name := "shareWakes", fn := fun _ => fun
  | [d1, d2, d3] => { results := [.lit (.bool true)], args := [d1, d2, d3] }
  | _ => none }
def shareWakesRow : OpenClaim := { program := "ytfplniooncdjdaa", sum := "f092bde6de6d2cdaa63698db43045699eeb0bc8ad4bafeef7c044e24f855cb63", func := "floodgate/floodgatelaw21.ShareWakes", spec := "shareWakes", apart := false }
def ShareWakesSaid : Prop := shareWakesRow.holds Try.pinned (OpenSpec.ofChange shareWakesSpec)

/-- ITS FALSE NEIGHBOUR: 'it returns false'. Refute it at one input. -/
def shareWakesWrong : ChangeSpec := { name := "shareWakes", fn := fun _ => fun
  | [d1, d2, d3] => { results := [.lit (.bool false)], args := [d1, d2, d3] }
  | _ => none }
def ShareWakesWrongFalsely : Prop := shareWakesRow.holds Try.pinned (OpenSpec.ofChange shareWakesWrong)

/-- 'floodgatelaw33.FairTells': WHATEVER THE INPUT: true; the input reads as it did. -/
def fairTellsSpec : ChangeSpec := { name := "fairTells", fn := fun _ => fun
  | [d1, d2, d3] => { results := [.lit (.bool true)], args := [d1, d2, d3] }
  | _ => none }
def fairTellsRow : OpenClaim := { program := "ytfplniooncdjdaa", sum := "f092bde6de6d2cdaa63698db43045699eeb0bc8ad4bafeef7c044e24f855cb63", func := "floodgate/floodgatelaw33.FairTells", spec := "fairTells", apart := false }
def FairTellsSaid : Prop := fairTellsRow.holds Try.pinned (OpenSpec.ofChange fairTellsSpec)

/-- ITS FALSE NEIGHBOUR: 'it returns false'. Refute it at one input. -/
def fairTellsWrong : ChangeSpec := { name := "fairTells", fn := fun _ => fun
  | [d1, d2, d3] => { results := [.lit (.bool false)], args := [d1, d2, d3] }
  | _ => none }
def FairTellsWrongFalsely : Prop := fairTellsRow.holds Try.pinned (OpenSpec.ofChange fairTellsWrong)

/-- 'floodgatelaw49.BehindTells': WHATEVER THE INPUT: true; the input reads as it did. -/
def behindTellsSpec : ChangeSpec := { name := "behindTells", fn := fun _ => fun
  | [d1, d2, d3] => { results := [.lit (.bool true)], args := [d1, d2, d3] }
  | _ => none }
def behindTellsRow : OpenClaim := { program := "ytfplniooncdjdaa", sum := "f092bde6de6d2cdaa63698db43045699eeb0bc8ad4bafeef7c044e24f855cb63", func := "floodgate/floodgatelaw49.BehindTells", spec := "behindTells", unfollowed := true, recurses := true, apart := false }
def BehindTellsSaid : Prop := behindTellsRow.holds Try.pinned (OpenSpec.ofChange behindTellsSpec)

/-- ITS FALSE NEIGHBOUR: 'it returns false'. Refute it at one input. -/
def behindTellsWrong : ChangeSpec := { name := "behindTells", fn := fun _ => fun
  | [d1, d2, d3] => { results := [.lit (.bool false)], args := [d1, d2, d3] }
  | _ => none }
def BehindTellsWrongFalsely : Prop := behindTellsRow.holds Try.pinned (OpenSpec.ofChange behindTellsWrong)

/-- 'floodgatelaw49.BehindLeast': WHATEVER THE INPUT: true; the input reads as it did. -/
def behindLeastSpec : ChangeSpec := { name := "behindLeast", fn := fun _ => fun
  | [d1, d2, d3] => { results := [.lit (.bool true)], args := [d1, d2, d3] }
  | _ => none }
def behindLeastRow : OpenClaim := { program := "ytfplniooncdjdaa", sum := "f092bde6de6d2cdaa63698db43045699eeb0bc8ad4bafeef7c044e24f855cb63", func := "floodgate/floodgatelaw49.BehindLeast", spec := "behindLeast", unfollowed := true, recurses := true, apart := false }
def BehindLeastSaid : Prop := behindLeastRow.holds Try.pinned (OpenSpec.ofChange behindLeastSpec)

/-- ITS FALSE NEIGHBOUR: 'it returns false'. Refute it at one input. -/
def behindLeastWrong : ChangeSpec := { name := "behindLeast", fn := fun _ => fun
  | [d1, d2, d3] => { results := [.lit (.bool false)], args := [d1, d2, d3] }
  | _ => none }
def BehindLeastWrongFalsely : Prop := behindLeastRow.holds Try.pinned (OpenSpec.ofChange behindLeastWrong)

/-- 'floodgatelaw48.ConformMore': WHATEVER THE INPUT: true; the input reads as it did. -/
def conformMoreSpec : ChangeSpec := { name := "conformMore", fn := fun _ => fun
  | [d1, d2, d3] => { results := [.lit (.bool true)], args := [d1, d2, d3] }
  | _ => none }
def conformMoreRow : OpenClaim := { program := "ytfplniooncdjdaa", sum := "f092bde6de6d2cdaa63698db43045699eeb0bc8ad4bafeef7c044e24f855cb63", func := "floodgate/floodgatelaw48.ConformMore", spec := "conformMore", unfollowed := true, recurses := true, apart := false }
def ConformMoreSaid : Prop := conformMoreRow.holds Try.pinned (OpenSpec.ofChange conformMoreSpec)

/-- ITS FALSE NEIGHBOUR: 'it returns false'. Refute it at one input. -/
def conformMoreWrong : ChangeSpec := { name := "conformMore", fn := fun _ => fun
  | [d1, d2, d3] => { results := [.lit (.bool false)], args := [d1, d2, d3] }
  | _ => none }
def ConformMoreWrongFalsely : Prop := conformMoreRow.holds Try.pinned (OpenSpec.ofChange conformMoreWrong)

/-- 'floodgatelaw48.ConformBursts': WHATEVER THE INPUT: true; the input reads as it did. -/
def conformBurstsSpec : ChangeSpec := { name := "conformBursts", fn := fun _ => fun
  | [d1, d2, d3] => { results := [.lit (.bool true)], args := [d1, d2, d3] }
  | _ => none }
def conformBurstsRow : OpenClaim := { program := "ytfplniooncdjdaa", sum := "f092bde6de6d2cdaa63698db43045699eeb0bc8ad4bafeef7c044e24f855cb63", func := "floodgate/floodgatelaw48.ConformBursts", spec := "conformBursts", unfollowed := true, recurses := true, apart := false }
def ConformBurstsSaid : Prop := conformBurstsRow.holds Try.pinned (OpenSpec.ofChange conformBurstsSpec)

/-- ITS FALSE NEIGHBOUR: 'it returns false'. Refute it at one input. -/
def conformBurstsWrong : ChangeSpec := { name := "conformBursts", fn := fun _ => fun
  | [d1, d2, d3] => { results := [.lit (.bool false)], args := [d1, d2, d3] }
  | _ => none }
def ConformBurstsWrongFalsely : Prop := conformBurstsRow.holds Try.pinned (OpenSpec.ofChange conformBurstsWrong)

/-- 'floodgatelaw48.ConformBound': WHATEVER THE INPUT: true; the input reads as it did. -/
def conformBoundSpec : ChangeSpec := { name := "conformBound", fn := fun _ => fun
  | [d1, d2, d3] => { results := [.lit (.bool true)], args := [d1, d2, d3] }
  | _ => none }
def conformBoundRow : OpenClaim := { program := "ytfplniooncdjdaa", sum := "f092bde6de6d2cdaa63698db43045699eeb0bc8ad4bafeef7c044e24f855cb63", func := "floodgate/floodgatelaw48.ConformBound", spec := "conformBound", unfollowed := true, recurses := true, apart := false }
def ConformBoundSaid : Prop := conformBoundRow.holds Try.pinned (OpenSpec.ofChange conformBoundSpec)

/-- ITS FALSE NEIGHBOUR: 'it returns false'. Refute it at one input. -/
def conformBoundWrong : ChangeSpec := { name := "conformBound", fn := fun _ => fun
  | [d1, d2, d3] => { results := [.lit (.bool false)], args := [d1, d2, d3] }
  | _ => none }
def ConformBoundWrongFalsely : Prop := conformBoundRow.holds Try.pinned (OpenSpec.ofChange conformBoundWrong)

/- THE SECOND FORM. 'bulk': how many values and letters a reading holds, each counted each time it is reached (what is shared counts as often as it is met; a slice's spare places count too). A statement '..UptoSaid' is the law's where the arguments, and the package variables that the reading takes, are together of bulk at most 1048576: NARROWER than '..Said'. Prove '..Said' where nothing that the law and all that it calls make is longer than what came in: it says more and counts as full. Else prove '..UptoSaid'. A law counts once. -/
mutual
def uptoBulk {H : Type} : DataW H → Nat
  | .lit (.string bytes) => bytes.length + 1
  | .lit _ => 1
  | .nil => 1
  | .ptr d => uptoBulk d + 1
  | .slice elems spare => uptoBulkAll elems + uptoBulkAll spare + 1
  | .agg parts => uptoBulkAll parts + 1
  | .iface _ d => uptoBulk d + 1
  | .map entries => uptoBulkEntries entries + 1
  | .held _ => 1
def uptoBulkAll {H : Type} : List (DataW H) → Nat
  | [] => 0
  | d :: r => uptoBulk d + uptoBulkAll r
def uptoBulkEntries {H : Type} : List (Lit × DataW H) → Nat
  | [] => 0
  | x :: r => uptoBulkEntry x + uptoBulkEntries r
def uptoBulkEntry {H : Type} : Lit × DataW H → Nat
  | (.string bytes, d) => bytes.length + uptoBulk d + 1
  | (_, d) => uptoBulk d + 1
 end
def uptoSmall : (H : Type) → List (DataW H) → Bool := fun _ ds => decide (uptoBulkAll ds ≤ 1048576)
def OpenSpec.upto (s : _root_.Go.ChangeSpec) : _root_.Go.OpenSpec := { _root_.Go.OpenSpec.ofChange s with cond := some uptoSmall }

/-- 'floodgatelaw21.ShareWakes', WHERE WHAT IT READS IS OF BULK AT MOST 1048576: true; the input reads as it did. -/
def shareWakesUptoRow : OpenClaim := { program := "ytfplniooncdjdaa", sum := "f092bde6de6d2cdaa63698db43045699eeb0bc8ad4bafeef7c044e24f855cb63", func := "floodgate/floodgatelaw21.ShareWakes", spec := "shareWakes", apart := false, narrowed := true }
def ShareWakesUptoSaid : Prop := shareWakesUptoRow.holds Try.pinned (OpenSpec.upto shareWakesSpec)

/-- 'floodgatelaw33.FairTells', WHERE WHAT IT READS IS OF BULK AT MOST 1048576: true; the input reads as it did. -/
def fairTellsUptoRow : OpenClaim := { program := "ytfplniooncdjdaa", sum := "f092bde6de6d2cdaa63698db43045699eeb0bc8ad4bafeef7c044e24f855cb63", func := "floodgate/floodgatelaw33.FairTells", spec := "fairTells", apart := false, narrowed := true }
def FairTellsUptoSaid : Prop := fairTellsUptoRow.holds Try.pinned (OpenSpec.upto fairTellsSpec)

/-- 'floodgatelaw49.BehindTells', WHERE WHAT IT READS IS OF BULK AT MOST 1048576: true; the input reads as it did. -/
def behindTellsUptoRow : OpenClaim := { program := "ytfplniooncdjdaa", sum := "f092bde6de6d2cdaa63698db43045699eeb0bc8ad4bafeef7c044e24f855cb63", func := "floodgate/floodgatelaw49.BehindTells", spec := "behindTells", unfollowed := true, recurses := true, apart := false, narrowed := true }
def BehindTellsUptoSaid : Prop := behindTellsUptoRow.holds Try.pinned (OpenSpec.upto behindTellsSpec)

/-- 'floodgatelaw49.BehindLeast', WHERE WHAT IT READS IS OF BULK AT MOST 1048576: true; the input reads as it did. -/
def behindLeastUptoRow : OpenClaim := { program := "ytfplniooncdjdaa", sum := "f092bde6de6d2cdaa63698db43045699eeb0bc8ad4bafeef7c044e24f855cb63", func := "floodgate/floodgatelaw49.BehindLeast", spec := "behindLeast", unfollowed := true, recurses := true, apart := false, narrowed := true }
def BehindLeastUptoSaid : Prop := behindLeastUptoRow.holds Try.pinned (OpenSpec.upto behindLeastSpec)

/-- 'floodgatelaw48.ConformMore', WHERE WHAT IT READS IS OF BULK AT MOST 1048576: true; the input reads as it did. -/
def conformMoreUptoRow : OpenClaim := { program := "ytfplniooncdjdaa", sum := "f092bde6de6d2cdaa63698db43045699eeb0bc8ad4bafeef7c044e24f855cb63", func := "floodgate/floodgatelaw48.ConformMore", spec := "conformMore", unfollowed := true, recurses := true, apart := false, narrowed := true }
def ConformMoreUptoSaid : Prop := conformMoreUptoRow.holds Try.pinned (OpenSpec.upto conformMoreSpec)

/-- 'floodgatelaw48.ConformBursts', WHERE WHAT IT READS IS OF BULK AT MOST 1048576: true; the input reads as it did. -/
def conformBurstsUptoRow : OpenClaim := { program := "ytfplniooncdjdaa", sum := "f092bde6de6d2cdaa63698db43045699eeb0bc8ad4bafeef7c044e24f855cb63", func := "floodgate/floodgatelaw48.ConformBursts", spec := "conformBursts", unfollowed := true, recurses := true, apart := false, narrowed := true }
def ConformBurstsUptoSaid : Prop := conformBurstsUptoRow.holds Try.pinned (OpenSpec.upto conformBurstsSpec)

/-- 'floodgatelaw48.ConformBound', WHERE WHAT IT READS IS OF BULK AT MOST 1048576: true; the input reads as it did. -/
def conformBoundUptoRow : OpenClaim := { program := "ytfplniooncdjdaa", sum := "f092bde6de6d2cdaa63698db43045699eeb0bc8ad4bafeef7c044e24f855cb63", func := "floodgate/floodgatelaw48.ConformBound", spec := "conformBound", unfollowed := true, recurses := true, apart := false, narrowed := true }
def ConformBoundUptoSaid : Prop := conformBoundUptoRow.holds Try.pinned (OpenSpec.upto conformBoundSpec)

end Rows
end Go.Proofs.Ytfplniooncdjdaa
