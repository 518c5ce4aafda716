/-
  No cell of these rows narrows 'for every input' (looked for: loops, veiled, ifaces, maps, wideKeys, modest, calm, conditions, laid).
  DERIVED. THE GIVEN ROWS OF THIS SEAT. 12 by the template 'for every input the law returns true; each argument reads behind the call as it read before'; 0 by the template 'total and deterministic' (their statements: YtdahjhokcjfioaaTotals.lean).
  GIVEN WITH THE SEED: the statements are not yours to turn. If you find one false, say at which input.
  Laid BY PROGRAM, IN A SANDBOX (cutbox-rows.mjs): the forced cells as the released guide's own fill.sh prints them over the translation aec7130130f5a396… (all of the seat's roots in one cut). By AI agents, Wed Nov 11 2026. No macro, syntax, notation, axiom, sorry.
-/
import Derived.Test.YtdahjhokcjfioaaChecked
import GoSem.Claim
import GoSem.ClaimJoined
import GoSem.ClaimMapViews
import Derived.JoinedTies
import Derived.KernelRfl
namespace Go.Proofs.Ytdahjhokcjfioaa
/- THE CELL 'sum', in the pinned program and in every row, IS THE sha256 OF THE DUMP (.gsa) THAT YtdahjhokcjfioaaProg.lean LOADS. Nothing in Lean hashes anything: it is a label: what it is worth is what the hold of that sum in a sandbox is worth. -/
noncomputable def Try.pinned : Pinned := { name := "ytdahjhokcjfioaa", sum := "aec7130130f5a39605c1ad22599da5108d86bbcfb5788b69995336fffbe73dc6", checked := Try.checked }
namespace Rows
def none {H : Type} : Left H := { results := [], args := [] }

/-- 'floodgatelaw11.PktqActs': WHATEVER THE INPUT: true; the input reads as it did. -/
def pktqActsSpec : ChangeSpec := { name := "pktqActs", fn := fun _ => fun
  | [d1, d2, d3] => { results := [.lit (.bool true)], args := [d1, d2, d3] }
  | _ => none }
def pktqActsRow : OpenClaim := { program := "ytdahjhokcjfioaa", sum := "aec7130130f5a39605c1ad22599da5108d86bbcfb5788b69995336fffbe73dc6", func := "floodgate/floodgatelaw11.PktqActs", spec := "pktqActs", apart := false }
def PktqActsSaid : Prop := pktqActsRow.holds Try.pinned (OpenSpec.ofChange pktqActsSpec)

/-- ITS FALSE NEIGHBOUR: 'it returns false'. Refute it at one input. -/
def pktqActsWrong : ChangeSpec := { name := "pktqActs", fn := fun _ => fun
  | [d1, d2, d3] => { results := [.lit (.bool false)], args := [d1, d2, d3] }
  | _ => none }
def PktqActsWrongFalsely : Prop := pktqActsRow.holds Try.pinned (OpenSpec.ofChange pktqActsWrong)

/-- 'floodgatelaw20.RealTells': WHATEVER THE INPUT: true; the input reads as it did. -/
def realTellsSpec : ChangeSpec := { name := "realTells", fn := fun _ => fun
  | [d1, d2, d3] => { results := [.lit (.bool true)], args := [d1, d2, d3] }
  | _ => none }
def realTellsRow : OpenClaim := { program := "ytdahjhokcjfioaa", sum := "aec7130130f5a39605c1ad22599da5108d86bbcfb5788b69995336fffbe73dc6", func := "floodgate/floodgatelaw20.RealTells", spec := "realTells", unfollowed := true, recurses := true, apart := false }
def RealTellsSaid : Prop := realTellsRow.holds Try.pinned (OpenSpec.ofChange realTellsSpec)

/-- ITS FALSE NEIGHBOUR: 'it returns false'. Refute it at one input. -/
def realTellsWrong : ChangeSpec := { name := "realTells", fn := fun _ => fun
  | [d1, d2, d3] => { results := [.lit (.bool false)], args := [d1, d2, d3] }
  | _ => none }
def RealTellsWrongFalsely : Prop := realTellsRow.holds Try.pinned (OpenSpec.ofChange realTellsWrong)

/-- 'floodgatelaw20.RealEligible': WHATEVER THE INPUT: true; the input reads as it did. -/
def realEligibleSpec : ChangeSpec := { name := "realEligible", fn := fun _ => fun
  | [d1, d2, d3] => { results := [.lit (.bool true)], args := [d1, d2, d3] }
  | _ => none }
def realEligibleRow : OpenClaim := { program := "ytdahjhokcjfioaa", sum := "aec7130130f5a39605c1ad22599da5108d86bbcfb5788b69995336fffbe73dc6", func := "floodgate/floodgatelaw20.RealEligible", spec := "realEligible", unfollowed := true, recurses := true, apart := false }
def RealEligibleSaid : Prop := realEligibleRow.holds Try.pinned (OpenSpec.ofChange realEligibleSpec)

/-- ITS FALSE NEIGHBOUR: 'it returns false'. Refute it at one input. -/
def realEligibleWrong : ChangeSpec := { name := "realEligible", fn := fun _ => fun
  | [d1, d2, d3] => { results := [.lit (.bool false)], args := [d1, d2, d3] }
  | _ => none }
def RealEligibleWrongFalsely : Prop := realEligibleRow.holds Try.pinned (OpenSpec.ofChange realEligibleWrong)

/-- 'floodgatelaw20.RealLeast': WHATEVER THE INPUT: true; the input reads as it did. -/
def realLeastSpec : ChangeSpec := { name := "realLeast", fn := fun _ => fun
  | [d1, d2, d3] => { results := [.lit (.bool true)], args := [d1, d2, d3] }
  | _ => none }
def realLeastRow : OpenClaim := { program := "ytdahjhokcjfioaa", sum := "aec7130130f5a39605c1ad22599da5108d86bbcfb5788b69995336fffbe73dc6", func := "floodgate/floodgatelaw20.RealLeast", spec := "realLeast", unfollowed := true, recurses := true, apart := false }
def RealLeastSaid : Prop := realLeastRow.holds Try.pinned (OpenSpec.ofChange realLeastSpec)

/-- ITS FALSE NEIGHBOUR: 'it returns false'. Refute it at one input. -/
def realLeastWrong : ChangeSpec := { name := "realLeast", fn := fun _ => fun
  | [d1, d2, d3] => { results := [.lit (.bool false)], args := [d1, d2, d3] }
  | _ => none }
def RealLeastWrongFalsely : Prop := realLeastRow.holds Try.pinned (OpenSpec.ofChange realLeastWrong)

/-- 'floodgatelaw20.RealSince': WHATEVER THE INPUT: true; the input reads as it did. -/
def realSinceSpec : ChangeSpec := { name := "realSince", fn := fun _ => fun
  | [d1, d2, d3] => { results := [.lit (.bool true)], args := [d1, d2, d3] }
  | _ => none }
def realSinceRow : OpenClaim := { program := "ytdahjhokcjfioaa", sum := "aec7130130f5a39605c1ad22599da5108d86bbcfb5788b69995336fffbe73dc6", func := "floodgate/floodgatelaw20.RealSince", spec := "realSince", unfollowed := true, recurses := true, apart := false }
def RealSinceSaid : Prop := realSinceRow.holds Try.pinned (OpenSpec.ofChange realSinceSpec)

/-- ITS FALSE NEIGHBOUR: 'it returns false'. Refute it at one input. -/
def realSinceWrong : ChangeSpec := { name := "realSince", fn := fun _ => fun
  | [d1, d2, d3] => { results := [.lit (.bool false)], args := [d1, d2, d3] }
  | _ => none }
def RealSinceWrongFalsely : Prop := realSinceRow.holds Try.pinned (OpenSpec.ofChange realSinceWrong)

/-- 'floodgatelaw22.UpperBounds': WHATEVER THE INPUT: true; the input reads as it did. -/
def upperBoundsSpec : ChangeSpec := { name := "upperBounds", fn := fun _ => fun
  | [d1, d2, d3] => { results := [.lit (.bool true)], args := [d1, d2, d3] }
  | _ => none }
def upperBoundsRow : OpenClaim := { program := "ytdahjhokcjfioaa", sum := "aec7130130f5a39605c1ad22599da5108d86bbcfb5788b69995336fffbe73dc6", func := "floodgate/floodgatelaw22.UpperBounds", spec := "upperBounds", apart := false }
def UpperBoundsSaid : Prop := upperBoundsRow.holds Try.pinned (OpenSpec.ofChange upperBoundsSpec)

/-- ITS FALSE NEIGHBOUR: 'it returns false'. Refute it at one input. -/
def upperBoundsWrong : ChangeSpec := { name := "upperBounds", fn := fun _ => fun
  | [d1, d2, d3] => { results := [.lit (.bool false)], args := [d1, d2, d3] }
  | _ => none }
def UpperBoundsWrongFalsely : Prop := upperBoundsRow.holds Try.pinned (OpenSpec.ofChange upperBoundsWrong)

/-- 'floodgatelaw27.StatsCalls': WHATEVER THE INPUT: true; the input reads as it did. -/
def statsCallsSpec : ChangeSpec := { name := "statsCalls", fn := fun _ => fun
  | [d1, d2] => { results := [.lit (.bool true)], args := [d1, d2] }
  | _ => none }
def statsCallsRow : OpenClaim := { program := "ytdahjhokcjfioaa", sum := "aec7130130f5a39605c1ad22599da5108d86bbcfb5788b69995336fffbe73dc6", func := "floodgate/floodgatelaw27.StatsCalls", spec := "statsCalls", unfollowed := true, recurses := true, apart := false }
def StatsCallsSaid : Prop := statsCallsRow.holds Try.pinned (OpenSpec.ofChange statsCallsSpec)

/-- ITS FALSE NEIGHBOUR: 'it returns false'. Refute it at one input. -/
def statsCallsWrong : ChangeSpec := { name := "statsCalls", fn := fun _ => fun
  | [d1, d2] => { results := [.lit (.bool false)], args := [d1, d2] }
  | _ => none }
def StatsCallsWrongFalsely : Prop := statsCallsRow.holds Try.pinned (OpenSpec.ofChange statsCallsWrong)

/-- 'floodgatelaw34.LimitTells': WHATEVER THE INPUT: true; the input reads as it did. -/
def limitTellsSpec : ChangeSpec := { name := "limitTells", fn := fun _ => fun
  | [d1, d2, d3] => { results := [.lit (.bool true)], args := [d1, d2, d3] }
  | _ => none }
def limitTellsRow : OpenClaim := { program := "ytdahjhokcjfioaa", sum := "aec7130130f5a39605c1ad22599da5108d86bbcfb5788b69995336fffbe73dc6", func := "floodgate/floodgatelaw34.LimitTells", spec := "limitTells", apart := false }
def LimitTellsSaid : Prop := limitTellsRow.holds Try.pinned (OpenSpec.ofChange limitTellsSpec)

/-- ITS FALSE NEIGHBOUR: 'it returns false'. Refute it at one input. -/
def limitTellsWrong : ChangeSpec := { name := "limitTells", fn := fun _ => fun
  | [d1, d2, d3] => { results := [.lit (.bool false)], args := [d1, d2, d3] }
  | _ => none }
def LimitTellsWrongFalsely : Prop := limitTellsRow.holds Try.pinned (OpenSpec.ofChange limitTellsWrong)

/-- 'floodgatelaw47.MeterOf': WHATEVER THE INPUT: true; the input reads as it did. -/
def meterOfSpec : ChangeSpec := { name := "meterOf", fn := fun _ => fun
  | [d1, d2, d3] => { results := [.lit (.bool true)], args := [d1, d2, d3] }
  | _ => none }
def meterOfRow : OpenClaim := { program := "ytdahjhokcjfioaa", sum := "aec7130130f5a39605c1ad22599da5108d86bbcfb5788b69995336fffbe73dc6", func := "floodgate/floodgatelaw47.MeterOf", spec := "meterOf", unfollowed := true, recurses := true, apart := false }
def MeterOfSaid : Prop := meterOfRow.holds Try.pinned (OpenSpec.ofChange meterOfSpec)

/-- ITS FALSE NEIGHBOUR: 'it returns false'. Refute it at one input. -/
def meterOfWrong : ChangeSpec := { name := "meterOf", fn := fun _ => fun
  | [d1, d2, d3] => { results := [.lit (.bool false)], args := [d1, d2, d3] }
  | _ => none }
def MeterOfWrongFalsely : Prop := meterOfRow.holds Try.pinned (OpenSpec.ofChange meterOfWrong)

/-- 'floodgatelaw48.ConformBursts': WHATEVER THE INPUT: true; the input reads as it did. -/
def conformBurstsSpec : ChangeSpec := { name := "conformBursts", fn := fun _ => fun
  | [d1, d2, d3] => { results := [.lit (.bool true)], args := [d1, d2, d3] }
  | _ => none }
def conformBurstsRow : OpenClaim := { program := "ytdahjhokcjfioaa", sum := "aec7130130f5a39605c1ad22599da5108d86bbcfb5788b69995336fffbe73dc6", func := "floodgate/floodgatelaw48.ConformBursts", spec := "conformBursts", unfollowed := true, recurses := true, apart := false }
def ConformBurstsSaid : Prop := conformBurstsRow.holds Try.pinned (OpenSpec.ofChange conformBurstsSpec)

/-- ITS FALSE NEIGHBOUR: 'it returns false'. Refute it at one input. -/
def conformBurstsWrong : ChangeSpec := { name := "conformBursts", fn := fun _ => fun
  | [d1, d2, d3] => { results := [.lit (.bool false)], args := [d1, d2, d3] }
  | _ => none }
def ConformBurstsWrongFalsely : Prop := conformBurstsRow.holds Try.pinned (OpenSpec.ofChange conformBurstsWrong)

/-- 'floodgatelaw48.ConformMore': WHATEVER THE INPUT: true; the input reads as it did. -/
def conformMoreSpec : ChangeSpec := { name := "conformMore", fn := fun _ => fun
  | [d1, d2, d3] => { results := [.lit (.bool true)], args := [d1, d2, d3] }
  | _ => none }
def conformMoreRow : OpenClaim := { program := "ytdahjhokcjfioaa", sum := "aec7130130f5a39605c1ad22599da5108d86bbcfb5788b69995336fffbe73dc6", func := "floodgate/floodgatelaw48.ConformMore", spec := "conformMore", unfollowed := true, recurses := true, apart := false }
def ConformMoreSaid : Prop := conformMoreRow.holds Try.pinned (OpenSpec.ofChange conformMoreSpec)

/-- ITS FALSE NEIGHBOUR: 'it returns false'. Refute it at one input. -/
def conformMoreWrong : ChangeSpec := { name := "conformMore", fn := fun _ => fun
  | [d1, d2, d3] => { results := [.lit (.bool false)], args := [d1, d2, d3] }
  | _ => none }
def ConformMoreWrongFalsely : Prop := conformMoreRow.holds Try.pinned (OpenSpec.ofChange conformMoreWrong)

/-- 'floodgatelaw48.ConformBound': WHATEVER THE INPUT: true; the input reads as it did. -/
def conformBoundSpec : ChangeSpec := { name := "conformBound", fn := fun _ => fun
  | [d1, d2, d3] => { results := [.lit (.bool true)], args := [d1, d2, d3] }
  | _ => none }
def conformBoundRow : OpenClaim := { program := "ytdahjhokcjfioaa", sum := "aec7130130f5a39605c1ad22599da5108d86bbcfb5788b69995336fffbe73dc6", func := "floodgate/floodgatelaw48.ConformBound", spec := "conformBound", unfollowed := true, recurses := true, apart := false }
def ConformBoundSaid : Prop := conformBoundRow.holds Try.pinned (OpenSpec.ofChange conformBoundSpec)

/-- ITS FALSE NEIGHBOUR: 'it returns false'. Refute it at one input. -/
def conformBoundWrong : ChangeSpec := { name := "conformBound", fn := fun _ => fun
  | [d1, d2, d3] => { results := [.lit (.bool false)], args := [d1, d2, d3] }
  | _ => none }
def ConformBoundWrongFalsely : Prop := conformBoundRow.holds Try.pinned (OpenSpec.ofChange conformBoundWrong)

/- THE SECOND FORM. 'bulk': how many values and letters a reading holds, each counted each time it is reached (what is shared counts as often as it is met; a slice's spare places count too). A statement '..UptoSaid' is the law's where the arguments, and the package variables that the reading takes, are together of bulk at most 1048576: NARROWER than '..Said'. Prove '..Said' where nothing that the law and all that it calls make is longer than what came in: it says more and counts as full. Else prove '..UptoSaid'. A law counts once. -/
mutual
def uptoBulk {H : Type} : DataW H → Nat
  | .lit (.string bytes) => bytes.length + 1
  | .lit _ => 1
  | .nil => 1
  | .ptr d => uptoBulk d + 1
  | .slice elems spare => uptoBulkAll elems + uptoBulkAll spare + 1
  | .agg parts => uptoBulkAll parts + 1
  | .iface _ d => uptoBulk d + 1
  | .map entries => uptoBulkEntries entries + 1
  | .held _ => 1
def uptoBulkAll {H : Type} : List (DataW H) → Nat
  | [] => 0
  | d :: r => uptoBulk d + uptoBulkAll r
def uptoBulkEntries {H : Type} : List (Lit × DataW H) → Nat
  | [] => 0
  | x :: r => uptoBulkEntry x + uptoBulkEntries r
def uptoBulkEntry {H : Type} : Lit × DataW H → Nat
  | (.string bytes, d) => bytes.length + uptoBulk d + 1
  | (_, d) => uptoBulk d + 1
 end
def uptoSmall : (H : Type) → List (DataW H) → Bool := fun _ ds => decide (uptoBulkAll ds ≤ 1048576)
def OpenSpec.upto (s : _root_.Go.ChangeSpec) : _root_.Go.OpenSpec := { _root_.Go.OpenSpec.ofChange s with cond := some uptoSmall }

/-- 'floodgatelaw11.PktqActs', WHERE WHAT IT READS IS OF BULK AT MOST 1048576: true; the input reads as it did. -/
def pktqActsUptoRow : OpenClaim := { program := "ytdahjhokcjfioaa", sum := "aec7130130f5a39605c1ad22599da5108d86bbcfb5788b69995336fffbe73dc6", func := "floodgate/floodgatelaw11.PktqActs", spec := "pktqActs", apart := false, narrowed := true }
def PktqActsUptoSaid : Prop := pktqActsUptoRow.holds Try.pinned (OpenSpec.upto pktqActsSpec)

/-- 'floodgatelaw20.RealTells', WHERE WHAT IT READS IS OF BULK AT MOST 1048576: true; the input reads as it did. -/
def realTellsUptoRow : OpenClaim := { program := "ytdahjhokcjfioaa", sum := "aec7130130f5a39605c1ad22599da5108d86bbcfb5788b69995336fffbe73dc6", func := "floodgate/floodgatelaw20.RealTells", spec := "realTells", unfollowed := true, recurses := true, apart := false, narrowed := true }
def RealTellsUptoSaid : Prop := realTellsUptoRow.holds Try.pinned (OpenSpec.upto realTellsSpec)

/-- 'floodgatelaw20.RealEligible', WHERE WHAT IT READS IS OF BULK AT MOST 1048576: true; the input reads as it did. -/
def realEligibleUptoRow : OpenClaim := { program := "ytdahjhokcjfioaa", sum := "aec7130130f5a39605c1ad22599da5108d86bbcfb5788b69995336fffbe73dc6", func := "floodgate/floodgatelaw20.RealEligible", spec := "realEligible", unfollowed := true, recurses := true, apart := false, narrowed := true }
def RealEligibleUptoSaid : Prop := realEligibleUptoRow.holds Try.pinned (OpenSpec.upto realEligibleSpec)

/-- 'floodgatelaw20.RealLeast', WHERE WHAT IT READS IS OF BULK AT MOST 1048576: true; the input reads as it did. -/
def realLeastUptoRow : OpenClaim := { program := "ytdahjhokcjfioaa", sum := "aec7130130f5a39605c1ad22599da5108d86bbcfb5788b69995336fffbe73dc6", func := "floodgate/floodgatelaw20.RealLeast", spec := "realLeast", unfollowed := true, recurses := true, apart := false, narrowed := true }
def RealLeastUptoSaid : Prop := realLeastUptoRow.holds Try.pinned (OpenSpec.upto realLeastSpec)

/-- 'floodgatelaw20.RealSince', WHERE WHAT IT READS IS OF BULK AT MOST 1048576: true; the input reads as it did. -/
def realSinceUptoRow : OpenClaim := { program := "ytdahjhokcjfioaa", sum := "aec7130130f5a39605c1ad22599da5108d86bbcfb5788b69995336fffbe73dc6", func := "floodgate/floodgatelaw20.RealSince", spec := "realSince", unfollowed := true, recurses := true, apart := false, narrowed := true }
def RealSinceUptoSaid : Prop := realSinceUptoRow.holds Try.pinned (OpenSpec.upto realSinceSpec)

/-- 'floodgatelaw22.UpperBounds', WHERE WHAT IT READS IS OF BULK AT MOST 1048576: true; the input reads as it did. -/
def upperBoundsUptoRow : OpenClaim := { program := "ytdahjhokcjfioaa", sum := "aec7130130f5a39605c1ad22599da5108d86bbcfb5788b69995336fffbe73dc6", func := "floodgate/floodgatelaw22.UpperBounds", spec := "upperBounds", apart := false, narrowed := true }
def UpperBoundsUptoSaid : Prop := upperBoundsUptoRow.holds Try.pinned (OpenSpec.upto upperBoundsSpec)

/-- 'floodgatelaw27.StatsCalls', WHERE WHAT IT READS IS OF BULK AT MOST 1048576: true; the input reads as it did. -/
def statsCallsUptoRow : OpenClaim := { program := "ytdahjhokcjfioaa", sum := "aec7130130f5a39605c1ad22599da5108d86bbcfb5788b69995336fffbe73dc6", func := "floodgate/floodgatelaw27.StatsCalls", spec := "statsCalls", unfollowed := true, recurses := true, apart := false, narrowed := true }
def StatsCallsUptoSaid : Prop := statsCallsUptoRow.holds Try.pinned (OpenSpec.upto statsCallsSpec)

/-- 'floodgatelaw34.LimitTells', WHERE WHAT IT READS IS OF BULK AT MOST 1048576: true; the input reads as it did. -/
def limitTellsUptoRow : OpenClaim := { program := "ytdahjhokcjfioaa", sum := "aec7130130f5a39605c1ad22599da5108d86bbcfb5788b69995336fffbe73dc6", func := "floodgate/floodgatelaw34.LimitTells", spec := "limitTells", apart := false, narrowed := true }
def LimitTellsUptoSaid : Prop := limitTellsUptoRow.holds Try.pinned (OpenSpec.upto limitTellsSpec)

/-- 'floodgatelaw47.MeterOf', WHERE WHAT IT READS IS OF BULK AT MOST 1048576: true; the input reads as it did. -/
def meterOfUptoRow : OpenClaim := { program := "ytdahjhokcjfioaa", sum := "aec7130130f5a39605c1ad22599da5108d86bbcfb5788b69995336fffbe73dc6", func := "floodgate/floodgatelaw47.MeterOf", spec := "meterOf", unfollowed := true, recurses := true, apart := false, narrowed := true }
def MeterOfUptoSaid : Prop := meterOfUptoRow.holds Try.pinned (OpenSpec.upto meterOfSpec)

/-- 'floodgatelaw48.ConformBursts', WHERE WHAT IT READS IS OF BULK AT MOST 1048576: true; the input reads as it did. -/
def conformBurstsUptoRow : OpenClaim := { program := "ytdahjhokcjfioaa", sum := "aec7130130f5a39605c1ad22599da5108d86bbcfb5788b69995336fffbe73dc6", func := "floodgate/floodgatelaw48.ConformBursts", spec := "conformBursts", unfollowed := true, recurses := true, apart := false, narrowed := true }
def ConformBurstsUptoSaid : Prop := conformBurstsUptoRow.holds Try.pinned (OpenSpec.upto conformBurstsSpec)

/-- 'floodgatelaw48.ConformMore', WHERE WHAT IT READS IS OF BULK AT MOST 1048576: true; the input reads as it did. -/
def conformMoreUptoRow : OpenClaim := { program := "ytdahjhokcjfioaa", sum := "aec7130130f5a39605c1ad22599da5108d86bbcfb5788b69995336fffbe73dc6", func := "floodgate/floodgatelaw48.ConformMore", spec := "conformMore", unfollowed := true, recurses := true, apart := false, narrowed := true }
def ConformMoreUptoSaid : Prop := conformMoreUptoRow.holds Try.pinned (OpenSpec.upto conformMoreSpec)

/-- 'floodgatelaw48.ConformBound', WHERE WHAT IT READS IS OF BULK AT MOST 1048576: true; the input reads as it did. -/
def conformBoundUptoRow : OpenClaim := { program := "ytdahjhokcjfioaa", sum := "aec7130130f5a39605c1ad22599da5108d86bbcfb5788b69995336fffbe73dc6", func := "floodgate/floodgatelaw48.ConformBound", spec := "conformBound", unfollowed := true, recurses := true, apart := false, narrowed := true }
def ConformBoundUptoSaid : Prop := conformBoundUptoRow.holds Try.pinned (OpenSpec.upto conformBoundSpec)

end Rows
end Go.Proofs.Ytdahjhokcjfioaa
