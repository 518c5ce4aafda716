/-
  No cell of these rows narrows 'for every input' (looked for: loops, veiled, ifaces, maps, wideKeys, modest, calm, conditions, laid).
  DERIVED. THE GIVEN ROWS OF THIS SEAT. 5 by the template 'for every input the law returns true; each argument reads behind the call as it read before'; 0 by the template 'total and deterministic' (their statements: YtffaahipgabkhaaGreatTotals.lean).
  GIVEN WITH THE SEED: the statements are not yours to turn. If you find one false, say at which input.
  Laid BY PROGRAM, IN A SANDBOX (cutbox-rows.mjs): the forced cells as the released guide's own fill.sh prints them over the translation 8db55e60f1f733c5… (all of the seat's roots in one cut). By AI agents, Wed Nov 11 2026. No macro, syntax, notation, axiom, sorry.
-/
import Derived.Test.YtffaahipgabkhaaGreatChecked
import GoSem.Claim
import GoSem.ClaimJoined
import GoSem.ClaimMapViews
import Derived.JoinedTies
import Derived.KernelRfl
namespace Go.Proofs.YtffaahipgabkhaaGreat
/- THE CELL 'sum', in the pinned program and in every row, IS THE sha256 OF THE DUMP (.gsa) THAT YtffaahipgabkhaaGreatProg.lean LOADS. Nothing in Lean hashes anything: it is a label: what it is worth is what the hold of that sum in a sandbox is worth. -/
noncomputable def Tryz.pinned : Pinned := { name := "ytffaahipgabkhaagreat", sum := "8db55e60f1f733c558f2245ce013bfb076763c9bf52eec1cb635d53cada03db9", checked := Tryz.checked }
namespace Rows
def none {H : Type} : Left H := { results := [], args := [] }

/-- 'floodgatelaw19.TransApplies': WHATEVER THE INPUT: true; the input reads as it did. -/
def transAppliesSpec : ChangeSpec := { name := "transApplies", fn := fun _ => fun
  | [d1, d2, d3] => { results := [.lit (.bool true)], args := [d1, d2, d3] }
  | _ => none }
def transAppliesRow : OpenClaim := { program := "ytffaahipgabkhaagreat", sum := "8db55e60f1f733c558f2245ce013bfb076763c9bf52eec1cb635d53cada03db9", func := "floodgate/floodgatelaw19.TransApplies", spec := "transApplies", inPlace := ["maps.clone"], unfollowed := true, recurses := true, apart := false }
def TransAppliesSaid : Prop := transAppliesRow.holds Tryz.pinned (OpenSpec.ofChange transAppliesSpec)

/-- ITS FALSE NEIGHBOUR: 'it returns false'. Refute it at one input. -/
def transAppliesWrong : ChangeSpec := { name := "transApplies", fn := fun _ => fun
  | [d1, d2, d3] => { results := [.lit (.bool false)], args := [d1, d2, d3] }
  | _ => none }
def TransAppliesWrongFalsely : Prop := transAppliesRow.holds Tryz.pinned (OpenSpec.ofChange transAppliesWrong)

/-- 'floodgatelaw19.TransTouches': WHATEVER THE INPUT: true; the input reads as it did. -/
def transTouchesSpec : ChangeSpec := { name := "transTouches", fn := fun _ => fun
  | [d1, d2] => { results := [.lit (.bool true)], args := [d1, d2] }
  | _ => none }
def transTouchesRow : OpenClaim := { program := "ytffaahipgabkhaagreat", sum := "8db55e60f1f733c558f2245ce013bfb076763c9bf52eec1cb635d53cada03db9", func := "floodgate/floodgatelaw19.TransTouches", spec := "transTouches", inPlace := ["maps.clone"], unfollowed := true, recurses := true, apart := false }
def TransTouchesSaid : Prop := transTouchesRow.holds Tryz.pinned (OpenSpec.ofChange transTouchesSpec)

/-- ITS FALSE NEIGHBOUR: 'it returns false'. Refute it at one input. -/
def transTouchesWrong : ChangeSpec := { name := "transTouches", fn := fun _ => fun
  | [d1, d2] => { results := [.lit (.bool false)], args := [d1, d2] }
  | _ => none }
def TransTouchesWrongFalsely : Prop := transTouchesRow.holds Tryz.pinned (OpenSpec.ofChange transTouchesWrong)

/-- 'floodgatelaw19.TransNames': WHATEVER THE INPUT: true; the input reads as it did. -/
def transNamesSpec : ChangeSpec := { name := "transNames", fn := fun _ => fun
  | [d1, d2, d3] => { results := [.lit (.bool true)], args := [d1, d2, d3] }
  | _ => none }
def transNamesRow : OpenClaim := { program := "ytffaahipgabkhaagreat", sum := "8db55e60f1f733c558f2245ce013bfb076763c9bf52eec1cb635d53cada03db9", func := "floodgate/floodgatelaw19.TransNames", spec := "transNames", inPlace := ["maps.clone"], unfollowed := true, recurses := true, apart := false }
def TransNamesSaid : Prop := transNamesRow.holds Tryz.pinned (OpenSpec.ofChange transNamesSpec)

/-- ITS FALSE NEIGHBOUR: 'it returns false'. Refute it at one input. -/
def transNamesWrong : ChangeSpec := { name := "transNames", fn := fun _ => fun
  | [d1, d2, d3] => { results := [.lit (.bool false)], args := [d1, d2, d3] }
  | _ => none }
def TransNamesWrongFalsely : Prop := transNamesRow.holds Tryz.pinned (OpenSpec.ofChange transNamesWrong)

/-- 'floodgatelaw19.TransJoins': WHATEVER THE INPUT: true; the input reads as it did. -/
def transJoinsSpec : ChangeSpec := { name := "transJoins", fn := fun _ => fun
  | [d1, d2, d3] => { results := [.lit (.bool true)], args := [d1, d2, d3] }
  | _ => none }
def transJoinsRow : OpenClaim := { program := "ytffaahipgabkhaagreat", sum := "8db55e60f1f733c558f2245ce013bfb076763c9bf52eec1cb635d53cada03db9", func := "floodgate/floodgatelaw19.TransJoins", spec := "transJoins", inPlace := ["maps.clone"], unfollowed := true, recurses := true, apart := false }
def TransJoinsSaid : Prop := transJoinsRow.holds Tryz.pinned (OpenSpec.ofChange transJoinsSpec)

/-- ITS FALSE NEIGHBOUR: 'it returns false'. Refute it at one input. -/
def transJoinsWrong : ChangeSpec := { name := "transJoins", fn := fun _ => fun
  | [d1, d2, d3] => { results := [.lit (.bool false)], args := [d1, d2, d3] }
  | _ => none }
def TransJoinsWrongFalsely : Prop := transJoinsRow.holds Tryz.pinned (OpenSpec.ofChange transJoinsWrong)

/-- 'floodgatelaw19.TransNil': WHATEVER THE INPUT: true; the input reads as it did. -/
def transNilSpec : ChangeSpec := { name := "transNil", fn := fun _ => fun
  | [d1, d2] => { results := [.lit (.bool true)], args := [d1, d2] }
  | _ => none }
def transNilRow : OpenClaim := { program := "ytffaahipgabkhaagreat", sum := "8db55e60f1f733c558f2245ce013bfb076763c9bf52eec1cb635d53cada03db9", func := "floodgate/floodgatelaw19.TransNil", spec := "transNil", inPlace := ["maps.clone"], unfollowed := true, recurses := true, apart := false }
def TransNilSaid : Prop := transNilRow.holds Tryz.pinned (OpenSpec.ofChange transNilSpec)

/-- ITS FALSE NEIGHBOUR: 'it returns false'. Refute it at one input. -/
def transNilWrong : ChangeSpec := { name := "transNil", fn := fun _ => fun
  | [d1, d2] => { results := [.lit (.bool false)], args := [d1, d2] }
  | _ => none }
def TransNilWrongFalsely : Prop := transNilRow.holds Tryz.pinned (OpenSpec.ofChange transNilWrong)

/- THE SECOND FORM. 'bulk': how many values and letters a reading holds, each counted each time it is reached (what is shared counts as often as it is met; a slice's spare places count too). A statement '..UptoSaid' is the law's where the arguments, and the package variables that the reading takes, are together of bulk at most 1048576: NARROWER than '..Said'. Prove '..Said' where nothing that the law and all that it calls make is longer than what came in: it says more and counts as full. Else prove '..UptoSaid'. A law counts once. -/
mutual
def uptoBulk {H : Type} : DataW H → Nat
  | .lit (.string bytes) => bytes.length + 1
  | .lit _ => 1
  | .nil => 1
  | .ptr d => uptoBulk d + 1
  | .slice elems spare => uptoBulkAll elems + uptoBulkAll spare + 1
  | .agg parts => uptoBulkAll parts + 1
  | .iface _ d => uptoBulk d + 1
  | .map entries => uptoBulkEntries entries + 1
  | .held _ => 1
def uptoBulkAll {H : Type} : List (DataW H) → Nat
  | [] => 0
  | d :: r => uptoBulk d + uptoBulkAll r
def uptoBulkEntries {H : Type} : List (Lit × DataW H) → Nat
  | [] => 0
  | x :: r => uptoBulkEntry x + uptoBulkEntries r
def uptoBulkEntry {H : Type} : Lit × DataW H → Nat
  | (.string bytes, d) => bytes.length + uptoBulk d + 1
  | (_, d) => uptoBulk d + 1
 end
def uptoSmall : (H : Type) → List (DataW H) → Bool := fun _ ds => decide (uptoBulkAll ds ≤ 1048576)
def OpenSpec.upto (s : _root_.Go.ChangeSpec) : _root_.Go.OpenSpec := { _root_.Go.OpenSpec.ofChange s with cond := some uptoSmall }

/-- 'floodgatelaw19.TransApplies', WHERE WHAT IT READS IS OF BULK AT MOST 1048576: true; the input reads as it did. -/
def transAppliesUptoRow : OpenClaim := { program := "ytffaahipgabkhaagreat", sum := "8db55e60f1f733c558f2245ce013bfb076763c9bf52eec1cb635d53cada03db9", func := "floodgate/floodgatelaw19.TransApplies", spec := "transApplies", inPlace := ["maps.clone"], unfollowed := true, recurses := true, apart := false, narrowed := true }
def TransAppliesUptoSaid : Prop := transAppliesUptoRow.holds Tryz.pinned (OpenSpec.upto transAppliesSpec)

/-- 'floodgatelaw19.TransTouches', WHERE WHAT IT READS IS OF BULK AT MOST 1048576: true; the input reads as it did. -/
def transTouchesUptoRow : OpenClaim := { program := "ytffaahipgabkhaagreat", sum := "8db55e60f1f733c558f2245ce013bfb076763c9bf52eec1cb635d53cada03db9", func := "floodgate/floodgatelaw19.TransTouches", spec := "transTouches", inPlace := ["maps.clone"], unfollowed := true, recurses := true, apart := false, narrowed := true }
def TransTouchesUptoSaid : Prop := transTouchesUptoRow.holds Tryz.pinned (OpenSpec.upto transTouchesSpec)

/-- 'floodgatelaw19.TransNames', WHERE WHAT IT READS IS OF BULK AT MOST 1048576: true; the input reads as it did. -/
def transNamesUptoRow : OpenClaim := { program := "ytffaahipgabkhaagreat", sum := "8db55e60f1f733c558f2245ce013bfb076763c9bf52eec1cb635d53cada03db9", func := "floodgate/floodgatelaw19.TransNames", spec := "transNames", inPlace := ["maps.clone"], unfollowed := true, recurses := true, apart := false, narrowed := true }
def TransNamesUptoSaid : Prop := transNamesUptoRow.holds Tryz.pinned (OpenSpec.upto transNamesSpec)

/-- 'floodgatelaw19.TransJoins', WHERE WHAT IT READS IS OF BULK AT MOST 1048576: true; the input reads as it did. -/
def transJoinsUptoRow : OpenClaim := { program := "ytffaahipgabkhaagreat", sum := "8db55e60f1f733c558f2245ce013bfb076763c9bf52eec1cb635d53cada03db9", func := "floodgate/floodgatelaw19.TransJoins", spec := "transJoins", inPlace := ["maps.clone"], unfollowed := true, recurses := true, apart := false, narrowed := true }
def TransJoinsUptoSaid : Prop := transJoinsUptoRow.holds Tryz.pinned (OpenSpec.upto transJoinsSpec)

/-- 'floodgatelaw19.TransNil', WHERE WHAT IT READS IS OF BULK AT MOST 1048576: true; the input reads as it did. -/
def transNilUptoRow : OpenClaim := { program := "ytffaahipgabkhaagreat", sum := "8db55e60f1f733c558f2245ce013bfb076763c9bf52eec1cb635d53cada03db9", func := "floodgate/floodgatelaw19.TransNil", spec := "transNil", inPlace := ["maps.clone"], unfollowed := true, recurses := true, apart := false, narrowed := true }
def TransNilUptoSaid : Prop := transNilUptoRow.holds Tryz.pinned (OpenSpec.upto transNilSpec)

end Rows
end Go.Proofs.YtffaahipgabkhaaGreat
