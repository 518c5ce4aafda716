/-
  No cell of these rows narrows 'for every input' (looked for: loops, veiled, ifaces, maps, wideKeys, modest, calm, conditions, laid).
  DERIVED. THE GIVEN ROWS OF THIS SEAT. 7 by the template 'for every input the law returns true; each argument reads behind the call as it read before'; 0 by the template 'total and deterministic' (their statements: YtgclmgkmjmbbmaaTotals.lean).
  GIVEN WITH THE SEED: the statements are not yours to turn. If you find one false, say at which input.
  Laid BY PROGRAM, IN A SANDBOX (cutbox-rows.mjs): the forced cells as the released guide's own fill.sh prints them over the translation 478951bb82739c6d… (all of the seat's roots in one cut). By AI agents, Wed Nov 11 2026. No macro, syntax, notation, axiom, sorry.
-/
import Derived.Test.YtgclmgkmjmbbmaaChecked
import GoSem.Claim
import GoSem.ClaimJoined
import GoSem.ClaimMapViews
import Derived.JoinedTies
import Derived.KernelRfl
namespace Go.Proofs.Ytgclmgkmjmbbmaa
/- THE CELL 'sum', in the pinned program and in every row, IS THE sha256 OF THE DUMP (.gsa) THAT YtgclmgkmjmbbmaaProg.lean LOADS. Nothing in Lean hashes anything: it is a label: what it is worth is what the hold of that sum in a sandbox is worth. -/
noncomputable def Try.pinned : Pinned := { name := "ytgclmgkmjmbbmaa", sum := "478951bb82739c6da749d3e2157e4f4b9d3cc1a362b48e92abedcc9be2d0a2a1", checked := Try.checked }
namespace Rows
def none {H : Type} : Left H := { results := [], args := [] }

/-- 'floodgatelaw04.CurveOf': WHATEVER THE INPUT: true; the input reads as it did. -/
def curveOfSpec : ChangeSpec := { name := "curveOf", fn := fun _ => fun
  | [d1, d2] => { results := [.lit (.bool true)], args := [d1, d2] }
  | _ => none }
def curveOfRow : OpenClaim := { program := "ytgclmgkmjmbbmaa", sum := "478951bb82739c6da749d3e2157e4f4b9d3cc1a362b48e92abedcc9be2d0a2a1", func := "floodgate/floodgatelaw04.CurveOf", spec := "curveOf", apart := false }
def CurveOfSaid : Prop := curveOfRow.holds Try.pinned (OpenSpec.ofChange curveOfSpec)

/-- ITS FALSE NEIGHBOUR: 'it returns false'. Refute it at one input. -/
def curveOfWrong : ChangeSpec := { name := "curveOf", fn := fun _ => fun
  | [d1, d2] => { results := [.lit (.bool false)], args := [d1, d2] }
  | _ => none }
def CurveOfWrongFalsely : Prop := curveOfRow.holds Try.pinned (OpenSpec.ofChange curveOfWrong)

/-- 'floodgatelaw04.CurveServes': WHATEVER THE INPUT: true; the input reads as it did. -/
def curveServesSpec : ChangeSpec := { name := "curveServes", fn := fun _ => fun
  | [d1, d2, d3] => { results := [.lit (.bool true)], args := [d1, d2, d3] }
  | _ => none }
def curveServesRow : OpenClaim := { program := "ytgclmgkmjmbbmaa", sum := "478951bb82739c6da749d3e2157e4f4b9d3cc1a362b48e92abedcc9be2d0a2a1", func := "floodgate/floodgatelaw04.CurveServes", spec := "curveServes", apart := false }
def CurveServesSaid : Prop := curveServesRow.holds Try.pinned (OpenSpec.ofChange curveServesSpec)

/-- ITS FALSE NEIGHBOUR: 'it returns false'. Refute it at one input. -/
def curveServesWrong : ChangeSpec := { name := "curveServes", fn := fun _ => fun
  | [d1, d2, d3] => { results := [.lit (.bool false)], args := [d1, d2, d3] }
  | _ => none }
def CurveServesWrongFalsely : Prop := curveServesRow.holds Try.pinned (OpenSpec.ofChange curveServesWrong)

/-- 'floodgatelaw04.CurveTicks': WHATEVER THE INPUT: true; the input reads as it did. -/
def curveTicksSpec : ChangeSpec := { name := "curveTicks", fn := fun _ => fun
  | [d1, d2] => { results := [.lit (.bool true)], args := [d1, d2] }
  | _ => none }
def curveTicksRow : OpenClaim := { program := "ytgclmgkmjmbbmaa", sum := "478951bb82739c6da749d3e2157e4f4b9d3cc1a362b48e92abedcc9be2d0a2a1", func := "floodgate/floodgatelaw04.CurveTicks", spec := "curveTicks", apart := false }
def CurveTicksSaid : Prop := curveTicksRow.holds Try.pinned (OpenSpec.ofChange curveTicksSpec)

/-- ITS FALSE NEIGHBOUR: 'it returns false'. Refute it at one input. -/
def curveTicksWrong : ChangeSpec := { name := "curveTicks", fn := fun _ => fun
  | [d1, d2] => { results := [.lit (.bool false)], args := [d1, d2] }
  | _ => none }
def CurveTicksWrongFalsely : Prop := curveTicksRow.holds Try.pinned (OpenSpec.ofChange curveTicksWrong)

/-- 'floodgatelaw04.CurveBends': WHATEVER THE INPUT: true; the input reads as it did. -/
def curveBendsSpec : ChangeSpec := { name := "curveBends", fn := fun _ => fun
  | [d1, d2, d3] => { results := [.lit (.bool true)], args := [d1, d2, d3] }
  | _ => none }
def curveBendsRow : OpenClaim := { program := "ytgclmgkmjmbbmaa", sum := "478951bb82739c6da749d3e2157e4f4b9d3cc1a362b48e92abedcc9be2d0a2a1", func := "floodgate/floodgatelaw04.CurveBends", spec := "curveBends", apart := false }
def CurveBendsSaid : Prop := curveBendsRow.holds Try.pinned (OpenSpec.ofChange curveBendsSpec)

/-- ITS FALSE NEIGHBOUR: 'it returns false'. Refute it at one input. -/
def curveBendsWrong : ChangeSpec := { name := "curveBends", fn := fun _ => fun
  | [d1, d2, d3] => { results := [.lit (.bool false)], args := [d1, d2, d3] }
  | _ => none }
def CurveBendsWrongFalsely : Prop := curveBendsRow.holds Try.pinned (OpenSpec.ofChange curveBendsWrong)

/-- 'floodgatelaw05.LineTells': WHATEVER THE INPUT: true; the input reads as it did. -/
def lineTellsSpec : ChangeSpec := { name := "lineTells", fn := fun _ => fun
  | [d1, d2, d3] => { results := [.lit (.bool true)], args := [d1, d2, d3] }
  | _ => none }
def lineTellsRow : OpenClaim := { program := "ytgclmgkmjmbbmaa", sum := "478951bb82739c6da749d3e2157e4f4b9d3cc1a362b48e92abedcc9be2d0a2a1", func := "floodgate/floodgatelaw05.LineTells", spec := "lineTells", apart := false }
def LineTellsSaid : Prop := lineTellsRow.holds Try.pinned (OpenSpec.ofChange lineTellsSpec)

/-- ITS FALSE NEIGHBOUR: 'it returns false'. Refute it at one input. -/
def lineTellsWrong : ChangeSpec := { name := "lineTells", fn := fun _ => fun
  | [d1, d2, d3] => { results := [.lit (.bool false)], args := [d1, d2, d3] }
  | _ => none }
def LineTellsWrongFalsely : Prop := lineTellsRow.holds Try.pinned (OpenSpec.ofChange lineTellsWrong)

/-- 'floodgatelaw05.LineReaches': WHATEVER THE INPUT: true; the input reads as it did. -/
def lineReachesSpec : ChangeSpec := { name := "lineReaches", fn := fun _ => fun
  | [d1, d2] => { results := [.lit (.bool true)], args := [d1, d2] }
  | _ => none }
def lineReachesRow : OpenClaim := { program := "ytgclmgkmjmbbmaa", sum := "478951bb82739c6da749d3e2157e4f4b9d3cc1a362b48e92abedcc9be2d0a2a1", func := "floodgate/floodgatelaw05.LineReaches", spec := "lineReaches", apart := false }
def LineReachesSaid : Prop := lineReachesRow.holds Try.pinned (OpenSpec.ofChange lineReachesSpec)

/-- ITS FALSE NEIGHBOUR: 'it returns false'. Refute it at one input. -/
def lineReachesWrong : ChangeSpec := { name := "lineReaches", fn := fun _ => fun
  | [d1, d2] => { results := [.lit (.bool false)], args := [d1, d2] }
  | _ => none }
def LineReachesWrongFalsely : Prop := lineReachesRow.holds Try.pinned (OpenSpec.ofChange lineReachesWrong)

/-- 'floodgatelaw05.LineLower': WHATEVER THE INPUT: true; the input reads as it did. -/
def lineLowerSpec : ChangeSpec := { name := "lineLower", fn := fun _ => fun
  | [d1, d2, d3] => { results := [.lit (.bool true)], args := [d1, d2, d3] }
  | _ => none }
def lineLowerRow : OpenClaim := { program := "ytgclmgkmjmbbmaa", sum := "478951bb82739c6da749d3e2157e4f4b9d3cc1a362b48e92abedcc9be2d0a2a1", func := "floodgate/floodgatelaw05.LineLower", spec := "lineLower", apart := false }
def LineLowerSaid : Prop := lineLowerRow.holds Try.pinned (OpenSpec.ofChange lineLowerSpec)

/-- ITS FALSE NEIGHBOUR: 'it returns false'. Refute it at one input. -/
def lineLowerWrong : ChangeSpec := { name := "lineLower", fn := fun _ => fun
  | [d1, d2, d3] => { results := [.lit (.bool false)], args := [d1, d2, d3] }
  | _ => none }
def LineLowerWrongFalsely : Prop := lineLowerRow.holds Try.pinned (OpenSpec.ofChange lineLowerWrong)

/- THE SECOND FORM. 'bulk': how many values and letters a reading holds, each counted each time it is reached (what is shared counts as often as it is met; a slice's spare places count too). A statement '..UptoSaid' is the law's where the arguments, and the package variables that the reading takes, are together of bulk at most 1048576: NARROWER than '..Said'. Prove '..Said' where nothing that the law and all that it calls make is longer than what came in: it says more and counts as full. Else prove '..UptoSaid'. A law counts once. -/
mutual
def uptoBulk {H : Type} : DataW H → Nat
  | .lit (.string bytes) => bytes.length + 1
  | .lit _ => 1
  | .nil => 1
  | .ptr d => uptoBulk d + 1
  | .slice elems spare => uptoBulkAll elems + uptoBulkAll spare + 1
  | .agg parts => uptoBulkAll parts + 1
  | .iface _ d => uptoBulk d + 1
  | .map entries => uptoBulkEntries entries + 1
  | .held _ => 1
def uptoBulkAll {H : Type} : List (DataW H) → Nat
  | [] => 0
  | d :: r => uptoBulk d + uptoBulkAll r
def uptoBulkEntries {H : Type} : List (Lit × DataW H) → Nat
  | [] => 0
  | x :: r => uptoBulkEntry x + uptoBulkEntries r
def uptoBulkEntry {H : Type} : Lit × DataW H → Nat
  | (.string bytes, d) => bytes.length + uptoBulk d + 1
  | (_, d) => uptoBulk d + 1
 end
def uptoSmall : (H : Type) → List (DataW H) → Bool := fun _ ds => decide (uptoBulkAll ds ≤ 1048576)
def OpenSpec.upto (s : _root_.Go.ChangeSpec) : _root_.Go.OpenSpec := { _root_.Go.OpenSpec.ofChange s with cond := some uptoSmall }

/-- 'floodgatelaw04.CurveOf', WHERE WHAT IT READS IS OF BULK AT MOST 1048576: true; the input reads as it did. -/
def curveOfUptoRow : OpenClaim := { program := "ytgclmgkmjmbbmaa", sum := "478951bb82739c6da749d3e2157e4f4b9d3cc1a362b48e92abedcc9be2d0a2a1", func := "floodgate/floodgatelaw04.CurveOf", spec := "curveOf", apart := false, narrowed := true }
def CurveOfUptoSaid : Prop := curveOfUptoRow.holds Try.pinned (OpenSpec.upto curveOfSpec)

/-- 'floodgatelaw04.CurveServes', WHERE WHAT IT READS IS OF BULK AT MOST 1048576: true; the input reads as it did. -/
def curveServesUptoRow : OpenClaim := { program := "ytgclmgkmjmbbmaa", sum := "478951bb82739c6da749d3e2157e4f4b9d3cc1a362b48e92abedcc9be2d0a2a1", func := "floodgate/floodgatelaw04.CurveServes", spec := "curveServes", apart := false, narrowed := true }
def CurveServesUptoSaid : Prop := curveServesUptoRow.holds Try.pinned (OpenSpec.upto curveServesSpec)

/-- 'floodgatelaw04.CurveTicks', WHERE WHAT IT READS IS OF BULK AT MOST 1048576: true; the input reads as it did. -/
def curveTicksUptoRow : OpenClaim := { program := "ytgclmgkmjmbbmaa", sum := "478951bb82739c6da749d3e2157e4f4b9d3cc1a362b48e92abedcc9be2d0a2a1", func := "floodgate/floodgatelaw04.CurveTicks", spec := "curveTicks", apart := false, narrowed := true }
def CurveTicksUptoSaid : Prop := curveTicksUptoRow.holds Try.pinned (OpenSpec.upto curveTicksSpec)

/-- 'floodgatelaw04.CurveBends', WHERE WHAT IT READS IS OF BULK AT MOST 1048576: true; the input reads as it did. -/
def curveBendsUptoRow : OpenClaim := { program := "ytgclmgkmjmbbmaa", sum := "478951bb82739c6da749d3e2157e4f4b9d3cc1a362b48e92abedcc9be2d0a2a1", func := "floodgate/floodgatelaw04.CurveBends", spec := "curveBends", apart := false, narrowed := true }
def CurveBendsUptoSaid : Prop := curveBendsUptoRow.holds Try.pinned (OpenSpec.upto curveBendsSpec)

/-- 'floodgatelaw05.LineTells', WHERE WHAT IT READS IS OF BULK AT MOST 1048576: true; the input reads as it did. -/
def lineTellsUptoRow : OpenClaim := { program := "ytgclmgkmjmbbmaa", sum := "478951bb82739c6da749d3e2157e4f4b9d3cc1a362b48e92abedcc9be2d0a2a1", func := "floodgate/floodgatelaw05.LineTells", spec := "lineTells", apart := false, narrowed := true }
def LineTellsUptoSaid : Prop := lineTellsUptoRow.holds Try.pinned (OpenSpec.upto lineTellsSpec)

/-- 'floodgatelaw05.LineReaches', WHERE WHAT IT READS IS OF BULK AT MOST 1048576: true; the input reads as it did. -/
def lineReachesUptoRow : OpenClaim := { program := "ytgclmgkmjmbbmaa", sum := "478951bb82739c6da749d3e2157e4f4b9d3cc1a362b48e92abedcc9be2d0a2a1", func := "floodgate/floodgatelaw05.LineReaches", spec := "lineReaches", apart := false, narrowed := true }
def LineReachesUptoSaid : Prop := lineReachesUptoRow.holds Try.pinned (OpenSpec.upto lineReachesSpec)

/-- 'floodgatelaw05.LineLower', WHERE WHAT IT READS IS OF BULK AT MOST 1048576: true; the input reads as it did. -/
def lineLowerUptoRow : OpenClaim := { program := "ytgclmgkmjmbbmaa", sum := "478951bb82739c6da749d3e2157e4f4b9d3cc1a362b48e92abedcc9be2d0a2a1", func := "floodgate/floodgatelaw05.LineLower", spec := "lineLower", apart := false, narrowed := true }
def LineLowerUptoSaid : Prop := lineLowerUptoRow.holds Try.pinned (OpenSpec.upto lineLowerSpec)

end Rows
end Go.Proofs.Ytgclmgkmjmbbmaa
