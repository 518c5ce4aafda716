/-
  No cell of these rows narrows 'for every input' (looked for: loops, veiled, ifaces, maps, wideKeys, modest, calm, conditions, laid).
  DERIVED. THE GIVEN ROWS OF THIS SEAT. 9 by the template 'for every input the law returns true; each argument reads behind the call as it read before'; 0 by the template 'total and deterministic' (their statements: YtkbglhkhhoakgaaTotals.lean).
  GIVEN WITH THE SEED: the statements are not yours to turn. If you find one false, say at which input.
  Laid BY PROGRAM, IN A SANDBOX (cutbox-rows.mjs): the forced cells as the released guide's own fill.sh prints them over the translation dad1202432d41261… (all of the seat's roots in one cut). By AI agents, Wed Nov 11 2026. No macro, syntax, notation, axiom, sorry.
-/
import Derived.Test.YtkbglhkhhoakgaaChecked
import GoSem.Claim
import GoSem.ClaimJoined
import GoSem.ClaimMapViews
import Derived.JoinedTies
import Derived.KernelRfl
namespace Go.Proofs.Ytkbglhkhhoakgaa
/- THE CELL 'sum', in the pinned program and in every row, IS THE sha256 OF THE DUMP (.gsa) THAT YtkbglhkhhoakgaaProg.lean LOADS. Nothing in Lean hashes anything: it is a label: what it is worth is what the hold of that sum in a sandbox is worth. -/
noncomputable def Try.pinned : Pinned := { name := "ytkbglhkhhoakgaa", sum := "dad1202432d412610fceffa0656f59f17320f5cc35826e01c47685112ffa496c", checked := Try.checked }
namespace Rows
def none {H : Type} : Left H := { results := [], args := [] }

/-- 'floodgatelaw16.MatchFinds': WHATEVER THE INPUT: true; the input reads as it did. -/
def matchFindsSpec : ChangeSpec := { name := "matchFinds", fn := fun _ => fun
  | [d1, d2, d3] => { results := [.lit (.bool true)], args := [d1, d2, d3] }
  | _ => none }
def matchFindsRow : OpenClaim := { program := "ytkbglhkhhoakgaa", sum := "dad1202432d412610fceffa0656f59f17320f5cc35826e01c47685112ffa496c", func := "floodgate/floodgatelaw16.MatchFinds", spec := "matchFinds", unfollowed := true, recurses := true, plainKeys := false, apart := false }
def MatchFindsSaid : Prop := matchFindsRow.holds Try.pinned (OpenSpec.ofChange matchFindsSpec)

/-- ITS FALSE NEIGHBOUR: 'it returns false'. Refute it at one input. -/
def matchFindsWrong : ChangeSpec := { name := "matchFinds", fn := fun _ => fun
  | [d1, d2, d3] => { results := [.lit (.bool false)], args := [d1, d2, d3] }
  | _ => none }
def MatchFindsWrongFalsely : Prop := matchFindsRow.holds Try.pinned (OpenSpec.ofChange matchFindsWrong)

/-- 'floodgatelaw16.MatchFirst': WHATEVER THE INPUT: true; the input reads as it did. -/
def matchFirstSpec : ChangeSpec := { name := "matchFirst", fn := fun _ => fun
  | [d1, d2, d3] => { results := [.lit (.bool true)], args := [d1, d2, d3] }
  | _ => none }
def matchFirstRow : OpenClaim := { program := "ytkbglhkhhoakgaa", sum := "dad1202432d412610fceffa0656f59f17320f5cc35826e01c47685112ffa496c", func := "floodgate/floodgatelaw16.MatchFirst", spec := "matchFirst", unfollowed := true, recurses := true, plainKeys := false, apart := false }
def MatchFirstSaid : Prop := matchFirstRow.holds Try.pinned (OpenSpec.ofChange matchFirstSpec)

/-- ITS FALSE NEIGHBOUR: 'it returns false'. Refute it at one input. -/
def matchFirstWrong : ChangeSpec := { name := "matchFirst", fn := fun _ => fun
  | [d1, d2, d3] => { results := [.lit (.bool false)], args := [d1, d2, d3] }
  | _ => none }
def MatchFirstWrongFalsely : Prop := matchFirstRow.holds Try.pinned (OpenSpec.ofChange matchFirstWrong)

/-- 'floodgatelaw16.MatchNil': WHATEVER THE INPUT: true; the input reads as it did. -/
def matchNilSpec : ChangeSpec := { name := "matchNil", fn := fun _ => fun
  | [d1, d2] => { results := [.lit (.bool true)], args := [d1, d2] }
  | _ => none }
def matchNilRow : OpenClaim := { program := "ytkbglhkhhoakgaa", sum := "dad1202432d412610fceffa0656f59f17320f5cc35826e01c47685112ffa496c", func := "floodgate/floodgatelaw16.MatchNil", spec := "matchNil", unfollowed := true, recurses := true, plainKeys := false, apart := false }
def MatchNilSaid : Prop := matchNilRow.holds Try.pinned (OpenSpec.ofChange matchNilSpec)

/-- ITS FALSE NEIGHBOUR: 'it returns false'. Refute it at one input. -/
def matchNilWrong : ChangeSpec := { name := "matchNil", fn := fun _ => fun
  | [d1, d2] => { results := [.lit (.bool false)], args := [d1, d2] }
  | _ => none }
def MatchNilWrongFalsely : Prop := matchNilRow.holds Try.pinned (OpenSpec.ofChange matchNilWrong)

/-- 'floodgatelaw27.StatsWaits': WHATEVER THE INPUT: true; the input reads as it did. -/
def statsWaitsSpec : ChangeSpec := { name := "statsWaits", fn := fun _ => fun
  | [d1, d2, d3] => { results := [.lit (.bool true)], args := [d1, d2, d3] }
  | _ => none }
def statsWaitsRow : OpenClaim := { program := "ytkbglhkhhoakgaa", sum := "dad1202432d412610fceffa0656f59f17320f5cc35826e01c47685112ffa496c", func := "floodgate/floodgatelaw27.StatsWaits", spec := "statsWaits", unfollowed := true, recurses := true, plainKeys := false, apart := false }
def StatsWaitsSaid : Prop := statsWaitsRow.holds Try.pinned (OpenSpec.ofChange statsWaitsSpec)

/-- ITS FALSE NEIGHBOUR: 'it returns false'. Refute it at one input. -/
def statsWaitsWrong : ChangeSpec := { name := "statsWaits", fn := fun _ => fun
  | [d1, d2, d3] => { results := [.lit (.bool false)], args := [d1, d2, d3] }
  | _ => none }
def StatsWaitsWrongFalsely : Prop := statsWaitsRow.holds Try.pinned (OpenSpec.ofChange statsWaitsWrong)

/-- 'floodgatelaw27.StatsNil': WHATEVER THE INPUT: true; the input reads as it did. -/
def statsNilSpec : ChangeSpec := { name := "statsNil", fn := fun _ => fun
  | [d] => { results := [.lit (.bool true)], args := [d] }
  | _ => none }
def statsNilRow : OpenClaim := { program := "ytkbglhkhhoakgaa", sum := "dad1202432d412610fceffa0656f59f17320f5cc35826e01c47685112ffa496c", func := "floodgate/floodgatelaw27.StatsNil", spec := "statsNil", unfollowed := true, recurses := true, plainKeys := false, apart := false }
def StatsNilSaid : Prop := statsNilRow.holds Try.pinned (OpenSpec.ofChange statsNilSpec)

/-- ITS FALSE NEIGHBOUR: 'it returns false'. Refute it at one input. -/
def statsNilWrong : ChangeSpec := { name := "statsNil", fn := fun _ => fun
  | [d] => { results := [.lit (.bool false)], args := [d] }
  | _ => none }
def StatsNilWrongFalsely : Prop := statsNilRow.holds Try.pinned (OpenSpec.ofChange statsNilWrong)

/-- 'floodgatelaw31.SpansOf': WHATEVER THE INPUT: true; the input reads as it did. -/
def spansOfSpec : ChangeSpec := { name := "spansOf", fn := fun _ => fun
  | [d1, d2] => { results := [.lit (.bool true)], args := [d1, d2] }
  | _ => none }
def spansOfRow : OpenClaim := { program := "ytkbglhkhhoakgaa", sum := "dad1202432d412610fceffa0656f59f17320f5cc35826e01c47685112ffa496c", func := "floodgate/floodgatelaw31.SpansOf", spec := "spansOf", unfollowed := true, recurses := true, plainKeys := false, apart := false }
def SpansOfSaid : Prop := spansOfRow.holds Try.pinned (OpenSpec.ofChange spansOfSpec)

/-- ITS FALSE NEIGHBOUR: 'it returns false'. Refute it at one input. -/
def spansOfWrong : ChangeSpec := { name := "spansOf", fn := fun _ => fun
  | [d1, d2] => { results := [.lit (.bool false)], args := [d1, d2] }
  | _ => none }
def SpansOfWrongFalsely : Prop := spansOfRow.holds Try.pinned (OpenSpec.ofChange spansOfWrong)

/-- 'floodgatelaw31.SpansApart': WHATEVER THE INPUT: true; the input reads as it did. -/
def spansApartSpec : ChangeSpec := { name := "spansApart", fn := fun _ => fun
  | [d1, d2] => { results := [.lit (.bool true)], args := [d1, d2] }
  | _ => none }
def spansApartRow : OpenClaim := { program := "ytkbglhkhhoakgaa", sum := "dad1202432d412610fceffa0656f59f17320f5cc35826e01c47685112ffa496c", func := "floodgate/floodgatelaw31.SpansApart", spec := "spansApart", unfollowed := true, recurses := true, plainKeys := false, apart := false }
def SpansApartSaid : Prop := spansApartRow.holds Try.pinned (OpenSpec.ofChange spansApartSpec)

/-- ITS FALSE NEIGHBOUR: 'it returns false'. Refute it at one input. -/
def spansApartWrong : ChangeSpec := { name := "spansApart", fn := fun _ => fun
  | [d1, d2] => { results := [.lit (.bool false)], args := [d1, d2] }
  | _ => none }
def SpansApartWrongFalsely : Prop := spansApartRow.holds Try.pinned (OpenSpec.ofChange spansApartWrong)

/-- 'floodgatelaw35.BusyTells': WHATEVER THE INPUT: true; the input reads as it did. -/
def busyTellsSpec : ChangeSpec := { name := "busyTells", fn := fun _ => fun
  | [d] => { results := [.lit (.bool true)], args := [d] }
  | _ => none }
def busyTellsRow : OpenClaim := { program := "ytkbglhkhhoakgaa", sum := "dad1202432d412610fceffa0656f59f17320f5cc35826e01c47685112ffa496c", func := "floodgate/floodgatelaw35.BusyTells", spec := "busyTells", unfollowed := true, recurses := true, plainKeys := false, apart := false }
def BusyTellsSaid : Prop := busyTellsRow.holds Try.pinned (OpenSpec.ofChange busyTellsSpec)

/-- ITS FALSE NEIGHBOUR: 'it returns false'. Refute it at one input. -/
def busyTellsWrong : ChangeSpec := { name := "busyTells", fn := fun _ => fun
  | [d] => { results := [.lit (.bool false)], args := [d] }
  | _ => none }
def BusyTellsWrongFalsely : Prop := busyTellsRow.holds Try.pinned (OpenSpec.ofChange busyTellsWrong)

/-- 'floodgatelaw41.SweepOnce': WHATEVER THE INPUT: true; the input reads as it did. -/
def sweepOnceSpec : ChangeSpec := { name := "sweepOnce", fn := fun _ => fun
  | [d] => { results := [.lit (.bool true)], args := [d] }
  | _ => none }
def sweepOnceRow : OpenClaim := { program := "ytkbglhkhhoakgaa", sum := "dad1202432d412610fceffa0656f59f17320f5cc35826e01c47685112ffa496c", func := "floodgate/floodgatelaw41.SweepOnce", spec := "sweepOnce", plainKeys := false, apart := false }
def SweepOnceSaid : Prop := sweepOnceRow.holds Try.pinned (OpenSpec.ofChange sweepOnceSpec)

/-- ITS FALSE NEIGHBOUR: 'it returns false'. Refute it at one input. -/
def sweepOnceWrong : ChangeSpec := { name := "sweepOnce", fn := fun _ => fun
  | [d] => { results := [.lit (.bool false)], args := [d] }
  | _ => none }
def SweepOnceWrongFalsely : Prop := sweepOnceRow.holds Try.pinned (OpenSpec.ofChange sweepOnceWrong)

/- THE SECOND FORM. 'bulk': how many values and letters a reading holds, each counted each time it is reached (what is shared counts as often as it is met; a slice's spare places count too). A statement '..UptoSaid' is the law's where the arguments, and the package variables that the reading takes, are together of bulk at most 1048576: NARROWER than '..Said'. Prove '..Said' where nothing that the law and all that it calls make is longer than what came in: it says more and counts as full. Else prove '..UptoSaid'. A law counts once. -/
mutual
def uptoBulk {H : Type} : DataW H → Nat
  | .lit (.string bytes) => bytes.length + 1
  | .lit _ => 1
  | .nil => 1
  | .ptr d => uptoBulk d + 1
  | .slice elems spare => uptoBulkAll elems + uptoBulkAll spare + 1
  | .agg parts => uptoBulkAll parts + 1
  | .iface _ d => uptoBulk d + 1
  | .map entries => uptoBulkEntries entries + 1
  | .held _ => 1
def uptoBulkAll {H : Type} : List (DataW H) → Nat
  | [] => 0
  | d :: r => uptoBulk d + uptoBulkAll r
def uptoBulkEntries {H : Type} : List (Lit × DataW H) → Nat
  | [] => 0
  | x :: r => uptoBulkEntry x + uptoBulkEntries r
def uptoBulkEntry {H : Type} : Lit × DataW H → Nat
  | (.string bytes, d) => bytes.length + uptoBulk d + 1
  | (_, d) => uptoBulk d + 1
 end
def uptoSmall : (H : Type) → List (DataW H) → Bool := fun _ ds => decide (uptoBulkAll ds ≤ 1048576)
def OpenSpec.upto (s : _root_.Go.ChangeSpec) : _root_.Go.OpenSpec := { _root_.Go.OpenSpec.ofChange s with cond := some uptoSmall }

/-- 'floodgatelaw16.MatchFinds', WHERE WHAT IT READS IS OF BULK AT MOST 1048576: true; the input reads as it did. -/
def matchFindsUptoRow : OpenClaim := { program := "ytkbglhkhhoakgaa", sum := "dad1202432d412610fceffa0656f59f17320f5cc35826e01c47685112ffa496c", func := "floodgate/floodgatelaw16.MatchFinds", spec := "matchFinds", unfollowed := true, recurses := true, plainKeys := false, apart := false, narrowed := true }
def MatchFindsUptoSaid : Prop := matchFindsUptoRow.holds Try.pinned (OpenSpec.upto matchFindsSpec)

/-- 'floodgatelaw16.MatchFirst', WHERE WHAT IT READS IS OF BULK AT MOST 1048576: true; the input reads as it did. -/
def matchFirstUptoRow : OpenClaim := { program := "ytkbglhkhhoakgaa", sum := "dad1202432d412610fceffa0656f59f17320f5cc35826e01c47685112ffa496c", func := "floodgate/floodgatelaw16.MatchFirst", spec := "matchFirst", unfollowed := true, recurses := true, plainKeys := false, apart := false, narrowed := true }
def MatchFirstUptoSaid : Prop := matchFirstUptoRow.holds Try.pinned (OpenSpec.upto matchFirstSpec)

/-- 'floodgatelaw16.MatchNil', WHERE WHAT IT READS IS OF BULK AT MOST 1048576: true; the input reads as it did. -/
def matchNilUptoRow : OpenClaim := { program := "ytkbglhkhhoakgaa", sum := "dad1202432d412610fceffa0656f59f17320f5cc35826e01c47685112ffa496c", func := "floodgate/floodgatelaw16.MatchNil", spec := "matchNil", unfollowed := true, recurses := true, plainKeys := false, apart := false, narrowed := true }
def MatchNilUptoSaid : Prop := matchNilUptoRow.holds Try.pinned (OpenSpec.upto matchNilSpec)

/-- 'floodgatelaw27.StatsWaits', WHERE WHAT IT READS IS OF BULK AT MOST 1048576: true; the input reads as it did. -/
def statsWaitsUptoRow : OpenClaim := { program := "ytkbglhkhhoakgaa", sum := "dad1202432d412610fceffa0656f59f17320f5cc35826e01c47685112ffa496c", func := "floodgate/floodgatelaw27.StatsWaits", spec := "statsWaits", unfollowed := true, recurses := true, plainKeys := false, apart := false, narrowed := true }
def StatsWaitsUptoSaid : Prop := statsWaitsUptoRow.holds Try.pinned (OpenSpec.upto statsWaitsSpec)

/-- 'floodgatelaw27.StatsNil', WHERE WHAT IT READS IS OF BULK AT MOST 1048576: true; the input reads as it did. -/
def statsNilUptoRow : OpenClaim := { program := "ytkbglhkhhoakgaa", sum := "dad1202432d412610fceffa0656f59f17320f5cc35826e01c47685112ffa496c", func := "floodgate/floodgatelaw27.StatsNil", spec := "statsNil", unfollowed := true, recurses := true, plainKeys := false, apart := false, narrowed := true }
def StatsNilUptoSaid : Prop := statsNilUptoRow.holds Try.pinned (OpenSpec.upto statsNilSpec)

/-- 'floodgatelaw31.SpansOf', WHERE WHAT IT READS IS OF BULK AT MOST 1048576: true; the input reads as it did. -/
def spansOfUptoRow : OpenClaim := { program := "ytkbglhkhhoakgaa", sum := "dad1202432d412610fceffa0656f59f17320f5cc35826e01c47685112ffa496c", func := "floodgate/floodgatelaw31.SpansOf", spec := "spansOf", unfollowed := true, recurses := true, plainKeys := false, apart := false, narrowed := true }
def SpansOfUptoSaid : Prop := spansOfUptoRow.holds Try.pinned (OpenSpec.upto spansOfSpec)

/-- 'floodgatelaw31.SpansApart', WHERE WHAT IT READS IS OF BULK AT MOST 1048576: true; the input reads as it did. -/
def spansApartUptoRow : OpenClaim := { program := "ytkbglhkhhoakgaa", sum := "dad1202432d412610fceffa0656f59f17320f5cc35826e01c47685112ffa496c", func := "floodgate/floodgatelaw31.SpansApart", spec := "spansApart", unfollowed := true, recurses := true, plainKeys := false, apart := false, narrowed := true }
def SpansApartUptoSaid : Prop := spansApartUptoRow.holds Try.pinned (OpenSpec.upto spansApartSpec)

/-- 'floodgatelaw35.BusyTells', WHERE WHAT IT READS IS OF BULK AT MOST 1048576: true; the input reads as it did. -/
def busyTellsUptoRow : OpenClaim := { program := "ytkbglhkhhoakgaa", sum := "dad1202432d412610fceffa0656f59f17320f5cc35826e01c47685112ffa496c", func := "floodgate/floodgatelaw35.BusyTells", spec := "busyTells", unfollowed := true, recurses := true, plainKeys := false, apart := false, narrowed := true }
def BusyTellsUptoSaid : Prop := busyTellsUptoRow.holds Try.pinned (OpenSpec.upto busyTellsSpec)

/-- 'floodgatelaw41.SweepOnce', WHERE WHAT IT READS IS OF BULK AT MOST 1048576: true; the input reads as it did. -/
def sweepOnceUptoRow : OpenClaim := { program := "ytkbglhkhhoakgaa", sum := "dad1202432d412610fceffa0656f59f17320f5cc35826e01c47685112ffa496c", func := "floodgate/floodgatelaw41.SweepOnce", spec := "sweepOnce", plainKeys := false, apart := false, narrowed := true }
def SweepOnceUptoSaid : Prop := sweepOnceUptoRow.holds Try.pinned (OpenSpec.upto sweepOnceSpec)

end Rows
end Go.Proofs.Ytkbglhkhhoakgaa
