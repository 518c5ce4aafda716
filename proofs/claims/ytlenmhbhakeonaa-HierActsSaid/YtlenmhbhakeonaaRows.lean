/-
  No cell of these rows narrows 'for every input' (looked for: loops, veiled, ifaces, maps, wideKeys, modest, calm, conditions, laid).
  DERIVED. THE GIVEN ROWS OF THIS SEAT. 9 by the template 'for every input the law returns true; each argument reads behind the call as it read before'; 0 by the template 'total and deterministic' (their statements: YtlenmhbhakeonaaTotals.lean).
  GIVEN WITH THE SEED: the statements are not yours to turn. If you find one false, say at which input.
  Laid BY PROGRAM, IN A SANDBOX (cutbox-rows.mjs): the forced cells as the released guide's own fill.sh prints them over the translation c2067dd58dab74c6… (all of the seat's roots in one cut). By AI agents, Wed Nov 11 2026. No macro, syntax, notation, axiom, sorry.
-/
import Derived.Test.YtlenmhbhakeonaaChecked
import GoSem.Claim
import GoSem.ClaimJoined
import GoSem.ClaimMapViews
import Derived.JoinedTies
import Derived.KernelRfl
namespace Go.Proofs.Ytlenmhbhakeonaa
/- THE CELL 'sum', in the pinned program and in every row, IS THE sha256 OF THE DUMP (.gsa) THAT YtlenmhbhakeonaaProg.lean LOADS. Nothing in Lean hashes anything: it is a label: what it is worth is what the hold of that sum in a sandbox is worth. -/
noncomputable def Try.pinned : Pinned := { name := "ytlenmhbhakeonaa", sum := "c2067dd58dab74c60b49358b3b7dbc4c7c108d760a8aa1410eb46e5928c76949", checked := Try.checked }
namespace Rows
def none {H : Type} : Left H := { results := [], args := [] }

/-- 'floodgatelaw18.HierActs': WHATEVER THE INPUT: true; the input reads as it did. -/
def hierActsSpec : ChangeSpec := { name := "hierActs", fn := fun _ => fun
  | [d] => { results := [.lit (.bool true)], args := [d] }
  | _ => none }
def hierActsRow : OpenClaim := { program := "ytlenmhbhakeonaa", sum := "c2067dd58dab74c60b49358b3b7dbc4c7c108d760a8aa1410eb46e5928c76949", func := "floodgate/floodgatelaw18.HierActs", spec := "hierActs", inPlace := ["maps.clone"], unfollowed := true, recurses := true, apart := false }
def HierActsSaid : Prop := hierActsRow.holds Try.pinned (OpenSpec.ofChange hierActsSpec)

/-- ITS FALSE NEIGHBOUR: 'it returns false'. Refute it at one input. -/
def hierActsWrong : ChangeSpec := { name := "hierActs", fn := fun _ => fun
  | [d] => { results := [.lit (.bool false)], args := [d] }
  | _ => none }
def HierActsWrongFalsely : Prop := hierActsRow.holds Try.pinned (OpenSpec.ofChange hierActsWrong)

/-- 'floodgatelaw18.HierLaid': WHATEVER THE INPUT: true; the input reads as it did. -/
def hierLaidSpec : ChangeSpec := { name := "hierLaid", fn := fun _ => fun
  | [d] => { results := [.lit (.bool true)], args := [d] }
  | _ => none }
def hierLaidRow : OpenClaim := { program := "ytlenmhbhakeonaa", sum := "c2067dd58dab74c60b49358b3b7dbc4c7c108d760a8aa1410eb46e5928c76949", func := "floodgate/floodgatelaw18.HierLaid", spec := "hierLaid", unfollowed := true, recurses := true, apart := false }
def HierLaidSaid : Prop := hierLaidRow.holds Try.pinned (OpenSpec.ofChange hierLaidSpec)

/-- ITS FALSE NEIGHBOUR: 'it returns false'. Refute it at one input. -/
def hierLaidWrong : ChangeSpec := { name := "hierLaid", fn := fun _ => fun
  | [d] => { results := [.lit (.bool false)], args := [d] }
  | _ => none }
def HierLaidWrongFalsely : Prop := hierLaidRow.holds Try.pinned (OpenSpec.ofChange hierLaidWrong)

/-- 'floodgatelaw18.HierNil': WHATEVER THE INPUT: true; the input reads as it did. -/
def hierNilSpec : ChangeSpec := { name := "hierNil", fn := fun _ => fun
  | [d] => { results := [.lit (.bool true)], args := [d] }
  | _ => none }
def hierNilRow : OpenClaim := { program := "ytlenmhbhakeonaa", sum := "c2067dd58dab74c60b49358b3b7dbc4c7c108d760a8aa1410eb46e5928c76949", func := "floodgate/floodgatelaw18.HierNil", spec := "hierNil", inPlace := ["maps.clone"], unfollowed := true, recurses := true, apart := false }
def HierNilSaid : Prop := hierNilRow.holds Try.pinned (OpenSpec.ofChange hierNilSpec)

/-- ITS FALSE NEIGHBOUR: 'it returns false'. Refute it at one input. -/
def hierNilWrong : ChangeSpec := { name := "hierNil", fn := fun _ => fun
  | [d] => { results := [.lit (.bool false)], args := [d] }
  | _ => none }
def HierNilWrongFalsely : Prop := hierNilRow.holds Try.pinned (OpenSpec.ofChange hierNilWrong)

/-- 'floodgatelaw27.StatsCalls': WHATEVER THE INPUT: true; the input reads as it did. -/
def statsCallsSpec : ChangeSpec := { name := "statsCalls", fn := fun _ => fun
  | [d1, d2] => { results := [.lit (.bool true)], args := [d1, d2] }
  | _ => none }
def statsCallsRow : OpenClaim := { program := "ytlenmhbhakeonaa", sum := "c2067dd58dab74c60b49358b3b7dbc4c7c108d760a8aa1410eb46e5928c76949", func := "floodgate/floodgatelaw27.StatsCalls", spec := "statsCalls", unfollowed := true, recurses := true, apart := false }
def StatsCallsSaid : Prop := statsCallsRow.holds Try.pinned (OpenSpec.ofChange statsCallsSpec)

/-- ITS FALSE NEIGHBOUR: 'it returns false'. Refute it at one input. -/
def statsCallsWrong : ChangeSpec := { name := "statsCalls", fn := fun _ => fun
  | [d1, d2] => { results := [.lit (.bool false)], args := [d1, d2] }
  | _ => none }
def StatsCallsWrongFalsely : Prop := statsCallsRow.holds Try.pinned (OpenSpec.ofChange statsCallsWrong)

/-- 'floodgatelaw36.AuditChecks': WHATEVER THE INPUT: true; the input reads as it did. -/
def auditChecksSpec : ChangeSpec := { name := "auditChecks", fn := fun _ => fun
  | [d1, d2] => { results := [.lit (.bool true)], args := [d1, d2] }
  | _ => none }
def auditChecksRow : OpenClaim := { program := "ytlenmhbhakeonaa", sum := "c2067dd58dab74c60b49358b3b7dbc4c7c108d760a8aa1410eb46e5928c76949", func := "floodgate/floodgatelaw36.AuditChecks", spec := "auditChecks", unfollowed := true, recurses := true, apart := false }
def AuditChecksSaid : Prop := auditChecksRow.holds Try.pinned (OpenSpec.ofChange auditChecksSpec)

/-- ITS FALSE NEIGHBOUR: 'it returns false'. Refute it at one input. -/
def auditChecksWrong : ChangeSpec := { name := "auditChecks", fn := fun _ => fun
  | [d1, d2] => { results := [.lit (.bool false)], args := [d1, d2] }
  | _ => none }
def AuditChecksWrongFalsely : Prop := auditChecksRow.holds Try.pinned (OpenSpec.ofChange auditChecksWrong)

/-- 'floodgatelaw36.AuditWaits': WHATEVER THE INPUT: true; the input reads as it did. -/
def auditWaitsSpec : ChangeSpec := { name := "auditWaits", fn := fun _ => fun
  | [d1, d2] => { results := [.lit (.bool true)], args := [d1, d2] }
  | _ => none }
def auditWaitsRow : OpenClaim := { program := "ytlenmhbhakeonaa", sum := "c2067dd58dab74c60b49358b3b7dbc4c7c108d760a8aa1410eb46e5928c76949", func := "floodgate/floodgatelaw36.AuditWaits", spec := "auditWaits", unfollowed := true, recurses := true, apart := false }
def AuditWaitsSaid : Prop := auditWaitsRow.holds Try.pinned (OpenSpec.ofChange auditWaitsSpec)

/-- ITS FALSE NEIGHBOUR: 'it returns false'. Refute it at one input. -/
def auditWaitsWrong : ChangeSpec := { name := "auditWaits", fn := fun _ => fun
  | [d1, d2] => { results := [.lit (.bool false)], args := [d1, d2] }
  | _ => none }
def AuditWaitsWrongFalsely : Prop := auditWaitsRow.holds Try.pinned (OpenSpec.ofChange auditWaitsWrong)

/-- 'floodgatelaw36.AuditEnough': WHATEVER THE INPUT: true; the input reads as it did. -/
def auditEnoughSpec : ChangeSpec := { name := "auditEnough", fn := fun _ => fun
  | [d1, d2, d3] => { results := [.lit (.bool true)], args := [d1, d2, d3] }
  | _ => none }
def auditEnoughRow : OpenClaim := { program := "ytlenmhbhakeonaa", sum := "c2067dd58dab74c60b49358b3b7dbc4c7c108d760a8aa1410eb46e5928c76949", func := "floodgate/floodgatelaw36.AuditEnough", spec := "auditEnough", unfollowed := true, recurses := true, apart := false }
def AuditEnoughSaid : Prop := auditEnoughRow.holds Try.pinned (OpenSpec.ofChange auditEnoughSpec)

/-- ITS FALSE NEIGHBOUR: 'it returns false'. Refute it at one input. -/
def auditEnoughWrong : ChangeSpec := { name := "auditEnough", fn := fun _ => fun
  | [d1, d2, d3] => { results := [.lit (.bool false)], args := [d1, d2, d3] }
  | _ => none }
def AuditEnoughWrongFalsely : Prop := auditEnoughRow.holds Try.pinned (OpenSpec.ofChange auditEnoughWrong)

/-- 'floodgatelaw41.SweepTells': WHATEVER THE INPUT: true; the input reads as it did. -/
def sweepTellsSpec : ChangeSpec := { name := "sweepTells", fn := fun _ => fun
  | [d] => { results := [.lit (.bool true)], args := [d] }
  | _ => none }
def sweepTellsRow : OpenClaim := { program := "ytlenmhbhakeonaa", sum := "c2067dd58dab74c60b49358b3b7dbc4c7c108d760a8aa1410eb46e5928c76949", func := "floodgate/floodgatelaw41.SweepTells", spec := "sweepTells", apart := false }
def SweepTellsSaid : Prop := sweepTellsRow.holds Try.pinned (OpenSpec.ofChange sweepTellsSpec)

/-- ITS FALSE NEIGHBOUR: 'it returns false'. Refute it at one input. -/
def sweepTellsWrong : ChangeSpec := { name := "sweepTells", fn := fun _ => fun
  | [d] => { results := [.lit (.bool false)], args := [d] }
  | _ => none }
def SweepTellsWrongFalsely : Prop := sweepTellsRow.holds Try.pinned (OpenSpec.ofChange sweepTellsWrong)

/-- 'floodgatelaw41.SweepOnce': WHATEVER THE INPUT: true; the input reads as it did. -/
def sweepOnceSpec : ChangeSpec := { name := "sweepOnce", fn := fun _ => fun
  | [d] => { results := [.lit (.bool true)], args := [d] }
  | _ => none }
def sweepOnceRow : OpenClaim := { program := "ytlenmhbhakeonaa", sum := "c2067dd58dab74c60b49358b3b7dbc4c7c108d760a8aa1410eb46e5928c76949", func := "floodgate/floodgatelaw41.SweepOnce", spec := "sweepOnce", apart := false }
def SweepOnceSaid : Prop := sweepOnceRow.holds Try.pinned (OpenSpec.ofChange sweepOnceSpec)

/-- ITS FALSE NEIGHBOUR: 'it returns false'. Refute it at one input. -/
def sweepOnceWrong : ChangeSpec := { name := "sweepOnce", fn := fun _ => fun
  | [d] => { results := [.lit (.bool false)], args := [d] }
  | _ => none }
def SweepOnceWrongFalsely : Prop := sweepOnceRow.holds Try.pinned (OpenSpec.ofChange sweepOnceWrong)

/- THE SECOND FORM. 'bulk': how many values and letters a reading holds, each counted each time it is reached (what is shared counts as often as it is met; a slice's spare places count too). A statement '..UptoSaid' is the law's where the arguments, and the package variables that the reading takes, are together of bulk at most 1048576: NARROWER than '..Said'. Prove '..Said' where nothing that the law and all that it calls make is longer than what came in: it says more and counts as full. Else prove '..UptoSaid'. A law counts once. -/
mutual
def uptoBulk {H : Type} : DataW H → Nat
  | .lit (.string bytes) => bytes.length + 1
  | .lit _ => 1
  | .nil => 1
  | .ptr d => uptoBulk d + 1
  | .slice elems spare => uptoBulkAll elems + uptoBulkAll spare + 1
  | .agg parts => uptoBulkAll parts + 1
  | .iface _ d => uptoBulk d + 1
  | .map entries => uptoBulkEntries entries + 1
  | .held _ => 1
def uptoBulkAll {H : Type} : List (DataW H) → Nat
  | [] => 0
  | d :: r => uptoBulk d + uptoBulkAll r
def uptoBulkEntries {H : Type} : List (Lit × DataW H) → Nat
  | [] => 0
  | x :: r => uptoBulkEntry x + uptoBulkEntries r
def uptoBulkEntry {H : Type} : Lit × DataW H → Nat
  | (.string bytes, d) => bytes.length + uptoBulk d + 1
  | (_, d) => uptoBulk d + 1
 end
def uptoSmall : (H : Type) → List (DataW H) → Bool := fun _ ds => decide (uptoBulkAll ds ≤ 1048576)
def OpenSpec.upto (s : _root_.Go.ChangeSpec) : _root_.Go.OpenSpec := { _root_.Go.OpenSpec.ofChange s with cond := some uptoSmall }

/-- 'floodgatelaw18.HierActs', WHERE WHAT IT READS IS OF BULK AT MOST 1048576: true; the input reads as it did. -/
def hierActsUptoRow : OpenClaim := { program := "ytlenmhbhakeonaa", sum := "c2067dd58dab74c60b49358b3b7dbc4c7c108d760a8aa1410eb46e5928c76949", func := "floodgate/floodgatelaw18.HierActs", spec := "hierActs", inPlace := ["maps.clone"], unfollowed := true, recurses := true, apart := false, narrowed := true }
def HierActsUptoSaid : Prop := hierActsUptoRow.holds Try.pinned (OpenSpec.upto hierActsSpec)

/-- 'floodgatelaw18.HierLaid', WHERE WHAT IT READS IS OF BULK AT MOST 1048576: true; the input reads as it did. -/
def hierLaidUptoRow : OpenClaim := { program := "ytlenmhbhakeonaa", sum := "c2067dd58dab74c60b49358b3b7dbc4c7c108d760a8aa1410eb46e5928c76949", func := "floodgate/floodgatelaw18.HierLaid", spec := "hierLaid", unfollowed := true, recurses := true, apart := false, narrowed := true }
def HierLaidUptoSaid : Prop := hierLaidUptoRow.holds Try.pinned (OpenSpec.upto hierLaidSpec)

/-- 'floodgatelaw18.HierNil', WHERE WHAT IT READS IS OF BULK AT MOST 1048576: true; the input reads as it did. -/
def hierNilUptoRow : OpenClaim := { program := "ytlenmhbhakeonaa", sum := "c2067dd58dab74c60b49358b3b7dbc4c7c108d760a8aa1410eb46e5928c76949", func := "floodgate/floodgatelaw18.HierNil", spec := "hierNil", inPlace := ["maps.clone"], unfollowed := true, recurses := true, apart := false, narrowed := true }
def HierNilUptoSaid : Prop := hierNilUptoRow.holds Try.pinned (OpenSpec.upto hierNilSpec)

/-- 'floodgatelaw27.StatsCalls', WHERE WHAT IT READS IS OF BULK AT MOST 1048576: true; the input reads as it did. -/
def statsCallsUptoRow : OpenClaim := { program := "ytlenmhbhakeonaa", sum := "c2067dd58dab74c60b49358b3b7dbc4c7c108d760a8aa1410eb46e5928c76949", func := "floodgate/floodgatelaw27.StatsCalls", spec := "statsCalls", unfollowed := true, recurses := true, apart := false, narrowed := true }
def StatsCallsUptoSaid : Prop := statsCallsUptoRow.holds Try.pinned (OpenSpec.upto statsCallsSpec)

/-- 'floodgatelaw36.AuditChecks', WHERE WHAT IT READS IS OF BULK AT MOST 1048576: true; the input reads as it did. -/
def auditChecksUptoRow : OpenClaim := { program := "ytlenmhbhakeonaa", sum := "c2067dd58dab74c60b49358b3b7dbc4c7c108d760a8aa1410eb46e5928c76949", func := "floodgate/floodgatelaw36.AuditChecks", spec := "auditChecks", unfollowed := true, recurses := true, apart := false, narrowed := true }
def AuditChecksUptoSaid : Prop := auditChecksUptoRow.holds Try.pinned (OpenSpec.upto auditChecksSpec)

/-- 'floodgatelaw36.AuditWaits', WHERE WHAT IT READS IS OF BULK AT MOST 1048576: true; the input reads as it did. -/
def auditWaitsUptoRow : OpenClaim := { program := "ytlenmhbhakeonaa", sum := "c2067dd58dab74c60b49358b3b7dbc4c7c108d760a8aa1410eb46e5928c76949", func := "floodgate/floodgatelaw36.AuditWaits", spec := "auditWaits", unfollowed := true, recurses := true, apart := false, narrowed := true }
def AuditWaitsUptoSaid : Prop := auditWaitsUptoRow.holds Try.pinned (OpenSpec.upto auditWaitsSpec)

/-- 'floodgatelaw36.AuditEnough', WHERE WHAT IT READS IS OF BULK AT MOST 1048576: true; the input reads as it did. -/
def auditEnoughUptoRow : OpenClaim := { program := "ytlenmhbhakeonaa", sum := "c2067dd58dab74c60b49358b3b7dbc4c7c108d760a8aa1410eb46e5928c76949", func := "floodgate/floodgatelaw36.AuditEnough", spec := "auditEnough", unfollowed := true, recurses := true, apart := false, narrowed := true }
def AuditEnoughUptoSaid : Prop := auditEnoughUptoRow.holds Try.pinned (OpenSpec.upto auditEnoughSpec)

/-- 'floodgatelaw41.SweepTells', WHERE WHAT IT READS IS OF BULK AT MOST 1048576: true; the input reads as it did. -/
def sweepTellsUptoRow : OpenClaim := { program := "ytlenmhbhakeonaa", sum := "c2067dd58dab74c60b49358b3b7dbc4c7c108d760a8aa1410eb46e5928c76949", func := "floodgate/floodgatelaw41.SweepTells", spec := "sweepTells", apart := false, narrowed := true }
def SweepTellsUptoSaid : Prop := sweepTellsUptoRow.holds Try.pinned (OpenSpec.upto sweepTellsSpec)

/-- 'floodgatelaw41.SweepOnce', WHERE WHAT IT READS IS OF BULK AT MOST 1048576: true; the input reads as it did. -/
def sweepOnceUptoRow : OpenClaim := { program := "ytlenmhbhakeonaa", sum := "c2067dd58dab74c60b49358b3b7dbc4c7c108d760a8aa1410eb46e5928c76949", func := "floodgate/floodgatelaw41.SweepOnce", spec := "sweepOnce", apart := false, narrowed := true }
def SweepOnceUptoSaid : Prop := sweepOnceUptoRow.holds Try.pinned (OpenSpec.upto sweepOnceSpec)

end Rows
end Go.Proofs.Ytlenmhbhakeonaa
