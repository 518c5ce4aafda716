/-
  No cell of these rows narrows 'for every input' (looked for: loops, veiled, ifaces, maps, wideKeys, modest, calm, conditions, laid).
  DERIVED. THE GIVEN ROWS OF THIS SEAT. 12 by the template 'for every input the law returns true; each argument reads behind the call as it read before'; 0 by the template 'total and deterministic' (their statements: YtohdcpkacdaanaaTotals.lean).
  GIVEN WITH THE SEED: the statements are not yours to turn. If you find one false, say at which input.
  Laid BY PROGRAM, IN A SANDBOX (cutbox-rows.mjs): the forced cells as the released guide's own fill.sh prints them over the translation 45f9473aea7e448a… (all of the seat's roots in one cut). By AI agents, Wed Nov 11 2026. No macro, syntax, notation, axiom, sorry.
-/
import Derived.Test.YtohdcpkacdaanaaChecked
import GoSem.Claim
import GoSem.ClaimJoined
import GoSem.ClaimMapViews
import Derived.JoinedTies
import Derived.KernelRfl
namespace Go.Proofs.Ytohdcpkacdaanaa
/- THE CELL 'sum', in the pinned program and in every row, IS THE sha256 OF THE DUMP (.gsa) THAT YtohdcpkacdaanaaProg.lean LOADS. Nothing in Lean hashes anything: it is a label: what it is worth is what the hold of that sum in a sandbox is worth. -/
noncomputable def Try.pinned : Pinned := { name := "ytohdcpkacdaanaa", sum := "45f9473aea7e448a83f8d875ce511c422a94f0a340de304c30a563df7028d3be", checked := Try.checked }
namespace Rows
def none {H : Type} : Left H := { results := [], args := [] }

/-- 'floodgatelaw09.PacketEncodes': WHATEVER THE INPUT: true; the input reads as it did. -/
def packetEncodesSpec : ChangeSpec := { name := "packetEncodes", fn := fun _ => fun
  | [d] => { results := [.lit (.bool true)], args := [d] }
  | _ => none }
def packetEncodesRow : OpenClaim := { program := "ytohdcpkacdaanaa", sum := "45f9473aea7e448a83f8d875ce511c422a94f0a340de304c30a563df7028d3be", func := "floodgate/floodgatelaw09.PacketEncodes", spec := "packetEncodes", apart := false }
def PacketEncodesSaid : Prop := packetEncodesRow.holds Try.pinned (OpenSpec.ofChange packetEncodesSpec)

/-- ITS FALSE NEIGHBOUR: 'it returns false'. Refute it at one input. -/
def packetEncodesWrong : ChangeSpec := { name := "packetEncodes", fn := fun _ => fun
  | [d] => { results := [.lit (.bool false)], args := [d] }
  | _ => none }
def PacketEncodesWrongFalsely : Prop := packetEncodesRow.holds Try.pinned (OpenSpec.ofChange packetEncodesWrong)

/-- 'floodgatelaw09.PacketDecodes': WHATEVER THE INPUT: true; the input reads as it did. -/
def packetDecodesSpec : ChangeSpec := { name := "packetDecodes", fn := fun _ => fun
  | [d] => { results := [.lit (.bool true)], args := [d] }
  | _ => none }
def packetDecodesRow : OpenClaim := { program := "ytohdcpkacdaanaa", sum := "45f9473aea7e448a83f8d875ce511c422a94f0a340de304c30a563df7028d3be", func := "floodgate/floodgatelaw09.PacketDecodes", spec := "packetDecodes", apart := false }
def PacketDecodesSaid : Prop := packetDecodesRow.holds Try.pinned (OpenSpec.ofChange packetDecodesSpec)

/-- ITS FALSE NEIGHBOUR: 'it returns false'. Refute it at one input. -/
def packetDecodesWrong : ChangeSpec := { name := "packetDecodes", fn := fun _ => fun
  | [d] => { results := [.lit (.bool false)], args := [d] }
  | _ => none }
def PacketDecodesWrongFalsely : Prop := packetDecodesRow.holds Try.pinned (OpenSpec.ofChange packetDecodesWrong)

/-- 'floodgatelaw09.PacketMay': WHATEVER THE INPUT: true; the input reads as it did. -/
def packetMaySpec : ChangeSpec := { name := "packetMay", fn := fun _ => fun
  | [d1, d2, d3] => { results := [.lit (.bool true)], args := [d1, d2, d3] }
  | _ => none }
def packetMayRow : OpenClaim := { program := "ytohdcpkacdaanaa", sum := "45f9473aea7e448a83f8d875ce511c422a94f0a340de304c30a563df7028d3be", func := "floodgate/floodgatelaw09.PacketMay", spec := "packetMay", apart := false }
def PacketMaySaid : Prop := packetMayRow.holds Try.pinned (OpenSpec.ofChange packetMaySpec)

/-- ITS FALSE NEIGHBOUR: 'it returns false'. Refute it at one input. -/
def packetMayWrong : ChangeSpec := { name := "packetMay", fn := fun _ => fun
  | [d1, d2, d3] => { results := [.lit (.bool false)], args := [d1, d2, d3] }
  | _ => none }
def PacketMayWrongFalsely : Prop := packetMayRow.holds Try.pinned (OpenSpec.ofChange packetMayWrong)

/-- 'floodgatelaw10.RingActs': WHATEVER THE INPUT: true; the input reads as it did. -/
def ringActsSpec : ChangeSpec := { name := "ringActs", fn := fun _ => fun
  | [d1, d2] => { results := [.lit (.bool true)], args := [d1, d2] }
  | _ => none }
def ringActsRow : OpenClaim := { program := "ytohdcpkacdaanaa", sum := "45f9473aea7e448a83f8d875ce511c422a94f0a340de304c30a563df7028d3be", func := "floodgate/floodgatelaw10.RingActs", spec := "ringActs", apart := false }
def RingActsSaid : Prop := ringActsRow.holds Try.pinned (OpenSpec.ofChange ringActsSpec)

/-- ITS FALSE NEIGHBOUR: 'it returns false'. Refute it at one input. -/
def ringActsWrong : ChangeSpec := { name := "ringActs", fn := fun _ => fun
  | [d1, d2] => { results := [.lit (.bool false)], args := [d1, d2] }
  | _ => none }
def RingActsWrongFalsely : Prop := ringActsRow.holds Try.pinned (OpenSpec.ofChange ringActsWrong)

/-- 'floodgatelaw10.RingTexts': WHATEVER THE INPUT: true; the input reads as it did. -/
def ringTextsSpec : ChangeSpec := { name := "ringTexts", fn := fun _ => fun
  | [d1, d2] => { results := [.lit (.bool true)], args := [d1, d2] }
  | _ => none }
def ringTextsRow : OpenClaim := { program := "ytohdcpkacdaanaa", sum := "45f9473aea7e448a83f8d875ce511c422a94f0a340de304c30a563df7028d3be", func := "floodgate/floodgatelaw10.RingTexts", spec := "ringTexts", apart := false }
def RingTextsSaid : Prop := ringTextsRow.holds Try.pinned (OpenSpec.ofChange ringTextsSpec)

/-- ITS FALSE NEIGHBOUR: 'it returns false'. Refute it at one input. -/
def ringTextsWrong : ChangeSpec := { name := "ringTexts", fn := fun _ => fun
  | [d1, d2] => { results := [.lit (.bool false)], args := [d1, d2] }
  | _ => none }
def RingTextsWrongFalsely : Prop := ringTextsRow.holds Try.pinned (OpenSpec.ofChange ringTextsWrong)

/-- 'floodgatelaw10.RingNil': WHATEVER THE INPUT: true; the input reads as it did. -/
def ringNilSpec : ChangeSpec := { name := "ringNil", fn := fun _ => fun
  | [d] => { results := [.lit (.bool true)], args := [d] }
  | _ => none }
def ringNilRow : OpenClaim := { program := "ytohdcpkacdaanaa", sum := "45f9473aea7e448a83f8d875ce511c422a94f0a340de304c30a563df7028d3be", func := "floodgate/floodgatelaw10.RingNil", spec := "ringNil", apart := false }
def RingNilSaid : Prop := ringNilRow.holds Try.pinned (OpenSpec.ofChange ringNilSpec)

/-- ITS FALSE NEIGHBOUR: 'it returns false'. Refute it at one input. -/
def ringNilWrong : ChangeSpec := { name := "ringNil", fn := fun _ => fun
  | [d] => { results := [.lit (.bool false)], args := [d] }
  | _ => none }
def RingNilWrongFalsely : Prop := ringNilRow.holds Try.pinned (OpenSpec.ofChange ringNilWrong)

/-- 'floodgatelaw25.LinkSends': WHATEVER THE INPUT: true; the input reads as it did. -/
def linkSendsSpec : ChangeSpec := { name := "linkSends", fn := fun _ => fun
  | [d1, d2, d3] => { results := [.lit (.bool true)], args := [d1, d2, d3] }
  | _ => none }
def linkSendsRow : OpenClaim := { program := "ytohdcpkacdaanaa", sum := "45f9473aea7e448a83f8d875ce511c422a94f0a340de304c30a563df7028d3be", func := "floodgate/floodgatelaw25.LinkSends", spec := "linkSends", apart := false }
def LinkSendsSaid : Prop := linkSendsRow.holds Try.pinned (OpenSpec.ofChange linkSendsSpec)

/-- ITS FALSE NEIGHBOUR: 'it returns false'. Refute it at one input. -/
def linkSendsWrong : ChangeSpec := { name := "linkSends", fn := fun _ => fun
  | [d1, d2, d3] => { results := [.lit (.bool false)], args := [d1, d2, d3] }
  | _ => none }
def LinkSendsWrongFalsely : Prop := linkSendsRow.holds Try.pinned (OpenSpec.ofChange linkSendsWrong)

/-- 'floodgatelaw25.LinkApart': WHATEVER THE INPUT: true; the input reads as it did. -/
def linkApartSpec : ChangeSpec := { name := "linkApart", fn := fun _ => fun
  | [d1, d2] => { results := [.lit (.bool true)], args := [d1, d2] }
  | _ => none }
def linkApartRow : OpenClaim := { program := "ytohdcpkacdaanaa", sum := "45f9473aea7e448a83f8d875ce511c422a94f0a340de304c30a563df7028d3be", func := "floodgate/floodgatelaw25.LinkApart", spec := "linkApart", apart := false }
def LinkApartSaid : Prop := linkApartRow.holds Try.pinned (OpenSpec.ofChange linkApartSpec)

/-- ITS FALSE NEIGHBOUR: 'it returns false'. Refute it at one input. -/
def linkApartWrong : ChangeSpec := { name := "linkApart", fn := fun _ => fun
  | [d1, d2] => { results := [.lit (.bool false)], args := [d1, d2] }
  | _ => none }
def LinkApartWrongFalsely : Prop := linkApartRow.holds Try.pinned (OpenSpec.ofChange linkApartWrong)

/-- 'floodgatelaw25.LinkNil': WHATEVER THE INPUT: true; the input reads as it did. -/
def linkNilSpec : ChangeSpec := { name := "linkNil", fn := fun _ => fun
  | [d] => { results := [.lit (.bool true)], args := [d] }
  | _ => none }
def linkNilRow : OpenClaim := { program := "ytohdcpkacdaanaa", sum := "45f9473aea7e448a83f8d875ce511c422a94f0a340de304c30a563df7028d3be", func := "floodgate/floodgatelaw25.LinkNil", spec := "linkNil", apart := false }
def LinkNilSaid : Prop := linkNilRow.holds Try.pinned (OpenSpec.ofChange linkNilSpec)

/-- ITS FALSE NEIGHBOUR: 'it returns false'. Refute it at one input. -/
def linkNilWrong : ChangeSpec := { name := "linkNil", fn := fun _ => fun
  | [d] => { results := [.lit (.bool false)], args := [d] }
  | _ => none }
def LinkNilWrongFalsely : Prop := linkNilRow.holds Try.pinned (OpenSpec.ofChange linkNilWrong)

/-- 'floodgatelaw26.WakeTells': WHATEVER THE INPUT: true; the input reads as it did. -/
def wakeTellsSpec : ChangeSpec := { name := "wakeTells", fn := fun _ => fun
  | [d1, d2, d3] => { results := [.lit (.bool true)], args := [d1, d2, d3] }
  | _ => none }
def wakeTellsRow : OpenClaim := { program := "ytohdcpkacdaanaa", sum := "45f9473aea7e448a83f8d875ce511c422a94f0a340de304c30a563df7028d3be", func := "floodgate/floodgatelaw26.WakeTells", spec := "wakeTells", apart := false }
def WakeTellsSaid : Prop := wakeTellsRow.holds Try.pinned (OpenSpec.ofChange wakeTellsSpec)

/-- ITS FALSE NEIGHBOUR: 'it returns false'. Refute it at one input. -/
def wakeTellsWrong : ChangeSpec := { name := "wakeTells", fn := fun _ => fun
  | [d1, d2, d3] => { results := [.lit (.bool false)], args := [d1, d2, d3] }
  | _ => none }
def WakeTellsWrongFalsely : Prop := wakeTellsRow.holds Try.pinned (OpenSpec.ofChange wakeTellsWrong)

/-- 'floodgatelaw26.WakeLater': WHATEVER THE INPUT: true; the input reads as it did. -/
def wakeLaterSpec : ChangeSpec := { name := "wakeLater", fn := fun _ => fun
  | [d1, d2, d3] => { results := [.lit (.bool true)], args := [d1, d2, d3] }
  | _ => none }
def wakeLaterRow : OpenClaim := { program := "ytohdcpkacdaanaa", sum := "45f9473aea7e448a83f8d875ce511c422a94f0a340de304c30a563df7028d3be", func := "floodgate/floodgatelaw26.WakeLater", spec := "wakeLater", apart := false }
def WakeLaterSaid : Prop := wakeLaterRow.holds Try.pinned (OpenSpec.ofChange wakeLaterSpec)

/-- ITS FALSE NEIGHBOUR: 'it returns false'. Refute it at one input. -/
def wakeLaterWrong : ChangeSpec := { name := "wakeLater", fn := fun _ => fun
  | [d1, d2, d3] => { results := [.lit (.bool false)], args := [d1, d2, d3] }
  | _ => none }
def WakeLaterWrongFalsely : Prop := wakeLaterRow.holds Try.pinned (OpenSpec.ofChange wakeLaterWrong)

/-- 'floodgatelaw26.WakeIdles': WHATEVER THE INPUT: true; the input reads as it did. -/
def wakeIdlesSpec : ChangeSpec := { name := "wakeIdles", fn := fun _ => fun
  | [d1, d2, d3] => { results := [.lit (.bool true)], args := [d1, d2, d3] }
  | _ => none }
def wakeIdlesRow : OpenClaim := { program := "ytohdcpkacdaanaa", sum := "45f9473aea7e448a83f8d875ce511c422a94f0a340de304c30a563df7028d3be", func := "floodgate/floodgatelaw26.WakeIdles", spec := "wakeIdles", apart := false }
def WakeIdlesSaid : Prop := wakeIdlesRow.holds Try.pinned (OpenSpec.ofChange wakeIdlesSpec)

/-- ITS FALSE NEIGHBOUR: 'it returns false'. Refute it at one input. -/
def wakeIdlesWrong : ChangeSpec := { name := "wakeIdles", fn := fun _ => fun
  | [d1, d2, d3] => { results := [.lit (.bool false)], args := [d1, d2, d3] }
  | _ => none }
def WakeIdlesWrongFalsely : Prop := wakeIdlesRow.holds Try.pinned (OpenSpec.ofChange wakeIdlesWrong)

/- THE SECOND FORM. 'bulk': how many values and letters a reading holds, each counted each time it is reached (what is shared counts as often as it is met; a slice's spare places count too). A statement '..UptoSaid' is the law's where the arguments, and the package variables that the reading takes, are together of bulk at most 1048576: NARROWER than '..Said'. Prove '..Said' where nothing that the law and all that it calls make is longer than what came in: it says more and counts as full. Else prove '..UptoSaid'. A law counts once. -/
mutual
def uptoBulk {H : Type} : DataW H → Nat
  | .lit (.string bytes) => bytes.length + 1
  | .lit _ => 1
  | .nil => 1
  | .ptr d => uptoBulk d + 1
  | .slice elems spare => uptoBulkAll elems + uptoBulkAll spare + 1
  | .agg parts => uptoBulkAll parts + 1
  | .iface _ d => uptoBulk d + 1
  | .map entries => uptoBulkEntries entries + 1
  | .held _ => 1
def uptoBulkAll {H : Type} : List (DataW H) → Nat
  | [] => 0
  | d :: r => uptoBulk d + uptoBulkAll r
def uptoBulkEntries {H : Type} : List (Lit × DataW H) → Nat
  | [] => 0
  | x :: r => uptoBulkEntry x + uptoBulkEntries r
def uptoBulkEntry {H : Type} : Lit × DataW H → Nat
  | (.string bytes, d) => bytes.length + uptoBulk d + 1
  | (_, d) => uptoBulk d + 1
 end
def uptoSmall : (H : Type) → List (DataW H) → Bool := fun _ ds => decide (uptoBulkAll ds ≤ 1048576)
def OpenSpec.upto (s : _root_.Go.ChangeSpec) : _root_.Go.OpenSpec := { _root_.Go.OpenSpec.ofChange s with cond := some uptoSmall }

/-- 'floodgatelaw09.PacketEncodes', WHERE WHAT IT READS IS OF BULK AT MOST 1048576: true; the input reads as it did. -/
def packetEncodesUptoRow : OpenClaim := { program := "ytohdcpkacdaanaa", sum := "45f9473aea7e448a83f8d875ce511c422a94f0a340de304c30a563df7028d3be", func := "floodgate/floodgatelaw09.PacketEncodes", spec := "packetEncodes", apart := false, narrowed := true }
def PacketEncodesUptoSaid : Prop := packetEncodesUptoRow.holds Try.pinned (OpenSpec.upto packetEncodesSpec)

/-- 'floodgatelaw09.PacketDecodes', WHERE WHAT IT READS IS OF BULK AT MOST 1048576: true; the input reads as it did. -/
def packetDecodesUptoRow : OpenClaim := { program := "ytohdcpkacdaanaa", sum := "45f9473aea7e448a83f8d875ce511c422a94f0a340de304c30a563df7028d3be", func := "floodgate/floodgatelaw09.PacketDecodes", spec := "packetDecodes", apart := false, narrowed := true }
def PacketDecodesUptoSaid : Prop := packetDecodesUptoRow.holds Try.pinned (OpenSpec.upto packetDecodesSpec)

/-- 'floodgatelaw09.PacketMay', WHERE WHAT IT READS IS OF BULK AT MOST 1048576: true; the input reads as it did. -/
def packetMayUptoRow : OpenClaim := { program := "ytohdcpkacdaanaa", sum := "45f9473aea7e448a83f8d875ce511c422a94f0a340de304c30a563df7028d3be", func := "floodgate/floodgatelaw09.PacketMay", spec := "packetMay", apart := false, narrowed := true }
def PacketMayUptoSaid : Prop := packetMayUptoRow.holds Try.pinned (OpenSpec.upto packetMaySpec)

/-- 'floodgatelaw10.RingActs', WHERE WHAT IT READS IS OF BULK AT MOST 1048576: true; the input reads as it did. -/
def ringActsUptoRow : OpenClaim := { program := "ytohdcpkacdaanaa", sum := "45f9473aea7e448a83f8d875ce511c422a94f0a340de304c30a563df7028d3be", func := "floodgate/floodgatelaw10.RingActs", spec := "ringActs", apart := false, narrowed := true }
def RingActsUptoSaid : Prop := ringActsUptoRow.holds Try.pinned (OpenSpec.upto ringActsSpec)

/-- 'floodgatelaw10.RingTexts', WHERE WHAT IT READS IS OF BULK AT MOST 1048576: true; the input reads as it did. -/
def ringTextsUptoRow : OpenClaim := { program := "ytohdcpkacdaanaa", sum := "45f9473aea7e448a83f8d875ce511c422a94f0a340de304c30a563df7028d3be", func := "floodgate/floodgatelaw10.RingTexts", spec := "ringTexts", apart := false, narrowed := true }
def RingTextsUptoSaid : Prop := ringTextsUptoRow.holds Try.pinned (OpenSpec.upto ringTextsSpec)

/-- 'floodgatelaw10.RingNil', WHERE WHAT IT READS IS OF BULK AT MOST 1048576: true; the input reads as it did. -/
def ringNilUptoRow : OpenClaim := { program := "ytohdcpkacdaanaa", sum := "45f9473aea7e448a83f8d875ce511c422a94f0a340de304c30a563df7028d3be", func := "floodgate/floodgatelaw10.RingNil", spec := "ringNil", apart := false, narrowed := true }
def RingNilUptoSaid : Prop := ringNilUptoRow.holds Try.pinned (OpenSpec.upto ringNilSpec)

/-- 'floodgatelaw25.LinkSends', WHERE WHAT IT READS IS OF BULK AT MOST 1048576: true; the input reads as it did. -/
def linkSendsUptoRow : OpenClaim := { program := "ytohdcpkacdaanaa", sum := "45f9473aea7e448a83f8d875ce511c422a94f0a340de304c30a563df7028d3be", func := "floodgate/floodgatelaw25.LinkSends", spec := "linkSends", apart := false, narrowed := true }
def LinkSendsUptoSaid : Prop := linkSendsUptoRow.holds Try.pinned (OpenSpec.upto linkSendsSpec)

/-- 'floodgatelaw25.LinkApart', WHERE WHAT IT READS IS OF BULK AT MOST 1048576: true; the input reads as it did. -/
def linkApartUptoRow : OpenClaim := { program := "ytohdcpkacdaanaa", sum := "45f9473aea7e448a83f8d875ce511c422a94f0a340de304c30a563df7028d3be", func := "floodgate/floodgatelaw25.LinkApart", spec := "linkApart", apart := false, narrowed := true }
def LinkApartUptoSaid : Prop := linkApartUptoRow.holds Try.pinned (OpenSpec.upto linkApartSpec)

/-- 'floodgatelaw25.LinkNil', WHERE WHAT IT READS IS OF BULK AT MOST 1048576: true; the input reads as it did. -/
def linkNilUptoRow : OpenClaim := { program := "ytohdcpkacdaanaa", sum := "45f9473aea7e448a83f8d875ce511c422a94f0a340de304c30a563df7028d3be", func := "floodgate/floodgatelaw25.LinkNil", spec := "linkNil", apart := false, narrowed := true }
def LinkNilUptoSaid : Prop := linkNilUptoRow.holds Try.pinned (OpenSpec.upto linkNilSpec)

/-- 'floodgatelaw26.WakeTells', WHERE WHAT IT READS IS OF BULK AT MOST 1048576: true; the input reads as it did. -/
def wakeTellsUptoRow : OpenClaim := { program := "ytohdcpkacdaanaa", sum := "45f9473aea7e448a83f8d875ce511c422a94f0a340de304c30a563df7028d3be", func := "floodgate/floodgatelaw26.WakeTells", spec := "wakeTells", apart := false, narrowed := true }
def WakeTellsUptoSaid : Prop := wakeTellsUptoRow.holds Try.pinned (OpenSpec.upto wakeTellsSpec)

/-- 'floodgatelaw26.WakeLater', WHERE WHAT IT READS IS OF BULK AT MOST 1048576: true; the input reads as it did. -/
def wakeLaterUptoRow : OpenClaim := { program := "ytohdcpkacdaanaa", sum := "45f9473aea7e448a83f8d875ce511c422a94f0a340de304c30a563df7028d3be", func := "floodgate/floodgatelaw26.WakeLater", spec := "wakeLater", apart := false, narrowed := true }
def WakeLaterUptoSaid : Prop := wakeLaterUptoRow.holds Try.pinned (OpenSpec.upto wakeLaterSpec)

/-- 'floodgatelaw26.WakeIdles', WHERE WHAT IT READS IS OF BULK AT MOST 1048576: true; the input reads as it did. -/
def wakeIdlesUptoRow : OpenClaim := { program := "ytohdcpkacdaanaa", sum := "45f9473aea7e448a83f8d875ce511c422a94f0a340de304c30a563df7028d3be", func := "floodgate/floodgatelaw26.WakeIdles", spec := "wakeIdles", apart := false, narrowed := true }
def WakeIdlesUptoSaid : Prop := wakeIdlesUptoRow.holds Try.pinned (OpenSpec.upto wakeIdlesSpec)

end Rows
end Go.Proofs.Ytohdcpkacdaanaa
