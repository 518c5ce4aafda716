/-
  No cell of these rows narrows 'for every input' (looked for: loops, veiled, ifaces, maps, wideKeys, modest, calm, conditions, laid).
  DERIVED. THE GIVEN ROWS OF THIS SEAT. 11 by the template 'for every input the law returns true; each argument reads behind the call as it read before'; 0 by the template 'total and deterministic' (their statements: YtpjanaljmnfccaaTotals.lean).
  GIVEN WITH THE SEED: the statements are not yours to turn. If you find one false, say at which input.
  Laid BY PROGRAM, IN A SANDBOX (cutbox-rows.mjs): the forced cells as the released guide's own fill.sh prints them over the translation ff5aec854aeccaa3… (all of the seat's roots in one cut). By AI agents, Wed Nov 11 2026. No macro, syntax, notation, axiom, sorry.
-/
import Derived.Test.YtpjanaljmnfccaaChecked
import GoSem.Claim
import GoSem.ClaimJoined
import GoSem.ClaimMapViews
import Derived.JoinedTies
import Derived.KernelRfl
namespace Go.Proofs.Ytpjanaljmnfccaa
/- THE CELL 'sum', in the pinned program and in every row, IS THE sha256 OF THE DUMP (.gsa) THAT YtpjanaljmnfccaaProg.lean LOADS. Nothing in Lean hashes anything: it is a label: what it is worth is what the hold of that sum in a sandbox is worth. -/
noncomputable def Try.pinned : Pinned := { name := "ytpjanaljmnfccaa", sum := "ff5aec854aeccaa3d6c945940f8ced84d88fdaaf9fdfd42c73c87fb2c47b1fe5", checked := Try.checked }
namespace Rows
def none {H : Type} : Left H := { results := [], args := [] }

/-- 'floodgatelaw47.MeterNil': WHATEVER THE INPUT: true; the input reads as it did. -/
def meterNilSpec : ChangeSpec := { name := "meterNil", fn := fun _ => fun
  | [d] => { results := [.lit (.bool true)], args := [d] }
  | _ => none }
def meterNilRow : OpenClaim := { program := "ytpjanaljmnfccaa", sum := "ff5aec854aeccaa3d6c945940f8ced84d88fdaaf9fdfd42c73c87fb2c47b1fe5", func := "floodgate/floodgatelaw47.MeterNil", spec := "meterNil", apart := false }
def MeterNilSaid : Prop := meterNilRow.holds Try.pinned (OpenSpec.ofChange meterNilSpec)

/-- ITS FALSE NEIGHBOUR: 'it returns false'. Refute it at one input. -/
def meterNilWrong : ChangeSpec := { name := "meterNil", fn := fun _ => fun
  | [d] => { results := [.lit (.bool false)], args := [d] }
  | _ => none }
def MeterNilWrongFalsely : Prop := meterNilRow.holds Try.pinned (OpenSpec.ofChange meterNilWrong)

/-- 'floodgatelaw47.MeterFades': WHATEVER THE INPUT: true; the input reads as it did. -/
def meterFadesSpec : ChangeSpec := { name := "meterFades", fn := fun _ => fun
  | [d1, d2, d3] => { results := [.lit (.bool true)], args := [d1, d2, d3] }
  | _ => none }
def meterFadesRow : OpenClaim := { program := "ytpjanaljmnfccaa", sum := "ff5aec854aeccaa3d6c945940f8ced84d88fdaaf9fdfd42c73c87fb2c47b1fe5", func := "floodgate/floodgatelaw47.MeterFades", spec := "meterFades", apart := false }
def MeterFadesSaid : Prop := meterFadesRow.holds Try.pinned (OpenSpec.ofChange meterFadesSpec)

/-- ITS FALSE NEIGHBOUR: 'it returns false'. Refute it at one input. -/
def meterFadesWrong : ChangeSpec := { name := "meterFades", fn := fun _ => fun
  | [d1, d2, d3] => { results := [.lit (.bool false)], args := [d1, d2, d3] }
  | _ => none }
def MeterFadesWrongFalsely : Prop := meterFadesRow.holds Try.pinned (OpenSpec.ofChange meterFadesWrong)

/-- 'floodgatelaw47.MeterMost': WHATEVER THE INPUT: true; the input reads as it did. -/
def meterMostSpec : ChangeSpec := { name := "meterMost", fn := fun _ => fun
  | [d1, d2, d3] => { results := [.lit (.bool true)], args := [d1, d2, d3] }
  | _ => none }
def meterMostRow : OpenClaim := { program := "ytpjanaljmnfccaa", sum := "ff5aec854aeccaa3d6c945940f8ced84d88fdaaf9fdfd42c73c87fb2c47b1fe5", func := "floodgate/floodgatelaw47.MeterMost", spec := "meterMost", apart := false }
def MeterMostSaid : Prop := meterMostRow.holds Try.pinned (OpenSpec.ofChange meterMostSpec)

/-- ITS FALSE NEIGHBOUR: 'it returns false'. Refute it at one input. -/
def meterMostWrong : ChangeSpec := { name := "meterMost", fn := fun _ => fun
  | [d1, d2, d3] => { results := [.lit (.bool false)], args := [d1, d2, d3] }
  | _ => none }
def MeterMostWrongFalsely : Prop := meterMostRow.holds Try.pinned (OpenSpec.ofChange meterMostWrong)

/-- 'floodgatelaw47.MeterCalls': WHATEVER THE INPUT: true; the input reads as it did. -/
def meterCallsSpec : ChangeSpec := { name := "meterCalls", fn := fun _ => fun
  | [d1, d2, d3] => { results := [.lit (.bool true)], args := [d1, d2, d3] }
  | _ => none }
def meterCallsRow : OpenClaim := { program := "ytpjanaljmnfccaa", sum := "ff5aec854aeccaa3d6c945940f8ced84d88fdaaf9fdfd42c73c87fb2c47b1fe5", func := "floodgate/floodgatelaw47.MeterCalls", spec := "meterCalls", apart := false }
def MeterCallsSaid : Prop := meterCallsRow.holds Try.pinned (OpenSpec.ofChange meterCallsSpec)

/-- ITS FALSE NEIGHBOUR: 'it returns false'. Refute it at one input. -/
def meterCallsWrong : ChangeSpec := { name := "meterCalls", fn := fun _ => fun
  | [d1, d2, d3] => { results := [.lit (.bool false)], args := [d1, d2, d3] }
  | _ => none }
def MeterCallsWrongFalsely : Prop := meterCallsRow.holds Try.pinned (OpenSpec.ofChange meterCallsWrong)

/-- 'floodgatelaw11.PktqNil': WHATEVER THE INPUT: true; the input reads as it did. -/
def pktqNilSpec : ChangeSpec := { name := "pktqNil", fn := fun _ => fun
  | [d] => { results := [.lit (.bool true)], args := [d] }
  | _ => none }
def pktqNilRow : OpenClaim := { program := "ytpjanaljmnfccaa", sum := "ff5aec854aeccaa3d6c945940f8ced84d88fdaaf9fdfd42c73c87fb2c47b1fe5", func := "floodgate/floodgatelaw11.PktqNil", spec := "pktqNil", apart := false }
def PktqNilSaid : Prop := pktqNilRow.holds Try.pinned (OpenSpec.ofChange pktqNilSpec)

/-- ITS FALSE NEIGHBOUR: 'it returns false'. Refute it at one input. -/
def pktqNilWrong : ChangeSpec := { name := "pktqNil", fn := fun _ => fun
  | [d] => { results := [.lit (.bool false)], args := [d] }
  | _ => none }
def PktqNilWrongFalsely : Prop := pktqNilRow.holds Try.pinned (OpenSpec.ofChange pktqNilWrong)

/-- 'floodgatelaw11.PktqOrder': WHATEVER THE INPUT: true; the input reads as it did. -/
def pktqOrderSpec : ChangeSpec := { name := "pktqOrder", fn := fun _ => fun
  | [d1, d2, d3] => { results := [.lit (.bool true)], args := [d1, d2, d3] }
  | _ => none }
def pktqOrderRow : OpenClaim := { program := "ytpjanaljmnfccaa", sum := "ff5aec854aeccaa3d6c945940f8ced84d88fdaaf9fdfd42c73c87fb2c47b1fe5", func := "floodgate/floodgatelaw11.PktqOrder", spec := "pktqOrder", apart := false }
def PktqOrderSaid : Prop := pktqOrderRow.holds Try.pinned (OpenSpec.ofChange pktqOrderSpec)

/-- ITS FALSE NEIGHBOUR: 'it returns false'. Refute it at one input. -/
def pktqOrderWrong : ChangeSpec := { name := "pktqOrder", fn := fun _ => fun
  | [d1, d2, d3] => { results := [.lit (.bool false)], args := [d1, d2, d3] }
  | _ => none }
def PktqOrderWrongFalsely : Prop := pktqOrderRow.holds Try.pinned (OpenSpec.ofChange pktqOrderWrong)

/-- 'floodgatelaw11.PktqActs': WHATEVER THE INPUT: true; the input reads as it did. -/
def pktqActsSpec : ChangeSpec := { name := "pktqActs", fn := fun _ => fun
  | [d1, d2, d3] => { results := [.lit (.bool true)], args := [d1, d2, d3] }
  | _ => none }
def pktqActsRow : OpenClaim := { program := "ytpjanaljmnfccaa", sum := "ff5aec854aeccaa3d6c945940f8ced84d88fdaaf9fdfd42c73c87fb2c47b1fe5", func := "floodgate/floodgatelaw11.PktqActs", spec := "pktqActs", apart := false }
def PktqActsSaid : Prop := pktqActsRow.holds Try.pinned (OpenSpec.ofChange pktqActsSpec)

/-- ITS FALSE NEIGHBOUR: 'it returns false'. Refute it at one input. -/
def pktqActsWrong : ChangeSpec := { name := "pktqActs", fn := fun _ => fun
  | [d1, d2, d3] => { results := [.lit (.bool false)], args := [d1, d2, d3] }
  | _ => none }
def PktqActsWrongFalsely : Prop := pktqActsRow.holds Try.pinned (OpenSpec.ofChange pktqActsWrong)

/-- 'floodgatelaw44.Ipv4Sums': WHATEVER THE INPUT: true; the input reads as it did. -/
def ipv4SumsSpec : ChangeSpec := { name := "ipv4Sums", fn := fun _ => fun
  | [d1, d2] => { results := [.lit (.bool true)], args := [d1, d2] }
  | _ => none }
def ipv4SumsRow : OpenClaim := { program := "ytpjanaljmnfccaa", sum := "ff5aec854aeccaa3d6c945940f8ced84d88fdaaf9fdfd42c73c87fb2c47b1fe5", func := "floodgate/floodgatelaw44.Ipv4Sums", spec := "ipv4Sums", unfollowed := true, recurses := true, apart := false }
def Ipv4SumsSaid : Prop := ipv4SumsRow.holds Try.pinned (OpenSpec.ofChange ipv4SumsSpec)

/-- ITS FALSE NEIGHBOUR: 'it returns false'. Refute it at one input. -/
def ipv4SumsWrong : ChangeSpec := { name := "ipv4Sums", fn := fun _ => fun
  | [d1, d2] => { results := [.lit (.bool false)], args := [d1, d2] }
  | _ => none }
def Ipv4SumsWrongFalsely : Prop := ipv4SumsRow.holds Try.pinned (OpenSpec.ofChange ipv4SumsWrong)

/-- 'floodgatelaw44.Ipv4Encodes': WHATEVER THE INPUT: true; the input reads as it did. -/
def ipv4EncodesSpec : ChangeSpec := { name := "ipv4Encodes", fn := fun _ => fun
  | [d1, d2] => { results := [.lit (.bool true)], args := [d1, d2] }
  | _ => none }
def ipv4EncodesRow : OpenClaim := { program := "ytpjanaljmnfccaa", sum := "ff5aec854aeccaa3d6c945940f8ced84d88fdaaf9fdfd42c73c87fb2c47b1fe5", func := "floodgate/floodgatelaw44.Ipv4Encodes", spec := "ipv4Encodes", unfollowed := true, recurses := true, apart := false }
def Ipv4EncodesSaid : Prop := ipv4EncodesRow.holds Try.pinned (OpenSpec.ofChange ipv4EncodesSpec)

/-- ITS FALSE NEIGHBOUR: 'it returns false'. Refute it at one input. -/
def ipv4EncodesWrong : ChangeSpec := { name := "ipv4Encodes", fn := fun _ => fun
  | [d1, d2] => { results := [.lit (.bool false)], args := [d1, d2] }
  | _ => none }
def Ipv4EncodesWrongFalsely : Prop := ipv4EncodesRow.holds Try.pinned (OpenSpec.ofChange ipv4EncodesWrong)

/-- 'floodgatelaw44.Ipv4Decodes': WHATEVER THE INPUT: true; the input reads as it did. -/
def ipv4DecodesSpec : ChangeSpec := { name := "ipv4Decodes", fn := fun _ => fun
  | [d] => { results := [.lit (.bool true)], args := [d] }
  | _ => none }
def ipv4DecodesRow : OpenClaim := { program := "ytpjanaljmnfccaa", sum := "ff5aec854aeccaa3d6c945940f8ced84d88fdaaf9fdfd42c73c87fb2c47b1fe5", func := "floodgate/floodgatelaw44.Ipv4Decodes", spec := "ipv4Decodes", unfollowed := true, recurses := true, apart := false }
def Ipv4DecodesSaid : Prop := ipv4DecodesRow.holds Try.pinned (OpenSpec.ofChange ipv4DecodesSpec)

/-- ITS FALSE NEIGHBOUR: 'it returns false'. Refute it at one input. -/
def ipv4DecodesWrong : ChangeSpec := { name := "ipv4Decodes", fn := fun _ => fun
  | [d] => { results := [.lit (.bool false)], args := [d] }
  | _ => none }
def Ipv4DecodesWrongFalsely : Prop := ipv4DecodesRow.holds Try.pinned (OpenSpec.ofChange ipv4DecodesWrong)

/-- 'floodgatelaw44.Ipv4Turned': WHATEVER THE INPUT: true; the input reads as it did. -/
def ipv4TurnedSpec : ChangeSpec := { name := "ipv4Turned", fn := fun _ => fun
  | [d1, d2, d3] => { results := [.lit (.bool true)], args := [d1, d2, d3] }
  | _ => none }
def ipv4TurnedRow : OpenClaim := { program := "ytpjanaljmnfccaa", sum := "ff5aec854aeccaa3d6c945940f8ced84d88fdaaf9fdfd42c73c87fb2c47b1fe5", func := "floodgate/floodgatelaw44.Ipv4Turned", spec := "ipv4Turned", unfollowed := true, recurses := true, apart := false }
def Ipv4TurnedSaid : Prop := ipv4TurnedRow.holds Try.pinned (OpenSpec.ofChange ipv4TurnedSpec)

/-- ITS FALSE NEIGHBOUR: 'it returns false'. Refute it at one input. -/
def ipv4TurnedWrong : ChangeSpec := { name := "ipv4Turned", fn := fun _ => fun
  | [d1, d2, d3] => { results := [.lit (.bool false)], args := [d1, d2, d3] }
  | _ => none }
def Ipv4TurnedWrongFalsely : Prop := ipv4TurnedRow.holds Try.pinned (OpenSpec.ofChange ipv4TurnedWrong)

/- THE SECOND FORM. 'bulk': how many values and letters a reading holds, each counted each time it is reached (what is shared counts as often as it is met; a slice's spare places count too). A statement '..UptoSaid' is the law's where the arguments, and the package variables that the reading takes, are together of bulk at most 1048576: NARROWER than '..Said'. Prove '..Said' where nothing that the law and all that it calls make is longer than what came in: it says more and counts as full. Else prove '..UptoSaid'. A law counts once. -/
mutual
def uptoBulk {H : Type} : DataW H → Nat
  | .lit (.string bytes) => bytes.length + 1
  | .lit _ => 1
  | .nil => 1
  | .ptr d => uptoBulk d + 1
  | .slice elems spare => uptoBulkAll elems + uptoBulkAll spare + 1
  | .agg parts => uptoBulkAll parts + 1
  | .iface _ d => uptoBulk d + 1
  | .map entries => uptoBulkEntries entries + 1
  | .held _ => 1
def uptoBulkAll {H : Type} : List (DataW H) → Nat
  | [] => 0
  | d :: r => uptoBulk d + uptoBulkAll r
def uptoBulkEntries {H : Type} : List (Lit × DataW H) → Nat
  | [] => 0
  | x :: r => uptoBulkEntry x + uptoBulkEntries r
def uptoBulkEntry {H : Type} : Lit × DataW H → Nat
  | (.string bytes, d) => bytes.length + uptoBulk d + 1
  | (_, d) => uptoBulk d + 1
 end
def uptoSmall : (H : Type) → List (DataW H) → Bool := fun _ ds => decide (uptoBulkAll ds ≤ 1048576)
def OpenSpec.upto (s : _root_.Go.ChangeSpec) : _root_.Go.OpenSpec := { _root_.Go.OpenSpec.ofChange s with cond := some uptoSmall }

/-- 'floodgatelaw47.MeterNil', WHERE WHAT IT READS IS OF BULK AT MOST 1048576: true; the input reads as it did. -/
def meterNilUptoRow : OpenClaim := { program := "ytpjanaljmnfccaa", sum := "ff5aec854aeccaa3d6c945940f8ced84d88fdaaf9fdfd42c73c87fb2c47b1fe5", func := "floodgate/floodgatelaw47.MeterNil", spec := "meterNil", apart := false, narrowed := true }
def MeterNilUptoSaid : Prop := meterNilUptoRow.holds Try.pinned (OpenSpec.upto meterNilSpec)

/-- 'floodgatelaw47.MeterFades', WHERE WHAT IT READS IS OF BULK AT MOST 1048576: true; the input reads as it did. -/
def meterFadesUptoRow : OpenClaim := { program := "ytpjanaljmnfccaa", sum := "ff5aec854aeccaa3d6c945940f8ced84d88fdaaf9fdfd42c73c87fb2c47b1fe5", func := "floodgate/floodgatelaw47.MeterFades", spec := "meterFades", apart := false, narrowed := true }
def MeterFadesUptoSaid : Prop := meterFadesUptoRow.holds Try.pinned (OpenSpec.upto meterFadesSpec)

/-- 'floodgatelaw47.MeterMost', WHERE WHAT IT READS IS OF BULK AT MOST 1048576: true; the input reads as it did. -/
def meterMostUptoRow : OpenClaim := { program := "ytpjanaljmnfccaa", sum := "ff5aec854aeccaa3d6c945940f8ced84d88fdaaf9fdfd42c73c87fb2c47b1fe5", func := "floodgate/floodgatelaw47.MeterMost", spec := "meterMost", apart := false, narrowed := true }
def MeterMostUptoSaid : Prop := meterMostUptoRow.holds Try.pinned (OpenSpec.upto meterMostSpec)

/-- 'floodgatelaw47.MeterCalls', WHERE WHAT IT READS IS OF BULK AT MOST 1048576: true; the input reads as it did. -/
def meterCallsUptoRow : OpenClaim := { program := "ytpjanaljmnfccaa", sum := "ff5aec854aeccaa3d6c945940f8ced84d88fdaaf9fdfd42c73c87fb2c47b1fe5", func := "floodgate/floodgatelaw47.MeterCalls", spec := "meterCalls", apart := false, narrowed := true }
def MeterCallsUptoSaid : Prop := meterCallsUptoRow.holds Try.pinned (OpenSpec.upto meterCallsSpec)

/-- 'floodgatelaw11.PktqNil', WHERE WHAT IT READS IS OF BULK AT MOST 1048576: true; the input reads as it did. -/
def pktqNilUptoRow : OpenClaim := { program := "ytpjanaljmnfccaa", sum := "ff5aec854aeccaa3d6c945940f8ced84d88fdaaf9fdfd42c73c87fb2c47b1fe5", func := "floodgate/floodgatelaw11.PktqNil", spec := "pktqNil", apart := false, narrowed := true }
def PktqNilUptoSaid : Prop := pktqNilUptoRow.holds Try.pinned (OpenSpec.upto pktqNilSpec)

/-- 'floodgatelaw11.PktqOrder', WHERE WHAT IT READS IS OF BULK AT MOST 1048576: true; the input reads as it did. -/
def pktqOrderUptoRow : OpenClaim := { program := "ytpjanaljmnfccaa", sum := "ff5aec854aeccaa3d6c945940f8ced84d88fdaaf9fdfd42c73c87fb2c47b1fe5", func := "floodgate/floodgatelaw11.PktqOrder", spec := "pktqOrder", apart := false, narrowed := true }
def PktqOrderUptoSaid : Prop := pktqOrderUptoRow.holds Try.pinned (OpenSpec.upto pktqOrderSpec)

/-- 'floodgatelaw11.PktqActs', WHERE WHAT IT READS IS OF BULK AT MOST 1048576: true; the input reads as it did. -/
def pktqActsUptoRow : OpenClaim := { program := "ytpjanaljmnfccaa", sum := "ff5aec854aeccaa3d6c945940f8ced84d88fdaaf9fdfd42c73c87fb2c47b1fe5", func := "floodgate/floodgatelaw11.PktqActs", spec := "pktqActs", apart := false, narrowed := true }
def PktqActsUptoSaid : Prop := pktqActsUptoRow.holds Try.pinned (OpenSpec.upto pktqActsSpec)

/-- 'floodgatelaw44.Ipv4Sums', WHERE WHAT IT READS IS OF BULK AT MOST 1048576: true; the input reads as it did. -/
def ipv4SumsUptoRow : OpenClaim := { program := "ytpjanaljmnfccaa", sum := "ff5aec854aeccaa3d6c945940f8ced84d88fdaaf9fdfd42c73c87fb2c47b1fe5", func := "floodgate/floodgatelaw44.Ipv4Sums", spec := "ipv4Sums", unfollowed := true, recurses := true, apart := false, narrowed := true }
def Ipv4SumsUptoSaid : Prop := ipv4SumsUptoRow.holds Try.pinned (OpenSpec.upto ipv4SumsSpec)

/-- 'floodgatelaw44.Ipv4Encodes', WHERE WHAT IT READS IS OF BULK AT MOST 1048576: true; the input reads as it did. -/
def ipv4EncodesUptoRow : OpenClaim := { program := "ytpjanaljmnfccaa", sum := "ff5aec854aeccaa3d6c945940f8ced84d88fdaaf9fdfd42c73c87fb2c47b1fe5", func := "floodgate/floodgatelaw44.Ipv4Encodes", spec := "ipv4Encodes", unfollowed := true, recurses := true, apart := false, narrowed := true }
def Ipv4EncodesUptoSaid : Prop := ipv4EncodesUptoRow.holds Try.pinned (OpenSpec.upto ipv4EncodesSpec)

/-- 'floodgatelaw44.Ipv4Decodes', WHERE WHAT IT READS IS OF BULK AT MOST 1048576: true; the input reads as it did. -/
def ipv4DecodesUptoRow : OpenClaim := { program := "ytpjanaljmnfccaa", sum := "ff5aec854aeccaa3d6c945940f8ced84d88fdaaf9fdfd42c73c87fb2c47b1fe5", func := "floodgate/floodgatelaw44.Ipv4Decodes", spec := "ipv4Decodes", unfollowed := true, recurses := true, apart := false, narrowed := true }
def Ipv4DecodesUptoSaid : Prop := ipv4DecodesUptoRow.holds Try.pinned (OpenSpec.upto ipv4DecodesSpec)

/-- 'floodgatelaw44.Ipv4Turned', WHERE WHAT IT READS IS OF BULK AT MOST 1048576: true; the input reads as it did. -/
def ipv4TurnedUptoRow : OpenClaim := { program := "ytpjanaljmnfccaa", sum := "ff5aec854aeccaa3d6c945940f8ced84d88fdaaf9fdfd42c73c87fb2c47b1fe5", func := "floodgate/floodgatelaw44.Ipv4Turned", spec := "ipv4Turned", unfollowed := true, recurses := true, apart := false, narrowed := true }
def Ipv4TurnedUptoSaid : Prop := ipv4TurnedUptoRow.holds Try.pinned (OpenSpec.upto ipv4TurnedSpec)

end Rows
end Go.Proofs.Ytpjanaljmnfccaa
