/-
  No cell of these rows narrows 'for every input' (looked for: loops, veiled, ifaces, maps, wideKeys, modest, calm, conditions, laid).
  DERIVED. THE GIVEN ROWS OF THIS SEAT. 9 by the template 'for every input the law returns true; each argument reads behind the call as it read before'; 0 by the template 'total and deterministic' (their statements: YtikmdkmejbcmmaaTotals.lean).
  GIVEN WITH THE SEED: the statements are not yours to turn. If you find one false, say at which input.
  Laid BY PROGRAM, IN A SANDBOX (cutbox-rows.mjs): the forced cells as the released guide's own fill.sh prints them over the translation 50bfe0c6fb43e5e5… (all of the seat's roots in one cut). By AI agents, Wed Nov 11 2026. No macro, syntax, notation, axiom, sorry.
-/
import Derived.Test.YtikmdkmejbcmmaaChecked
import GoSem.Claim
import GoSem.ClaimJoined
import GoSem.ClaimMapViews
import Derived.JoinedTies
import Derived.KernelRfl
namespace Go.Proofs.Ytikmdkmejbcmmaa
/- THE CELL 'sum', in the pinned program and in every row, IS THE sha256 OF THE DUMP (.gsa) THAT YtikmdkmejbcmmaaProg.lean LOADS. Nothing in Lean hashes anything: it is a label: what it is worth is what the hold of that sum in a sandbox is worth. -/
noncomputable def Try.pinned : Pinned := { name := "ytikmdkmejbcmmaa", sum := "50bfe0c6fb43e5e58ec200ef9189384ec386717437c5b3dfab5cc305012c1e62", checked := Try.checked }
namespace Rows
def none {H : Type} : Left H := { results := [], args := [] }

/-- 'floodgatelaw13.AvlActs': WHATEVER THE INPUT: true; the input reads as it did. -/
def avlActsSpec : ChangeSpec := { name := "avlActs", fn := fun _ => fun
  | [d] => { results := [.lit (.bool true)], args := [d] }
  | _ => none }
def avlActsRow : OpenClaim := { program := "ytikmdkmejbcmmaa", sum := "50bfe0c6fb43e5e58ec200ef9189384ec386717437c5b3dfab5cc305012c1e62", func := "floodgate/floodgatelaw13.AvlActs", spec := "avlActs", unfollowed := true, recurses := true, apart := false }
def AvlActsSaid : Prop := avlActsRow.holds Try.pinned (OpenSpec.ofChange avlActsSpec)

/-- ITS FALSE NEIGHBOUR: 'it returns false'. Refute it at one input. -/
def avlActsWrong : ChangeSpec := { name := "avlActs", fn := fun _ => fun
  | [d] => { results := [.lit (.bool false)], args := [d] }
  | _ => none }
def AvlActsWrongFalsely : Prop := avlActsRow.holds Try.pinned (OpenSpec.ofChange avlActsWrong)

/-- 'floodgatelaw13.AvlOrders': WHATEVER THE INPUT: true; the input reads as it did. -/
def avlOrdersSpec : ChangeSpec := { name := "avlOrders", fn := fun _ => fun
  | [d1, d2] => { results := [.lit (.bool true)], args := [d1, d2] }
  | _ => none }
def avlOrdersRow : OpenClaim := { program := "ytikmdkmejbcmmaa", sum := "50bfe0c6fb43e5e58ec200ef9189384ec386717437c5b3dfab5cc305012c1e62", func := "floodgate/floodgatelaw13.AvlOrders", spec := "avlOrders", unfollowed := true, recurses := true, apart := false }
def AvlOrdersSaid : Prop := avlOrdersRow.holds Try.pinned (OpenSpec.ofChange avlOrdersSpec)

/-- ITS FALSE NEIGHBOUR: 'it returns false'. Refute it at one input. -/
def avlOrdersWrong : ChangeSpec := { name := "avlOrders", fn := fun _ => fun
  | [d1, d2] => { results := [.lit (.bool false)], args := [d1, d2] }
  | _ => none }
def AvlOrdersWrongFalsely : Prop := avlOrdersRow.holds Try.pinned (OpenSpec.ofChange avlOrdersWrong)

/-- 'floodgatelaw13.AvlNil': WHATEVER THE INPUT: true; the input reads as it did. -/
def avlNilSpec : ChangeSpec := { name := "avlNil", fn := fun _ => fun
  | [d] => { results := [.lit (.bool true)], args := [d] }
  | _ => none }
def avlNilRow : OpenClaim := { program := "ytikmdkmejbcmmaa", sum := "50bfe0c6fb43e5e58ec200ef9189384ec386717437c5b3dfab5cc305012c1e62", func := "floodgate/floodgatelaw13.AvlNil", spec := "avlNil", unfollowed := true, recurses := true, apart := false }
def AvlNilSaid : Prop := avlNilRow.holds Try.pinned (OpenSpec.ofChange avlNilSpec)

/-- ITS FALSE NEIGHBOUR: 'it returns false'. Refute it at one input. -/
def avlNilWrong : ChangeSpec := { name := "avlNil", fn := fun _ => fun
  | [d] => { results := [.lit (.bool false)], args := [d] }
  | _ => none }
def AvlNilWrongFalsely : Prop := avlNilRow.holds Try.pinned (OpenSpec.ofChange avlNilWrong)

/-- 'floodgatelaw14.EltreeActs': WHATEVER THE INPUT: true; the input reads as it did. -/
def eltreeActsSpec : ChangeSpec := { name := "eltreeActs", fn := fun _ => fun
  | [d] => { results := [.lit (.bool true)], args := [d] }
  | _ => none }
def eltreeActsRow : OpenClaim := { program := "ytikmdkmejbcmmaa", sum := "50bfe0c6fb43e5e58ec200ef9189384ec386717437c5b3dfab5cc305012c1e62", func := "floodgate/floodgatelaw14.EltreeActs", spec := "eltreeActs", unfollowed := true, recurses := true, apart := false }
def EltreeActsSaid : Prop := eltreeActsRow.holds Try.pinned (OpenSpec.ofChange eltreeActsSpec)

/-- ITS FALSE NEIGHBOUR: 'it returns false'. Refute it at one input. -/
def eltreeActsWrong : ChangeSpec := { name := "eltreeActs", fn := fun _ => fun
  | [d] => { results := [.lit (.bool false)], args := [d] }
  | _ => none }
def EltreeActsWrongFalsely : Prop := eltreeActsRow.holds Try.pinned (OpenSpec.ofChange eltreeActsWrong)

/-- 'floodgatelaw14.EltreePicks': WHATEVER THE INPUT: true; the input reads as it did. -/
def eltreePicksSpec : ChangeSpec := { name := "eltreePicks", fn := fun _ => fun
  | [d1, d2] => { results := [.lit (.bool true)], args := [d1, d2] }
  | _ => none }
def eltreePicksRow : OpenClaim := { program := "ytikmdkmejbcmmaa", sum := "50bfe0c6fb43e5e58ec200ef9189384ec386717437c5b3dfab5cc305012c1e62", func := "floodgate/floodgatelaw14.EltreePicks", spec := "eltreePicks", unfollowed := true, recurses := true, apart := false }
def EltreePicksSaid : Prop := eltreePicksRow.holds Try.pinned (OpenSpec.ofChange eltreePicksSpec)

/-- ITS FALSE NEIGHBOUR: 'it returns false'. Refute it at one input. -/
def eltreePicksWrong : ChangeSpec := { name := "eltreePicks", fn := fun _ => fun
  | [d1, d2] => { results := [.lit (.bool false)], args := [d1, d2] }
  | _ => none }
def EltreePicksWrongFalsely : Prop := eltreePicksRow.holds Try.pinned (OpenSpec.ofChange eltreePicksWrong)

/-- 'floodgatelaw14.EltreeNil': WHATEVER THE INPUT: true; the input reads as it did. -/
def eltreeNilSpec : ChangeSpec := { name := "eltreeNil", fn := fun _ => fun
  | [d] => { results := [.lit (.bool true)], args := [d] }
  | _ => none }
def eltreeNilRow : OpenClaim := { program := "ytikmdkmejbcmmaa", sum := "50bfe0c6fb43e5e58ec200ef9189384ec386717437c5b3dfab5cc305012c1e62", func := "floodgate/floodgatelaw14.EltreeNil", spec := "eltreeNil", unfollowed := true, recurses := true, apart := false }
def EltreeNilSaid : Prop := eltreeNilRow.holds Try.pinned (OpenSpec.ofChange eltreeNilSpec)

/-- ITS FALSE NEIGHBOUR: 'it returns false'. Refute it at one input. -/
def eltreeNilWrong : ChangeSpec := { name := "eltreeNil", fn := fun _ => fun
  | [d] => { results := [.lit (.bool false)], args := [d] }
  | _ => none }
def EltreeNilWrongFalsely : Prop := eltreeNilRow.holds Try.pinned (OpenSpec.ofChange eltreeNilWrong)

/-- 'floodgatelaw15.VtreeActs': WHATEVER THE INPUT: true; the input reads as it did. -/
def vtreeActsSpec : ChangeSpec := { name := "vtreeActs", fn := fun _ => fun
  | [d] => { results := [.lit (.bool true)], args := [d] }
  | _ => none }
def vtreeActsRow : OpenClaim := { program := "ytikmdkmejbcmmaa", sum := "50bfe0c6fb43e5e58ec200ef9189384ec386717437c5b3dfab5cc305012c1e62", func := "floodgate/floodgatelaw15.VtreeActs", spec := "vtreeActs", unfollowed := true, recurses := true, apart := false }
def VtreeActsSaid : Prop := vtreeActsRow.holds Try.pinned (OpenSpec.ofChange vtreeActsSpec)

/-- ITS FALSE NEIGHBOUR: 'it returns false'. Refute it at one input. -/
def vtreeActsWrong : ChangeSpec := { name := "vtreeActs", fn := fun _ => fun
  | [d] => { results := [.lit (.bool false)], args := [d] }
  | _ => none }
def VtreeActsWrongFalsely : Prop := vtreeActsRow.holds Try.pinned (OpenSpec.ofChange vtreeActsWrong)

/-- 'floodgatelaw15.VtreePicks': WHATEVER THE INPUT: true; the input reads as it did. -/
def vtreePicksSpec : ChangeSpec := { name := "vtreePicks", fn := fun _ => fun
  | [d1, d2] => { results := [.lit (.bool true)], args := [d1, d2] }
  | _ => none }
def vtreePicksRow : OpenClaim := { program := "ytikmdkmejbcmmaa", sum := "50bfe0c6fb43e5e58ec200ef9189384ec386717437c5b3dfab5cc305012c1e62", func := "floodgate/floodgatelaw15.VtreePicks", spec := "vtreePicks", unfollowed := true, recurses := true, apart := false }
def VtreePicksSaid : Prop := vtreePicksRow.holds Try.pinned (OpenSpec.ofChange vtreePicksSpec)

/-- ITS FALSE NEIGHBOUR: 'it returns false'. Refute it at one input. -/
def vtreePicksWrong : ChangeSpec := { name := "vtreePicks", fn := fun _ => fun
  | [d1, d2] => { results := [.lit (.bool false)], args := [d1, d2] }
  | _ => none }
def VtreePicksWrongFalsely : Prop := vtreePicksRow.holds Try.pinned (OpenSpec.ofChange vtreePicksWrong)

/-- 'floodgatelaw15.VtreeNil': WHATEVER THE INPUT: true; the input reads as it did. -/
def vtreeNilSpec : ChangeSpec := { name := "vtreeNil", fn := fun _ => fun
  | [d] => { results := [.lit (.bool true)], args := [d] }
  | _ => none }
def vtreeNilRow : OpenClaim := { program := "ytikmdkmejbcmmaa", sum := "50bfe0c6fb43e5e58ec200ef9189384ec386717437c5b3dfab5cc305012c1e62", func := "floodgate/floodgatelaw15.VtreeNil", spec := "vtreeNil", unfollowed := true, recurses := true, apart := false }
def VtreeNilSaid : Prop := vtreeNilRow.holds Try.pinned (OpenSpec.ofChange vtreeNilSpec)

/-- ITS FALSE NEIGHBOUR: 'it returns false'. Refute it at one input. -/
def vtreeNilWrong : ChangeSpec := { name := "vtreeNil", fn := fun _ => fun
  | [d] => { results := [.lit (.bool false)], args := [d] }
  | _ => none }
def VtreeNilWrongFalsely : Prop := vtreeNilRow.holds Try.pinned (OpenSpec.ofChange vtreeNilWrong)

/- THE SECOND FORM. 'bulk': how many values and letters a reading holds, each counted each time it is reached (what is shared counts as often as it is met; a slice's spare places count too). A statement '..UptoSaid' is the law's where the arguments, and the package variables that the reading takes, are together of bulk at most 1048576: NARROWER than '..Said'. Prove '..Said' where nothing that the law and all that it calls make is longer than what came in: it says more and counts as full. Else prove '..UptoSaid'. A law counts once. -/
mutual
def uptoBulk {H : Type} : DataW H → Nat
  | .lit (.string bytes) => bytes.length + 1
  | .lit _ => 1
  | .nil => 1
  | .ptr d => uptoBulk d + 1
  | .slice elems spare => uptoBulkAll elems + uptoBulkAll spare + 1
  | .agg parts => uptoBulkAll parts + 1
  | .iface _ d => uptoBulk d + 1
  | .map entries => uptoBulkEntries entries + 1
  | .held _ => 1
def uptoBulkAll {H : Type} : List (DataW H) → Nat
  | [] => 0
  | d :: r => uptoBulk d + uptoBulkAll r
def uptoBulkEntries {H : Type} : List (Lit × DataW H) → Nat
  | [] => 0
  | x :: r => uptoBulkEntry x + uptoBulkEntries r
def uptoBulkEntry {H : Type} : Lit × DataW H → Nat
  | (.string bytes, d) => bytes.length + uptoBulk d + 1
  | (_, d) => uptoBulk d + 1
 end
def uptoSmall : (H : Type) → List (DataW H) → Bool := fun _ ds => decide (uptoBulkAll ds ≤ 1048576)
def OpenSpec.upto (s : _root_.Go.ChangeSpec) : _root_.Go.OpenSpec := { _root_.Go.OpenSpec.ofChange s with cond := some uptoSmall }

/-- 'floodgatelaw13.AvlActs', WHERE WHAT IT READS IS OF BULK AT MOST 1048576: true; the input reads as it did. -/
def avlActsUptoRow : OpenClaim := { program := "ytikmdkmejbcmmaa", sum := "50bfe0c6fb43e5e58ec200ef9189384ec386717437c5b3dfab5cc305012c1e62", func := "floodgate/floodgatelaw13.AvlActs", spec := "avlActs", unfollowed := true, recurses := true, apart := false, narrowed := true }
def AvlActsUptoSaid : Prop := avlActsUptoRow.holds Try.pinned (OpenSpec.upto avlActsSpec)

/-- 'floodgatelaw13.AvlOrders', WHERE WHAT IT READS IS OF BULK AT MOST 1048576: true; the input reads as it did. -/
def avlOrdersUptoRow : OpenClaim := { program := "ytikmdkmejbcmmaa", sum := "50bfe0c6fb43e5e58ec200ef9189384ec386717437c5b3dfab5cc305012c1e62", func := "floodgate/floodgatelaw13.AvlOrders", spec := "avlOrders", unfollowed := true, recurses := true, apart := false, narrowed := true }
def AvlOrdersUptoSaid : Prop := avlOrdersUptoRow.holds Try.pinned (OpenSpec.upto avlOrdersSpec)

/-- 'floodgatelaw13.AvlNil', WHERE WHAT IT READS IS OF BULK AT MOST 1048576: true; the input reads as it did. -/
def avlNilUptoRow : OpenClaim := { program := "ytikmdkmejbcmmaa", sum := "50bfe0c6fb43e5e58ec200ef9189384ec386717437c5b3dfab5cc305012c1e62", func := "floodgate/floodgatelaw13.AvlNil", spec := "avlNil", unfollowed := true, recurses := true, apart := false, narrowed := true }
def AvlNilUptoSaid : Prop := avlNilUptoRow.holds Try.pinned (OpenSpec.upto avlNilSpec)

/-- 'floodgatelaw14.EltreeActs', WHERE WHAT IT READS IS OF BULK AT MOST 1048576: true; the input reads as it did. -/
def eltreeActsUptoRow : OpenClaim := { program := "ytikmdkmejbcmmaa", sum := "50bfe0c6fb43e5e58ec200ef9189384ec386717437c5b3dfab5cc305012c1e62", func := "floodgate/floodgatelaw14.EltreeActs", spec := "eltreeActs", unfollowed := true, recurses := true, apart := false, narrowed := true }
def EltreeActsUptoSaid : Prop := eltreeActsUptoRow.holds Try.pinned (OpenSpec.upto eltreeActsSpec)

/-- 'floodgatelaw14.EltreePicks', WHERE WHAT IT READS IS OF BULK AT MOST 1048576: true; the input reads as it did. -/
def eltreePicksUptoRow : OpenClaim := { program := "ytikmdkmejbcmmaa", sum := "50bfe0c6fb43e5e58ec200ef9189384ec386717437c5b3dfab5cc305012c1e62", func := "floodgate/floodgatelaw14.EltreePicks", spec := "eltreePicks", unfollowed := true, recurses := true, apart := false, narrowed := true }
def EltreePicksUptoSaid : Prop := eltreePicksUptoRow.holds Try.pinned (OpenSpec.upto eltreePicksSpec)

/-- 'floodgatelaw14.EltreeNil', WHERE WHAT IT READS IS OF BULK AT MOST 1048576: true; the input reads as it did. -/
def eltreeNilUptoRow : OpenClaim := { program := "ytikmdkmejbcmmaa", sum := "50bfe0c6fb43e5e58ec200ef9189384ec386717437c5b3dfab5cc305012c1e62", func := "floodgate/floodgatelaw14.EltreeNil", spec := "eltreeNil", unfollowed := true, recurses := true, apart := false, narrowed := true }
def EltreeNilUptoSaid : Prop := eltreeNilUptoRow.holds Try.pinned (OpenSpec.upto eltreeNilSpec)

/-- 'floodgatelaw15.VtreeActs', WHERE WHAT IT READS IS OF BULK AT MOST 1048576: true; the input reads as it did. -/
def vtreeActsUptoRow : OpenClaim := { program := "ytikmdkmejbcmmaa", sum := "50bfe0c6fb43e5e58ec200ef9189384ec386717437c5b3dfab5cc305012c1e62", func := "floodgate/floodgatelaw15.VtreeActs", spec := "vtreeActs", unfollowed := true, recurses := true, apart := false, narrowed := true }
def VtreeActsUptoSaid : Prop := vtreeActsUptoRow.holds Try.pinned (OpenSpec.upto vtreeActsSpec)

/-- 'floodgatelaw15.VtreePicks', WHERE WHAT IT READS IS OF BULK AT MOST 1048576: true; the input reads as it did. -/
def vtreePicksUptoRow : OpenClaim := { program := "ytikmdkmejbcmmaa", sum := "50bfe0c6fb43e5e58ec200ef9189384ec386717437c5b3dfab5cc305012c1e62", func := "floodgate/floodgatelaw15.VtreePicks", spec := "vtreePicks", unfollowed := true, recurses := true, apart := false, narrowed := true }
def VtreePicksUptoSaid : Prop := vtreePicksUptoRow.holds Try.pinned (OpenSpec.upto vtreePicksSpec)

/-- 'floodgatelaw15.VtreeNil', WHERE WHAT IT READS IS OF BULK AT MOST 1048576: true; the input reads as it did. -/
def vtreeNilUptoRow : OpenClaim := { program := "ytikmdkmejbcmmaa", sum := "50bfe0c6fb43e5e58ec200ef9189384ec386717437c5b3dfab5cc305012c1e62", func := "floodgate/floodgatelaw15.VtreeNil", spec := "vtreeNil", unfollowed := true, recurses := true, apart := false, narrowed := true }
def VtreeNilUptoSaid : Prop := vtreeNilUptoRow.holds Try.pinned (OpenSpec.upto vtreeNilSpec)

end Rows
end Go.Proofs.Ytikmdkmejbcmmaa
