/- A region that draws its order, walked in an order of one's own; each step says whether all effects stand before it or wait for it. -/
import Derived.Test.YtnpidbodeebnkaaBaseA
namespace Go.Proofs.Ytnpidbodeebnkaa
set_option linter.unusedVariables false
set_option linter.unusedSimpArgs false
set_option maxRecDepth 100000
open Go.RowKit Fg
namespace Reg2
variable {P : Program} {md : Region.Mode} {ops : Array Oper} {es : List Nat} {Cl : List (Nat × Value) → World → Prop} {Fin : List (Nat × Value) → Act → Prop}
/-- The tree that is one line. -/
def lineS : List (Nat × Bool) → Tr
  | [] => .done
  | k :: l => .one k.1 k.2 (lineS l)
theorem wp_region_lineS {id : Nat} {Q : Exit → Act → World → Prop} {a : Act} {w : World} {l : List Oper} (os : List (Nat × Bool)) (es : List Nat) (Cl : List (Nat × Value) → World → Prop) (hm : P.follows .mixedOrders = true)
    (hS : Region.noSelect l.toArray = true) (hB : lexT .any l.toArray es l.toArray.size (lineS os) (Array.replicate l.toArray.size false) = true)
    (hC : Cl [] w.drew) (h : wT P l.toArray es Cl (fun ps a' => ∀ w', Cl ps w' → Q .normal a' w') (lineS os) [] a) : (Code.region id l.toArray true).wp P Q a w :=
  wp_region_any hm (anyE_sound (es := es) (Fin := fun ps a' => ∀ w', Cl ps w' → Q .normal a' w') (fun ps a' w' hw' h => h w' hw') _ _ [] _ _ hC (anyE_tree hS _ (lineS os) _ _ _ hB h))
theorem wS_nil {ps : List (Nat × Value)} {a : Act} (h : Fin ps a) : wT P ops es Cl Fin (lineS []) ps a := wT_done h
theorem wS_skip {o : Oper} {k : Nat} {s : Bool} {t : List (Nat × Bool)} {ps : List (Nat × Value)} {a : Act} (hk : ops[k]? = some o) (hw : Region.wanted o (yielded ops a.tmps) = false) (h : wT P ops es Cl Fin (lineS t) ps (a.put o.dst undef)) : wT P ops es Cl Fin (lineS ((k, s) :: t)) ps a := wT_skip hk hw h
theorem wS_seal {o : Oper} {k : Nat} {t : List (Nat × Bool)} {ps : List (Nat × Value)} {a : Act} (hk : ops[k]? = some o) (hw : Region.wanted o (yielded ops a.tmps) = true) (he : es.contains k = false)
    (h : ∃ v, (∀ w, Cl ps w → o.quietAt P a (Cl ps) w v) ∧ wT P ops es Cl Fin (lineS t) ps (a.put o.dst v)) : wT P ops es Cl Fin (lineS ((k, true) :: t)) ps a := wT_seal hk hw he h
theorem wS_open {o : Oper} {k : Nat} {s : Bool} {t : List (Nat × Bool)} {ps : List (Nat × Value)} {a : Act} (hk : ops[k]? = some o) (hw : Region.wanted o (yielded ops a.tmps) = true) (he : es.contains k = false)
    (h : ∃ v, (∀ vs w, Cl (ps ++ vs) w → o.quietAt P a (Cl (ps ++ vs)) w v) ∧ wT P ops es Cl Fin (lineS t) ps (a.put o.dst v)) : wT P ops es Cl Fin (lineS ((k, s) :: t)) ps a := wT_open hk hw he h
theorem wS_eff {o : Oper} {k : Nat} {s : Bool} {t : List (Nat × Bool)} {ps : List (Nat × Value)} {a : Act} (hk : ops[k]? = some o) (hw : Region.wanted o (yielded ops a.tmps) = true) (he : es.contains k = true)
    (h1 : ∀ w, Cl ps w → effUpon P Cl k ps ((execOp a.eval o).run P w)) (h : ∀ u, (∃ w, Cl (ps ++ [(k, u)]) w) → wT P ops es Cl Fin (lineS t) (ps ++ [(k, u)]) (a.put o.dst u)) : wT P ops es Cl Fin (lineS ((k, s) :: t)) ps a := wT_eff hk hw he h1 h
end Reg2
end Go.Proofs.Ytnpidbodeebnkaa
