/- PktqActs: the law's variable. -/
import Derived.Test.YtdahjhokcjfioaaPa6
namespace Go.Proofs.Ytdahjhokcjfioaa
set_option linter.unusedVariables false
set_option linter.unusedSimpArgs false
set_option maxRecDepth 100000
open Go.RowKit Fg Reg
attribute [local irreducible] Reg.wE

theorem row_set {z : World} {a : Option Addr} {L : List Pk} {TT : Nat} (h : RwV pkc 6 z a L) (hb : ∀ ad, a = some ad → TT < ad.block) (o : Nat) (t : Option Nat) (u : Value) : RwV pkc 6 (z.setCell ⟨TT, o, t⟩ u) a L :=
  RwV.setC h (fun ad e => by have := hb ad e; omega) o t u
theorem PA.store {w : World} {n : Nat} {b : Int} {z : World} {TT q f : Nat} {xs : Nat → Pk} {a a' : Option Addr} {c c' : Nat} {L L' : List Pk} {c0 c1 c2 c3 c4 c5 : Int} {e0 e1 e2 e3 e4 e5 : Int} (tq : TQ w z q 0 n f L'.length xs e0 e1 e2 e3 e4 e5 b (lsum L')) (wv : WV n b z TT a c L c0 c1 c2 c3 c4 c5) (hT : q < TT)
    (row : RwV pkc 6 z a' L') (blk : ∀ ad, a' = some ad → TT < ad.block) (nil : a' = none → c' = 0) (cap : L'.length ≤ c' ∧ c' ≤ maxLen) (qp : QP xs f L'.length n 0 (fun j => L'.getD j pz)) (ok : ∀ p ∈ L', 1 ≤ p.n ∧ p.n ≤ 16384) (cs : e1 + L'.length = e0 ∧ e4 + lsum L' = e3) (le : lsum L' ≤ b) :
    PA w n b ((((((((((z).setCell ⟨TT, 0, none⟩ (.int .i64 (n : Int))).setCell ⟨TT, 1, none⟩ (.int .i64 b)).setCell ⟨TT, 2, none⟩ (.slice a' L'.length c')).setCell ⟨TT, 3, none⟩ (.int .u64 (e0))).setCell ⟨TT, 4, none⟩ (.int .u64 (e1))).setCell ⟨TT, 5, none⟩ (.int .u64 (e2))).setCell ⟨TT, 6, none⟩ (.int .u64 (e3))).setCell ⟨TT, 7, none⟩ (.int .u64 (e4))).setCell ⟨TT, 8, none⟩ (.int .u64 (e5))) TT q f xs a' c' L' e0 e1 e2 e3 e4 e5 := by
  refine ⟨?_, ⟨?_, blk, nil, cap, ?_, ?_, ?_⟩, hT, qp, ok, cs, le⟩
  · exact ((((((((tq.setC hT 0 _ _).setC hT 1 _ _).setC hT 2 _ _).setC hT 3 _ _).setC hT 4 _ _).setC hT 5 _ _).setC hT 6 _ _).setC hT 7 _ _).setC hT 8 _ _
  · exact row_set (row_set (row_set (row_set (row_set (row_set (row_set (row_set (row_set row blk 0 _ _) blk 1 _ _) blk 2 _ _) blk 3 _ _) blk 4 _ _) blk 5 _ _) blk 6 _ _) blk 7 _ _) blk 8 _ _
  · obtain ⟨v0, v1, v2, v3, v4, v5, v6, v7, v8⟩ := wv.var
    obtain ⟨g0, g1, g2, g3, g4, g5, g6, g7, g8⟩ := wv.frz
    have hlt := wv.lt
    clear tq wv row qp ok
    (repeat' apply And.intro) <;> simp [go_sem, *]
  · obtain ⟨v0, v1, v2, v3, v4, v5, v6, v7, v8⟩ := wv.var
    obtain ⟨g0, g1, g2, g3, g4, g5, g6, g7, g8⟩ := wv.frz
    have hlt := wv.lt
    clear tq wv row qp ok
    (repeat' apply And.intro) <;> simp [go_sem, *]
  · have hlt := wv.lt
    simp [World.setCell]
    exact hlt
theorem only3 {w W z : World} {q : Nat} (hq : w.heap.size + 1 < q) (ho : Only (fun k => k = w.heap.size + 1 ∨ k = w.heap.size ∨ k = q) W z) : (∀ bb o, q < bb → bb < W.heap.size → z.cell? ⟨bb, o, none⟩ = W.cell? ⟨bb, o, none⟩) ∧ (∀ bb o, q < bb → bb < W.heap.size → z.frozen? ⟨bb, o, none⟩ = W.frozen? ⟨bb, o, none⟩) ∧ ∀ TT, q < TT → ∀ k, TT ≤ k → ¬ (k = w.heap.size + 1 ∨ k = w.heap.size ∨ k = q) :=
  ⟨fun bb o h1 h2 => ho.cell h2 (by omega), fun bb o h1 h2 => ho.frozen h2 (by omega), fun TT h1 k h2 => by omega⟩
theorem row_keep {z z' : World} {TT q : Nat} {a : Option Addr} {L : List Pk} (h : RwV pkc 6 z a L) (hcc : ∀ bb o, q < bb → bb < z.heap.size → z'.cell? ⟨bb, o, none⟩ = z.cell? ⟨bb, o, none⟩) (hsz : z.heap.size ≤ z'.heap.size) (hb : ∀ ad, a = some ad → TT < ad.block) (hT : q < TT) : RwV pkc 6 z' a L := fun k hk => by
  obtain ⟨bb, oo, e1, e2, e3⟩ := h k hk
  have hb1 : TT < bb := hb _ e1
  exact ⟨bb, oo, e1, by omega, fun jj vv hv => (hcc bb _ (by omega) e2).trans (e3 jj vv hv)⟩
theorem push_post {w : World} {n : Nat} {b : Int} {z z' : World} {TT q : Nat} {a : Option Addr} {c : Nat} {L : List Pk} {c0 c1 c2 c3 c4 c5 : Int} (hw : WV n b z TT a c L c0 c1 c2 c3 c4 c5) (hT : q < TT) (hq : w.heap.size + 1 < q) (ho : Only (fun k => k = w.heap.size + 1 ∨ k = w.heap.size ∨ k = q) z z') :
    WV n b z' TT a c L c0 c1 c2 c3 c4 c5 ∧ (∀ bb o, q < bb → bb < z.heap.size → z'.cell? ⟨bb, o, none⟩ = z.cell? ⟨bb, o, none⟩) ∧ z.heap.size ≤ z'.heap.size :=
  have h3 := only3 hq ho
  ⟨hw.only ho (h3.2.2 TT hT), h3.1, ho.size⟩
end Go.Proofs.Ytdahjhokcjfioaa
