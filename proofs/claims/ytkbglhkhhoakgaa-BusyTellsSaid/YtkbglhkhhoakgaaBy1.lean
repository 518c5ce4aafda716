/- busy: what is learnt of an event. -/
import Derived.Test.YtkbglhkhhoakgaaEv1
import Derived.Test.YtkbglhkhhoakgaaRegion3
import Derived.Laws.AppendOwn
import Derived.Laws.OwnMore
import Derived.OwnWalk
namespace Go.Proofs.Ytkbglhkhhoakgaa
set_option linter.unusedVariables false
set_option linter.unusedSimpArgs false
set_option maxRecDepth 100000
open Go.RowKit Fg Reg
attribute [local irreducible] Reg.wE Reg.wN

structure Str where
  fr : Int
  tt : Int
instance : Inhabited Str := ⟨⟨0, 0⟩⟩
def Str.cells (s : Str) : List Value := [.int .u64 s.fr, .int .u64 s.tt]
structure Bz where
  st : List Str
  un : Int
  wk : Nat
  si : Int
def mx (a b : Int) : Int := if b > a then b else a
/-- The last stretch goes on. -/
def bgo (st : List Str) (dn : Int) : List Str := st.dropLast ++ (st.getLast?.map (fun x => (⟨x.fr, mx x.tt dn⟩ : Str))).toList
def bst (s : Bz) (e : Ev) : List Str := if s.st = [] ∨ s.un < e.tm then s.st ++ [⟨e.tm, e.dn⟩] else bgo s.st e.dn
def blearn (s : Bz) (e : Ev) : Bz := if e.inn = true then ⟨s.st, s.un, s.wk + 1, if s.wk = 0 then e.tm else s.si⟩ else ⟨bst s e, mx s.un e.dn, s.wk - 1, s.si⟩
structure SN (z : World) (x : Nat) (v : Value) (s : Bz) : Prop where
  xc : z.cell? ⟨x, 0, none⟩ = some (v) ∧ z.cell? ⟨x, 1, none⟩ = some (.int .u64 (s.un)) ∧ z.cell? ⟨x, 2, none⟩ = some (.int .i64 (s.wk)) ∧ z.cell? ⟨x, 3, none⟩ = some (.int .u64 (s.si)) ∧ z.frozen? ⟨x, 0, none⟩ = false ∧ z.frozen? ⟨x, 1, none⟩ = false ∧ z.frozen? ⟨x, 2, none⟩ = false ∧ z.frozen? ⟨x, 3, none⟩ = false ∧ x < z.heap.size
  own : z.ownsRow (x + 1) 80 2 v (s.st).length ((s.st).flatMap Str.cells)
theorem own_only {S : Nat → Prop} {w w' : World} {base : Nat} {e : TypeId} {size n : Nat} {v : Value} {xs : List Value} (h : w.ownsRow base e size v n xs) (ho : Only S w w') (hS : ∀ k, S k → k < base) : w'.ownsRow base e size v n xs := by
  refine ⟨h.1, ?_⟩
  rcases h.2 with h' | ⟨g, cap, cur, h1, h2, h3, h4⟩
  · exact .inl h'
  · refine .inr ⟨g, cap, cur, h1, h2, ?_, h4⟩
    have hlt : g < w.heap.size := by
      rcases Nat.lt_or_ge g w.heap.size with h | h
      · exact h
      · rw [Array.getElem?_eq_none h] at h3; cases h3
    exact (ho.block g hlt (fun e => by have := hS g e; omega)).trans h3
theorem own_bel {w w' : World} {base : Nat} {e : TypeId} {size n : Nat} {v : Value} {xs : List Value} (h : w.ownsRow base e size v n xs) (hb : Below w.heap.size w w') : w'.ownsRow base e size v n xs :=
  own_only (S := fun _ => False) h (Only.of_below hb) (fun _ h => h.elim)
theorem own_setx {z : World} {x : Nat} {e : TypeId} {size n : Nat} {v : Value} {xs : List Value} (h : z.ownsRow (x + 1) e size v n xs) (o : Nat) (t : Option Nat) (u : Value) : (z.setCell ⟨x, o, t⟩ u).ownsRow (x + 1) e size v n xs :=
  own_only h ((Only.refl (fun k => k = x) z).setOne o t u) (fun k hk => by subst hk; omega)
theorem SN.below {z z' : World} {x : Nat} {v : Value} {s : Bz} (h : SN z x v s) (hb : Below z.heap.size z z') : SN z' x v s := by
  obtain ⟨⟨a0, a1, a2, a3, f0, f1, f2, f3, hx⟩, ho⟩ := h
  obtain ⟨hcc, hff⟩ := bcell hb
  exact ⟨⟨(hcc _ _ hx).trans a0, (hcc _ _ hx).trans a1, (hcc _ _ hx).trans a2, (hcc _ _ hx).trans a3, (hff _ _ hx).trans f0, (hff _ _ hx).trans f1, (hff _ _ hx).trans f2, (hff _ _ hx).trans f3, Nat.lt_of_lt_of_le hx hb.size⟩, own_bel ho hb⟩
set_option maxHeartbeats 4000000 in
theorem learn_in (x : Nat) (v : Value) (s : Bz) (e : Ev) (w : World) (hS : SN w x v s) (hwk : s.wk ≤ 1000000) (hi : e.inn = true) : Calls Try.prog 67 #[.pointer (some ⟨x, 0, none⟩), .agg #[.int .i64 (e).op, .bool (e).inn, .bool (e).real, .int .u64 (e).tm, .int .u64 (e).dn, .int .i64 (e).cls, .int .u64 (e).id, .int .i64 (e).ln, .int .u16 (e).a, .int .u16 (e).b, .int .u16 (e).c, .int .u16 (e).d]] w fun ee w' => ee = .returned (.tuple #[]) ∧ (∃ v', SN w' x v' (blearn s e)) ∧ Below x w w' := by
  have hx : x < w.heap.size := hS.xc.2.2.2.2.2.2.2.2
  have hxc := hS.xc
  have HS := Lib.hid hS
  unfold blearn
  rw [if_pos hi]
  obtain ⟨st, un, wk, si⟩ := s
  simp only at hxc hwk ⊢
  clear hS
  have W1 : IntKind.i64.wrap ((wk : Int) + 1) = ((wk + 1 : Nat) : Int) := by rw [IntKind.wrap_i64]; omega
  have e1 : ¬ x = w.heap.size := by omega
  have e2 : ¬ w.heap.size = x := by omega
  go_split_ands
  by_cases h0 : wk = 0
  · subst h0
    go_enter Try.func67, Try.ntmps67
    go_wp2
    refine bodyPost_ret (by simp [results, Try.results67]; rfl) rfl ?_
    have hS := HS.out
    refine ⟨rfl, ⟨v, ⟨(by simp [go_sem, *]), ?_⟩⟩, (by repeat' (first | with_reducible exact Below.refl _ _ | with_reducible assumption | ((with_reducible refine Below.drew ?_)) | ((with_reducible refine below_drewN ?_ _)) | ((with_reducible refine Below.alloc ?_ ?_ _); rotate_left; focus (first | omega | (simp; done) | (simp; omega))) | ((with_reducible refine Below.setCell ?_ ?_ _); rotate_left; focus (first | omega | (simp; done) | (simp; omega))) | ((with_reducible refine Below.trans ?_ (Below.mono (by with_reducible assumption) ?_)); rotate_left; focus (first | omega | (simp; done) | (simp; omega)))))⟩
    (repeat (first | exact hS.own | refine own_setx ?_ _ _ _ | refine World.ownsRow.alloc ?_ _ | refine World.ownsRow.drew ?_))
  · have d0 : ((wk : Int) == 0) = false := by simp; omega
    rw [if_neg h0]
    go_enter Try.func67, Try.ntmps67
    go_wp2
    refine bodyPost_ret (by simp [results, Try.results67]; rfl) rfl ?_
    have hS := HS.out
    refine ⟨rfl, ⟨v, ⟨(by simp [go_sem, *]), ?_⟩⟩, (by repeat' (first | with_reducible exact Below.refl _ _ | with_reducible assumption | ((with_reducible refine Below.drew ?_)) | ((with_reducible refine below_drewN ?_ _)) | ((with_reducible refine Below.alloc ?_ ?_ _); rotate_left; focus (first | omega | (simp; done) | (simp; omega))) | ((with_reducible refine Below.setCell ?_ ?_ _); rotate_left; focus (first | omega | (simp; done) | (simp; omega))) | ((with_reducible refine Below.trans ?_ (Below.mono (by with_reducible assumption) ?_)); rotate_left; focus (first | omega | (simp; done) | (simp; omega)))))⟩
    (repeat (first | exact hS.own | refine own_setx ?_ _ _ _ | refine World.ownsRow.alloc ?_ _ | refine World.ownsRow.drew ?_))
end Go.Proofs.Ytkbglhkhhoakgaa
