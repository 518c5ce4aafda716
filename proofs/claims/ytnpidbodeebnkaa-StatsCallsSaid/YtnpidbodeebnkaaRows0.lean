/- Rows of elements of so many cells each, whatever they are. -/
import Derived.Test.YtnpidbodeebnkaaBaseA
import Derived.Test.YtnpidbodeebnkaaQSlice
namespace Go.Proofs.Ytnpidbodeebnkaa
set_option linter.unusedVariables false
set_option linter.unusedSimpArgs false
set_option maxRecDepth 100000
open Go.RowKit Fg Reg

section
variable {α : Type} {cells : α → List Value} {s : Nat}
/-- Each element has s cells, each of one value. -/
structure CellsOf (cells : α → List Value) (s : Nat) : Prop where
  len : ∀ x, (cells x).length = s
  one : ∀ x, ∀ v ∈ cells x, v.oneCell' = true
  pos : 0 < s
/-- A slice of such, by where it begins. -/
def RwV (cells : α → List Value) (s : Nat) (w : World) (a : Option Addr) (l : List α) : Prop := ∀ k (h : k < l.length), ∃ b o, a = some ⟨b, o, none⟩ ∧ b < w.heap.size ∧ w.rangeAt b (o + k * s) (cells l[k])
theorem RwV.nil (w : World) (a : Option Addr) : RwV cells s w a [] := fun k h => absurd h (Nat.not_lt_zero _)
theorem RwV.below {w w' : World} {a : Option Addr} {l : List α} (h : RwV cells s w a l) (hb : Below w.heap.size w w') : RwV cells s w' a l := fun k hk => by
  obtain ⟨b, o, e, h1, h2⟩ := h k hk
  exact ⟨b, o, e, Nat.lt_of_lt_of_le h1 hb.size, fun j v hv => (hb.cell (p := ⟨b, o + k * s + j, none⟩) h1).trans (h2 j v hv)⟩
theorem RwV.only {S : Nat → Prop} {w w' : World} {a : Option Addr} {l : List α} (h : RwV cells s w a l) (hb : Only S w w') (hS : ∀ ad, a = some ad → ¬ S ad.block) : RwV cells s w' a l := fun k hk => by
  obtain ⟨b, o, e, h1, h2⟩ := h k hk
  exact ⟨b, o, e, Nat.lt_of_lt_of_le h1 hb.size, fun j v hv => (hb.cell h1 (hS _ e)).trans (h2 j v hv)⟩
theorem flat_len (C : CellsOf cells s) (l : List α) : (l.flatMap cells).length = l.length * s := by
  induction l with
  | nil => simp
  | cons x l ih => rw [List.flatMap_cons, List.length_append, ih, C.len, List.length_cons, Nat.succ_mul]; omega
theorem flat_get (C : CellsOf cells s) (l : List α) (k j : Nat) (hk : k < l.length) (hj : j < s) : (l.flatMap cells)[k * s + j]? = (cells l[k])[j]? := by
  induction l generalizing k with
  | nil => exact absurd hk (Nat.not_lt_zero _)
  | cons x l ih =>
    have hl := C.len x
    rw [List.flatMap_cons]
    cases k with
    | zero => rw [List.getElem?_append_left (by omega), Nat.zero_mul, Nat.zero_add]; rfl
    | succ k =>
      rw [List.getElem?_append_right (by rw [Nat.succ_mul]; omega), hl, show (k + 1) * s + j - s = k * s + j by rw [Nat.succ_mul]; omega]
      exact ih k (by simpa using hk)
theorem flat_one (C : CellsOf cells s) (l : List α) : ∀ v ∈ l.flatMap cells, v.oneCell' = true := fun v hv => by
  obtain ⟨x, _, hx⟩ := List.mem_flatMap.1 hv
  exact C.one x v hx
theorem RwV.of_own (C : CellsOf cells s) {z : World} {B : Nat} {v : Value} {t : TypeId} {l : List α} (h : z.ownsRow B t s v l.length (l.flatMap cells)) :
    ∃ a cap, v = .slice a l.length cap ∧ RwV cells s z a l ∧ l.length ≤ cap ∧ cap ≤ maxLen ∧ ∀ ad, a = some ad → B ≤ ad.block ∧ ad.block < z.heap.size := by
  rcases h.2 with ⟨h1, h2⟩ | ⟨b, cap, cur, rfl, h2, h3, h4, h5, h6⟩
  · exact ⟨none, 0, by rw [h2]; exact h1, fun k hk => absurd hk (by omega), by omega, by omega, fun ad h => by cases h⟩
  · refine ⟨_, cap, rfl, fun k hk => ⟨b, 0, rfl, (h.lt b rfl).2, fun j v hv => ?_⟩, h4, h5, fun ad hd => by cases hd; exact ⟨h2, (h.lt b rfl).2⟩⟩
    have hj : j < s := by have := (List.getElem?_eq_some_iff.1 hv).1; rwa [C.len] at this
    have hkj : k * s + j < l.length * s := by
      have : (k + 1) * s ≤ l.length * s := Nat.mul_le_mul_right s hk
      rw [Nat.succ_mul] at this
      omega
    rw [Nat.zero_add, h.cellAt _ hkj, flat_get C l k j hk hj]
    exact hv
theorem RwV.src (C : CellsOf cells s) {w : World} {ad : Addr} {l : List α} (h : RwV cells s w (some ad) l) : ∀ j u, (l.flatMap cells)[j]? = some u → w.cell? (ad.add j) = some u := fun j u hj => by
  have hlt : j < l.length * s := by have := (List.getElem?_eq_some_iff.1 hj).1; rwa [flat_len C] at this
  have hp := C.pos
  have hk : j / s < l.length := Nat.div_lt_of_lt_mul (by rwa [Nat.mul_comm])
  have hm : j % s < s := Nat.mod_lt _ hp
  have he : j / s * s + j % s = j := Nat.div_add_mod' j s
  obtain ⟨b, o, e, h1, h2⟩ := h (j / s) hk
  cases e
  have := flat_get C l (j / s) (j % s) hk hm
  rw [he] at this
  rw [this] at hj
  have hc := h2 (j % s) u hj
  have hadd : (⟨b, o, none⟩ : Addr).add j = ⟨b, o + j, none⟩ := by unfold Addr.add; split <;> simp_all
  rw [hadd, ← hc]
  congr 2
  omega
theorem RwV.snoc {w : World} {a : Option Addr} {l : List α} {k : Nat} (h : RwV cells s w a l) : RwV cells s w a (l.take k) := fun i hi => by
  have hi' : i < l.length := by simp at hi; omega
  obtain ⟨b, o, e, h1, h2⟩ := h i hi'
  exact ⟨b, o, e, h1, by simpa using h2⟩
end
theorem row_only {S : Nat → Prop} {w w' : World} {base : Nat} {e : TypeId} {size n : Nat} {v : Value} {xs : List Value} (h : w.ownsRow base e size v n xs) (ho : Only S w w') (hS : ∀ k, S k → base ≤ k → False) : w'.ownsRow base e size v n xs := by
  refine ⟨h.1, ?_⟩
  rcases h.2 with h' | ⟨g, cap, cur, h1, h2, h3, h4⟩
  · exact .inl h'
  · refine .inr ⟨g, cap, cur, h1, h2, ?_, h4⟩
    have hlt : g < w.heap.size := by
      rcases Nat.lt_or_ge g w.heap.size with h | h
      · exact h
      · rw [Array.getElem?_eq_none h] at h3; cases h3
    exact (ho.block g hlt (fun e => hS g e h2)).trans h3
theorem row_bel {w w' : World} {base : Nat} {e : TypeId} {size n : Nat} {v : Value} {xs : List Value} (h : w.ownsRow base e size v n xs) (hb : Below w.heap.size w w') : w'.ownsRow base e size v n xs :=
  row_only (S := fun _ => False) h (Only.of_below hb) (fun _ h => h.elim)
theorem row_blk {z : World} {B m size : Nat} {e : TypeId} {v : Value} {xs : List Value} (h : z.ownsRow B e size v m xs) : ∀ k, v.ownBlock = some k → B ≤ k ∧ k < z.heap.size := h.lt
theorem row_form {z : World} {B m size : Nat} {e : TypeId} {v : Value} {xs : List Value} (h : z.ownsRow B e size v m xs) : ∃ ao cap, v = .slice ao m cap := by
  rcases h.2 with ⟨rfl, rfl⟩ | ⟨b, cap, cur, rfl, _⟩
  · exact ⟨none, 0, rfl⟩
  · exact ⟨_, cap, rfl⟩
theorem only_grown' {w w' : World} {row : Option Nat} (h : w.grownBy w' row) : Only (fun k => row = some k) w w' :=
  ⟨h.os, h.tape, h.output, h.size, fun k hk hn => h.block k hk fun e => hn e.symm⟩
end Go.Proofs.Ytnpidbodeebnkaa
