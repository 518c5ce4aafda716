/- Events of twelve cells, and which frames were sent. -/
import Derived.Test.YtnfhiagbbmaobaaCp0
namespace Go.Proofs.Ytnfhiagbbmaobaa
set_option linter.unusedVariables false
set_option linter.unusedSimpArgs false
set_option maxRecDepth 100000
open Go.RowKit Fg Reg

structure Ev where
  op : Int
  inn : Bool
  real : Bool
  tm : Int
  dn : Int
  cls : Int
  id : Int
  ln : Int
  a : Int
  b : Int
  c : Int
  d : Int
instance : Inhabited Ev := ⟨⟨0, false, false, 0, 0, 0, 0, 0, 0, 0, 0, 0⟩⟩
def Ev.cells (e : Ev) : List Value := [.int .i64 e.op, .bool e.inn, .bool e.real, .int .u64 e.tm, .int .u64 e.dn, .int .i64 e.cls, .int .u64 e.id, .int .i64 e.ln, .int .u16 e.a, .int .u16 e.b, .int .u16 e.c, .int .u16 e.d]
structure Ev.wf (e : Ev) : Prop where
  tm0 : 0 ≤ e.tm
  tm1 : e.tm ≤ 18446744073709551615
  dn0 : 0 ≤ e.dn
  dn1 : e.dn ≤ 18446744073709551615
  id0 : 0 ≤ e.id
  id1 : e.id ≤ 18446744073709551615
theorem Ev.one (e : Ev) : ∀ v ∈ e.cells, v.oneCell' = true := by
  intro v hv
  unfold Ev.cells at hv
  simp only [List.mem_cons, List.not_mem_nil, or_false] at hv
  rcases hv with rfl | rfl | rfl | rfl | rfl | rfl | rfl | rfl | rfl | rfl | rfl | rfl <;> rfl
/-- A slice of events, by where it begins. -/
def EvsV (w : World) (a : Option Addr) (es : List Ev) : Prop := ∀ k (h : k < es.length), ∃ b o, a = some ⟨b, o, none⟩ ∧ b < w.heap.size ∧ w.rangeAt b (o + k * 12) es[k].cells
theorem EvsV.below {w w' : World} {a : Option Addr} {es : List Ev} (h : EvsV w a es) (hb : Below w.heap.size w w') : EvsV w' a es := fun k hk => by
  obtain ⟨b, o, e, h1, h2⟩ := h k hk
  exact ⟨b, o, e, Nat.lt_of_lt_of_le h1 hb.size, fun j v hv => (hb.cell (p := ⟨b, o + k * 12 + j, none⟩) h1).trans (h2 j v hv)⟩
theorem evs_of {w : World} {v : Value} (h : Op.FlatSlice w 12 [.int .i64, .bool, .bool, .int .u64, .int .u64, .int .i64, .int .u64, .int .i64, .int .u16, .int .u16, .int .u16, .int .u16] v) :
    ∃ a es cap, v = .slice a es.length cap ∧ es.length ≤ cap ∧ cap ≤ maxLen ∧ EvsV w a es ∧ ∀ k (h : k < es.length), es[k].wf := by
  rcases h with h | ⟨a, cap, h, hc⟩ | ⟨b, o, n, cap, css, h0, rfl, h3, h4, hlt, hn, hi⟩
  · exact ⟨none, [], 0, h, Nat.le_refl _, Nat.zero_le _, fun k h => absurd h (Nat.not_lt_zero _), fun k h => absurd h (Nat.not_lt_zero _)⟩
  · exact ⟨some a, [], cap, h, Nat.zero_le _, hc, fun k h => absurd h (Nat.not_lt_zero _), fun k h => absurd h (Nat.not_lt_zero _)⟩
  · have h1 : ∀ i, i < n → ∃ e : Ev, w.rangeAt b (o + i * 12) e.cells ∧ e.wf := fun i hin => by
      obtain ⟨hf, he⟩ := hi i (by omega)
      obtain ⟨_, _, e0, ⟨x0, rfl, w0⟩, _, _, rfl, ⟨x1, rfl⟩, _, _, rfl, ⟨x2, rfl⟩, _, _, rfl, ⟨x3, rfl, w3⟩, _, _, rfl, ⟨x4, rfl, w4⟩, _, _, rfl, ⟨x5, rfl, w5⟩, _, _, rfl, ⟨x6, rfl, w6⟩, _, _, rfl, ⟨x7, rfl, w7⟩, _, _, rfl, ⟨x8, rfl, w8⟩, _, _, rfl, ⟨x9, rfl, w9⟩, _, _, rfl, ⟨x10, rfl, w10⟩, _, _, rfl, ⟨x11, rfl, w11⟩, rfl⟩ := hf
      rw [e0] at he
      have b3 := bounds_u64 w3
      have b4 := bounds_u64 w4
      have b6 := bounds_u64 w6
      exact ⟨⟨x0, x1, x2, x3, x4, x5, x6, x7, x8, x9, x10, x11⟩, fun j x hx => he j x hx, ⟨b3.1, by have := b3.2; omega, b4.1, by have := b4.2; omega, b6.1, by have := b6.2; omega⟩⟩
    obtain ⟨es, hes⟩ := Go.Deep.choose_lt h1
    refine ⟨some ⟨b, o, none⟩, (List.range n).map es, cap, by simp, by simpa using h3, h4, fun k hk => ?_, fun k hk => ?_⟩
    · have := hes k (by simpa using hk)
      exact ⟨b, o, rfl, hlt, by simpa using this.1⟩
    · have := hes k (by simpa using hk)
      simpa using this.2
theorem ev_cells {w : World} {a : Option Addr} {es : List Ev} (h : EvsV w a es) (k : Nat) (hk : k < es.length) : ∃ b o, a = some ⟨b, o, none⟩ ∧ b < w.heap.size ∧ ∀ j u, es[k].cells[j]? = some u → w.cell? ⟨b, o + k * 12 + j, none⟩ = some u := h k hk
/-- The frame that an event sends, if it sends one of the first n. -/
def sent1 (L : List Fm) (n : Nat) (e : Ev) : List Fm := if e.inn = false ∧ e.id < n then [⟨e.dn, (L.getD e.id.toNat ⟨0, ⟨#[]⟩⟩).d⟩] else []
def sentL (L : List Fm) (es : List Ev) : List Fm := es.flatMap (sent1 L L.length)
theorem sentL_succ (L : List Fm) (es : List Ev) (k : Nat) (h : k < es.length) : sentL L (es.take (k + 1)) = sentL L (es.take k) ++ sent1 L L.length es[k] := by
  unfold sentL
  rw [List.take_succ_eq_append_getElem h, List.flatMap_append]
  simp
theorem sent1_zero (L : List Fm) (e : Ev) (h : 0 ≤ e.id) : sent1 L 0 e = [] := by
  unfold sent1
  rw [if_neg]
  rintro ⟨_, h2⟩
  simp at h2
  omega
theorem sent1_hit (L : List Fm) (e : Ev) (k : Nat) (hk : k < L.length) (hi : e.inn = false) (he : e.id = k) : sent1 L k e = [] ∧ sent1 L (k + 1) e = [⟨e.dn, L[k].d⟩] := by
  unfold sent1
  constructor
  · rw [if_neg]
    rintro ⟨_, h2⟩
    omega
  · rw [if_pos ⟨hi, by omega⟩, he]
    simp [List.getD, hk]
theorem sent1_miss (L : List Fm) (e : Ev) (k : Nat) (h : e.inn = true ∨ e.id ≠ k) : sent1 L (k + 1) e = sent1 L k e := by
  unfold sent1
  by_cases hc : e.inn = false ∧ e.id < k
  · rw [if_pos hc, if_pos ⟨hc.1, by omega⟩]
  · rw [if_neg hc, if_neg]
    rintro ⟨h1, h2⟩
    rcases h with h | h
    · rw [h] at h1; cases h1
    · exact hc ⟨h1, by omega⟩
theorem sentL_len (L : List Fm) (es : List Ev) : (sentL L es).length ≤ es.length := by
  unfold sentL
  induction es with
  | nil => simp
  | cons e l ih =>
    rw [List.flatMap_cons, List.length_append, List.length_cons]
    have : (sent1 L L.length e).length ≤ 1 := by unfold sent1; split <;> simp
    omega
end Go.Proofs.Ytnfhiagbbmaobaa
