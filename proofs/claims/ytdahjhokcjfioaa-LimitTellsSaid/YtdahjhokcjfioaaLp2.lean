/- spans.Backlogged; the law's own example. -/
import Derived.Test.YtdahjhokcjfioaaLp1
namespace Go.Proofs.Ytdahjhokcjfioaa
set_option linter.unusedVariables false
set_option linter.unusedSimpArgs false
set_option maxRecDepth 100000
open Go.RowKit Fg Reg
attribute [local irreducible] Reg.wE

theorem Sp.one (x : Sp) : ∀ v ∈ x.cells, v.oneCell' = true := by
  intro v hv
  unfold Sp.cells at hv
  simp only [List.mem_cons, List.not_mem_nil, or_false] at hv
  rcases hv with rfl | rfl | rfl | rfl | rfl <;> rfl
/-- A slice of spans, made by a call: its cells. -/
def SpV (z : World) (B : Nat) (a : Option Addr) (l : List Sp) : Prop := ∀ k (h : k < l.length), ∃ g, a = some ⟨g, 0, none⟩ ∧ B ≤ g ∧ g < z.heap.size ∧ z.rangeAt g (k * 5) l[k].cells
theorem SpV.below {z z' : World} {B : Nat} {a : Option Addr} {l : List Sp} (h : SpV z B a l) (hb : Below z.heap.size z z') : SpV z' B a l := fun k hk => by
  obtain ⟨g, e, h0, h1, h2⟩ := h k hk
  exact ⟨g, e, h0, Nat.lt_of_lt_of_le h1 hb.size, fun j v hv => (hb.cell (p := ⟨g, k * 5 + j, none⟩) h1).trans (h2 j v hv)⟩
theorem sp_get (l : List Sp) (k j : Nat) (hk : k < l.length) (hj : j < 5) : (l.flatMap Sp.cells)[k * 5 + j]? = l[k].cells[j]? := by
  induction l generalizing k with
  | nil => exact absurd hk (Nat.not_lt_zero _)
  | cons x l ih =>
    have hl : x.cells.length = 5 := rfl
    rw [List.flatMap_cons]
    cases k with
    | zero => rw [List.getElem?_append_left (by omega), Nat.zero_mul, Nat.zero_add]; rfl
    | succ k =>
      rw [List.getElem?_append_right (by omega), hl, show (k + 1) * 5 + j - 5 = k * 5 + j by omega]
      exact ih k (by simpa using hk)
theorem spv_of {z : World} {B : Nat} {v : Value} {t : TypeId} {l : List Sp} (h : z.ownsRow B t 5 v l.length (l.flatMap Sp.cells)) : ∃ a cap, v = .slice a l.length cap ∧ SpV z B a l := by
  rcases h.2 with ⟨h1, h2⟩ | ⟨b, cap, cur, rfl, h2, h3, h4⟩
  · exact ⟨none, 0, by rw [h2]; exact h1, fun k hk => absurd hk (by omega)⟩
  · refine ⟨_, cap, rfl, fun k hk => ⟨b, rfl, h2, (h.lt b rfl).2, fun j v hv => ?_⟩⟩
    have hj : j < 5 := (List.getElem?_eq_some_iff.1 hv).1
    rw [h.cellAt _ (by omega), sp_get l k j hk hj]
    exact hv
theorem sp_all (zs : List Int) (es : List Ev) : ∀ k, ∀ x ∈ (spsrun zs es k).cl, x.op = false
  | 0 => by simp [spsrun]
  | k + 1 => by
    have ih := sp_all zs es k
    rw [spsrun]
    split
    · exact ih
    · unfold sstep
      (repeat' split) <;> (try exact ih)
      intro x hx
      rcases List.mem_append.1 hx with h | h
      · exact ih x h
      · simp at h; subst h; rfl
theorem ofv_c (zs : List Int) (es : List Ev) (a a2 : Option Addr) (c c2 : Nat) (hn : es.length ≤ 100000) (hn2 : zs.length ≤ 100000) (w : World) (hE : EvsV w a es) (hZ : IntsV w a2 zs) :
    Calls Try.prog 119 #[.slice a es.length c, .slice a2 zs.length c2] w fun e w' => (∃ ao cap, e = .returned (.slice ao (spsrun zs es es.length).rows.length cap) ∧ SpV w' w.heap.size ao (spsrun zs es es.length).rows) ∧ Below w.heap.size w w' :=
  (spof_c zs es a a2 c c2 hn hn2 w hE hZ).mono fun e w' ⟨⟨v, he, ho⟩, hb⟩ => by
    obtain ⟨ao, cap, rfl, hs⟩ := spv_of ho
    exact ⟨⟨ao, cap, he, hs⟩, hb⟩
def es5 : List Ev := [(⟨0, true, false, 5, 0, 3, 0, 0, 0, 0, 0, 0⟩ : Ev), (⟨0, false, false, 5, 0, 3, 0, 0, 0, 0, 0, 0⟩ : Ev), (⟨0, true, false, 9, 0, 3, 0, 0, 0, 0, 0, 0⟩ : Ev), (⟨0, true, false, 9, 0, 3, 0, 0, 0, 0, 0, 0⟩ : Ev), (⟨0, false, false, 20, 0, 3, 0, 0, 0, 0, 0, 0⟩ : Ev)]
theorem es5_3 : (spsrun [3] es5 5).rows = [⟨5, 5, 0, 1, false⟩, ⟨9, 0, 2, 0, true⟩] := rfl
end Go.Proofs.Ytdahjhokcjfioaa
