/- Slices that came in, whose elements hold numbers, truth values and strings alone, opened element by element. Nothing of the program is imported here. -/
import Derived.Test.YtjicnbdlffpbbaaOpen
namespace Go.Proofs.Ytjicnbdlffpbbaa
set_option linter.unusedVariables false
set_option linter.unusedSimpArgs false
set_option maxRecDepth 100000
open Go.RowKit Go.ChangeShapes Go.WideShapes
namespace Op
theorem Fits.length : ∀ {ks : List Leaf} {cs : List Value}, Fits ks cs → cs.length = ks.length
  | [], cs, h => by have h : cs = [] := h; rw [h]; rfl
  | k :: ks, cs, h => by obtain ⟨v, vs, rfl, _, h2⟩ := h; simp [h2.length]

/-- Element i of a slice from ⟨b, o⟩ on, its elements being so many cells, holds cs. -/
def ElemAt (w : World) (b o c i : Nat) (cs : List Value) : Prop := ∀ j x, cs[j]? = some x → w.cell? ⟨b, o + i * c + j, none⟩ = some x

def FlatSlice (w : World) (c : Nat) (ks : List Leaf) (v : Value) : Prop :=
  v = .slice none 0 0 ∨ (∃ a cap, v = .slice (some a) 0 cap ∧ cap ≤ maxLen) ∨
  ∃ (b o n cap : Nat) (css : List (List Value)), 0 < n ∧ v = .slice (some ⟨b, o, none⟩) n cap ∧ n ≤ cap ∧ cap ≤ maxLen ∧ b < w.heap.size ∧ css.length = n ∧
    ∀ i (h : i < css.length), Fits ks css[i] ∧ ElemAt w b o c i css[i]

section
variable {H : Type} {enc : TypeId × Value → H} {P : Program} {w : World} {base : Nat} {spare : Nat → Bool} {held : Bool}
theorem slice_one {r : Reach} {b0 : Nat} {t e : TypeId} {v : Value} (ht : P.underlying t = some (.slice e)) (hv : Value.okWide P w r b0 t v) : v.cells.toList = [v] := by
  unfold Value.okWide at hv
  rw [ht] at hv
  cases v <;> simp_all [Value.cells, Cell.okWide, Cell.ok]

theorem open_flat_slice {r : Reach} {b0 : Nat} {t e : TypeId} {v : Value} {d : DataW H} {p : List MemPlace} {f : Nat} {ks : List Leaf} (ht : P.underlying t = some (.slice e)) (hl : leavesOf P f e = some ks) (hk : ks ≠ [])
    (hv : Value.okWide P w r b0 t v) (h : DataW.Trod enc P w base spare held t v d p) : FlatSlice w (P.cellsOf e) ks v := by
  rcases open_flats ht hl h (slice_one ht hv) with h0 | ⟨a, len, cap, rfl, h2, h3, h4, h5⟩
  · exact .inl h0
  · right
    rcases Nat.eq_zero_or_pos len with h0 | h0
    · subst h0; exact .inl ⟨a, cap, rfl, h4⟩
    · right
      obtain ⟨css, hcss⟩ := Go.Deep.choose_lt (n := len) (p := fun i cs => w.cells? base (a.add (i * P.cellsOf e)) (P.cellsOf e) = some cs ∧ Fits ks cs) h5
      have cell : ∀ i, i < len → ∀ j x, (css i)[j]? = some x → w.cell? ((a.add (i * P.cellsOf e)).add j) = some x := fun i hi j x hj => by
        have h1 := (hcss i hi).1
        unfold World.cells? at h1
        split at h1
        · have hjl := (List.getElem?_eq_some_iff.1 hj).1
          have hcl : (css i).length = P.cellsOf e := by simpa using mapM_some_length h1
          have hr : (List.range (P.cellsOf e))[j]? = some j := by rw [List.getElem?_range (by omega)]
          have h6 := mapM_some_get h1 j j hr
          rw [h6, hj]
        · cases h1
      have hc0 : ∃ x, (css 0)[0]? = some x := by
        have := (hcss 0 h0).2.length
        cases hk' : ks with
        | nil => exact absurd hk' hk
        | cons k ks' =>
          rw [hk'] at this
          have hl : 0 < (css 0).length := by rw [this]; simp
          exact ⟨_, List.getElem?_eq_getElem hl⟩
      obtain ⟨x0, hx0⟩ := hc0
      have hc := cell 0 h0 0 x0 hx0
      simp [Addr.add] at hc
      obtain ⟨b, o, s⟩ := a
      have hs : s = none ∧ b < w.heap.size := by
        unfold World.cell? at hc
        split at hc
        · rename_i hb
          have hlt : b < w.heap.size := by
            rcases Nat.lt_or_ge b w.heap.size with h' | h'
            · exact h'
            · rw [Array.getElem?_eq_none h'] at hb; cases hb
          cases s with
          | none => exact ⟨rfl, hlt⟩
          | some _ => simp at hc
        · cases hc
      obtain ⟨rfl, hlt⟩ := hs
      refine ⟨b, o, len, cap, (List.range len).map css, h0, rfl, h3, h4, hlt, by simp, fun i hi => ?_⟩
      have hi' : i < len := by simpa using hi
      simp only [List.getElem_map, List.getElem_range]
      refine ⟨(hcss i hi').2, fun j x hj => ?_⟩
      have h7 := cell i hi' j x hj
      rw [Go.Deep.add_add] at h7
      unfold Addr.add at h7
      split at h7
      · rename_i h8
        rw [Nat.add_assoc, h8, Nat.add_zero]; exact h7
      · rw [Nat.add_assoc]; exact h7
end

/-- A slice of numbers. -/
theorem FlatSlice.ints {w : World} {k : IntKind} {v : Value} (h : FlatSlice w 1 [.int k] v) :
    v = .slice none 0 0 ∨ (∃ a cap, v = .slice (some a) 0 cap ∧ cap ≤ maxLen) ∨
    ∃ (b o cap : Nat) (zs : List Int), 0 < zs.length ∧ v = .slice (some ⟨b, o, none⟩) zs.length cap ∧ zs.length ≤ cap ∧ cap ≤ maxLen ∧ b < w.heap.size ∧
      (∀ i (h : i < zs.length), w.cell? ⟨b, o + i, none⟩ = some (.int k zs[i])) ∧ ∀ i (h : i < zs.length), (Lit.int k zs[i]).wf = true := by
  rcases h with h | h | ⟨b, o, n, cap, css, h0, rfl, h3, h4, hlt, hn, hi⟩
  · exact .inl h
  · exact .inr (.inl h)
  · refine .inr (.inr ?_)
    have h1 : ∀ i, i < n → ∃ z : Int, w.cell? ⟨b, o + i, none⟩ = some (.int k z) ∧ (Lit.int k z).wf = true := fun i hin => by
      obtain ⟨⟨v, vs, e, ⟨z, rfl, hz⟩, e2⟩, h2⟩ := hi i (by omega)
      refine ⟨z, ?_, hz⟩
      have := h2 0 (.int k z) (by rw [e]; rfl)
      simpa using this
    obtain ⟨zs, hzs⟩ := Go.Deep.choose_lt h1
    refine ⟨b, o, cap, (List.range n).map zs, by simpa using h0, by simp, by simpa using h3, h4, hlt, fun i hin => ?_, fun i hin => ?_⟩
    · simpa using (hzs i (by simpa using hin)).1
    · simpa using (hzs i (by simpa using hin)).2
end Op
end Go.Proofs.Ytjicnbdlffpbbaa
