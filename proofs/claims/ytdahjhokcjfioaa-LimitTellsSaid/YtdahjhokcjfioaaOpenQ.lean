/- A struct of a number and a slice whose elements are flat, by value. Nothing of the program is imported here. -/
import Derived.Test.YtdahjhokcjfioaaOpenA
import Derived.Lib.SmallJoins
namespace Go.Proofs.Ytdahjhokcjfioaa
set_option linter.unusedVariables false
set_option linter.unusedSimpArgs false
set_option maxRecDepth 100000
open Go.RowKit Go.ChangeShapes Go.WideShapes Go.Deep
namespace Op
section
variable {H : Type} {enc : TypeId × Value → H} {P : Program} {w : World} {base : Nat} {spare : Nat → Bool} {held : Bool}
/-- A cell that holds a slice whose elements are flat. -/
theorem flat_slice_cell {t e : TypeId} {v : Value} {fuel f : Nat} {ks : List Leaf} {x : DataW H × List MemPlace} (ht : P.underlying t = some (.slice e)) (hl : leavesOf P f e = some ks) (hk : ks ≠ [])
    (hf : DataW.trod enc P w base spare held fuel t [v] = some x) : FlatSlice w (P.cellsOf e) ks v := by
  rcases Go.Deep.open_slice ht hf with ⟨h1, _⟩ | ⟨a, len, cap, m, n, D, Pl, h1, h2, h3, h4, h5, _, h7⟩
  · exact .inl (by simpa using h1)
  · obtain rfl : v = .slice (some a) len cap := by simpa using h1
    right
    rcases Nat.eq_zero_or_pos len with h0 | h0
    · subst h0; exact .inl ⟨a, cap, rfl, h4⟩
    · right
      have h8 : ∀ i, i < len → ∃ cs, w.cells? base (a.add (i * P.cellsOf e)) (P.cellsOf e) = some cs ∧ Fits ks cs := fun i hi => by
        obtain ⟨cs, k1, k2⟩ := h7 i (by rw [h5]; split <;> omega)
        exact ⟨cs, k1, fits_of_trod f e ks hl _ _ _ k2⟩
      obtain ⟨css, hcss⟩ := Go.Deep.choose_lt (n := len) (p := fun i cs => w.cells? base (a.add (i * P.cellsOf e)) (P.cellsOf e) = some cs ∧ Fits ks cs) h8
      have cell : ∀ i, i < len → ∀ j x, (css i)[j]? = some x → w.cell? ((a.add (i * P.cellsOf e)).add j) = some x := fun i hi j x hj => by
        have h1 := (hcss i hi).1
        unfold World.cells? at h1
        split at h1
        · have hjl := (List.getElem?_eq_some_iff.1 hj).1
          have hcl : (css i).length = P.cellsOf e := by simpa using mapM_some_length h1
          have hr : (List.range (P.cellsOf e))[j]? = some j := by rw [List.getElem?_range (by omega)]
          have h6 := mapM_some_get h1 j j hr
          rw [h6, hj]
        · cases h1
      have hc0 : ∃ x, (css 0)[0]? = some x := by
        have := (hcss 0 h0).2.length
        cases hk' : ks with
        | nil => exact absurd hk' hk
        | cons k ks' =>
          rw [hk'] at this
          have hl : 0 < (css 0).length := by rw [this]; simp
          exact ⟨_, List.getElem?_eq_getElem hl⟩
      obtain ⟨x0, hx0⟩ := hc0
      have hc := cell 0 h0 0 x0 hx0
      simp [Addr.add] at hc
      obtain ⟨b, o, s⟩ := a
      have hs : s = none ∧ b < w.heap.size := by
        unfold World.cell? at hc
        split at hc
        · rename_i hb
          have hlt : b < w.heap.size := by
            rcases Nat.lt_or_ge b w.heap.size with h' | h'
            · exact h'
            · rw [Array.getElem?_eq_none h'] at hb; cases hb
          cases s with
          | none => exact ⟨rfl, hlt⟩
          | some _ => simp at hc
        · cases hc
      obtain ⟨rfl, hlt⟩ := hs
      refine ⟨b, o, len, cap, (List.range len).map css, h0, rfl, h3, h4, hlt, by simp, fun i hi => ?_⟩
      have hi' : i < len := by simpa using hi
      simp only [List.getElem_map, List.getElem_range]
      refine ⟨(hcss i hi').2, fun j x hj => ?_⟩
      have h7 := cell i hi' j x hj
      rw [Go.Deep.add_add] at h7
      unfold Addr.add at h7
      split at h7
      · rename_i h8
        rw [Nat.add_assoc, h8, Nat.add_zero]; exact h7
      · rw [Nat.add_assoc]; exact h7

/-- A struct of a number and such a slice. -/
theorem open_int_slice {r : Reach} {b0 : Nat} {t e : TypeId} {f0 f1 : Field} {v : Value} {d : DataW H} {p : List MemPlace} {f : Nat} {ks : List Leaf} {k : IntKind}
    (hs : P.underlying t = some (.struct #[f0, f1])) (hone : oneCellFields P #[f0, f1] = true) (hC : P.cellsOf t = 2) (hi : leavesOf P 8 f0.type = some [.int k])
    (ht : P.underlying f1.type = some (.slice e)) (hl : leavesOf P f e = some ks) (hk : ks ≠ [])
    (hv : Value.okWide P w r b0 t v) (h : DataW.Trod enc P w base spare held t v d p) :
    ∃ (n : Int) (v1 : Value), v = .agg #[.int k n, v1] ∧ (Lit.int k n).wf = true ∧ FlatSlice w (P.cellsOf e) ks v1 := by
  obtain ⟨v0, v1, y0, y1, n, rfl, _, _, h0, h1⟩ := Go.Joins.open_agg2 hs hone hC hv h
  obtain ⟨u, us, e1, ⟨z, rfl, hz⟩, e2⟩ := fits_of_trod 8 f0.type [.int k] hi _ _ _ h0
  have e3 : us = [] := e2
  subst e3
  obtain rfl : v0 = .int k z := by simpa using e1
  exact ⟨z, v1, rfl, hz, flat_slice_cell ht hl hk h1⟩
end
end Op
end Go.Proofs.Ytdahjhokcjfioaa
