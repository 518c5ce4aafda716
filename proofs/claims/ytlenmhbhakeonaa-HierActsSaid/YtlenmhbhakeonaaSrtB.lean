/- slices.Sort of a row of ints of one's own. -/
import Derived.Test.YtlenmhbhakeonaaSrtA
import Derived.Sort.OwnSortedInts
namespace Go.Proofs.Ytlenmhbhakeonaa
set_option linter.unusedVariables false
set_option linter.unusedSimpArgs false
set_option maxRecDepth 100000
open Go.RowKit Fg Reg Go.Maps Go.Sort Go.Shelf
theorem sortI_c {w : World} {base : Nat} {v : Value} {ss : List Int} (h : w.ownsRow base 3 1 v ss.length (ss.map (Value.int .i64))) (hs : ss.length < 4611686018427387904) :
    Calls Try.prog 97 #[v] w fun e w' => e = .returned (.tuple #[]) ∧ w'.ownsRow base 3 1 v ss.length ((ss.mergeSort (fun x y => decide (x ≤ y))).map (Value.int .i64)) ∧ Only (fun k => base ≤ k) w w' := by
  have h0 := h
  rcases h.2 with ⟨hv, hz⟩ | ⟨g, cap, cur, hv, hg, hb, h1, h2, h3, h4⟩
  · have hn : ss = [] := by
      have := h.1
      cases ss with
      | nil => rfl
      | cons a l => simp at hz
    subst hn
    subst hv
    refine (AnyM.slices_Sort_int_none sortA none 0 w).mono ?_
    rintro e w' ⟨rfl, rfl⟩
    exact ⟨rfl, by simpa using h0, Only.refl _ _⟩
  · subst hv
    have hH : Holds (Value.int .i64) w g 0 ss.toArray := holds_of_blockI hb (by rw [Nat.mul_one] at h4; exact h4)
    refine (AnyM.slices_Sort_int sortA g 0 cap ss w hH (Array.getElem?_eq_some_iff.1 hb).1 hs).mono ?_
    rintro e w' ⟨rfl, n, os, rfl⟩
    have hl : (ss.mergeSort fun x y => decide (x ≤ y)).length = ss.length := List.length_mergeSort _
    have hgr := grownBy_sortedI (w := w) (g := g) (n := n) (os := os) (ss.mergeSort fun x y => decide (x ≤ y)).toArray
    obtain ⟨e1, e2, e3, e4, e5⟩ := hgr
    exact ⟨rfl, ownsRow_sortedI hl hg hb h1 h2 h3, ⟨e1, e2, e3, e4, fun k hk hs => e5 k hk (fun e => by first | (injection e with e; exact hs (by omega)) | (subst e; exact hs hg))⟩⟩
end Go.Proofs.Ytlenmhbhakeonaa
