/- insertionSortOrdered at uint64, of any row. -/
import Derived.Test.YtpabidiggehmnaaSu2
import Derived.Sort.Defs
import Derived.Sort.Row
namespace Go.Proofs.Ytpabidiggehmnaa
set_option linter.unusedVariables false
set_option linter.unusedSimpArgs false
set_option maxRecDepth 100000
open Go.RowKit Fg Reg Go.Sort
attribute [local irreducible] Reg.wE Holds

section
attribute [local semireducible] Holds
theorem hu_below {blk off : Nat} {z z' : World} {dd : Array Int} (h : Holds (Value.int .u64) (z) blk off (dd)) (hl : blk < z.heap.size) (hb : Below z.heap.size z z') : Holds (Value.int .u64) (z') blk off (dd) := fun j hj => by
  obtain ⟨hcc, hff⟩ := bcell hb
  exact ⟨(hcc _ _ hl).trans (h j hj).1, (hff _ _ hl).trans (h j hj).2⟩
theorem hu_at {blk off : Nat} {z : World} {dd : Array Int} (h : Holds (Value.int .u64) (z) blk off (dd)) (j : Nat) (hj : j < dd.size) : z.cell? ⟨blk, off + j, none⟩ = some (.int .u64 dd[j]!) ∧ z.frozen? ⟨blk, off + j, none⟩ = false := h j hj
theorem hu_swp {blk off : Nat} {z : World} {dd : Array Int} (h : Holds (Value.int .u64) (z) blk off (dd)) (j : Nat) (hj : j + 1 < dd.size) (hl : blk < z.heap.size) :
    Holds (Value.int .u64) ((z.setCell ⟨blk, off + (j + 1), none⟩ (.int .u64 dd[j]!)).setCell ⟨blk, off + j, none⟩ (.int .u64 dd[j + 1]!)) blk off ((swp dd (j + 1) j)) := fun i hi => by
  have hi' : i < dd.size := by simpa [swp] using hi
  obtain ⟨g1, g2⟩ := h i hi'
  obtain ⟨a1, -⟩ := h j (by omega)
  obtain ⟨b1, -⟩ := h (j + 1) hj
  unfold swp
  rcases Nat.lt_trichotomy i j with hij | rfl | hij
  · rw [getElem!_set_other _ _ _ _ (by omega), getElem!_set_other _ _ _ _ (by omega)]
    constructor <;> simp [go_sem, g1, g2, show ¬ off + i = off + j by omega, show ¬ off + i = off + (j + 1) by omega]
  · rw [getElem!_set_same _ _ _ (by simpa using hi')]
    constructor <;> simp [go_sem, g1, g2, a1, b1]
  · rcases Nat.lt_or_ge i (j + 2) with hl2 | hl2
    · obtain rfl : i = j + 1 := by omega
      rw [getElem!_set_other _ _ _ _ (by omega), getElem!_set_same _ _ _ hj]
      constructor <;> simp [go_sem, g1, g2, a1, b1]
    · rw [getElem!_set_other _ _ _ _ (by omega), getElem!_set_other _ _ _ _ (by omega)]
      constructor <;> simp [go_sem, g1, g2, show ¬ off + i = off + j by omega, show ¬ off + i = off + (j + 1) by omega]
end
end Go.Proofs.Ytpabidiggehmnaa
