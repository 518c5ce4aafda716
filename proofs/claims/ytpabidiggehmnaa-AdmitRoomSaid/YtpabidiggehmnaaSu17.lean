/- siftDownOrdered at uint64. -/
import Derived.Test.YtpabidiggehmnaaSu16
namespace Go.Proofs.Ytpabidiggehmnaa
set_option linter.unusedVariables false
set_option linter.unusedSimpArgs false
set_option maxRecDepth 100000
open Go.RowKit Fg Reg Go.Sort
attribute [local irreducible] Reg.wE Holds

section
attribute [local semireducible] Holds
/-- Two places swapped, be they one. -/
theorem hu_swx {blk off : Nat} {z : World} {dd : Array Int} (h : Holds (Value.int .u64) (z) blk off (dd)) (i j : Nat) (hi : i < dd.size) (hj : j < dd.size) (hl : blk < z.heap.size) :
    Holds (Value.int .u64) ((z.setCell ⟨blk, off + i, none⟩ (.int .u64 dd[j]!)).setCell ⟨blk, off + j, none⟩ (.int .u64 dd[i]!)) blk off ((swp dd i j)) := fun k hk => by
  have hk' : k < dd.size := by simpa [swp] using hk
  obtain ⟨g1, g2⟩ := h k hk'
  obtain ⟨a1, -⟩ := h j hj
  obtain ⟨b1, -⟩ := h i hi
  unfold swp
  rcases Classical.em (k = j) with rfl | hkj
  · rw [getElem!_set_same _ _ _ (by simpa using hk')]
    by_cases hki : k = i
    · subst hki
      constructor <;> simp [go_sem, g1, g2, b1]
    · constructor <;> simp [go_sem, g1, g2, b1, show ¬ off + k = off + i by omega]
  · rw [getElem!_set_other _ _ _ _ hkj]
    rcases Classical.em (k = i) with rfl | hki
    · rw [getElem!_set_same _ _ _ hk']
      constructor <;> simp [go_sem, g1, g2, a1, b1, show ¬ off + k = off + j by omega]
    · rw [getElem!_set_other _ _ _ _ hki]
      constructor <;> simp [go_sem, g1, g2, show ¬ off + k = off + i by omega, show ¬ off + k = off + j by omega]
end
theorem swp_size (d : Array Int) (i j : Nat) : (swp d i j).size = d.size := by simp [swp]
theorem sif_end (hi first r : Nat) (d : Array Int) (h : 2 * r + 1 ≥ hi) : siftDown ltInt hi first r d = d := by
  rw [siftDown, dif_pos h]
/-- Which child. -/
theorem sif_stop1 (hi first r : Nat) (d : Array Int) (h : ¬ 2 * r + 1 ≥ hi) (hc : (decide (2 * r + 1 + 1 < hi) && ltInt d[first + (2 * r + 1)]! d[first + (2 * r + 1) + 1]!) = false) (hl : ltInt d[first + r]! d[first + (2 * r + 1)]! = false) : siftDown ltInt hi first r d = d := by
  rw [siftDown, dif_neg h, if_neg (by rw [hc]; simp), if_pos (by rw [hl]; rfl)]
theorem sif_go1 (hi first r : Nat) (d : Array Int) (h : ¬ 2 * r + 1 ≥ hi) (hc : (decide (2 * r + 1 + 1 < hi) && ltInt d[first + (2 * r + 1)]! d[first + (2 * r + 1) + 1]!) = false) (hl : ltInt d[first + r]! d[first + (2 * r + 1)]! = true) : siftDown ltInt hi first r d = siftDown ltInt hi first (2 * r + 1) (swp d (first + r) (first + (2 * r + 1))) := by
  rw [siftDown, dif_neg h, if_neg (by rw [hc]; simp), if_neg (by rw [hl]; simp)]
theorem sif_stop2 (hi first r : Nat) (d : Array Int) (h : ¬ 2 * r + 1 ≥ hi) (hc : (decide (2 * r + 1 + 1 < hi) && ltInt d[first + (2 * r + 1)]! d[first + (2 * r + 1) + 1]!) = true) (hl : ltInt d[first + r]! d[first + (2 * r + 2)]! = false) : siftDown ltInt hi first r d = d := by
  rw [siftDown, dif_neg h, if_pos (by rw [hc]), if_pos (by rw [hl]; rfl)]
theorem sif_go2 (hi first r : Nat) (d : Array Int) (h : ¬ 2 * r + 1 ≥ hi) (h2 : 2 * r + 2 < hi) (hc : (decide (2 * r + 1 + 1 < hi) && ltInt d[first + (2 * r + 1)]! d[first + (2 * r + 1) + 1]!) = true) (hl : ltInt d[first + r]! d[first + (2 * r + 2)]! = true) : siftDown ltInt hi first r d = siftDown ltInt hi first (2 * r + 2) (swp d (first + r) (first + (2 * r + 2))) := by
  rw [siftDown, dif_neg h, if_pos (by rw [hc]), if_neg (by rw [hl]; simp), dif_pos h2]
end Go.Proofs.Ytpabidiggehmnaa
