/- Joined texts. -/
import Derived.Test.YtffaahipgabkhaaGreatQ2
import Derived.LoopN
import Derived.Sort.Defs
import Derived.Sort.Row
section
namespace Go.Proofs.YtffaahipgabkhaaGreat
set_option linter.unusedVariables false
set_option linter.unusedSimpArgs false
set_option maxRecDepth 100000
open Go.RowKit Fg Reg
attribute [local irreducible] Reg.wE
theorem nan_c (x : Int) (w : World) : Calls Tryz.prog 151 #[.int .u64 x] w fun ee w' => ee = .returned (.bool false) ∧ Below w.heap.size w w' := by
  go_enter Tryz.func151, Tryz.ntmps151
  go_wp2
  (go_ret; refine ⟨?_, ?_⟩; (focus (exact rfl)); ((repeat' (first | with_reducible exact Below.refl _ _ | with_reducible assumption | ((with_reducible refine Below.drew ?_)) | ((with_reducible refine below_drewN ?_ _)) | ((with_reducible refine Below.alloc ?_ ?_ _); rotate_left; focus (first | omega | (simp; done) | (simp; omega))) | ((with_reducible refine Below.setCell ?_ ?_ _); rotate_left; focus (first | omega | (simp; done) | (simp; omega))) | ((with_reducible refine Below.trans ?_ (Below.mono (by with_reducible assumption) ?_)); rotate_left; focus (first | omega | (simp; done) | (simp; omega))))); done))
theorem les_c (x y : Int) (w : World) : Calls Tryz.prog 143 #[.int .u64 x, .int .u64 y] w fun ee w' => ee = .returned (.bool (decide (x < y))) ∧ Below w.heap.size w w' := by
  have K1 := Lib.hid nan_c
  generalize hr : decide (x < y) = r
  go_enter Tryz.func143, Tryz.ntmps143
  go_wp2_with (go_at_call 151; ((with_reducible refine (K1.out _ _).mono ?_); rintro e w1 ⟨rfl, hbel⟩; obtain ⟨hcc, hff⟩ := bcell hbel; have hsz := hbel.size; (try simp at hsz); have hF : Below w.heap.size w w1 := (by ((repeat' apply And.intro) <;> first | (simp [go_sem, *]; done) | omega | (repeat' (first | with_reducible exact Below.refl _ _ | with_reducible assumption | ((with_reducible refine Below.drew ?_)) | ((with_reducible refine below_drewN ?_ _)) | ((with_reducible refine Below.alloc ?_ ?_ _); rotate_left; focus (first | omega | (simp; done) | (simp; omega))) | ((with_reducible refine Below.setCell ?_ ?_ _); rotate_left; focus (first | omega | (simp; done) | (simp; omega))) | ((with_reducible refine Below.trans ?_ (Below.mono (by with_reducible assumption) ?_)); rotate_left; focus (first | omega | (simp; done) | (simp; omega))))))); go_split_ands; clear hcc hff hbel))
  (go_ret; refine ⟨?_, ?_⟩; (focus (exact rfl)); ((repeat' (first | with_reducible exact Below.refl _ _ | with_reducible assumption | ((with_reducible refine Below.drew ?_)) | ((with_reducible refine below_drewN ?_ _)) | ((with_reducible refine Below.alloc ?_ ?_ _); rotate_left; focus (first | omega | (simp; done) | (simp; omega))) | ((with_reducible refine Below.setCell ?_ ?_ _); rotate_left; focus (first | omega | (simp; done) | (simp; omega))) | ((with_reducible refine Below.trans ?_ (Below.mono (by with_reducible assumption) ?_)); rotate_left; focus (first | omega | (simp; done) | (simp; omega))))); done))
end Go.Proofs.YtffaahipgabkhaaGreat
end
section
namespace Go.Proofs.YtffaahipgabkhaaGreat
set_option linter.unusedVariables false
set_option linter.unusedSimpArgs false
set_option maxRecDepth 100000
open Go.RowKit Fg Reg Go.Sort
attribute [local irreducible] Reg.wE Holds
section
attribute [local semireducible] Holds
theorem hu_below {blk off : Nat} {z z' : World} {dd : Array Int} (h : Holds (Value.int .u64) (z) blk off (dd)) (hl : blk < z.heap.size) (hb : Below z.heap.size z z') : Holds (Value.int .u64) (z') blk off (dd) := fun j hj => by
  obtain ⟨hcc, hff⟩ := bcell hb
  exact ⟨(hcc _ _ hl).trans (h j hj).1, (hff _ _ hl).trans (h j hj).2⟩
theorem hu_at {blk off : Nat} {z : World} {dd : Array Int} (h : Holds (Value.int .u64) (z) blk off (dd)) (j : Nat) (hj : j < dd.size) : z.cell? ⟨blk, off + j, none⟩ = some (.int .u64 dd[j]!) ∧ z.frozen? ⟨blk, off + j, none⟩ = false := h j hj
theorem hu_swp {blk off : Nat} {z : World} {dd : Array Int} (h : Holds (Value.int .u64) (z) blk off (dd)) (j : Nat) (hj : j + 1 < dd.size) (hl : blk < z.heap.size) :
    Holds (Value.int .u64) ((z.setCell ⟨blk, off + (j + 1), none⟩ (.int .u64 dd[j]!)).setCell ⟨blk, off + j, none⟩ (.int .u64 dd[j + 1]!)) blk off ((swp dd (j + 1) j)) := fun i hi => by
  have hi' : i < dd.size := by simpa [swp] using hi
  obtain ⟨g1, g2⟩ := h i hi'
  obtain ⟨a1, -⟩ := h j (by omega)
  obtain ⟨b1, -⟩ := h (j + 1) hj
  unfold swp
  rcases Nat.lt_trichotomy i j with hij | rfl | hij
  · rw [getElem!_set_other _ _ _ _ (by omega), getElem!_set_other _ _ _ _ (by omega)]
    constructor <;> simp [go_sem, g1, g2, show ¬ off + i = off + j by omega, show ¬ off + i = off + (j + 1) by omega]
  · rw [getElem!_set_same _ _ _ (by simpa using hi')]
    constructor <;> simp [go_sem, g1, g2, a1, b1]
  · rcases Nat.lt_or_ge i (j + 2) with hl2 | hl2
    · obtain rfl : i = j + 1 := by omega
      rw [getElem!_set_other _ _ _ _ (by omega), getElem!_set_same _ _ _ hj]
      constructor <;> simp [go_sem, g1, g2, a1, b1]
    · rw [getElem!_set_other _ _ _ _ (by omega), getElem!_set_other _ _ _ _ (by omega)]
      constructor <;> simp [go_sem, g1, g2, show ¬ off + i = off + j by omega, show ¬ off + i = off + (j + 1) by omega]
end
end Go.Proofs.YtffaahipgabkhaaGreat
end
