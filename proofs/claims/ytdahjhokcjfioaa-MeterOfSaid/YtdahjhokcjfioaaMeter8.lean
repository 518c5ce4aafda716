import Derived.Test.YtdahjhokcjfioaaMeter7
import Derived.Test.YtdahjhokcjfioaaMeter5
namespace Go.Proofs.Ytdahjhokcjfioaa
set_option linter.unusedVariables false
set_option linter.unusedSimpArgs false
set_option maxRecDepth 100000
open Go.RowKit Fg Reg

theorem TM.setC {w z : World} {x : Nat} {W s a n b : Int} (h : TM w z x W s a n b) {p : Addr} (h1 : p.block ≠ x) (h2 : w.heap.size ≤ p.block) (u : Value) : TM w (z.setCell p u) x W s a n b :=
  ⟨h.1.keep (S := fun k => k = p.block) (Only.setCell (S := fun k => k = p.block) (p := p) (Only.refl _ z) (.inl rfl) u) (fun e => h1 e.symm), h.2.1.setCell h2 u, h.2.2⟩
theorem TM.allo {w z : World} {x : Nat} {W s a n b : Int} (h : TM w z x W s a n b) (o : Obj) : TM w (z.alloc o) x W s a n b := h.below (Below.alloc (Below.refl _ _) (Nat.le_refl _) o)
theorem mnew_no (W s : Int) (h : mok W s = false) (w : World) : Calls Try.prog 122 #[.int .u64 W, .int .i64 s] w fun ee w' => ee = .returned (.tuple #[.pointer none, .int .i64 1]) ∧ Below w.heap.size w w' := by
  have h : ¬ (1 ≤ W ∧ W ≤ 4294967296 ∧ 0 ≤ s ∧ s ≤ 8) := by unfold mok at h; simpa using h
  rcases (by omega : W < 1 ∨ (1 ≤ W ∧ 4294967296 < W) ∨ (1 ≤ W ∧ W ≤ 4294967296 ∧ s < 0) ∨ (1 ≤ W ∧ W ≤ 4294967296 ∧ 0 ≤ s ∧ 8 < s)) with h | ⟨h1, h⟩ | ⟨h1, h2, h⟩ | ⟨h1, h2, h3, h⟩
  all_goals
    go_enter Try.func122, Try.ntmps122
    go_wp2
    (go_ret2; refine ⟨?_, ?_⟩; (focus (exact rfl)); ((repeat' (first | with_reducible exact Below.refl _ _ | with_reducible assumption | ((with_reducible refine Below.drew ?_)) | ((with_reducible refine below_drewN ?_ _)) | ((with_reducible refine Below.alloc ?_ ?_ _); rotate_left; focus (first | omega | (simp; done) | (simp; omega))) | ((with_reducible refine Below.setCell ?_ ?_ _); rotate_left; focus (first | omega | (simp; done) | (simp; omega))) | ((with_reducible refine Below.trans ?_ (Below.mono (by with_reducible assumption) ?_)); rotate_left; focus (first | omega | (simp; done) | (simp; omega))) | with_reducible exact Only.refl _ _ | (with_reducible refine Only.drew ?_) | (with_reducible refine Only.setOne ?_ _ _ _) | (with_reducible refine Only.alloc ?_ _) | (with_reducible refine Only.drewN ?_ _) | (with_reducible refine Only.of_below ?_) )); done))
end Go.Proofs.Ytdahjhokcjfioaa
