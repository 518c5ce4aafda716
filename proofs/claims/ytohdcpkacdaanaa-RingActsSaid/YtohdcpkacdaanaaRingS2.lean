import Derived.Test.YtohdcpkacdaanaaRingS1
import Derived.Test.YtohdcpkacdaanaaRing2
namespace Go.Proofs.Ytohdcpkacdaanaa
set_option linter.unusedVariables false
set_option linter.unusedSimpArgs false
set_option maxRecDepth 100000
open Go.RowKit Fg Reg

theorem srnew_no (n : Int) (h : n < 1 ∨ 64 < n) (w : World) : Calls Try.prog 29 #[.int .i64 n] w fun ee w' => ee = .returned (.tuple #[.pointer none, .int .i64 1]) ∧ Below w.heap.size w w' := by
  by_cases h1 : n < 1
  · go_enter Try.func29, Try.ntmps29
    go_wp2
    (go_ret2; refine ⟨?_, ?_⟩; (focus (exact rfl)); ((repeat' (first | with_reducible exact Below.refl _ _ | with_reducible assumption | ((with_reducible refine Below.drew ?_)) | ((with_reducible refine below_drewN ?_ _)) | ((with_reducible refine Below.alloc ?_ ?_ _); rotate_left; focus (first | omega | (simp; done) | (simp; omega))) | ((with_reducible refine Below.setCell ?_ ?_ _); rotate_left; focus (first | omega | (simp; done) | (simp; omega))) | ((with_reducible refine Below.trans ?_ (Below.mono (by with_reducible assumption) ?_)); rotate_left; focus (first | omega | (simp; done) | (simp; omega))) | with_reducible exact Only.refl _ _ | (with_reducible refine Only.drew ?_) | (with_reducible refine Only.setL ?_ _ _ _) | (with_reducible refine Only.setR ?_ _ _ _) | (with_reducible refine Only.alloc ?_ _) | (with_reducible refine EL.drew ?_) | (with_reducible refine EL.other ?_ (by with_reducible assumption) _ _ _) | (with_reducible refine EL.set ?_ (by with_reducible assumption) (by with_reducible assumption) _) | ((with_reducible refine EL.below ?_ (by with_reducible assumption) ?_); rotate_left; focus omega) | ((with_reducible refine Only.trans ?_ (Only.of_below (by with_reducible assumption)))) )); done))
  · have h2 : 64 < n := by omega
    go_enter Try.func29, Try.ntmps29
    go_wp2
    (go_ret2; refine ⟨?_, ?_⟩; (focus (exact rfl)); ((repeat' (first | with_reducible exact Below.refl _ _ | with_reducible assumption | ((with_reducible refine Below.drew ?_)) | ((with_reducible refine below_drewN ?_ _)) | ((with_reducible refine Below.alloc ?_ ?_ _); rotate_left; focus (first | omega | (simp; done) | (simp; omega))) | ((with_reducible refine Below.setCell ?_ ?_ _); rotate_left; focus (first | omega | (simp; done) | (simp; omega))) | ((with_reducible refine Below.trans ?_ (Below.mono (by with_reducible assumption) ?_)); rotate_left; focus (first | omega | (simp; done) | (simp; omega))) | with_reducible exact Only.refl _ _ | (with_reducible refine Only.drew ?_) | (with_reducible refine Only.setL ?_ _ _ _) | (with_reducible refine Only.setR ?_ _ _ _) | (with_reducible refine Only.alloc ?_ _) | (with_reducible refine EL.drew ?_) | (with_reducible refine EL.other ?_ (by with_reducible assumption) _ _ _) | (with_reducible refine EL.set ?_ (by with_reducible assumption) (by with_reducible assumption) _) | ((with_reducible refine EL.below ?_ (by with_reducible assumption) ?_); rotate_left; focus omega) | ((with_reducible refine Only.trans ?_ (Only.of_below (by with_reducible assumption)))) )); done))
theorem srnew_ok (n : Nat) (h1 : 1 ≤ n) (h2 : n ≤ 64) (w : World) : Calls Try.prog 29 #[.int .i64 n] w fun e w' => e = .returned (.tuple #[.pointer (some ⟨w.heap.size + 1, 0, none⟩), .int .i64 0]) ∧ RG w' (w.heap.size + 1) w.heap.size n 0 0 (fun _ => .string ⟨#[]⟩) ∧ Below w.heap.size w w' := by
  have hmk := run_make_row' (P := Try.prog) 54 9 (.string ⟨#[]⟩) 16 Try.underlying54 (by kernel_rfl) rfl .i64 .i64 n (by omega) (by omega)
  have hel := fun z : World => el_made z (.string ⟨#[]⟩) n 9
  generalize madeCells #[.string ⟨#[]⟩] n = mc at *
  go_enter Try.func29, Try.ntmps29
  go_wp2
  go_ret2
  refine ⟨rfl, ?_, ?_⟩
  · unfold RG
    refine ⟨?_, by omega, h1, h2, by omega, by omega, (hel w).below ?_ (by simp)⟩
    · ((repeat' apply And.intro) <;> first | (simp [go_sem, *]; done) | omega | (repeat' (first | with_reducible exact Below.refl _ _ | with_reducible assumption | ((with_reducible refine Below.drew ?_)) | ((with_reducible refine below_drewN ?_ _)) | ((with_reducible refine Below.alloc ?_ ?_ _); rotate_left; focus (first | omega | (simp; done) | (simp; omega))) | ((with_reducible refine Below.setCell ?_ ?_ _); rotate_left; focus (first | omega | (simp; done) | (simp; omega))) | ((with_reducible refine Below.trans ?_ (Below.mono (by with_reducible assumption) ?_)); rotate_left; focus (first | omega | (simp; done) | (simp; omega))) | with_reducible exact Only.refl _ _ | (with_reducible refine Only.drew ?_) | (with_reducible refine Only.setL ?_ _ _ _) | (with_reducible refine Only.setR ?_ _ _ _) | (with_reducible refine Only.alloc ?_ _) | (with_reducible refine EL.drew ?_) | (with_reducible refine EL.other ?_ (by with_reducible assumption) _ _ _) | (with_reducible refine EL.set ?_ (by with_reducible assumption) (by with_reducible assumption) _) | ((with_reducible refine EL.below ?_ (by with_reducible assumption) ?_); rotate_left; focus omega) | ((with_reducible refine Only.trans ?_ (Only.of_below (by with_reducible assumption)))) )))
    · exact Below.alloc (Below.refl _ _) (Nat.le_refl _) _
  · exact Below.alloc (Below.alloc (Below.refl _ _) (Nat.le_refl _) _) (by simp) _
end Go.Proofs.Ytohdcpkacdaanaa
