/- The reference's May; texts added. -/
import Derived.Test.YtdiniaokkdcihaaDoorTx35
namespace Go.Proofs.YtdiniaokkdcihaaDoor
set_option linter.unusedVariables false
set_option linter.unusedSimpArgs false
set_option maxRecDepth 100000
open Go.RowKit Fg Reg
attribute [local irreducible] Reg.wE

theorem rmay_c (e : Ev) (w : World) : Calls Tryd.prog 23 #[.agg #[.int .i64 (e).op, .bool (e).inn, .bool (e).real, .int .u64 (e).tm, .int .u64 (e).dn, .int .i64 (e).cls, .int .u64 (e).id, .int .i64 (e).ln, .int .u16 (e).a, .int .u16 (e).b, .int .u16 (e).c, .int .u16 (e).d]] w fun ee w' => ee = .returned (.bool (lmay e)) ∧ Below w.heap.size w w' := by
  obtain ⟨op, inn, real, tm, dn, cls, id, ln, a, b, c, d⟩ := e
  unfold lmay
  dsimp only
  by_cases h1 : 0 ≤ op
  · have d1 : decide (0 ≤ op) = true := by simpa using h1
    rw [d1, Bool.true_and]
    by_cases h2 : 0 ≤ cls
    · have d2 : decide (0 ≤ cls) = true := by simpa using h2
      rw [d2, Bool.true_and]
      by_cases h3 : 0 ≤ ln
      · have d3 : decide (0 ≤ ln) = true := by simpa using h3
        rw [d3, Bool.true_and]
        clear h1 h2 h3
        cases inn with
        | false =>
          rw [Bool.not_false, Bool.true_or]
          go_enter Tryd.func23, Tryd.ntmps23
          go_wp2
          (go_ret; refine ⟨?_, ?_⟩; (focus (exact rfl)); ((repeat' (first | with_reducible exact Below.refl _ _ | with_reducible assumption | ((with_reducible refine Below.drew ?_)) | ((with_reducible refine below_drewN ?_ _)) | ((with_reducible refine Below.alloc ?_ ?_ _); rotate_left; focus (first | omega | (simp; done) | (simp; omega))) | ((with_reducible refine Below.setCell ?_ ?_ _); rotate_left; focus (first | omega | (simp; done) | (simp; omega))) | ((with_reducible refine Below.trans ?_ (Below.mono (by with_reducible assumption) ?_)); rotate_left; focus (first | omega | (simp; done) | (simp; omega))))); done))
        | true =>
          rw [Bool.not_true, Bool.false_or]
          by_cases h4 : dn = 0
          · subst h4
            rw [show ((0 : Int) == 0) = true from rfl, Bool.true_and]
            cases real <;>
              (go_enter Tryd.func23, Tryd.ntmps23
               go_wp2
               (go_ret; refine ⟨?_, ?_⟩; (focus (exact rfl)); ((repeat' (first | with_reducible exact Below.refl _ _ | with_reducible assumption | ((with_reducible refine Below.drew ?_)) | ((with_reducible refine below_drewN ?_ _)) | ((with_reducible refine Below.alloc ?_ ?_ _); rotate_left; focus (first | omega | (simp; done) | (simp; omega))) | ((with_reducible refine Below.setCell ?_ ?_ _); rotate_left; focus (first | omega | (simp; done) | (simp; omega))) | ((with_reducible refine Below.trans ?_ (Below.mono (by with_reducible assumption) ?_)); rotate_left; focus (first | omega | (simp; done) | (simp; omega))))); done)))
          · have d4 : (dn == 0) = false := by simpa using h4
            rw [d4, Bool.false_and]
            clear h4
            go_enter Tryd.func23, Tryd.ntmps23
            go_wp2
            (go_ret; refine ⟨?_, ?_⟩; (focus (exact rfl)); ((repeat' (first | with_reducible exact Below.refl _ _ | with_reducible assumption | ((with_reducible refine Below.drew ?_)) | ((with_reducible refine below_drewN ?_ _)) | ((with_reducible refine Below.alloc ?_ ?_ _); rotate_left; focus (first | omega | (simp; done) | (simp; omega))) | ((with_reducible refine Below.setCell ?_ ?_ _); rotate_left; focus (first | omega | (simp; done) | (simp; omega))) | ((with_reducible refine Below.trans ?_ (Below.mono (by with_reducible assumption) ?_)); rotate_left; focus (first | omega | (simp; done) | (simp; omega))))); done))
      · have d3 : decide (0 ≤ ln) = false := by simpa using h3
        rw [d3, Bool.false_and]
        clear h1 h2 h3
        go_enter Tryd.func23, Tryd.ntmps23
        go_wp2
        (go_ret; refine ⟨?_, ?_⟩; (focus (exact rfl)); ((repeat' (first | with_reducible exact Below.refl _ _ | with_reducible assumption | ((with_reducible refine Below.drew ?_)) | ((with_reducible refine below_drewN ?_ _)) | ((with_reducible refine Below.alloc ?_ ?_ _); rotate_left; focus (first | omega | (simp; done) | (simp; omega))) | ((with_reducible refine Below.setCell ?_ ?_ _); rotate_left; focus (first | omega | (simp; done) | (simp; omega))) | ((with_reducible refine Below.trans ?_ (Below.mono (by with_reducible assumption) ?_)); rotate_left; focus (first | omega | (simp; done) | (simp; omega))))); done))
    · have d2 : decide (0 ≤ cls) = false := by simpa using h2
      rw [d2]
      simp only [Bool.false_and]
      clear h1 h2
      go_enter Tryd.func23, Tryd.ntmps23
      go_wp2
      (go_ret; refine ⟨?_, ?_⟩; (focus (exact rfl)); ((repeat' (first | with_reducible exact Below.refl _ _ | with_reducible assumption | ((with_reducible refine Below.drew ?_)) | ((with_reducible refine below_drewN ?_ _)) | ((with_reducible refine Below.alloc ?_ ?_ _); rotate_left; focus (first | omega | (simp; done) | (simp; omega))) | ((with_reducible refine Below.setCell ?_ ?_ _); rotate_left; focus (first | omega | (simp; done) | (simp; omega))) | ((with_reducible refine Below.trans ?_ (Below.mono (by with_reducible assumption) ?_)); rotate_left; focus (first | omega | (simp; done) | (simp; omega))))); done))
  · have d1 : decide (0 ≤ op) = false := by simpa using h1
    rw [d1]
    simp only [Bool.false_and]
    clear h1
    go_enter Tryd.func23, Tryd.ntmps23
    go_wp2
    (go_ret; refine ⟨?_, ?_⟩; (focus (exact rfl)); ((repeat' (first | with_reducible exact Below.refl _ _ | with_reducible assumption | ((with_reducible refine Below.drew ?_)) | ((with_reducible refine below_drewN ?_ _)) | ((with_reducible refine Below.alloc ?_ ?_ _); rotate_left; focus (first | omega | (simp; done) | (simp; omega))) | ((with_reducible refine Below.setCell ?_ ?_ _); rotate_left; focus (first | omega | (simp; done) | (simp; omega))) | ((with_reducible refine Below.trans ?_ (Below.mono (by with_reducible assumption) ?_)); rotate_left; focus (first | omega | (simp; done) | (simp; omega))))); done))
theorem sadd (x y : List UInt8) (h : x.length + y.length ≤ 1000) (w : World) : (Op.stringOp .add (⟨(x).toArray⟩ : ByteArray) (⟨(y).toArray⟩ : ByteArray)).run Tryd.prog w = .ok (.string (⟨(x ++ y).toArray⟩ : ByteArray)) w := by
  rw [run_string_add_sum _ _ _ (by show x.toArray.size + y.toArray.size ≤ _; simp only [List.size_toArray]; omega)]
  congr 2
end Go.Proofs.YtdiniaokkdcihaaDoor
