import Derived.Test.YtikmdkmejbcmmaaBaseA
namespace Go.Proofs.Ytikmdkmejbcmmaa
set_option linter.unusedVariables false
set_option linter.unusedSimpArgs false
set_option maxRecDepth 100000
open Go.RowKit Fg Reg

def kcmp (a0 a1 b0 b1 : Int) : Int := if a0 = b0 ∧ a1 = b1 then 0 else if a0 < b0 ∨ (a0 = b0 ∧ a1 < b1) then -1 else 1
/-- The lesser one of two keys. -/
def km0 (a0 a1 b0 b1 : Int) : Int := if kcmp b0 b1 a0 a1 < 0 then b0 else a0
def km1 (a0 a1 b0 b1 : Int) : Int := if kcmp b0 b1 a0 a1 < 0 then b1 else a1
def kdue (a0 now : Int) : Bool := decide (a0 ≤ now) && decide (a0 < 9223372036854775808)

theorem kcmp_c (a0 a1 b0 b1 : Int) (w : World) : Calls Try.prog 66 #[.agg #[.int .u64 (a0), .int .i64 (a1)], .agg #[.int .u64 (b0), .int .i64 (b1)]] w fun ee w' => ee = .returned (.int .i64 (kcmp a0 a1 b0 b1)) ∧ Below w.heap.size w w' := by
  go_enter Try.func66, Try.ntmps66
  go_wp2
  all_goals
    go_ret
    refine ⟨ret_int ?_, (by repeat' (first | with_reducible exact Below.refl _ _ | with_reducible assumption | ((with_reducible refine Below.drew ?_)) | ((with_reducible refine below_drewN ?_ _)) | ((with_reducible refine Below.alloc ?_ ?_ _); rotate_left; focus (first | omega | (simp; done) | (simp; omega))) | ((with_reducible refine Below.setCell ?_ ?_ _); rotate_left; focus (first | omega | (simp; done) | (simp; omega))) | ((with_reducible refine Below.trans ?_ (Below.mono (by with_reducible assumption) ?_)); rotate_left; focus (first | omega | (simp; done) | (simp; omega)))))⟩
    unfold kcmp
    first
      | (rw [if_pos (by omega)])
      | (rw [if_neg (by omega), if_pos (by omega)])
      | (rw [if_neg (by omega), if_neg (by omega)])

end Go.Proofs.Ytikmdkmejbcmmaa
