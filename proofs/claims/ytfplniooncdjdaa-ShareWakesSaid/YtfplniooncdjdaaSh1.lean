import Derived.Test.YtfplniooncdjdaaShare1
namespace Go.Proofs.Ytfplniooncdjdaa
set_option linter.unusedVariables false
set_option linter.unusedSimpArgs false
set_option maxRecDepth 100000
open Go.RowKit Fg Reg

/-- A class's virtual time. -/
def tmR (r : Rn) (n : Int) : Int := if r.b = true then mx2 (mx2 (r.rch (n * 65536)) r.x2) r.x1 else mx2 (r.rch (n * 65536)) r.x2
theorem mx2_0 {a : Int} (h : 0 ≤ a) : mx2 0 a = a := by unfold mx2; split <;> omega
theorem rch_nn {r : Rn} (h : r.ok) {W : Int} (hW : 0 ≤ W) : 0 ≤ r.rch W := by
  have g1 := lrch_in (Y := r.y1) (W := W) h.i1 h.l1 hW
  have g2 := lrch_in (Y := r.y2) (W := W) h.i2 h.l2 hW
  unfold Rn.rch rr; split <;> omega
theorem time_c (r : Rn) (h : r.ok) (n : Int) (hn : In n) (w : World) : Calls Try.prog 40 #[.agg #[.int .u64 (r.x1), .int .u64 (hi r.y1), .int .u64 (lo r.y1), .int .u64 (r.m1), .int .u64 (r.x2), .int .u64 (hi r.y2), .int .u64 (lo r.y2), .int .u64 (r.m2), .bool r.b], .int .u64 n] w fun ee w' => ee = .returned (.int .u64 (tmR r n)) ∧ Below w.heap.size w w' := by
  have hn' : 0 ≤ n ∧ n ≤ 18446744073709551615 := hn
  have k1 := suni_c n hn
  have k2 := fun w => rch_R h (W := n * 65536) (by unfold Wd; omega) w
  have h0 := rch_nn h (W := n * 65536) (by omega)
  unfold tmR
  unfold rvv at k2
  generalize r.rch (n * 65536) = T at *
  cases hb : r.b with
  | false =>
    rw [hb] at k2
    have k := time_1 r.x1 r.y1 r.m1 r.x2 r.y2 r.m2 n T k1 k2 w
    rw [mx2_0 h0] at k
    rw [if_neg (by simp)]
    exact k
  | true =>
    rw [hb] at k2
    have k := time_2 r.x1 r.y1 r.m1 r.x2 r.y2 r.m2 n T k1 k2 w
    rw [mx2_0 h0] at k
    rw [if_pos rfl]
    exact k
end Go.Proofs.Ytfplniooncdjdaa
