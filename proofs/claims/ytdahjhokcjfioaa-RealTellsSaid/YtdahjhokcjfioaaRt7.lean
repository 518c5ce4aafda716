/- RealTells: the law. -/
import Derived.Test.YtdahjhokcjfioaaRt6
namespace Go.Proofs.Ytdahjhokcjfioaa
set_option linter.unusedVariables false
set_option linter.unusedSimpArgs false
set_option maxRecDepth 100000
open Go.RowKit Fg Reg

theorem run_of20 {x1 p1 p2 m1 x2 p3 p4 m2 : Int} (b : Bool) (i1 : In x1) (g1 : In p1) (g2 : In p2) (l1 : In m1) (i2 : In x2) (g3 : In p3) (g4 : In p4) (l2 : In m2) : ∃ D : Rn, D.ok ∧ x1 = D.x1 ∧ p1 = hi D.y1 ∧ p2 = lo D.y1 ∧ m1 = D.m1 ∧ x2 = D.x2 ∧ p3 = hi D.y2 ∧ p4 = lo D.y2 ∧ m2 = D.m2 ∧ b = D.b :=
  ⟨⟨b, x1, val p1 p2, m1, x2, val p3 p4, m2⟩, ⟨i1, val_in g1 g2, l1, i2, val_in g3 g4, l2⟩, rfl, (hi_val g1 g2).symm, (lo_val g2).symm, rfl, rfl, (hi_val g3 g4).symm, (lo_val g4).symm, rfl, rfl⟩
theorem realTells_law (h : Bool) (Dx1 : Int) (Dp1 : Int) (Dp2 : Int) (Dm1 : Int) (Dx2 : Int) (Dp3 : Int) (Dp4 : Int) (Dm2 : Int) (Db : Bool) (Rx1 : Int) (Rp1 : Int) (Rp2 : Int) (Rm1 : Int) (Rx2 : Int) (Rp3 : Int) (Rp4 : Int) (Rm2 : Int) (Rb : Bool) (p : Int) (e : Int) (d : Int) (c1 cd c2 kd now sent head : Int) (wDx1 : (Lit.int .u64 Dx1).wf = true) (wDp1 : (Lit.int .u64 Dp1).wf = true) (wDp2 : (Lit.int .u64 Dp2).wf = true) (wDm1 : (Lit.int .u64 Dm1).wf = true) (wDx2 : (Lit.int .u64 Dx2).wf = true) (wDp3 : (Lit.int .u64 Dp3).wf = true) (wDp4 : (Lit.int .u64 Dp4).wf = true) (wDm2 : (Lit.int .u64 Dm2).wf = true) (wRx1 : (Lit.int .u64 Rx1).wf = true) (wRp1 : (Lit.int .u64 Rp1).wf = true) (wRp2 : (Lit.int .u64 Rp2).wf = true) (wRm1 : (Lit.int .u64 Rm1).wf = true) (wRx2 : (Lit.int .u64 Rx2).wf = true) (wRp3 : (Lit.int .u64 Rp3).wf = true) (wRp4 : (Lit.int .u64 Rp4).wf = true) (wRm2 : (Lit.int .u64 Rm2).wf = true) (wp : (Lit.int .u64 p).wf = true) (we : (Lit.int .u64 e).wf = true) (wd : (Lit.int .u64 d).wf = true) (v1 : (Lit.int .u64 c1).wf = true) (v2 : (Lit.int .u64 cd).wf = true) (v3 : (Lit.int .u64 c2).wf = true) (v4 : (Lit.int .i64 kd).wf = true) (v5 : (Lit.int .u64 now).wf = true) (v6 : (Lit.int .i64 sent).wf = true) (v7 : (Lit.int .i64 head).wf = true) (w : World) :
    Calls Try.prog 4 #[.agg #[.bool h, .int .u64 Dx1, .int .u64 Dp1, .int .u64 Dp2, .int .u64 Dm1, .int .u64 Dx2, .int .u64 Dp3, .int .u64 Dp4, .int .u64 Dm2, .bool Db, .int .u64 Rx1, .int .u64 Rp1, .int .u64 Rp2, .int .u64 Rm1, .int .u64 Rx2, .int .u64 Rp3, .int .u64 Rp4, .int .u64 Rm2, .bool Rb, .int .u64 p, .int .u64 e, .int .u64 d], .agg #[.int .u64 (c1), .int .u64 (cd), .int .u64 (c2)], .agg #[.int .i64 (kd), .int .u64 (now), .int .i64 (sent), .int .i64 (head)]] w fun e w' => e = .returned (.bool true) ∧ Below w.heap.size w w' := by
  obtain ⟨D, hD, rfl, rfl, rfl, rfl, rfl, rfl, rfl, rfl, rfl⟩ := run_of20 Db (in_wf wDx1) (in_wf wDp1) (in_wf wDp2) (in_wf wDm1) (in_wf wDx2) (in_wf wDp3) (in_wf wDp4) (in_wf wDm2)
  obtain ⟨R, hR, rfl, rfl, rfl, rfl, rfl, rfl, rfl, rfl, rfl⟩ := run_of20 Rb (in_wf wRx1) (in_wf wRp1) (in_wf wRp2) (in_wf wRm1) (in_wf wRx2) (in_wf wRp3) (in_wf wRp4) (in_wf wRm2)
  have hn := in_wf v5
  have b6 := bounds_i64 v6
  have b7 := bounds_i64 v7
  rcases Int.lt_or_le 9223372036854775808 now with hq | hq
  · exact tells_out h D R p e d c1 cd c2 kd now sent head hq w
  · exact tells_in h D R hD hR p e d c1 cd c2 kd now sent head (in_wf wp) (in_wf v1) (in_wf v2) (in_wf v3) hn.1 hq b6.2 b7.2 w
end Go.Proofs.Ytdahjhokcjfioaa
