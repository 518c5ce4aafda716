import Derived.Test.YtjicnbdlffpbbaaLines11
namespace Go.Proofs.Ytjicnbdlffpbbaa
set_option linter.unusedVariables false
set_option linter.unusedSimpArgs false
set_option maxRecDepth 100000
open Go.RowKit Fg Reg

theorem rlo_s (Xa Ya Ma Xb Yb Mb : Int) (ha : In Xa) (hya : Wd Ya) (hma : In Ma) (hb : In Xb) (hyb : Wd Yb) (hmb : In Mb) (c : Bool) (hc : lw Xa Ya Ma Xb Yb Mb = c) (w : World) :
    Calls Try.prog 75 #[.agg #[.int .u64 (Xa), .int .u64 (d0 Ya), .int .u64 (d1 Ya), .int .u64 (d2 Ya), .int .u64 (d3 Ya), .int .u64 (Ma)], .agg #[.int .u64 (Xb), .int .u64 (d0 Yb), .int .u64 (d1 Yb), .int .u64 (d2 Yb), .int .u64 (d3 Yb), .int .u64 (Mb)]] w fun ee w' => ee = .returned (.agg #[.int .u64 ((sel c Xa Xb)), .int .u64 (d0 (sel c Ya Yb)), .int .u64 (d1 (sel c Ya Yb)), .int .u64 (d2 (sel c Ya Yb)), .int .u64 (d3 (sel c Ya Yb)), .int .u64 ((sel c Ma Mb))]) ∧ Below w.heap.size w w' := by
  unfold lw at hc
  cases c
  · exact rlo_r Xa Ya Ma Xb Yb Mb ha hya hma hb hyb hmb (by simpa using hc) w
  · exact rlo_l Xa Ya Ma Xb Yb Mb ha hya hma hb hyb hmb (by simpa using hc) w
theorem sel_wd {c : Bool} {x y : Int} (hx : Wd x) (hy : Wd y) : Wd (sel c x y) := by unfold sel; split <;> assumption
theorem num6_w (Y : Int) (hY : Wd Y) (w : World) : Calls Try.prog 15 #[.agg #[.int .u64 (hi Y), .int .u64 (lo Y)]] w fun ee w' => ee = .returned (.agg #[.int .u64 (d0 Y), .int .u64 (d1 Y), .int .u64 (d2 Y), .int .u64 (d3 Y)]) ∧ Below w.heap.size w w' := by
  have := num6_c (hi Y) (lo Y) (hi_in _) (lo_in _) w
  rwa [val_wd hY] at this
theorem ref6_w (b : Bool) (X1 Y1 M1 X2 Y2 M2 : Int) (j1 : Wd Y1) (j2 : Wd Y2) (w : World) : Calls Try.prog 17 #[.agg #[.int .u64 (X1), .int .u64 (hi Y1), .int .u64 (lo Y1), .int .u64 (M1), .int .u64 (X2), .int .u64 (hi Y2), .int .u64 (lo Y2), .int .u64 (M2), .bool b]] w fun ee w' => ee = .returned (.agg #[.int .u64 (X1), .int .u64 (d0 Y1), .int .u64 (d1 Y1), .int .u64 (d2 Y1), .int .u64 (d3 Y1), .int .u64 (M1), .int .u64 (X2), .int .u64 (d0 Y2), .int .u64 (d1 Y2), .int .u64 (d2 Y2), .int .u64 (d3 Y2), .int .u64 (M2), .bool b]) ∧ Below w.heap.size w w' :=
  ref6_c _ _ _ _ _ _ _ _ Y1 Y2 b (num6_w Y1 j1) (num6_w Y2 j2) w
theorem rua_run (b : Bool) (X1 Y1 M1 X2 Y2 M2 x : Int) (i1 : In X1) (j1 : Wd Y1) (l1 : In M1) (i2 : In X2) (j2 : Wd Y2) (l2 : In M2) (hx : In x) (w : World) : Calls Try.prog 18 #[.agg #[.int .u64 (X1), .int .u64 (d0 Y1), .int .u64 (d1 Y1), .int .u64 (d2 Y1), .int .u64 (d3 Y1), .int .u64 (M1), .int .u64 (X2), .int .u64 (d0 Y2), .int .u64 (d1 Y2), .int .u64 (d2 Y2), .int .u64 (d3 Y2), .int .u64 (M2), .bool b], .int .u64 x] w fun ee w' => ee = .returned (.agg #[.int .u64 (d0 (rn b X1 Y1 M1 X2 Y2 M2 x)), .int .u64 (d1 (rn b X1 Y1 M1 X2 Y2 M2 x)), .int .u64 (d2 (rn b X1 Y1 M1 X2 Y2 M2 x)), .int .u64 (d3 (rn b X1 Y1 M1 X2 Y2 M2 x))]) ∧ Below w.heap.size w w' := by
  cases b with
  | false =>
    rw [show rn false X1 Y1 M1 X2 Y2 M2 x = lat X2 Y2 M2 x from if_neg (by simp)]
    exact rua_1 X1 Y1 M1 X2 Y2 M2 x _ (rlat_c X2 Y2 M2 x i2 j2 l2 hx) w
  | true =>
    refine rua_2 X1 Y1 M1 X2 Y2 M2 x _ _ _ _ ?_ (rlat_c X1 Y1 M1 x i1 j1 l1 hx) (rlat_c X2 Y2 M2 x i2 j2 l2 hx) (refless_d _ _ (lat_wd j1) (lat_wd j2)) w
    unfold rn; simp
theorem rur_run (b : Bool) (X1 Y1 M1 X2 Y2 M2 W : Int) (i1 : In X1) (j1 : Wd Y1) (l1 : In M1) (i2 : In X2) (j2 : Wd Y2) (l2 : In M2) (hW : Wd W) (w : World) : Calls Try.prog 20 #[.agg #[.int .u64 (X1), .int .u64 (d0 Y1), .int .u64 (d1 Y1), .int .u64 (d2 Y1), .int .u64 (d3 Y1), .int .u64 (M1), .int .u64 (X2), .int .u64 (d0 Y2), .int .u64 (d1 Y2), .int .u64 (d2 Y2), .int .u64 (d3 Y2), .int .u64 (M2), .bool b], .agg #[.int .u64 (d0 W), .int .u64 (d1 W), .int .u64 (d2 W), .int .u64 (d3 W)]] w fun ee w' => ee = .returned (.int .u64 (rr b X1 Y1 M1 X2 Y2 M2 W)) ∧ Below w.heap.size w w' := by
  cases b with
  | false =>
    rw [show rr false X1 Y1 M1 X2 Y2 M2 W = lrch X2 Y2 M2 W from if_neg (by simp)]
    exact rur_1 X1 Y1 M1 X2 Y2 M2 W _ (rlrch_c X2 Y2 M2 W i2 j2 l2 hW) w
  | true =>
    refine rur_2 X1 Y1 M1 X2 Y2 M2 W _ _ _ ?_ (rlrch_c X1 Y1 M1 W i1 j1 l1 hW) (rlrch_c X2 Y2 M2 W i2 j2 l2 hW) w
    unfold rr; simp; omega
theorem linesTells_nums (b b' : Bool) (X1 Y1 M1 X2 Y2 M2 U1 V1 N1 U2 V2 N2 x W : Int) (i1 : In X1) (j1 : Wd Y1) (l1 : In M1) (i2 : In X2) (j2 : Wd Y2) (l2 : In M2) (p1 : In U1) (q1 : Wd V1) (r1 : In N1) (p2 : In U2) (q2 : Wd V2) (r2 : In N2) (hx : In x) (hW : Wd W) (w : World) :
    Calls Try.prog 3 #[.agg #[.int .u64 (X1), .int .u64 (hi Y1), .int .u64 (lo Y1), .int .u64 (M1), .int .u64 (X2), .int .u64 (hi Y2), .int .u64 (lo Y2), .int .u64 (M2), .bool b], .agg #[.int .u64 (U1), .int .u64 (hi V1), .int .u64 (lo V1), .int .u64 (N1), .int .u64 (U2), .int .u64 (hi V2), .int .u64 (lo V2), .int .u64 (N2), .bool b'], .agg #[.int .u64 (x), .int .u64 (hi W), .int .u64 (lo W)]] w fun e w' => e = .returned (.bool true) ∧ Below w.heap.size w w' := by
  obtain ⟨c1, h1⟩ : ∃ c, lw X1 Y1 M1 U1 V1 N1 = c := ⟨_, rfl⟩
  obtain ⟨c2, h2⟩ : ∃ c, lw X2 Y2 M2 U2 V2 N2 = c := ⟨_, rfl⟩
  have km := fun w => mee_c b b' X1 Y1 M1 X2 Y2 M2 U1 V1 N1 U2 V2 N2 i1 j1 l1 i2 j2 l2 p1 q1 r1 p2 q2 r2 c1 c2 h1 h2 w
  have kl1 := rlo_s X1 Y1 M1 U1 V1 N1 i1 j1 l1 p1 q1 r1 c1 h1
  have kl2 := rlo_s X2 Y2 M2 U2 V2 N2 i2 j2 l2 p2 q2 r2 c2 h2
  have hV : Wd (rn b X1 Y1 M1 X2 Y2 M2 x) := rn_wd j1 j2
  have qV := fun w => (show (Op.equalIn 10000 32 (.agg #[.int .u64 (d0 (rn b X1 Y1 M1 X2 Y2 M2 x)), .int .u64 (d1 (rn b X1 Y1 M1 X2 Y2 M2 x)), .int .u64 (d2 (rn b X1 Y1 M1 X2 Y2 M2 x)), .int .u64 (d3 (rn b X1 Y1 M1 X2 Y2 M2 x))]) (.agg #[.int .u64 (d0 (rn b X1 Y1 M1 X2 Y2 M2 x)), .int .u64 (d1 (rn b X1 Y1 M1 X2 Y2 M2 x)), .int .u64 (d2 (rn b X1 Y1 M1 X2 Y2 M2 x)), .int .u64 (d3 (rn b X1 Y1 M1 X2 Y2 M2 x))])).run Try.prog w = .ok true w by have := eqDig hV hV w; simpa using this)
  have w1 := sel_wd (c := c1) j1 q1
  have w2 := sel_wd (c := c2) j2 q2
  have z0 : Wd 0 := by unfold Wd; omega
  cases b
  · exact linesTells_core _ _ _ _ _ _ _ _ _ _ _ _ _ _ _ _ 0 0 0 0 _ _ _ _ Y1 Y2 V1 V2 0 (sel c2 Y2 V2) x _ _ _ _ _ W _ false b' qV (rat_run false X1 Y1 M1 X2 Y2 M2 x i1 j1 l1 i2 j2 l2 hx) (num6_w _ hV) (ref6_w false X1 Y1 M1 X2 Y2 M2 j1 j2) (rua_run false X1 Y1 M1 X2 Y2 M2 x i1 j1 l1 i2 j2 l2 hx)
      (rrc_run false X1 Y1 M1 X2 Y2 M2 W i1 j1 l1 i2 j2 l2 hW) (num6_w W hW) (rur_run false X1 Y1 M1 X2 Y2 M2 W i1 j1 l1 i2 j2 l2 hW) km (ref6_w false 0 0 0 (sel c2 X2 U2) (sel c2 Y2 V2) (sel c2 M2 N2) z0 w2) (ref6_w b' U1 V1 N1 U2 V2 N2 q1 q2) (rmee_1 b' X1 Y1 M1 X2 Y2 M2 U1 V1 N1 U2 V2 N2 _ _ _ kl2) w
  · exact linesTells_core _ _ _ _ _ _ _ _ _ _ _ _ _ _ _ _ _ _ _ _ _ _ _ _ Y1 Y2 V1 V2 (sel c1 Y1 V1) (sel c2 Y2 V2) x _ _ _ _ _ W _ true b' qV (rat_run true X1 Y1 M1 X2 Y2 M2 x i1 j1 l1 i2 j2 l2 hx) (num6_w _ hV) (ref6_w true X1 Y1 M1 X2 Y2 M2 j1 j2) (rua_run true X1 Y1 M1 X2 Y2 M2 x i1 j1 l1 i2 j2 l2 hx)
      (rrc_run true X1 Y1 M1 X2 Y2 M2 W i1 j1 l1 i2 j2 l2 hW) (num6_w W hW) (rur_run true X1 Y1 M1 X2 Y2 M2 W i1 j1 l1 i2 j2 l2 hW) km (ref6_w true (sel c1 X1 U1) (sel c1 Y1 V1) (sel c1 M1 N1) (sel c2 X2 U2) (sel c2 Y2 V2) (sel c2 M2 N2) w1 w2) (ref6_w b' U1 V1 N1 U2 V2 N2 q1 q2) (rmee_2 b' X1 Y1 M1 X2 Y2 M2 U1 V1 N1 U2 V2 N2 _ _ _ _ _ _ kl2 kl1) w
theorem linesTells_law (a0 a1 a2 a3 a4 a5 a6 a7 : Int) (fa : Bool) (b0 b1 b2 b3 b4 b5 b6 b7 : Int) (fb : Bool) (x yp yq : Int) (w0 : (Lit.int .u64 a0).wf = true) (w1 : (Lit.int .u64 a1).wf = true) (w2 : (Lit.int .u64 a2).wf = true) (w3 : (Lit.int .u64 a3).wf = true) (w4 : (Lit.int .u64 a4).wf = true) (w5 : (Lit.int .u64 a5).wf = true) (w6 : (Lit.int .u64 a6).wf = true) (w7 : (Lit.int .u64 a7).wf = true)
    (g0 : (Lit.int .u64 b0).wf = true) (g1 : (Lit.int .u64 b1).wf = true) (g2 : (Lit.int .u64 b2).wf = true) (g3 : (Lit.int .u64 b3).wf = true) (g4 : (Lit.int .u64 b4).wf = true) (g5 : (Lit.int .u64 b5).wf = true) (g6 : (Lit.int .u64 b6).wf = true) (g7 : (Lit.int .u64 b7).wf = true) (wx : (Lit.int .u64 x).wf = true) (wp : (Lit.int .u64 yp).wf = true) (wq : (Lit.int .u64 yq).wf = true) (w : World) :
    Calls Try.prog 3 #[.agg #[.int .u64 (a0), .int .u64 (a1), .int .u64 (a2), .int .u64 (a3), .int .u64 (a4), .int .u64 (a5), .int .u64 (a6), .int .u64 (a7), .bool fa], .agg #[.int .u64 (b0), .int .u64 (b1), .int .u64 (b2), .int .u64 (b3), .int .u64 (b4), .int .u64 (b5), .int .u64 (b6), .int .u64 (b7), .bool fb], .agg #[.int .u64 (x), .int .u64 (yp), .int .u64 (yq)]] w fun e w' => e = .returned (.bool true) ∧ Below w.heap.size w w' := by
  have h := linesTells_nums fa fb a0 (val a1 a2) a3 a4 (val a5 a6) a7 b0 (val b1 b2) b3 b4 (val b5 b6) b7 x (val yp yq) (in_wf w0) (val_in (in_wf w1) (in_wf w2)) (in_wf w3) (in_wf w4) (val_in (in_wf w5) (in_wf w6)) (in_wf w7)
    (in_wf g0) (val_in (in_wf g1) (in_wf g2)) (in_wf g3) (in_wf g4) (val_in (in_wf g5) (in_wf g6)) (in_wf g7) (in_wf wx) (val_in (in_wf wp) (in_wf wq)) w
  rwa [hi_val (in_wf w1) (in_wf w2), lo_val (in_wf w2), hi_val (in_wf w5) (in_wf w6), lo_val (in_wf w6), hi_val (in_wf g1) (in_wf g2), lo_val (in_wf g2), hi_val (in_wf g5) (in_wf g6), lo_val (in_wf g6), hi_val (in_wf wp) (in_wf wq), lo_val (in_wf wq)] at h
end Go.Proofs.Ytjicnbdlffpbbaa
