import Derived.Test.YtdahjhokcjfioaaRunA
import Derived.Test.YtdahjhokcjfioaaLawsA
import Derived.Test.YtdahjhokcjfioaaLines9
import Derived.Test.YtdahjhokcjfioaaLines10
namespace Go.Proofs.Ytdahjhokcjfioaa
set_option linter.unusedVariables false
set_option linter.unusedSimpArgs false
set_option maxRecDepth 100000
open Go.RowKit Fg Reg

/-- A run of the reference, as a value. -/
def rvr (r : Rn) : Value := .agg #[.int .u64 (r.x1), .int .u64 (d0 r.y1), .int .u64 (d1 r.y1), .int .u64 (d2 r.y1), .int .u64 (d3 r.y1), .int .u64 (r.m1), .int .u64 (r.x2), .int .u64 (d0 r.y2), .int .u64 (d1 r.y2), .int .u64 (d2 r.y2), .int .u64 (d3 r.y2), .int .u64 (r.m2), .bool r.b]
theorem rloR (Xa Ya Ma Xb Yb Mb : Int) (ha : In Xa) (hya : Wd Ya) (hma : In Ma) (hb : In Xb) (hyb : Wd Yb) (hmb : In Mb) (c : Bool) (hc : lwr Xa Ya Ma Xb Yb Mb = c) (w : World) :
    Calls Try.prog 149 #[.agg #[.int .u64 (Xa), .int .u64 (d0 Ya), .int .u64 (d1 Ya), .int .u64 (d2 Ya), .int .u64 (d3 Ya), .int .u64 (Ma)], .agg #[.int .u64 (Xb), .int .u64 (d0 Yb), .int .u64 (d1 Yb), .int .u64 (d2 Yb), .int .u64 (d3 Yb), .int .u64 (Mb)]] w fun ee w' => ee = .returned (.agg #[.int .u64 ((slc c Xa Xb)), .int .u64 (d0 (slc c Ya Yb)), .int .u64 (d1 (slc c Ya Yb)), .int .u64 (d2 (slc c Ya Yb)), .int .u64 (d3 (slc c Ya Yb)), .int .u64 ((slc c Ma Mb))]) ∧ Below w.heap.size w w' := by
  unfold lwr at hc
  cases c
  · exact rlo_r Xa Ya Ma Xb Yb Mb ha hya hma hb hyb hmb (by simpa using hc) w
  · exact rlo_l Xa Ya Ma Xb Yb Mb ha hya hma hb hyb hmb (by simpa using hc) w
theorem rmee_R {r s : Rn} (h : r.ok) (g : s.ok) (w : World) : Calls Try.prog 97 #[rvr r, rvr s] w fun ee w' => ee = .returned (rvr (r.meet s)) ∧ Below w.heap.size w w' := by
  have k2 := rloR r.x2 r.y2 r.m2 s.x2 s.y2 s.m2 h.i2 h.j2 h.l2 g.i2 g.j2 g.l2 (r.c2 s) rfl
  have k1 := rloR r.x1 r.y1 r.m1 s.x1 s.y1 s.m1 h.i1 h.j1 h.l1 g.i1 g.j1 g.l1 (r.c1 s) rfl
  have e : rvr (r.meet s) = .agg #[.int .u64 ((slc r.b (slc (r.c1 s) r.x1 s.x1) 0)), .int .u64 (d0 (slc r.b (slc (r.c1 s) r.y1 s.y1) 0)), .int .u64 (d1 (slc r.b (slc (r.c1 s) r.y1 s.y1) 0)), .int .u64 (d2 (slc r.b (slc (r.c1 s) r.y1 s.y1) 0)), .int .u64 (d3 (slc r.b (slc (r.c1 s) r.y1 s.y1) 0)), .int .u64 ((slc r.b (slc (r.c1 s) r.m1 s.m1) 0)), .int .u64 ((slc (r.c2 s) r.x2 s.x2)), .int .u64 (d0 (slc (r.c2 s) r.y2 s.y2)), .int .u64 (d1 (slc (r.c2 s) r.y2 s.y2)), .int .u64 (d2 (slc (r.c2 s) r.y2 s.y2)), .int .u64 (d3 (slc (r.c2 s) r.y2 s.y2)), .int .u64 ((slc (r.c2 s) r.m2 s.m2)), .bool r.b] := rfl
  rw [e]
  unfold rvr
  cases hb : r.b
  · exact rmee_1 s.b _ _ _ _ _ _ _ _ _ _ _ _ _ _ _ k2 w
  · exact rmee_2 s.b _ _ _ _ _ _ _ _ _ _ _ _ _ _ _ _ _ _ k2 k1 w
theorem rrch_R {r : Rn} (h : r.ok) {W : Int} (hW : Wd W) (w : World) : Calls Try.prog 98 #[rvr r, .agg #[.int .u64 (d0 W), .int .u64 (d1 W), .int .u64 (d2 W), .int .u64 (d3 W)]] w fun ee w' => ee = .returned (.int .u64 (r.rch W)) ∧ Below w.heap.size w w' := by
  unfold rvr Rn.rch
  cases hb : r.b with
  | false =>
    rw [show rr false r.x1 r.y1 r.m1 r.x2 r.y2 r.m2 W = lrch r.x2 r.y2 r.m2 W from if_neg (by simp)]
    exact rur_1 r.x1 r.y1 r.m1 r.x2 r.y2 r.m2 W _ (rlrch_c r.x2 r.y2 r.m2 W h.i2 h.j2 h.l2 hW) w
  | true =>
    refine rur_2 r.x1 r.y1 r.m1 r.x2 r.y2 r.m2 W _ _ _ ?_ (rlrch_c r.x1 r.y1 r.m1 W h.i1 h.j1 h.l1 hW) (rlrch_c r.x2 r.y2 r.m2 W h.i2 h.j2 h.l2 hW) w
    unfold rr; simp; omega
theorem rsta_R {late : Bool} {m1 d m2 X Y : Int} (h1 : In m1) (h2 : In d) (h3 : In m2) (hX : 0 ≤ X) (hX1 : X ≤ 9223372036854775808) (hY : 0 ≤ Y) (hY1 : Y < 1000000000000000000000000000000) (w : World) :
    Calls Try.prog 96 #[.agg #[.int .u64 (m1), .int .u64 (d), .int .u64 (m2)], .int .u64 X, .agg #[.int .u64 (d0 Y), .int .u64 (d1 Y), .int .u64 (d2 Y), .int .u64 (d3 Y)], .bool late] w fun ee w' => ee = .returned (rvr (srun late m1 d m2 X Y)) ∧ Below w.heap.size w w' := by
  have kk := rkof_c m1 d m2 h1 h2 h3
  have hr := kind_range m1 d m2
  rcases (by omega : kind m1 d m2 = 0 ∨ kind m1 d m2 = 1 ∨ kind m1 d m2 = 2 ∨ kind m1 d m2 = 3 ∨ kind m1 d m2 = 4) with k | k | k | k | k
  · rw [k] at kk
    rw [show srun late m1 d m2 X Y = ⟨false, 0, 0, 0, X, Y, 0⟩ by unfold srun; simp [k]]
    exact rsta_none m1 d m2 X Y 0 late (by simp) kk w
  · rw [k] at kk
    rw [show srun late m1 d m2 X Y = ⟨false, 0, 0, 0, X, Y, 0⟩ by unfold srun; simp [k]]
    exact rsta_none m1 d m2 X Y 1 late (by simp) kk w
  · rw [k] at kk
    rw [show srun late m1 d m2 X Y = ⟨false, 0, 0, 0, X, Y, m2⟩ by unfold srun; simp [k]]
    exact rsta_lin m1 d m2 X Y late kk w
  · rw [k] at kk
    rw [show srun late m1 d m2 X Y = ⟨true, X, Y, m1, X, Y + (m1 - m2) * d, m2⟩ by unfold srun; simp [k]]
    have ok := kind_ok h1 h2 h3 (.inr (.inl k))
    have hlt := kind_of3 k
    have hb := cut_bd ok hlt
    have n3 := ok.n3
    have b1 := ok.b1
    exact rsta_two m1 d m2 X Y ((m1 - m2) * d) (Y + (m1 - m2) * d) late h1 h3 hlt kk (refmul_c (m1 - m2) d (by unfold In; omega) h2) (refplus_d _ _ (by unfold Wd; omega) (by unfold Wd; omega)) w
  · rw [k] at kk
    have ok := kind_ok h1 h2 h3 (.inr (.inr k))
    have := ok.n2
    have := ok.b2
    cases late with
    | false =>
      rw [show srun false m1 d m2 X Y = ⟨false, 0, 0, 0, X, Y, m2⟩ by unfold srun; simp [k]]
      exact rsta_now m1 d m2 X Y kk w
    | true =>
      rw [show srun true m1 d m2 X Y = ⟨false, 0, 0, 0, X + d, Y, m2⟩ by unfold srun; simp [k]]
      exact rsta_late m1 d m2 X Y (by unfold In; omega) h2 (by unfold In; omega) kk w
theorem runi_c (n : Int) (hn : In n) (w : World) : Calls Try.prog 36 #[.int .u64 n] w fun ee w' => ee = .returned (.agg #[.int .u64 (d0 (n * 65536)), .int .u64 (d1 (n * 65536)), .int .u64 (d2 (n * 65536)), .int .u64 (d3 (n * 65536))]) ∧ Below w.heap.size w w' := by
  have K1 := Lib.hid (refmul_c n 65536 hn (by unfold In; omega))
  go_enter Try.func36, Try.ntmps36
  go_wp2_with (go_at_call 100; ((with_reducible refine (K1.out _).mono ?_); rintro e w1 ⟨rfl, hbel⟩; obtain ⟨hcc, hff⟩ := bcell hbel; have hsz := hbel.size; (try simp at hsz); have hF : (w1.cell? ⟨w.heap.size, 0, none⟩ = some (.int .u64 0) ∧ w1.cell? ⟨w.heap.size, 1, none⟩ = some (.int .u64 0) ∧ w1.cell? ⟨w.heap.size, 2, none⟩ = some (.int .u64 0) ∧ w1.cell? ⟨w.heap.size, 3, none⟩ = some (.int .u64 0) ∧ w1.frozen? ⟨w.heap.size, 0, none⟩ = false ∧ w1.frozen? ⟨w.heap.size, 1, none⟩ = false ∧ w1.frozen? ⟨w.heap.size, 2, none⟩ = false ∧ w1.frozen? ⟨w.heap.size, 3, none⟩ = false ∧ w.heap.size < w1.heap.size) ∧ Below w.heap.size w w1 := (by ((repeat' apply And.intro) <;> first | (simp [go_sem, *]; done) | omega | (repeat' (first | with_reducible exact Below.refl _ _ | with_reducible assumption | ((with_reducible refine Below.drew ?_)) | ((with_reducible refine below_drewN ?_ _)) | ((with_reducible refine Below.alloc ?_ ?_ _); rotate_left; focus (first | omega | (simp; done) | (simp; omega))) | ((with_reducible refine Below.setCell ?_ ?_ _); rotate_left; focus (first | omega | (simp; done) | (simp; omega))) | ((with_reducible refine Below.trans ?_ (Below.mono (by with_reducible assumption) ?_)); rotate_left; focus (first | omega | (simp; done) | (simp; omega))))))); go_split_ands; clear hcc hff hbel))
  refine bodyPost_ret (v := .agg #[.int .u64 (d0 (n * 65536)), .int .u64 (d1 (n * 65536)), .int .u64 (d2 (n * 65536)), .int .u64 (d3 (n * 65536))]) (by simp [results, Try.results36, go_sem, *]) rfl ⟨rfl, (by repeat' (first | with_reducible exact Below.refl _ _ | with_reducible assumption | ((with_reducible refine Below.drew ?_)) | ((with_reducible refine below_drewN ?_ _)) | ((with_reducible refine Below.alloc ?_ ?_ _); rotate_left; focus (first | omega | (simp; done) | (simp; omega))) | ((with_reducible refine Below.setCell ?_ ?_ _); rotate_left; focus (first | omega | (simp; done) | (simp; omega))) | ((with_reducible refine Below.trans ?_ (Below.mono (by with_reducible assumption) ?_)); rotate_left; focus (first | omega | (simp; done) | (simp; omega)))))⟩
end Go.Proofs.Ytdahjhokcjfioaa
