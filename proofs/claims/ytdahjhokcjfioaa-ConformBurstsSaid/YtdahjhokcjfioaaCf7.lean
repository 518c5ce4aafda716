/- conform.Bound, and the reference's. -/
import Derived.Test.YtdahjhokcjfioaaCf6
import Derived.Test.YtdahjhokcjfioaaCurveA
namespace Go.Proofs.Ytdahjhokcjfioaa
set_option linter.unusedVariables false
set_option linter.unusedSimpArgs false
set_option maxRecDepth 100000
open Go.RowKit Fg Reg
attribute [local irreducible] Reg.wE

def badA (T L b : Int) : Prop := T < 1 ∨ 65536 < T ∨ L < 1 ∨ 16384 < L ∨ 1099511627776 < b
def bndV (T L m1 d m2 b : Int) : Int := cl (b * 65536) m2 + (if kind m1 d m2 = 4 then d else 0) + L * T
theorem badA_cases {T L b : Int} (h : badA T L b) : T < 1 ∨ (1 ≤ T ∧ 65536 < T) ∨ (1 ≤ T ∧ T ≤ 65536 ∧ L < 1) ∨ (1 ≤ T ∧ T ≤ 65536 ∧ 1 ≤ L ∧ 16384 < L) ∨ (1 ≤ T ∧ T ≤ 65536 ∧ 1 ≤ L ∧ L ≤ 16384 ∧ 1099511627776 < b) := by
  unfold badA at h; omega
theorem runj_c (n : Int) (hn : In n) (w : World) : Calls Try.prog 36 #[.int .u64 n] w fun ee w' => ee = .returned (.agg #[.int .u64 (d0 (n * 65536)), .int .u64 (d1 (n * 65536)), .int .u64 (d2 (n * 65536)), .int .u64 (d3 (n * 65536))]) ∧ Below w.heap.size w w' := by
  have K1 := Lib.hid (fun w => refmul_c n 65536 hn (by unfold In; omega) w)
  go_enter Try.func36, Try.ntmps36
  go_wp2_with (go_at_call 100; ((with_reducible refine (K1.out _).mono ?_); rintro e w1 ⟨rfl, hbel⟩; obtain ⟨hcc, hff⟩ := bcell hbel; have hsz := hbel.size; (try simp at hsz); have hF : (w1.cell? ⟨w.heap.size, 0, none⟩ = some (.int .u64 0) ∧ w1.cell? ⟨w.heap.size, 1, none⟩ = some (.int .u64 0) ∧ w1.cell? ⟨w.heap.size, 2, none⟩ = some (.int .u64 0) ∧ w1.cell? ⟨w.heap.size, 3, none⟩ = some (.int .u64 0) ∧ w1.frozen? ⟨w.heap.size, 0, none⟩ = false ∧ w1.frozen? ⟨w.heap.size, 1, none⟩ = false ∧ w1.frozen? ⟨w.heap.size, 2, none⟩ = false ∧ w1.frozen? ⟨w.heap.size, 3, none⟩ = false ∧ w.heap.size < w1.heap.size) ∧ Below w.heap.size w w1 := (by ((repeat' apply And.intro) <;> first | (simp [go_sem, *]; done) | omega | (repeat' (first | with_reducible exact Below.refl _ _ | with_reducible assumption | ((with_reducible refine Below.drew ?_)) | ((with_reducible refine below_drewN ?_ _)) | ((with_reducible refine Below.alloc ?_ ?_ _); rotate_left; focus (first | omega | (simp; done) | (simp; omega))) | ((with_reducible refine Below.setCell ?_ ?_ _); rotate_left; focus (first | omega | (simp; done) | (simp; omega))) | ((with_reducible refine Below.trans ?_ (Below.mono (by with_reducible assumption) ?_)); rotate_left; focus (first | omega | (simp; done) | (simp; omega))))))); go_split_ands; clear hcc hff hbel))
  refine bodyPost_ret (v := .agg #[.int .u64 (d0 (n * 65536)), .int .u64 (d1 (n * 65536)), .int .u64 (d2 (n * 65536)), .int .u64 (d3 (n * 65536))]) (by simp [results, Try.results36, go_sem, *]) rfl ⟨rfl, (by repeat' (first | with_reducible exact Below.refl _ _ | with_reducible assumption | ((with_reducible refine Below.drew ?_)) | ((with_reducible refine below_drewN ?_ _)) | ((with_reducible refine Below.alloc ?_ ?_ _); rotate_left; focus (first | omega | (simp; done) | (simp; omega))) | ((with_reducible refine Below.setCell ?_ ?_ _); rotate_left; focus (first | omega | (simp; done) | (simp; omega))) | ((with_reducible refine Below.trans ?_ (Below.mono (by with_reducible assumption) ?_)); rotate_left; focus (first | omega | (simp; done) | (simp; omega)))))⟩
theorem bound_arg (T L m1 d m2 b : Int) (h : badA T L b) (w : World) : Calls Try.prog 76 #[.agg #[.int .i64 T, .int .i64 L], .agg #[.int .u64 (m1), .int .u64 (d), .int .u64 (m2)], .int .u64 b] w fun ee w' => ee = .returned (.tuple #[.int .u64 (0), .int .i64 (1)]) ∧ Below w.heap.size w w' := by
  rcases badA_cases h with h | ⟨e1, h⟩ | ⟨e1, e2, h⟩ | ⟨e1, e2, e3, h⟩ | ⟨e1, e2, e3, e4, h⟩
  · have d0 : decide (T < 1) = true := by simp; omega
    clear h
    go_enter Try.func76, Try.ntmps76
    go_wp2
    (go_ret2; refine ⟨?_, ?_⟩; (focus (exact rfl)); ((repeat' (first | with_reducible exact Below.refl _ _ | with_reducible assumption | ((with_reducible refine Below.drew ?_)) | ((with_reducible refine below_drewN ?_ _)) | ((with_reducible refine Below.alloc ?_ ?_ _); rotate_left; focus (first | omega | (simp; done) | (simp; omega))) | ((with_reducible refine Below.setCell ?_ ?_ _); rotate_left; focus (first | omega | (simp; done) | (simp; omega))) | ((with_reducible refine Below.trans ?_ (Below.mono (by with_reducible assumption) ?_)); rotate_left; focus (first | omega | (simp; done) | (simp; omega))))); done))
  · have d0 : decide (T < 1) = false := by simp; omega
    have d1 : decide (65536 < T) = true := by simp; omega
    clear h e1
    go_enter Try.func76, Try.ntmps76
    go_wp2
    (go_ret2; refine ⟨?_, ?_⟩; (focus (exact rfl)); ((repeat' (first | with_reducible exact Below.refl _ _ | with_reducible assumption | ((with_reducible refine Below.drew ?_)) | ((with_reducible refine below_drewN ?_ _)) | ((with_reducible refine Below.alloc ?_ ?_ _); rotate_left; focus (first | omega | (simp; done) | (simp; omega))) | ((with_reducible refine Below.setCell ?_ ?_ _); rotate_left; focus (first | omega | (simp; done) | (simp; omega))) | ((with_reducible refine Below.trans ?_ (Below.mono (by with_reducible assumption) ?_)); rotate_left; focus (first | omega | (simp; done) | (simp; omega))))); done))
  · have d0 : decide (T < 1) = false := by simp; omega
    have d1 : decide (65536 < T) = false := by simp; omega
    have d2 : decide (L < 1) = true := by simp; omega
    clear h e1 e2
    go_enter Try.func76, Try.ntmps76
    go_wp2
    (go_ret2; refine ⟨?_, ?_⟩; (focus (exact rfl)); ((repeat' (first | with_reducible exact Below.refl _ _ | with_reducible assumption | ((with_reducible refine Below.drew ?_)) | ((with_reducible refine below_drewN ?_ _)) | ((with_reducible refine Below.alloc ?_ ?_ _); rotate_left; focus (first | omega | (simp; done) | (simp; omega))) | ((with_reducible refine Below.setCell ?_ ?_ _); rotate_left; focus (first | omega | (simp; done) | (simp; omega))) | ((with_reducible refine Below.trans ?_ (Below.mono (by with_reducible assumption) ?_)); rotate_left; focus (first | omega | (simp; done) | (simp; omega))))); done))
  · have d0 : decide (T < 1) = false := by simp; omega
    have d1 : decide (65536 < T) = false := by simp; omega
    have d2 : decide (L < 1) = false := by simp; omega
    have d3 : decide (16384 < L) = true := by simp; omega
    clear h e1 e2 e3
    go_enter Try.func76, Try.ntmps76
    go_wp2
    (go_ret2; refine ⟨?_, ?_⟩; (focus (exact rfl)); ((repeat' (first | with_reducible exact Below.refl _ _ | with_reducible assumption | ((with_reducible refine Below.drew ?_)) | ((with_reducible refine below_drewN ?_ _)) | ((with_reducible refine Below.alloc ?_ ?_ _); rotate_left; focus (first | omega | (simp; done) | (simp; omega))) | ((with_reducible refine Below.setCell ?_ ?_ _); rotate_left; focus (first | omega | (simp; done) | (simp; omega))) | ((with_reducible refine Below.trans ?_ (Below.mono (by with_reducible assumption) ?_)); rotate_left; focus (first | omega | (simp; done) | (simp; omega))))); done))
  · have d0 : decide (T < 1) = false := by simp; omega
    have d1 : decide (65536 < T) = false := by simp; omega
    have d2 : decide (L < 1) = false := by simp; omega
    have d3 : decide (16384 < L) = false := by simp; omega
    have d4 : decide (1099511627776 < b) = true := by simp; omega
    clear h e1 e2 e3 e4
    go_enter Try.func76, Try.ntmps76
    go_wp2
    (go_ret2; refine ⟨?_, ?_⟩; (focus (exact rfl)); ((repeat' (first | with_reducible exact Below.refl _ _ | with_reducible assumption | ((with_reducible refine Below.drew ?_)) | ((with_reducible refine below_drewN ?_ _)) | ((with_reducible refine Below.alloc ?_ ?_ _); rotate_left; focus (first | omega | (simp; done) | (simp; omega))) | ((with_reducible refine Below.setCell ?_ ?_ _); rotate_left; focus (first | omega | (simp; done) | (simp; omega))) | ((with_reducible refine Below.trans ?_ (Below.mono (by with_reducible assumption) ?_)); rotate_left; focus (first | omega | (simp; done) | (simp; omega))))); done))
theorem rbound_arg (T L m1 d m2 b : Int) (h : badA T L b) (w : World) : Calls Try.prog 77 #[.agg #[.int .i64 T, .int .i64 L], .agg #[.int .u64 (m1), .int .u64 (d), .int .u64 (m2)], .int .u64 b] w fun ee w' => ee = .returned (.agg #[.int .u64 (0), .int .i64 (1)]) ∧ Below w.heap.size w w' := by
  rcases badA_cases h with h | ⟨e1, h⟩ | ⟨e1, e2, h⟩ | ⟨e1, e2, e3, h⟩ | ⟨e1, e2, e3, e4, h⟩
  · have d0 : decide (T < 1) = true := by simp; omega
    clear h
    go_enter Try.func77, Try.ntmps77
    go_wp2
    refine bodyPost_ret (v := .agg #[.int .u64 (0), .int .i64 (1)]) (by simp [results, Try.results77, go_sem, *]) rfl ⟨rfl, (by repeat' (first | with_reducible exact Below.refl _ _ | with_reducible assumption | ((with_reducible refine Below.drew ?_)) | ((with_reducible refine below_drewN ?_ _)) | ((with_reducible refine Below.alloc ?_ ?_ _); rotate_left; focus (first | omega | (simp; done) | (simp; omega))) | ((with_reducible refine Below.setCell ?_ ?_ _); rotate_left; focus (first | omega | (simp; done) | (simp; omega))) | ((with_reducible refine Below.trans ?_ (Below.mono (by with_reducible assumption) ?_)); rotate_left; focus (first | omega | (simp; done) | (simp; omega)))))⟩
  · have d0 : decide (T < 1) = false := by simp; omega
    have d1 : decide (65536 < T) = true := by simp; omega
    clear h e1
    go_enter Try.func77, Try.ntmps77
    go_wp2
    refine bodyPost_ret (v := .agg #[.int .u64 (0), .int .i64 (1)]) (by simp [results, Try.results77, go_sem, *]) rfl ⟨rfl, (by repeat' (first | with_reducible exact Below.refl _ _ | with_reducible assumption | ((with_reducible refine Below.drew ?_)) | ((with_reducible refine below_drewN ?_ _)) | ((with_reducible refine Below.alloc ?_ ?_ _); rotate_left; focus (first | omega | (simp; done) | (simp; omega))) | ((with_reducible refine Below.setCell ?_ ?_ _); rotate_left; focus (first | omega | (simp; done) | (simp; omega))) | ((with_reducible refine Below.trans ?_ (Below.mono (by with_reducible assumption) ?_)); rotate_left; focus (first | omega | (simp; done) | (simp; omega)))))⟩
  · have d0 : decide (T < 1) = false := by simp; omega
    have d1 : decide (65536 < T) = false := by simp; omega
    have d2 : decide (L < 1) = true := by simp; omega
    clear h e1 e2
    go_enter Try.func77, Try.ntmps77
    go_wp2
    refine bodyPost_ret (v := .agg #[.int .u64 (0), .int .i64 (1)]) (by simp [results, Try.results77, go_sem, *]) rfl ⟨rfl, (by repeat' (first | with_reducible exact Below.refl _ _ | with_reducible assumption | ((with_reducible refine Below.drew ?_)) | ((with_reducible refine below_drewN ?_ _)) | ((with_reducible refine Below.alloc ?_ ?_ _); rotate_left; focus (first | omega | (simp; done) | (simp; omega))) | ((with_reducible refine Below.setCell ?_ ?_ _); rotate_left; focus (first | omega | (simp; done) | (simp; omega))) | ((with_reducible refine Below.trans ?_ (Below.mono (by with_reducible assumption) ?_)); rotate_left; focus (first | omega | (simp; done) | (simp; omega)))))⟩
  · have d0 : decide (T < 1) = false := by simp; omega
    have d1 : decide (65536 < T) = false := by simp; omega
    have d2 : decide (L < 1) = false := by simp; omega
    have d3 : decide (16384 < L) = true := by simp; omega
    clear h e1 e2 e3
    go_enter Try.func77, Try.ntmps77
    go_wp2
    refine bodyPost_ret (v := .agg #[.int .u64 (0), .int .i64 (1)]) (by simp [results, Try.results77, go_sem, *]) rfl ⟨rfl, (by repeat' (first | with_reducible exact Below.refl _ _ | with_reducible assumption | ((with_reducible refine Below.drew ?_)) | ((with_reducible refine below_drewN ?_ _)) | ((with_reducible refine Below.alloc ?_ ?_ _); rotate_left; focus (first | omega | (simp; done) | (simp; omega))) | ((with_reducible refine Below.setCell ?_ ?_ _); rotate_left; focus (first | omega | (simp; done) | (simp; omega))) | ((with_reducible refine Below.trans ?_ (Below.mono (by with_reducible assumption) ?_)); rotate_left; focus (first | omega | (simp; done) | (simp; omega)))))⟩
  · have d0 : decide (T < 1) = false := by simp; omega
    have d1 : decide (65536 < T) = false := by simp; omega
    have d2 : decide (L < 1) = false := by simp; omega
    have d3 : decide (16384 < L) = false := by simp; omega
    have d4 : decide (1099511627776 < b) = true := by simp; omega
    clear h e1 e2 e3 e4
    go_enter Try.func77, Try.ntmps77
    go_wp2
    refine bodyPost_ret (v := .agg #[.int .u64 (0), .int .i64 (1)]) (by simp [results, Try.results77, go_sem, *]) rfl ⟨rfl, (by repeat' (first | with_reducible exact Below.refl _ _ | with_reducible assumption | ((with_reducible refine Below.drew ?_)) | ((with_reducible refine below_drewN ?_ _)) | ((with_reducible refine Below.alloc ?_ ?_ _); rotate_left; focus (first | omega | (simp; done) | (simp; omega))) | ((with_reducible refine Below.setCell ?_ ?_ _); rotate_left; focus (first | omega | (simp; done) | (simp; omega))) | ((with_reducible refine Below.trans ?_ (Below.mono (by with_reducible assumption) ?_)); rotate_left; focus (first | omega | (simp; done) | (simp; omega)))))⟩
theorem bound_kind (T L m1 d m2 b : Int) (h1 : In m1) (h2 : In d) (h3 : In m2) (h : ¬ badA T L b) (hk : kind m1 d m2 = 0) (w : World) : Calls Try.prog 76 #[.agg #[.int .i64 T, .int .i64 L], .agg #[.int .u64 (m1), .int .u64 (d), .int .u64 (m2)], .int .u64 b] w fun ee w' => ee = .returned (.tuple #[.int .u64 (0), .int .i64 (21)]) ∧ Below w.heap.size w w' := by
  have d0 : decide (T < 1) = false := by simp; unfold badA at h; omega
  have d1 : decide (65536 < T) = false := by simp; unfold badA at h; omega
  have d2 : decide (L < 1) = false := by simp; unfold badA at h; omega
  have d3 : decide (16384 < L) = false := by simp; unfold badA at h; omega
  have d4 : decide (1099511627776 < b) = false := by simp; unfold badA at h; omega
  have K1 := Lib.hid (krt_no m1 d m2 h1 h2 h3 hk)
  clear h h1 h2 h3 hk
  go_enter Try.func76, Try.ntmps76
  go_wp2_with (go_at_call 33; ((with_reducible refine (K1.out _).mono ?_); rintro e w1 ⟨rfl, hbel⟩; obtain ⟨hcc, hff⟩ := bcell hbel; have hsz := hbel.size; (try simp at hsz); have hF : (w1.cell? ⟨w.heap.size, 0, none⟩ = some (.int .i64 T) ∧ w1.cell? ⟨w.heap.size, 1, none⟩ = some (.int .i64 L) ∧ w1.cell? ⟨w.heap.size + 1, 0, none⟩ = some (.int .u64 m1) ∧ w1.cell? ⟨w.heap.size + 1, 1, none⟩ = some (.int .u64 d) ∧ w1.cell? ⟨w.heap.size + 1, 2, none⟩ = some (.int .u64 m2) ∧ w.heap.size < w1.heap.size ∧ w.heap.size + 1 < w1.heap.size ∧ Below w.heap.size w w1) := (by ((repeat' apply And.intro) <;> first | (simp [go_sem, *]; done) | omega | (repeat' (first | with_reducible exact Below.refl _ _ | with_reducible assumption | ((with_reducible refine Below.drew ?_)) | ((with_reducible refine below_drewN ?_ _)) | ((with_reducible refine Below.alloc ?_ ?_ _); rotate_left; focus (first | omega | (simp; done) | (simp; omega))) | ((with_reducible refine Below.setCell ?_ ?_ _); rotate_left; focus (first | omega | (simp; done) | (simp; omega))) | ((with_reducible refine Below.trans ?_ (Below.mono (by with_reducible assumption) ?_)); rotate_left; focus (first | omega | (simp; done) | (simp; omega))))))); go_split_ands; clear hcc hff hbel))
  (go_ret2; refine ⟨?_, ?_⟩; (focus (exact rfl)); ((repeat' (first | with_reducible exact Below.refl _ _ | with_reducible assumption | ((with_reducible refine Below.drew ?_)) | ((with_reducible refine below_drewN ?_ _)) | ((with_reducible refine Below.alloc ?_ ?_ _); rotate_left; focus (first | omega | (simp; done) | (simp; omega))) | ((with_reducible refine Below.setCell ?_ ?_ _); rotate_left; focus (first | omega | (simp; done) | (simp; omega))) | ((with_reducible refine Below.trans ?_ (Below.mono (by with_reducible assumption) ?_)); rotate_left; focus (first | omega | (simp; done) | (simp; omega))))); done))
theorem bound_zero (T L m1 d m2 b : Int) (h1 : In m1) (h2 : In d) (h3 : In m2) (h : ¬ badA T L b) (hk : ¬ kind m1 d m2 = 0) (hz : m2 = 0) (w : World) : Calls Try.prog 76 #[.agg #[.int .i64 T, .int .i64 L], .agg #[.int .u64 (m1), .int .u64 (d), .int .u64 (m2)], .int .u64 b] w fun ee w' => ee = .returned (.tuple #[.int .u64 (0), .int .i64 (21)]) ∧ Below w.heap.size w w' := by
  have d0 : decide (T < 1) = false := by simp; unfold badA at h; omega
  have d1 : decide (65536 < T) = false := by simp; unfold badA at h; omega
  have d2 : decide (L < 1) = false := by simp; unfold badA at h; omega
  have d3 : decide (16384 < L) = false := by simp; unfold badA at h; omega
  have d4 : decide (1099511627776 < b) = false := by simp; unfold badA at h; omega
  have K1 := Lib.hid (krt_yes m1 d m2 h1 h2 h3 hk)
  clear h h1 h2 h3 hk
  subst hz
  have hm2 : True := trivial
  generalize hz : (0 : Int) = m2 at K1
  subst hz
  go_enter Try.func76, Try.ntmps76
  go_wp2_with (go_at_call 33; ((with_reducible refine (K1.out _).mono ?_); rintro e w1 ⟨rfl, hbel⟩; obtain ⟨hcc, hff⟩ := bcell hbel; have hsz := hbel.size; (try simp at hsz); have hF : w1.cell? ⟨w.heap.size + 1, 2, none⟩ = some (.int .u64 0) ∧ w.heap.size + 1 < w1.heap.size ∧ Below w.heap.size w w1 := (by ((repeat' apply And.intro) <;> first | (simp [go_sem, *]; done) | omega | (repeat' (first | with_reducible exact Below.refl _ _ | with_reducible assumption | ((with_reducible refine Below.drew ?_)) | ((with_reducible refine below_drewN ?_ _)) | ((with_reducible refine Below.alloc ?_ ?_ _); rotate_left; focus (first | omega | (simp; done) | (simp; omega))) | ((with_reducible refine Below.setCell ?_ ?_ _); rotate_left; focus (first | omega | (simp; done) | (simp; omega))) | ((with_reducible refine Below.trans ?_ (Below.mono (by with_reducible assumption) ?_)); rotate_left; focus (first | omega | (simp; done) | (simp; omega))))))); go_split_ands; clear hcc hff hbel))
  (go_ret2; refine ⟨?_, ?_⟩; (focus (exact rfl)); ((repeat' (first | with_reducible exact Below.refl _ _ | with_reducible assumption | ((with_reducible refine Below.drew ?_)) | ((with_reducible refine below_drewN ?_ _)) | ((with_reducible refine Below.alloc ?_ ?_ _); rotate_left; focus (first | omega | (simp; done) | (simp; omega))) | ((with_reducible refine Below.setCell ?_ ?_ _); rotate_left; focus (first | omega | (simp; done) | (simp; omega))) | ((with_reducible refine Below.trans ?_ (Below.mono (by with_reducible assumption) ?_)); rotate_left; focus (first | omega | (simp; done) | (simp; omega))))); done))
theorem bnd_small {m1 d m2 b : Int} (h1 : In m1) (h2 : In d) (h3 : In m2) (hb : In b) (hb2 : b ≤ 1099511627776) (hk : ¬ kind m1 d m2 = 0) (hz : ¬ m2 = 0) : 0 ≤ cl (b * 65536) m2 ∧ cl (b * 65536) m2 ≤ 72057594037927937 ∧ 0 ≤ d ∧ d ≤ 1048576 := by
  have ho := okc h1 h2 h3 hk
  have hm : 1 ≤ m2 := by have := ho.n3; omega
  have hb0 : 0 ≤ b := hb.1
  have e1 : b * 65536 / m2 ≤ b * 65536 := Int.ediv_le_self _ (by omega)
  have e0 : 0 ≤ b * 65536 / m2 := Int.ediv_nonneg (by omega) (by omega)
  refine ⟨?_, ?_, ho.n2, ho.b2⟩ <;> (unfold cl; split <;> omega)
set_option maxHeartbeats 1000000 in
theorem bound_core4 (T L m1 d m2 b x : Int) (kd : Int) (h1 : In m1) (h2 : In d) (h3 : In m2) (h : ¬ badA T L b) (hk : ¬ kind m1 d m2 = 0) (hz : ¬ m2 = 0) (hkd : (kd == 4) = true) (hk4 : kind m1 d m2 = kd) (hx : 0 ≤ x ∧ x ≤ 72057594037927937) (hd : 0 ≤ d ∧ d ≤ 1048576)
    (k3 : ∀ w, Calls Try.prog 139 #[.int .u64 b, .int .u64 65536, .int .u64 m2] w fun ee w' => ee = .returned (.tuple #[.int .u64 (x), .int .i64 (0)]) ∧ Below w.heap.size w w') (w : World) : Calls Try.prog 76 #[.agg #[.int .i64 T, .int .i64 L], .agg #[.int .u64 (m1), .int .u64 (d), .int .u64 (m2)], .int .u64 b] w fun ee w' => ee = .returned (.tuple #[.int .u64 (x + d + L * T), .int .i64 (0)]) ∧ Below w.heap.size w w' := by
  have d0 : decide (T < 1) = false := by simp; unfold badA at h; omega
  have d1 : decide (65536 < T) = false := by simp; unfold badA at h; omega
  have d2 : decide (L < 1) = false := by simp; unfold badA at h; omega
  have d3 : decide (16384 < L) = false := by simp; unfold badA at h; omega
  have d4 : decide (1099511627776 < b) = false := by simp; unfold badA at h; omega
  have K1 := Lib.hid (krt_yes m1 d m2 h1 h2 h3 hk)
  have k2 := kof_c m1 d m2 h1 h2 h3
  rw [hk4] at k2
  have K2 := Lib.hid k2
  have K3 := Lib.hid k3
  have z1 : (m2 == 0) = false := by simpa using hz
  have hLT : 0 ≤ L * T ∧ L * T ≤ 1073741824 := by
    unfold badA at h
    have a1 : 0 ≤ L := by omega
    have a2 : L ≤ 16384 := by omega
    have a3 : 0 ≤ T := by omega
    have a4 : T ≤ 65536 := by omega
    exact ⟨Int.mul_nonneg a1 a3, by have := Int.mul_le_mul a2 a4 a3 (by omega : (0:Int) ≤ 16384); omega⟩
  have wT : IntKind.u64.wrap T = T := by rw [wrap_u64]; unfold badA at h; omega
  have wL : IntKind.u64.wrap L = L := by rw [wrap_u64]; unfold badA at h; omega
  have wLT : IntKind.u64.wrap (L * T) = L * T := by rw [wrap_u64]; omega
  have wxd : IntKind.u64.wrap (x + d) = x + d := by rw [wrap_u64]; omega
  have wa : IntKind.u64.wrap (x + d + L * T) = x + d + L * T := by rw [wrap_u64]; omega
  have wb : IntKind.u64.wrap (x + L * T) = x + L * T := by rw [wrap_u64]; omega
  clear k2 k3 h h1 h2 h3 hk hz hk4 hx hd hLT
  go_enter Try.func76, Try.ntmps76
  go_wp2_with (first | (go_at_call 33; ((with_reducible refine (K1.out _).mono ?_); rintro e w1 ⟨rfl, hbel⟩; obtain ⟨hcc, hff⟩ := bcell hbel; have hsz := hbel.size; (try simp at hsz); have hF : (w1.cell? ⟨w.heap.size, 0, none⟩ = some (.int .i64 T) ∧ w1.cell? ⟨w.heap.size, 1, none⟩ = some (.int .i64 L) ∧ w1.cell? ⟨w.heap.size + 1, 0, none⟩ = some (.int .u64 m1) ∧ w1.cell? ⟨w.heap.size + 1, 1, none⟩ = some (.int .u64 d) ∧ w1.cell? ⟨w.heap.size + 1, 2, none⟩ = some (.int .u64 m2) ∧ w.heap.size < w1.heap.size ∧ w.heap.size + 1 < w1.heap.size ∧ Below w.heap.size w w1) := (by ((repeat' apply And.intro) <;> first | (simp [go_sem, *]; done) | omega | (repeat' (first | with_reducible exact Below.refl _ _ | with_reducible assumption | ((with_reducible refine Below.drew ?_)) | ((with_reducible refine below_drewN ?_ _)) | ((with_reducible refine Below.alloc ?_ ?_ _); rotate_left; focus (first | omega | (simp; done) | (simp; omega))) | ((with_reducible refine Below.setCell ?_ ?_ _); rotate_left; focus (first | omega | (simp; done) | (simp; omega))) | ((with_reducible refine Below.trans ?_ (Below.mono (by with_reducible assumption) ?_)); rotate_left; focus (first | omega | (simp; done) | (simp; omega))))))); go_split_ands; clear hcc hff hbel)) | (go_at_call 139; ((with_reducible refine (K3.out _).mono ?_); rintro e w2 ⟨rfl, hbel⟩; obtain ⟨hcc, hff⟩ := bcell hbel; have hsz := hbel.size; (try simp at hsz); have hF : (w2.cell? ⟨w.heap.size, 0, none⟩ = some (.int .i64 T) ∧ w2.cell? ⟨w.heap.size, 1, none⟩ = some (.int .i64 L) ∧ w2.cell? ⟨w.heap.size + 1, 0, none⟩ = some (.int .u64 m1) ∧ w2.cell? ⟨w.heap.size + 1, 1, none⟩ = some (.int .u64 d) ∧ w2.cell? ⟨w.heap.size + 1, 2, none⟩ = some (.int .u64 m2) ∧ w.heap.size < w2.heap.size ∧ w.heap.size + 1 < w2.heap.size ∧ Below w.heap.size w w2) := (by ((repeat' apply And.intro) <;> first | (simp [go_sem, *]; done) | omega | (repeat' (first | with_reducible exact Below.refl _ _ | with_reducible assumption | ((with_reducible refine Below.drew ?_)) | ((with_reducible refine below_drewN ?_ _)) | ((with_reducible refine Below.alloc ?_ ?_ _); rotate_left; focus (first | omega | (simp; done) | (simp; omega))) | ((with_reducible refine Below.setCell ?_ ?_ _); rotate_left; focus (first | omega | (simp; done) | (simp; omega))) | ((with_reducible refine Below.trans ?_ (Below.mono (by with_reducible assumption) ?_)); rotate_left; focus (first | omega | (simp; done) | (simp; omega))))))); go_split_ands; clear hcc hff hbel)) | (go_at_call 41; ((with_reducible refine (K2.out _).mono ?_); rintro e w3 ⟨rfl, hbel⟩; obtain ⟨hcc, hff⟩ := bcell hbel; have hsz := hbel.size; (try simp at hsz); have hF : (w3.cell? ⟨w.heap.size, 0, none⟩ = some (.int .i64 T) ∧ w3.cell? ⟨w.heap.size, 1, none⟩ = some (.int .i64 L) ∧ w3.cell? ⟨w.heap.size + 1, 0, none⟩ = some (.int .u64 m1) ∧ w3.cell? ⟨w.heap.size + 1, 1, none⟩ = some (.int .u64 d) ∧ w3.cell? ⟨w.heap.size + 1, 2, none⟩ = some (.int .u64 m2) ∧ w.heap.size < w3.heap.size ∧ w.heap.size + 1 < w3.heap.size ∧ Below w.heap.size w w3) := (by ((repeat' apply And.intro) <;> first | (simp [go_sem, *]; done) | omega | (repeat' (first | with_reducible exact Below.refl _ _ | with_reducible assumption | ((with_reducible refine Below.drew ?_)) | ((with_reducible refine below_drewN ?_ _)) | ((with_reducible refine Below.alloc ?_ ?_ _); rotate_left; focus (first | omega | (simp; done) | (simp; omega))) | ((with_reducible refine Below.setCell ?_ ?_ _); rotate_left; focus (first | omega | (simp; done) | (simp; omega))) | ((with_reducible refine Below.trans ?_ (Below.mono (by with_reducible assumption) ?_)); rotate_left; focus (first | omega | (simp; done) | (simp; omega))))))); go_split_ands; clear hcc hff hbel)))
  (go_ret2; refine ⟨?_, ?_⟩; (focus (exact rfl)); ((repeat' (first | with_reducible exact Below.refl _ _ | with_reducible assumption | ((with_reducible refine Below.drew ?_)) | ((with_reducible refine below_drewN ?_ _)) | ((with_reducible refine Below.alloc ?_ ?_ _); rotate_left; focus (first | omega | (simp; done) | (simp; omega))) | ((with_reducible refine Below.setCell ?_ ?_ _); rotate_left; focus (first | omega | (simp; done) | (simp; omega))) | ((with_reducible refine Below.trans ?_ (Below.mono (by with_reducible assumption) ?_)); rotate_left; focus (first | omega | (simp; done) | (simp; omega))))); done))
set_option maxHeartbeats 1000000 in
theorem bound_coren (T L m1 d m2 b x : Int) (kd : Int) (h1 : In m1) (h2 : In d) (h3 : In m2) (h : ¬ badA T L b) (hk : ¬ kind m1 d m2 = 0) (hz : ¬ m2 = 0) (hkd : (kd == 4) = false) (hk4 : kind m1 d m2 = kd) (hx : 0 ≤ x ∧ x ≤ 72057594037927937) (hd : 0 ≤ d ∧ d ≤ 1048576)
    (k3 : ∀ w, Calls Try.prog 139 #[.int .u64 b, .int .u64 65536, .int .u64 m2] w fun ee w' => ee = .returned (.tuple #[.int .u64 (x), .int .i64 (0)]) ∧ Below w.heap.size w w') (w : World) : Calls Try.prog 76 #[.agg #[.int .i64 T, .int .i64 L], .agg #[.int .u64 (m1), .int .u64 (d), .int .u64 (m2)], .int .u64 b] w fun ee w' => ee = .returned (.tuple #[.int .u64 (x + L * T), .int .i64 (0)]) ∧ Below w.heap.size w w' := by
  have d0 : decide (T < 1) = false := by simp; unfold badA at h; omega
  have d1 : decide (65536 < T) = false := by simp; unfold badA at h; omega
  have d2 : decide (L < 1) = false := by simp; unfold badA at h; omega
  have d3 : decide (16384 < L) = false := by simp; unfold badA at h; omega
  have d4 : decide (1099511627776 < b) = false := by simp; unfold badA at h; omega
  have K1 := Lib.hid (krt_yes m1 d m2 h1 h2 h3 hk)
  have k2 := kof_c m1 d m2 h1 h2 h3
  rw [hk4] at k2
  have K2 := Lib.hid k2
  have K3 := Lib.hid k3
  have z1 : (m2 == 0) = false := by simpa using hz
  have hLT : 0 ≤ L * T ∧ L * T ≤ 1073741824 := by
    unfold badA at h
    have a1 : 0 ≤ L := by omega
    have a2 : L ≤ 16384 := by omega
    have a3 : 0 ≤ T := by omega
    have a4 : T ≤ 65536 := by omega
    exact ⟨Int.mul_nonneg a1 a3, by have := Int.mul_le_mul a2 a4 a3 (by omega : (0:Int) ≤ 16384); omega⟩
  have wT : IntKind.u64.wrap T = T := by rw [wrap_u64]; unfold badA at h; omega
  have wL : IntKind.u64.wrap L = L := by rw [wrap_u64]; unfold badA at h; omega
  have wLT : IntKind.u64.wrap (L * T) = L * T := by rw [wrap_u64]; omega
  have wxd : IntKind.u64.wrap (x + d) = x + d := by rw [wrap_u64]; omega
  have wa : IntKind.u64.wrap (x + d + L * T) = x + d + L * T := by rw [wrap_u64]; omega
  have wb : IntKind.u64.wrap (x + L * T) = x + L * T := by rw [wrap_u64]; omega
  clear k2 k3 h h1 h2 h3 hk hz hk4 hx hd hLT
  go_enter Try.func76, Try.ntmps76
  go_wp2_with (first | (go_at_call 33; ((with_reducible refine (K1.out _).mono ?_); rintro e w1 ⟨rfl, hbel⟩; obtain ⟨hcc, hff⟩ := bcell hbel; have hsz := hbel.size; (try simp at hsz); have hF : (w1.cell? ⟨w.heap.size, 0, none⟩ = some (.int .i64 T) ∧ w1.cell? ⟨w.heap.size, 1, none⟩ = some (.int .i64 L) ∧ w1.cell? ⟨w.heap.size + 1, 0, none⟩ = some (.int .u64 m1) ∧ w1.cell? ⟨w.heap.size + 1, 1, none⟩ = some (.int .u64 d) ∧ w1.cell? ⟨w.heap.size + 1, 2, none⟩ = some (.int .u64 m2) ∧ w.heap.size < w1.heap.size ∧ w.heap.size + 1 < w1.heap.size ∧ Below w.heap.size w w1) := (by ((repeat' apply And.intro) <;> first | (simp [go_sem, *]; done) | omega | (repeat' (first | with_reducible exact Below.refl _ _ | with_reducible assumption | ((with_reducible refine Below.drew ?_)) | ((with_reducible refine below_drewN ?_ _)) | ((with_reducible refine Below.alloc ?_ ?_ _); rotate_left; focus (first | omega | (simp; done) | (simp; omega))) | ((with_reducible refine Below.setCell ?_ ?_ _); rotate_left; focus (first | omega | (simp; done) | (simp; omega))) | ((with_reducible refine Below.trans ?_ (Below.mono (by with_reducible assumption) ?_)); rotate_left; focus (first | omega | (simp; done) | (simp; omega))))))); go_split_ands; clear hcc hff hbel)) | (go_at_call 139; ((with_reducible refine (K3.out _).mono ?_); rintro e w2 ⟨rfl, hbel⟩; obtain ⟨hcc, hff⟩ := bcell hbel; have hsz := hbel.size; (try simp at hsz); have hF : (w2.cell? ⟨w.heap.size, 0, none⟩ = some (.int .i64 T) ∧ w2.cell? ⟨w.heap.size, 1, none⟩ = some (.int .i64 L) ∧ w2.cell? ⟨w.heap.size + 1, 0, none⟩ = some (.int .u64 m1) ∧ w2.cell? ⟨w.heap.size + 1, 1, none⟩ = some (.int .u64 d) ∧ w2.cell? ⟨w.heap.size + 1, 2, none⟩ = some (.int .u64 m2) ∧ w.heap.size < w2.heap.size ∧ w.heap.size + 1 < w2.heap.size ∧ Below w.heap.size w w2) := (by ((repeat' apply And.intro) <;> first | (simp [go_sem, *]; done) | omega | (repeat' (first | with_reducible exact Below.refl _ _ | with_reducible assumption | ((with_reducible refine Below.drew ?_)) | ((with_reducible refine below_drewN ?_ _)) | ((with_reducible refine Below.alloc ?_ ?_ _); rotate_left; focus (first | omega | (simp; done) | (simp; omega))) | ((with_reducible refine Below.setCell ?_ ?_ _); rotate_left; focus (first | omega | (simp; done) | (simp; omega))) | ((with_reducible refine Below.trans ?_ (Below.mono (by with_reducible assumption) ?_)); rotate_left; focus (first | omega | (simp; done) | (simp; omega))))))); go_split_ands; clear hcc hff hbel)) | (go_at_call 41; ((with_reducible refine (K2.out _).mono ?_); rintro e w3 ⟨rfl, hbel⟩; obtain ⟨hcc, hff⟩ := bcell hbel; have hsz := hbel.size; (try simp at hsz); have hF : (w3.cell? ⟨w.heap.size, 0, none⟩ = some (.int .i64 T) ∧ w3.cell? ⟨w.heap.size, 1, none⟩ = some (.int .i64 L) ∧ w3.cell? ⟨w.heap.size + 1, 0, none⟩ = some (.int .u64 m1) ∧ w3.cell? ⟨w.heap.size + 1, 1, none⟩ = some (.int .u64 d) ∧ w3.cell? ⟨w.heap.size + 1, 2, none⟩ = some (.int .u64 m2) ∧ w.heap.size < w3.heap.size ∧ w.heap.size + 1 < w3.heap.size ∧ Below w.heap.size w w3) := (by ((repeat' apply And.intro) <;> first | (simp [go_sem, *]; done) | omega | (repeat' (first | with_reducible exact Below.refl _ _ | with_reducible assumption | ((with_reducible refine Below.drew ?_)) | ((with_reducible refine below_drewN ?_ _)) | ((with_reducible refine Below.alloc ?_ ?_ _); rotate_left; focus (first | omega | (simp; done) | (simp; omega))) | ((with_reducible refine Below.setCell ?_ ?_ _); rotate_left; focus (first | omega | (simp; done) | (simp; omega))) | ((with_reducible refine Below.trans ?_ (Below.mono (by with_reducible assumption) ?_)); rotate_left; focus (first | omega | (simp; done) | (simp; omega))))))); go_split_ands; clear hcc hff hbel)))
  (go_ret2; refine ⟨?_, ?_⟩; (focus (exact rfl)); ((repeat' (first | with_reducible exact Below.refl _ _ | with_reducible assumption | ((with_reducible refine Below.drew ?_)) | ((with_reducible refine below_drewN ?_ _)) | ((with_reducible refine Below.alloc ?_ ?_ _); rotate_left; focus (first | omega | (simp; done) | (simp; omega))) | ((with_reducible refine Below.setCell ?_ ?_ _); rotate_left; focus (first | omega | (simp; done) | (simp; omega))) | ((with_reducible refine Below.trans ?_ (Below.mono (by with_reducible assumption) ?_)); rotate_left; focus (first | omega | (simp; done) | (simp; omega))))); done))
theorem bound_c (T L m1 d m2 b : Int) (h1 : In m1) (h2 : In d) (h3 : In m2) (hb : In b) (w : World) : Calls Try.prog 76 #[.agg #[.int .i64 T, .int .i64 L], .agg #[.int .u64 (m1), .int .u64 (d), .int .u64 (m2)], .int .u64 b] w fun e w' => (∃ V F, e = .returned (.tuple #[.int .u64 (V), .int .i64 (F)]) ∧ ((badA T L b ∧ V = 0 ∧ F = 1) ∨ (¬ badA T L b ∧ (kind m1 d m2 = 0 ∨ m2 = 0) ∧ V = 0 ∧ F = 21) ∨ (¬ badA T L b ∧ ¬ kind m1 d m2 = 0 ∧ ¬ m2 = 0 ∧ V = bndV T L m1 d m2 b ∧ F = 0))) ∧ Below w.heap.size w w' := by
  by_cases h : badA T L b
  · exact (bound_arg T L m1 d m2 b h w).mono fun e w' ⟨he, hB⟩ => ⟨⟨0, 1, he, .inl ⟨h, rfl, rfl⟩⟩, hB⟩
  · by_cases hk : kind m1 d m2 = 0
    · exact (bound_kind T L m1 d m2 b h1 h2 h3 h hk w).mono fun e w' ⟨he, hB⟩ => ⟨⟨0, 21, he, .inr (.inl ⟨h, .inl hk, rfl, rfl⟩)⟩, hB⟩
    · by_cases hz : m2 = 0
      · exact (bound_zero T L m1 d m2 b h1 h2 h3 h hk hz w).mono fun e w' ⟨he, hB⟩ => ⟨⟨0, 21, he, .inr (.inl ⟨h, .inr hz, rfl, rfl⟩)⟩, hB⟩
      · have hb2 : b ≤ 1099511627776 := by unfold badA at h; omega
        obtain ⟨x0, x1, d0, d1⟩ := bnd_small h1 h2 h3 hb hb2 hk hz
        have k3 := fun w => up_c b 65536 m2 hb (by unfold In; omega) h3 (by have := h3.1; omega) w
        have hh : hi (cl (b * 65536) m2) = 0 := by unfold hi; omega
        rw [nv_ok hh, ne_ok hh, show lo (cl (b * 65536) m2) = cl (b * 65536) m2 by unfold lo; omega] at k3
        by_cases h4 : kind m1 d m2 = 4
        · have hv : bndV T L m1 d m2 b = cl (b * 65536) m2 + d + L * T := by unfold bndV; rw [if_pos h4]
          exact (bound_core4 T L m1 d m2 b _ 4 h1 h2 h3 h hk hz rfl h4 ⟨x0, x1⟩ ⟨d0, d1⟩ k3 w).mono fun e w' ⟨he, hB⟩ => ⟨⟨_, 0, he, .inr (.inr ⟨h, hk, hz, hv.symm, rfl⟩)⟩, hB⟩
        · have hv : bndV T L m1 d m2 b = cl (b * 65536) m2 + L * T := by unfold bndV; rw [if_neg h4]; omega
          exact (bound_coren T L m1 d m2 b _ _ h1 h2 h3 h hk hz (by simpa using h4) rfl ⟨x0, x1⟩ ⟨d0, d1⟩ k3 w).mono fun e w' ⟨he, hB⟩ => ⟨⟨_, 0, he, .inr (.inr ⟨h, hk, hz, hv.symm, rfl⟩)⟩, hB⟩
end Go.Proofs.Ytdahjhokcjfioaa
