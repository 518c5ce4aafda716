import Derived.Test.YtohdcpkacdaanaaBaseA
namespace Go.Proofs.Ytohdcpkacdaanaa
set_option linter.unusedVariables false
set_option linter.unusedSimpArgs false
set_option maxRecDepth 100000
open Go.RowKit Fg Reg

/-- Why a packet may not be. -/
def mayv (n m : Int) : Int := if m < 1 ∨ 16384 < m then 1 else if n < 1 ∨ m < n then 26 else 0
theorem may_c (i n a b c d m : Int) (w : World) : Calls Try.prog 21 #[.agg #[.int .u64 i, .int .i64 n, .int .u16 a, .int .u16 b, .int .u16 c, .int .u16 d], .int .i64 m] w fun ee w' => ee = .returned (.int .i64 (mayv n m)) ∧ Below w.heap.size w w' := by
  go_enter Try.func21, Try.ntmps21
  go_wp2
  all_goals
    go_ret
    refine ⟨ret_int ?_, (by repeat' (first | with_reducible exact Below.refl _ _ | with_reducible assumption | ((with_reducible refine Below.drew ?_)) | ((with_reducible refine below_drewN ?_ _)) | ((with_reducible refine Below.alloc ?_ ?_ _); rotate_left; focus (first | omega | (simp; done) | (simp; omega))) | ((with_reducible refine Below.setCell ?_ ?_ _); rotate_left; focus (first | omega | (simp; done) | (simp; omega))) | ((with_reducible refine Below.trans ?_ (Below.mono (by with_reducible assumption) ?_)); rotate_left; focus (first | omega | (simp; done) | (simp; omega)))))⟩
    unfold mayv
    (repeat' split) <;> first | rfl | omega | (simp_all; done) | (exfalso; simp_all; omega)
theorem tic_ok (i n a b c d t : Int) (hn : 1 ≤ n ∧ n ≤ 16384) (ht : 1 ≤ t ∧ t ≤ 65536) (w : World) : Calls Try.prog 20 #[.agg #[.int .u64 i, .int .i64 n, .int .u16 a, .int .u16 b, .int .u16 c, .int .u16 d], .int .i64 t] w fun ee w' => ee = .returned (.tuple #[.int .u64 (n * t), .int .i64 (0)]) ∧ Below w.heap.size w w' := by
  have k1 := may_c i n a b c d 16384
  rw [show mayv n 16384 = 0 by unfold mayv; rw [if_neg (by omega), if_neg (by omega)]] at k1
  have K1 := Lib.hid k1
  clear k1
  obtain ⟨hn1, hn2⟩ := hn
  obtain ⟨ht1, ht2⟩ := ht
  have hm1 : 0 ≤ n * t := Int.mul_nonneg (by omega) (by omega)
  have hm2 : n * t ≤ 16384 * 65536 := Int.mul_le_mul hn2 ht2 (by omega) (by omega)
  go_enter Try.func20, Try.ntmps20
  go_wp2_with (go_at_call 21; ((with_reducible refine (K1.out _).mono ?_); rintro e w1 ⟨rfl, hbel⟩; obtain ⟨hcc, hff⟩ := bcell hbel; have hsz := hbel.size; (try simp at hsz); have hF : (w1.cell? ⟨w.heap.size, 0, none⟩ = some (.int .u64 i) ∧ w1.cell? ⟨w.heap.size, 1, none⟩ = some (.int .i64 n) ∧ w1.cell? ⟨w.heap.size, 2, none⟩ = some (.int .u16 a) ∧ w1.cell? ⟨w.heap.size, 3, none⟩ = some (.int .u16 b) ∧ w1.cell? ⟨w.heap.size, 4, none⟩ = some (.int .u16 c) ∧ w1.cell? ⟨w.heap.size, 5, none⟩ = some (.int .u16 d) ∧ w.heap.size < w1.heap.size) ∧ Below w.heap.size w w1 := (by ((repeat' apply And.intro) <;> first | (simp [go_sem, *]; done) | omega | (repeat' (first | with_reducible exact Below.refl _ _ | with_reducible assumption | ((with_reducible refine Below.drew ?_)) | ((with_reducible refine below_drewN ?_ _)) | ((with_reducible refine Below.alloc ?_ ?_ _); rotate_left; focus (first | omega | (simp; done) | (simp; omega))) | ((with_reducible refine Below.setCell ?_ ?_ _); rotate_left; focus (first | omega | (simp; done) | (simp; omega))) | ((with_reducible refine Below.trans ?_ (Below.mono (by with_reducible assumption) ?_)); rotate_left; focus (first | omega | (simp; done) | (simp; omega))))))); go_split_ands; clear hcc hff hbel))
  (go_ret2; refine ⟨?_, ?_⟩; (focus (exact rfl)); ((repeat' (first | with_reducible exact Below.refl _ _ | with_reducible assumption | ((with_reducible refine Below.drew ?_)) | ((with_reducible refine below_drewN ?_ _)) | ((with_reducible refine Below.alloc ?_ ?_ _); rotate_left; focus (first | omega | (simp; done) | (simp; omega))) | ((with_reducible refine Below.setCell ?_ ?_ _); rotate_left; focus (first | omega | (simp; done) | (simp; omega))) | ((with_reducible refine Below.trans ?_ (Below.mono (by with_reducible assumption) ?_)); rotate_left; focus (first | omega | (simp; done) | (simp; omega))))); done))
theorem tic_no (i n a b c d t : Int) (h : t < 1 ∨ 65536 < t ∨ n < 1 ∨ 16384 < n) (w : World) : Calls Try.prog 20 #[.agg #[.int .u64 i, .int .i64 n, .int .u16 a, .int .u16 b, .int .u16 c, .int .u16 d], .int .i64 t] w fun ee w' => ee = .returned (.tuple #[.int .u64 (0), .int .i64 (1)]) ∧ Below w.heap.size w w' := by
  have k1 := may_c i n a b c d 16384
  by_cases h1 : t < 1
  · clear h
    go_enter Try.func20, Try.ntmps20
    go_wp2
    (go_ret2; refine ⟨?_, ?_⟩; (focus (exact rfl)); ((repeat' (first | with_reducible exact Below.refl _ _ | with_reducible assumption | ((with_reducible refine Below.drew ?_)) | ((with_reducible refine below_drewN ?_ _)) | ((with_reducible refine Below.alloc ?_ ?_ _); rotate_left; focus (first | omega | (simp; done) | (simp; omega))) | ((with_reducible refine Below.setCell ?_ ?_ _); rotate_left; focus (first | omega | (simp; done) | (simp; omega))) | ((with_reducible refine Below.trans ?_ (Below.mono (by with_reducible assumption) ?_)); rotate_left; focus (first | omega | (simp; done) | (simp; omega))))); done))
  · by_cases h2 : 65536 < t
    · clear h
      go_enter Try.func20, Try.ntmps20
      go_wp2
      (go_ret2; refine ⟨?_, ?_⟩; (focus (exact rfl)); ((repeat' (first | with_reducible exact Below.refl _ _ | with_reducible assumption | ((with_reducible refine Below.drew ?_)) | ((with_reducible refine below_drewN ?_ _)) | ((with_reducible refine Below.alloc ?_ ?_ _); rotate_left; focus (first | omega | (simp; done) | (simp; omega))) | ((with_reducible refine Below.setCell ?_ ?_ _); rotate_left; focus (first | omega | (simp; done) | (simp; omega))) | ((with_reducible refine Below.trans ?_ (Below.mono (by with_reducible assumption) ?_)); rotate_left; focus (first | omega | (simp; done) | (simp; omega))))); done))
    · rw [show mayv n 16384 = 26 by unfold mayv; rw [if_neg (by omega), if_pos (by omega)]] at k1
      have K1 := Lib.hid k1
      clear k1 h
      go_enter Try.func20, Try.ntmps20
      go_wp2_with (go_at_call 21; ((with_reducible refine (K1.out _).mono ?_); rintro e w1 ⟨rfl, hbel⟩; obtain ⟨hcc, hff⟩ := bcell hbel; have hsz := hbel.size; (try simp at hsz); have hF : (w1.cell? ⟨w.heap.size, 0, none⟩ = some (.int .u64 i) ∧ w1.cell? ⟨w.heap.size, 1, none⟩ = some (.int .i64 n) ∧ w1.cell? ⟨w.heap.size, 2, none⟩ = some (.int .u16 a) ∧ w1.cell? ⟨w.heap.size, 3, none⟩ = some (.int .u16 b) ∧ w1.cell? ⟨w.heap.size, 4, none⟩ = some (.int .u16 c) ∧ w1.cell? ⟨w.heap.size, 5, none⟩ = some (.int .u16 d) ∧ w.heap.size < w1.heap.size) ∧ Below w.heap.size w w1 := (by ((repeat' apply And.intro) <;> first | (simp [go_sem, *]; done) | omega | (repeat' (first | with_reducible exact Below.refl _ _ | with_reducible assumption | ((with_reducible refine Below.drew ?_)) | ((with_reducible refine below_drewN ?_ _)) | ((with_reducible refine Below.alloc ?_ ?_ _); rotate_left; focus (first | omega | (simp; done) | (simp; omega))) | ((with_reducible refine Below.setCell ?_ ?_ _); rotate_left; focus (first | omega | (simp; done) | (simp; omega))) | ((with_reducible refine Below.trans ?_ (Below.mono (by with_reducible assumption) ?_)); rotate_left; focus (first | omega | (simp; done) | (simp; omega))))))); go_split_ands; clear hcc hff hbel))
      (go_ret2; refine ⟨?_, ?_⟩; (focus (exact rfl)); ((repeat' (first | with_reducible exact Below.refl _ _ | with_reducible assumption | ((with_reducible refine Below.drew ?_)) | ((with_reducible refine below_drewN ?_ _)) | ((with_reducible refine Below.alloc ?_ ?_ _); rotate_left; focus (first | omega | (simp; done) | (simp; omega))) | ((with_reducible refine Below.setCell ?_ ?_ _); rotate_left; focus (first | omega | (simp; done) | (simp; omega))) | ((with_reducible refine Below.trans ?_ (Below.mono (by with_reducible assumption) ?_)); rotate_left; focus (first | omega | (simp; done) | (simp; omega))))); done))
end Go.Proofs.Ytohdcpkacdaanaa
