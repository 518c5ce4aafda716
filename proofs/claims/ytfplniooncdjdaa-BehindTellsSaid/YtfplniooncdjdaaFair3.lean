import Derived.Test.YtfplniooncdjdaaFair2
namespace Go.Proofs.Ytfplniooncdjdaa
set_option linter.unusedVariables false
set_option linter.unusedSimpArgs false
set_option maxRecDepth 100000
open Go.RowKit Fg Reg

set_option maxHeartbeats 4000000 in
theorem fmo_ok (m v n u q lmax g M : Int) (hl : 1 ≤ lmax ∧ lmax ≤ 16384) (q1 : IntKind.u64.wrap (m * n) = m * n) (q2 : IntKind.u64.wrap (2 * g) = 2 * g) (q3 : IntKind.u64.wrap (2 * g + 2) = 2 * g + 2)
    (k1 : ∀ w, Calls Try.prog 44 #[.int .u64 m] w fun ee w' => ee = .returned (.bool true) ∧ Below w.heap.size w w') (k2 : ∀ w, Calls Try.prog 44 #[.int .u64 n] w fun ee w' => ee = .returned (.bool true) ∧ Below w.heap.size w w') (k3 : ∀ w, Calls Try.prog 44 #[.int .u64 q] w fun ee w' => ee = .returned (.bool true) ∧ Below w.heap.size w w')
    (k4 : ∀ w, Calls Try.prog 48 #[.int .u64 lmax, .int .u64 65536, .int .u64 q] w fun ee w' => ee = .returned (.tuple #[.int .u64 g, .int .i64 0]) ∧ Below w.heap.size w w')
    (k5 : ∀ w, Calls Try.prog 45 #[.int .u64 (m * n), .int .u64 (2 * g + 2)] w fun ee w' => ee = .returned (.agg #[.int .u64 (hi M), .int .u64 (lo M)]) ∧ Below w.heap.size w w')
    (w : World) : Calls Try.prog 15 #[.agg #[.int .u64 m, .int .u64 v], .agg #[.int .u64 n, .int .u64 u], .int .i64 lmax, .int .u64 q] w fun ee w' => ee = .returned (.tuple #[.agg #[.int .u64 (hi M), .int .u64 (lo M)], .int .i64 0]) ∧ Below w.heap.size w w' := by
  have q0 : IntKind.u64.wrap lmax = lmax := by rw [wrap_u64]; omega
  have hl1 := hl.1
  have hl2 := hl.2
  have j0 : ∀ w, (Instr.index 96 (.agg #[.int .u64 m, .int .u64 n, .int .u64 q]) (.int .i64 0)).run Try.prog w = .ok (.int .u64 m) w := fun w => by kernel_rfl
  have j1 : ∀ w, (Instr.index 96 (.agg #[.int .u64 m, .int .u64 n, .int .u64 q]) (.int .i64 1)).run Try.prog w = .ok (.int .u64 n) w := fun w => by kernel_rfl
  have j2 : ∀ w, (Instr.index 96 (.agg #[.int .u64 m, .int .u64 n, .int .u64 q]) (.int .i64 2)).run Try.prog w = .ok (.int .u64 q) w := fun w => by kernel_rfl
  have K1 := Lib.hid k1
  have K2 := Lib.hid k2
  have K3 := Lib.hid k3
  have K4 := Lib.hid k4
  have K5 := Lib.hid k5
  clear k1 k2 k3 k4 k5 hl
  generalize hi M = e0 at *
  generalize lo M = e1 at *
  go_enter Try.func15, Try.ntmps15
  go_wp2_with fail
  refine wp_loop_rounds 4 ?_
  rw [rounds_succ]
  go_wp2_with (go_at_call_of 44 (Value.int IntKind.u64 m); ((with_reducible refine (K1.out _).mono ?_); rintro e w1 ⟨rfl, hbel⟩; obtain ⟨hcc, hff⟩ := bcell hbel; have hsz := hbel.size; (try simp at hsz); have hF : (w1.cell? ⟨w.heap.size, 0, none⟩ = some (.int .u64 m) ∧ w1.cell? ⟨w.heap.size, 1, none⟩ = some (.int .u64 v) ∧ w.heap.size < w1.heap.size) ∧ (w1.cell? ⟨w.heap.size + 1, 0, none⟩ = some (.int .u64 n) ∧ w1.cell? ⟨w.heap.size + 1, 1, none⟩ = some (.int .u64 u) ∧ w.heap.size + 1 < w1.heap.size) ∧ (w1.cell? ⟨w.heap.size + 2, 0, none⟩ = some (.int .u64 0) ∧ w1.cell? ⟨w.heap.size + 2, 1, none⟩ = some (.int .u64 0) ∧ w1.frozen? ⟨w.heap.size + 2, 0, none⟩ = false ∧ w1.frozen? ⟨w.heap.size + 2, 1, none⟩ = false ∧ w.heap.size + 2 < w1.heap.size) ∧ Below w.heap.size w w1 := (by ((repeat' apply And.intro) <;> first | (simp [go_sem, *]; done) | omega | (repeat' (first | with_reducible exact Below.refl _ _ | with_reducible assumption | ((with_reducible refine Below.drew ?_)) | ((with_reducible refine below_drewN ?_ _)) | ((with_reducible refine Below.alloc ?_ ?_ _); rotate_left; focus (first | omega | (simp; done) | (simp; omega))) | ((with_reducible refine Below.setCell ?_ ?_ _); rotate_left; focus (first | omega | (simp; done) | (simp; omega))) | ((with_reducible refine Below.trans ?_ (Below.mono (by with_reducible assumption) ?_)); rotate_left; focus (first | omega | (simp; done) | (simp; omega))))))); go_split_ands; clear hcc hff hbel))
  rw [rounds_succ]
  go_wp2_with (go_at_call_of 44 (Value.int IntKind.u64 n); ((with_reducible refine (K2.out _).mono ?_); rintro e w2 ⟨rfl, hbel⟩; obtain ⟨hcc, hff⟩ := bcell hbel; have hsz := hbel.size; (try simp at hsz); have hF : (w2.cell? ⟨w.heap.size, 0, none⟩ = some (.int .u64 m) ∧ w2.cell? ⟨w.heap.size, 1, none⟩ = some (.int .u64 v) ∧ w.heap.size < w2.heap.size) ∧ (w2.cell? ⟨w.heap.size + 1, 0, none⟩ = some (.int .u64 n) ∧ w2.cell? ⟨w.heap.size + 1, 1, none⟩ = some (.int .u64 u) ∧ w.heap.size + 1 < w2.heap.size) ∧ (w2.cell? ⟨w.heap.size + 2, 0, none⟩ = some (.int .u64 0) ∧ w2.cell? ⟨w.heap.size + 2, 1, none⟩ = some (.int .u64 0) ∧ w2.frozen? ⟨w.heap.size + 2, 0, none⟩ = false ∧ w2.frozen? ⟨w.heap.size + 2, 1, none⟩ = false ∧ w.heap.size + 2 < w2.heap.size) ∧ Below w.heap.size w w2 := (by ((repeat' apply And.intro) <;> first | (simp [go_sem, *]; done) | omega | (repeat' (first | with_reducible exact Below.refl _ _ | with_reducible assumption | ((with_reducible refine Below.drew ?_)) | ((with_reducible refine below_drewN ?_ _)) | ((with_reducible refine Below.alloc ?_ ?_ _); rotate_left; focus (first | omega | (simp; done) | (simp; omega))) | ((with_reducible refine Below.setCell ?_ ?_ _); rotate_left; focus (first | omega | (simp; done) | (simp; omega))) | ((with_reducible refine Below.trans ?_ (Below.mono (by with_reducible assumption) ?_)); rotate_left; focus (first | omega | (simp; done) | (simp; omega))))))); go_split_ands; clear hcc hff hbel))
  rw [rounds_succ]
  go_wp2_with (go_at_call_of 44 (Value.int IntKind.u64 q); ((with_reducible refine (K3.out _).mono ?_); rintro e w3 ⟨rfl, hbel⟩; obtain ⟨hcc, hff⟩ := bcell hbel; have hsz := hbel.size; (try simp at hsz); have hF : (w3.cell? ⟨w.heap.size, 0, none⟩ = some (.int .u64 m) ∧ w3.cell? ⟨w.heap.size, 1, none⟩ = some (.int .u64 v) ∧ w.heap.size < w3.heap.size) ∧ (w3.cell? ⟨w.heap.size + 1, 0, none⟩ = some (.int .u64 n) ∧ w3.cell? ⟨w.heap.size + 1, 1, none⟩ = some (.int .u64 u) ∧ w.heap.size + 1 < w3.heap.size) ∧ (w3.cell? ⟨w.heap.size + 2, 0, none⟩ = some (.int .u64 0) ∧ w3.cell? ⟨w.heap.size + 2, 1, none⟩ = some (.int .u64 0) ∧ w3.frozen? ⟨w.heap.size + 2, 0, none⟩ = false ∧ w3.frozen? ⟨w.heap.size + 2, 1, none⟩ = false ∧ w.heap.size + 2 < w3.heap.size) ∧ Below w.heap.size w w3 := (by ((repeat' apply And.intro) <;> first | (simp [go_sem, *]; done) | omega | (repeat' (first | with_reducible exact Below.refl _ _ | with_reducible assumption | ((with_reducible refine Below.drew ?_)) | ((with_reducible refine below_drewN ?_ _)) | ((with_reducible refine Below.alloc ?_ ?_ _); rotate_left; focus (first | omega | (simp; done) | (simp; omega))) | ((with_reducible refine Below.setCell ?_ ?_ _); rotate_left; focus (first | omega | (simp; done) | (simp; omega))) | ((with_reducible refine Below.trans ?_ (Below.mono (by with_reducible assumption) ?_)); rotate_left; focus (first | omega | (simp; done) | (simp; omega))))))); go_split_ands; clear hcc hff hbel))
  rw [rounds_succ]
  go_wp2_with (first | (go_at_call 48; ((with_reducible refine (K4.out _).mono ?_); rintro e w4 ⟨rfl, hbel⟩; obtain ⟨hcc, hff⟩ := bcell hbel; have hsz := hbel.size; (try simp at hsz); have hF : (w4.cell? ⟨w.heap.size, 0, none⟩ = some (.int .u64 m) ∧ w4.cell? ⟨w.heap.size, 1, none⟩ = some (.int .u64 v) ∧ w.heap.size < w4.heap.size) ∧ (w4.cell? ⟨w.heap.size + 1, 0, none⟩ = some (.int .u64 n) ∧ w4.cell? ⟨w.heap.size + 1, 1, none⟩ = some (.int .u64 u) ∧ w.heap.size + 1 < w4.heap.size) ∧ (w4.cell? ⟨w.heap.size + 2, 0, none⟩ = some (.int .u64 0) ∧ w4.cell? ⟨w.heap.size + 2, 1, none⟩ = some (.int .u64 0) ∧ w4.frozen? ⟨w.heap.size + 2, 0, none⟩ = false ∧ w4.frozen? ⟨w.heap.size + 2, 1, none⟩ = false ∧ w.heap.size + 2 < w4.heap.size) ∧ Below w.heap.size w w4 := (by ((repeat' apply And.intro) <;> first | (simp [go_sem, *]; done) | omega | (repeat' (first | with_reducible exact Below.refl _ _ | with_reducible assumption | ((with_reducible refine Below.drew ?_)) | ((with_reducible refine below_drewN ?_ _)) | ((with_reducible refine Below.alloc ?_ ?_ _); rotate_left; focus (first | omega | (simp; done) | (simp; omega))) | ((with_reducible refine Below.setCell ?_ ?_ _); rotate_left; focus (first | omega | (simp; done) | (simp; omega))) | ((with_reducible refine Below.trans ?_ (Below.mono (by with_reducible assumption) ?_)); rotate_left; focus (first | omega | (simp; done) | (simp; omega))))))); go_split_ands; clear hcc hff hbel)) | (go_at_call 45; ((with_reducible refine (K5.out _).mono ?_); rintro e w5 ⟨rfl, hbel⟩; obtain ⟨hcc, hff⟩ := bcell hbel; have hsz := hbel.size; (try simp at hsz); have hF : (w5.cell? ⟨w.heap.size, 0, none⟩ = some (.int .u64 m) ∧ w5.cell? ⟨w.heap.size, 1, none⟩ = some (.int .u64 v) ∧ w.heap.size < w5.heap.size) ∧ (w5.cell? ⟨w.heap.size + 1, 0, none⟩ = some (.int .u64 n) ∧ w5.cell? ⟨w.heap.size + 1, 1, none⟩ = some (.int .u64 u) ∧ w.heap.size + 1 < w5.heap.size) ∧ (w5.cell? ⟨w.heap.size + 2, 0, none⟩ = some (.int .u64 0) ∧ w5.cell? ⟨w.heap.size + 2, 1, none⟩ = some (.int .u64 0) ∧ w5.frozen? ⟨w.heap.size + 2, 0, none⟩ = false ∧ w5.frozen? ⟨w.heap.size + 2, 1, none⟩ = false ∧ w.heap.size + 2 < w5.heap.size) ∧ Below w.heap.size w w5 := (by ((repeat' apply And.intro) <;> first | (simp [go_sem, *]; done) | omega | (repeat' (first | with_reducible exact Below.refl _ _ | with_reducible assumption | ((with_reducible refine Below.drew ?_)) | ((with_reducible refine below_drewN ?_ _)) | ((with_reducible refine Below.alloc ?_ ?_ _); rotate_left; focus (first | omega | (simp; done) | (simp; omega))) | ((with_reducible refine Below.setCell ?_ ?_ _); rotate_left; focus (first | omega | (simp; done) | (simp; omega))) | ((with_reducible refine Below.trans ?_ (Below.mono (by with_reducible assumption) ?_)); rotate_left; focus (first | omega | (simp; done) | (simp; omega))))))); go_split_ands; clear hcc hff hbel)))
  refine bodyPost_ret (v := .tuple #[.agg #[.int .u64 e0, .int .u64 e1], .int .i64 0]) (by simp [results, Try.results15, go_sem, *]) rfl ⟨rfl, (by repeat' (first | with_reducible exact Below.refl _ _ | with_reducible assumption | ((with_reducible refine Below.drew ?_)) | ((with_reducible refine below_drewN ?_ _)) | ((with_reducible refine Below.alloc ?_ ?_ _); rotate_left; focus (first | omega | (simp; done) | (simp; omega))) | ((with_reducible refine Below.setCell ?_ ?_ _); rotate_left; focus (first | omega | (simp; done) | (simp; omega))) | ((with_reducible refine Below.trans ?_ (Below.mono (by with_reducible assumption) ?_)); rotate_left; focus (first | omega | (simp; done) | (simp; omega)))))⟩
set_option maxHeartbeats 4000000 in
theorem fmo_bad1 (m v n u q lmax : Int) (h1 : smay m = false) (w : World) : Calls Try.prog 15 #[.agg #[.int .u64 m, .int .u64 v], .agg #[.int .u64 n, .int .u64 u], .int .i64 lmax, .int .u64 q] w fun ee w' => ee = .returned (.tuple #[.agg #[.int .u64 0, .int .u64 0], .int .i64 1]) ∧ Below w.heap.size w w' := by
  have k1 := smay_c m
  rw [h1] at k1
  have j0 : ∀ w, (Instr.index 96 (.agg #[.int .u64 m, .int .u64 n, .int .u64 q]) (.int .i64 0)).run Try.prog w = .ok (.int .u64 m) w := fun w => by kernel_rfl
  have K1 := Lib.hid k1
  clear k1 h1
  go_enter Try.func15, Try.ntmps15
  go_wp2_with fail
  refine wp_loop_rounds 1 ?_
  rw [rounds_succ]
  go_wp2_with (go_at_call_of 44 (Value.int IntKind.u64 m); ((with_reducible refine (K1.out _).mono ?_); rintro e w1 ⟨rfl, hbel⟩; obtain ⟨hcc, hff⟩ := bcell hbel; have hsz := hbel.size; (try simp at hsz); have hF : (w1.cell? ⟨w.heap.size, 0, none⟩ = some (.int .u64 m) ∧ w1.cell? ⟨w.heap.size, 1, none⟩ = some (.int .u64 v) ∧ w.heap.size < w1.heap.size) ∧ (w1.cell? ⟨w.heap.size + 1, 0, none⟩ = some (.int .u64 n) ∧ w1.cell? ⟨w.heap.size + 1, 1, none⟩ = some (.int .u64 u) ∧ w.heap.size + 1 < w1.heap.size) ∧ (w1.cell? ⟨w.heap.size + 2, 0, none⟩ = some (.int .u64 0) ∧ w1.cell? ⟨w.heap.size + 2, 1, none⟩ = some (.int .u64 0) ∧ w1.frozen? ⟨w.heap.size + 2, 0, none⟩ = false ∧ w1.frozen? ⟨w.heap.size + 2, 1, none⟩ = false ∧ w.heap.size + 2 < w1.heap.size) ∧ Below w.heap.size w w1 := (by ((repeat' apply And.intro) <;> first | (simp [go_sem, *]; done) | omega | (repeat' (first | with_reducible exact Below.refl _ _ | with_reducible assumption | ((with_reducible refine Below.drew ?_)) | ((with_reducible refine below_drewN ?_ _)) | ((with_reducible refine Below.alloc ?_ ?_ _); rotate_left; focus (first | omega | (simp; done) | (simp; omega))) | ((with_reducible refine Below.setCell ?_ ?_ _); rotate_left; focus (first | omega | (simp; done) | (simp; omega))) | ((with_reducible refine Below.trans ?_ (Below.mono (by with_reducible assumption) ?_)); rotate_left; focus (first | omega | (simp; done) | (simp; omega))))))); go_split_ands; clear hcc hff hbel))
  refine bodyPost_ret (v := .tuple #[.agg #[.int .u64 0, .int .u64 0], .int .i64 1]) (by simp [results, Try.results15, go_sem, *]) rfl ⟨rfl, (by repeat' (first | with_reducible exact Below.refl _ _ | with_reducible assumption | ((with_reducible refine Below.drew ?_)) | ((with_reducible refine below_drewN ?_ _)) | ((with_reducible refine Below.alloc ?_ ?_ _); rotate_left; focus (first | omega | (simp; done) | (simp; omega))) | ((with_reducible refine Below.setCell ?_ ?_ _); rotate_left; focus (first | omega | (simp; done) | (simp; omega))) | ((with_reducible refine Below.trans ?_ (Below.mono (by with_reducible assumption) ?_)); rotate_left; focus (first | omega | (simp; done) | (simp; omega)))))⟩
set_option maxHeartbeats 4000000 in
theorem fmo_bad2 (m v n u q lmax : Int) (h1 : smay m = true) (h2 : smay n = false) (w : World) : Calls Try.prog 15 #[.agg #[.int .u64 m, .int .u64 v], .agg #[.int .u64 n, .int .u64 u], .int .i64 lmax, .int .u64 q] w fun ee w' => ee = .returned (.tuple #[.agg #[.int .u64 0, .int .u64 0], .int .i64 1]) ∧ Below w.heap.size w w' := by
  have k1 := smay_c m
  rw [h1] at k1
  have k2 := smay_c n
  rw [h2] at k2
  have j0 : ∀ w, (Instr.index 96 (.agg #[.int .u64 m, .int .u64 n, .int .u64 q]) (.int .i64 0)).run Try.prog w = .ok (.int .u64 m) w := fun w => by kernel_rfl
  have j1 : ∀ w, (Instr.index 96 (.agg #[.int .u64 m, .int .u64 n, .int .u64 q]) (.int .i64 1)).run Try.prog w = .ok (.int .u64 n) w := fun w => by kernel_rfl
  have K1 := Lib.hid k1
  have K2 := Lib.hid k2
  clear k1 h1 k2 h2
  go_enter Try.func15, Try.ntmps15
  go_wp2_with fail
  refine wp_loop_rounds 2 ?_
  rw [rounds_succ]
  go_wp2_with (go_at_call_of 44 (Value.int IntKind.u64 m); ((with_reducible refine (K1.out _).mono ?_); rintro e w1 ⟨rfl, hbel⟩; obtain ⟨hcc, hff⟩ := bcell hbel; have hsz := hbel.size; (try simp at hsz); have hF : (w1.cell? ⟨w.heap.size, 0, none⟩ = some (.int .u64 m) ∧ w1.cell? ⟨w.heap.size, 1, none⟩ = some (.int .u64 v) ∧ w.heap.size < w1.heap.size) ∧ (w1.cell? ⟨w.heap.size + 1, 0, none⟩ = some (.int .u64 n) ∧ w1.cell? ⟨w.heap.size + 1, 1, none⟩ = some (.int .u64 u) ∧ w.heap.size + 1 < w1.heap.size) ∧ (w1.cell? ⟨w.heap.size + 2, 0, none⟩ = some (.int .u64 0) ∧ w1.cell? ⟨w.heap.size + 2, 1, none⟩ = some (.int .u64 0) ∧ w1.frozen? ⟨w.heap.size + 2, 0, none⟩ = false ∧ w1.frozen? ⟨w.heap.size + 2, 1, none⟩ = false ∧ w.heap.size + 2 < w1.heap.size) ∧ Below w.heap.size w w1 := (by ((repeat' apply And.intro) <;> first | (simp [go_sem, *]; done) | omega | (repeat' (first | with_reducible exact Below.refl _ _ | with_reducible assumption | ((with_reducible refine Below.drew ?_)) | ((with_reducible refine below_drewN ?_ _)) | ((with_reducible refine Below.alloc ?_ ?_ _); rotate_left; focus (first | omega | (simp; done) | (simp; omega))) | ((with_reducible refine Below.setCell ?_ ?_ _); rotate_left; focus (first | omega | (simp; done) | (simp; omega))) | ((with_reducible refine Below.trans ?_ (Below.mono (by with_reducible assumption) ?_)); rotate_left; focus (first | omega | (simp; done) | (simp; omega))))))); go_split_ands; clear hcc hff hbel))
  rw [rounds_succ]
  go_wp2_with (go_at_call_of 44 (Value.int IntKind.u64 n); ((with_reducible refine (K2.out _).mono ?_); rintro e w2 ⟨rfl, hbel⟩; obtain ⟨hcc, hff⟩ := bcell hbel; have hsz := hbel.size; (try simp at hsz); have hF : (w2.cell? ⟨w.heap.size, 0, none⟩ = some (.int .u64 m) ∧ w2.cell? ⟨w.heap.size, 1, none⟩ = some (.int .u64 v) ∧ w.heap.size < w2.heap.size) ∧ (w2.cell? ⟨w.heap.size + 1, 0, none⟩ = some (.int .u64 n) ∧ w2.cell? ⟨w.heap.size + 1, 1, none⟩ = some (.int .u64 u) ∧ w.heap.size + 1 < w2.heap.size) ∧ (w2.cell? ⟨w.heap.size + 2, 0, none⟩ = some (.int .u64 0) ∧ w2.cell? ⟨w.heap.size + 2, 1, none⟩ = some (.int .u64 0) ∧ w2.frozen? ⟨w.heap.size + 2, 0, none⟩ = false ∧ w2.frozen? ⟨w.heap.size + 2, 1, none⟩ = false ∧ w.heap.size + 2 < w2.heap.size) ∧ Below w.heap.size w w2 := (by ((repeat' apply And.intro) <;> first | (simp [go_sem, *]; done) | omega | (repeat' (first | with_reducible exact Below.refl _ _ | with_reducible assumption | ((with_reducible refine Below.drew ?_)) | ((with_reducible refine below_drewN ?_ _)) | ((with_reducible refine Below.alloc ?_ ?_ _); rotate_left; focus (first | omega | (simp; done) | (simp; omega))) | ((with_reducible refine Below.setCell ?_ ?_ _); rotate_left; focus (first | omega | (simp; done) | (simp; omega))) | ((with_reducible refine Below.trans ?_ (Below.mono (by with_reducible assumption) ?_)); rotate_left; focus (first | omega | (simp; done) | (simp; omega))))))); go_split_ands; clear hcc hff hbel))
  refine bodyPost_ret (v := .tuple #[.agg #[.int .u64 0, .int .u64 0], .int .i64 1]) (by simp [results, Try.results15, go_sem, *]) rfl ⟨rfl, (by repeat' (first | with_reducible exact Below.refl _ _ | with_reducible assumption | ((with_reducible refine Below.drew ?_)) | ((with_reducible refine below_drewN ?_ _)) | ((with_reducible refine Below.alloc ?_ ?_ _); rotate_left; focus (first | omega | (simp; done) | (simp; omega))) | ((with_reducible refine Below.setCell ?_ ?_ _); rotate_left; focus (first | omega | (simp; done) | (simp; omega))) | ((with_reducible refine Below.trans ?_ (Below.mono (by with_reducible assumption) ?_)); rotate_left; focus (first | omega | (simp; done) | (simp; omega)))))⟩
set_option maxHeartbeats 4000000 in
theorem fmo_bad3 (m v n u q lmax : Int) (h1 : smay m = true) (h2 : smay n = true) (h3 : smay q = false) (w : World) : Calls Try.prog 15 #[.agg #[.int .u64 m, .int .u64 v], .agg #[.int .u64 n, .int .u64 u], .int .i64 lmax, .int .u64 q] w fun ee w' => ee = .returned (.tuple #[.agg #[.int .u64 0, .int .u64 0], .int .i64 1]) ∧ Below w.heap.size w w' := by
  have k1 := smay_c m
  rw [h1] at k1
  have k2 := smay_c n
  rw [h2] at k2
  have k3 := smay_c q
  rw [h3] at k3
  have j0 : ∀ w, (Instr.index 96 (.agg #[.int .u64 m, .int .u64 n, .int .u64 q]) (.int .i64 0)).run Try.prog w = .ok (.int .u64 m) w := fun w => by kernel_rfl
  have j1 : ∀ w, (Instr.index 96 (.agg #[.int .u64 m, .int .u64 n, .int .u64 q]) (.int .i64 1)).run Try.prog w = .ok (.int .u64 n) w := fun w => by kernel_rfl
  have j2 : ∀ w, (Instr.index 96 (.agg #[.int .u64 m, .int .u64 n, .int .u64 q]) (.int .i64 2)).run Try.prog w = .ok (.int .u64 q) w := fun w => by kernel_rfl
  have K1 := Lib.hid k1
  have K2 := Lib.hid k2
  have K3 := Lib.hid k3
  clear k1 h1 k2 h2 k3 h3
  go_enter Try.func15, Try.ntmps15
  go_wp2_with fail
  refine wp_loop_rounds 3 ?_
  rw [rounds_succ]
  go_wp2_with (go_at_call_of 44 (Value.int IntKind.u64 m); ((with_reducible refine (K1.out _).mono ?_); rintro e w1 ⟨rfl, hbel⟩; obtain ⟨hcc, hff⟩ := bcell hbel; have hsz := hbel.size; (try simp at hsz); have hF : (w1.cell? ⟨w.heap.size, 0, none⟩ = some (.int .u64 m) ∧ w1.cell? ⟨w.heap.size, 1, none⟩ = some (.int .u64 v) ∧ w.heap.size < w1.heap.size) ∧ (w1.cell? ⟨w.heap.size + 1, 0, none⟩ = some (.int .u64 n) ∧ w1.cell? ⟨w.heap.size + 1, 1, none⟩ = some (.int .u64 u) ∧ w.heap.size + 1 < w1.heap.size) ∧ (w1.cell? ⟨w.heap.size + 2, 0, none⟩ = some (.int .u64 0) ∧ w1.cell? ⟨w.heap.size + 2, 1, none⟩ = some (.int .u64 0) ∧ w1.frozen? ⟨w.heap.size + 2, 0, none⟩ = false ∧ w1.frozen? ⟨w.heap.size + 2, 1, none⟩ = false ∧ w.heap.size + 2 < w1.heap.size) ∧ Below w.heap.size w w1 := (by ((repeat' apply And.intro) <;> first | (simp [go_sem, *]; done) | omega | (repeat' (first | with_reducible exact Below.refl _ _ | with_reducible assumption | ((with_reducible refine Below.drew ?_)) | ((with_reducible refine below_drewN ?_ _)) | ((with_reducible refine Below.alloc ?_ ?_ _); rotate_left; focus (first | omega | (simp; done) | (simp; omega))) | ((with_reducible refine Below.setCell ?_ ?_ _); rotate_left; focus (first | omega | (simp; done) | (simp; omega))) | ((with_reducible refine Below.trans ?_ (Below.mono (by with_reducible assumption) ?_)); rotate_left; focus (first | omega | (simp; done) | (simp; omega))))))); go_split_ands; clear hcc hff hbel))
  rw [rounds_succ]
  go_wp2_with (go_at_call_of 44 (Value.int IntKind.u64 n); ((with_reducible refine (K2.out _).mono ?_); rintro e w2 ⟨rfl, hbel⟩; obtain ⟨hcc, hff⟩ := bcell hbel; have hsz := hbel.size; (try simp at hsz); have hF : (w2.cell? ⟨w.heap.size, 0, none⟩ = some (.int .u64 m) ∧ w2.cell? ⟨w.heap.size, 1, none⟩ = some (.int .u64 v) ∧ w.heap.size < w2.heap.size) ∧ (w2.cell? ⟨w.heap.size + 1, 0, none⟩ = some (.int .u64 n) ∧ w2.cell? ⟨w.heap.size + 1, 1, none⟩ = some (.int .u64 u) ∧ w.heap.size + 1 < w2.heap.size) ∧ (w2.cell? ⟨w.heap.size + 2, 0, none⟩ = some (.int .u64 0) ∧ w2.cell? ⟨w.heap.size + 2, 1, none⟩ = some (.int .u64 0) ∧ w2.frozen? ⟨w.heap.size + 2, 0, none⟩ = false ∧ w2.frozen? ⟨w.heap.size + 2, 1, none⟩ = false ∧ w.heap.size + 2 < w2.heap.size) ∧ Below w.heap.size w w2 := (by ((repeat' apply And.intro) <;> first | (simp [go_sem, *]; done) | omega | (repeat' (first | with_reducible exact Below.refl _ _ | with_reducible assumption | ((with_reducible refine Below.drew ?_)) | ((with_reducible refine below_drewN ?_ _)) | ((with_reducible refine Below.alloc ?_ ?_ _); rotate_left; focus (first | omega | (simp; done) | (simp; omega))) | ((with_reducible refine Below.setCell ?_ ?_ _); rotate_left; focus (first | omega | (simp; done) | (simp; omega))) | ((with_reducible refine Below.trans ?_ (Below.mono (by with_reducible assumption) ?_)); rotate_left; focus (first | omega | (simp; done) | (simp; omega))))))); go_split_ands; clear hcc hff hbel))
  rw [rounds_succ]
  go_wp2_with (go_at_call_of 44 (Value.int IntKind.u64 q); ((with_reducible refine (K3.out _).mono ?_); rintro e w3 ⟨rfl, hbel⟩; obtain ⟨hcc, hff⟩ := bcell hbel; have hsz := hbel.size; (try simp at hsz); have hF : (w3.cell? ⟨w.heap.size, 0, none⟩ = some (.int .u64 m) ∧ w3.cell? ⟨w.heap.size, 1, none⟩ = some (.int .u64 v) ∧ w.heap.size < w3.heap.size) ∧ (w3.cell? ⟨w.heap.size + 1, 0, none⟩ = some (.int .u64 n) ∧ w3.cell? ⟨w.heap.size + 1, 1, none⟩ = some (.int .u64 u) ∧ w.heap.size + 1 < w3.heap.size) ∧ (w3.cell? ⟨w.heap.size + 2, 0, none⟩ = some (.int .u64 0) ∧ w3.cell? ⟨w.heap.size + 2, 1, none⟩ = some (.int .u64 0) ∧ w3.frozen? ⟨w.heap.size + 2, 0, none⟩ = false ∧ w3.frozen? ⟨w.heap.size + 2, 1, none⟩ = false ∧ w.heap.size + 2 < w3.heap.size) ∧ Below w.heap.size w w3 := (by ((repeat' apply And.intro) <;> first | (simp [go_sem, *]; done) | omega | (repeat' (first | with_reducible exact Below.refl _ _ | with_reducible assumption | ((with_reducible refine Below.drew ?_)) | ((with_reducible refine below_drewN ?_ _)) | ((with_reducible refine Below.alloc ?_ ?_ _); rotate_left; focus (first | omega | (simp; done) | (simp; omega))) | ((with_reducible refine Below.setCell ?_ ?_ _); rotate_left; focus (first | omega | (simp; done) | (simp; omega))) | ((with_reducible refine Below.trans ?_ (Below.mono (by with_reducible assumption) ?_)); rotate_left; focus (first | omega | (simp; done) | (simp; omega))))))); go_split_ands; clear hcc hff hbel))
  refine bodyPost_ret (v := .tuple #[.agg #[.int .u64 0, .int .u64 0], .int .i64 1]) (by simp [results, Try.results15, go_sem, *]) rfl ⟨rfl, (by repeat' (first | with_reducible exact Below.refl _ _ | with_reducible assumption | ((with_reducible refine Below.drew ?_)) | ((with_reducible refine below_drewN ?_ _)) | ((with_reducible refine Below.alloc ?_ ?_ _); rotate_left; focus (first | omega | (simp; done) | (simp; omega))) | ((with_reducible refine Below.setCell ?_ ?_ _); rotate_left; focus (first | omega | (simp; done) | (simp; omega))) | ((with_reducible refine Below.trans ?_ (Below.mono (by with_reducible assumption) ?_)); rotate_left; focus (first | omega | (simp; done) | (simp; omega)))))⟩
set_option maxHeartbeats 4000000 in
theorem fmo_bad4 (m v n u q lmax : Int) (h1 : smay m = true) (h2 : smay n = true) (h3 : smay q = true) (hl : lmax < 1 ∨ (1 ≤ lmax ∧ 16384 < lmax)) (w : World) : Calls Try.prog 15 #[.agg #[.int .u64 m, .int .u64 v], .agg #[.int .u64 n, .int .u64 u], .int .i64 lmax, .int .u64 q] w fun ee w' => ee = .returned (.tuple #[.agg #[.int .u64 0, .int .u64 0], .int .i64 1]) ∧ Below w.heap.size w w' := by
  have k1 := smay_c m
  rw [h1] at k1
  have k2 := smay_c n
  rw [h2] at k2
  have k3 := smay_c q
  rw [h3] at k3
  have j0 : ∀ w, (Instr.index 96 (.agg #[.int .u64 m, .int .u64 n, .int .u64 q]) (.int .i64 0)).run Try.prog w = .ok (.int .u64 m) w := fun w => by kernel_rfl
  have j1 : ∀ w, (Instr.index 96 (.agg #[.int .u64 m, .int .u64 n, .int .u64 q]) (.int .i64 1)).run Try.prog w = .ok (.int .u64 n) w := fun w => by kernel_rfl
  have j2 : ∀ w, (Instr.index 96 (.agg #[.int .u64 m, .int .u64 n, .int .u64 q]) (.int .i64 2)).run Try.prog w = .ok (.int .u64 q) w := fun w => by kernel_rfl
  have K1 := Lib.hid k1
  have K2 := Lib.hid k2
  have K3 := Lib.hid k3
  clear k1 h1 k2 h2 k3 h3
  rcases hl with hl | ⟨hl1, hl⟩
  all_goals
    go_enter Try.func15, Try.ntmps15
    go_wp2_with fail
    refine wp_loop_rounds 4 ?_
    rw [rounds_succ]
    go_wp2_with (go_at_call_of 44 (Value.int IntKind.u64 m); ((with_reducible refine (K1.out _).mono ?_); rintro e w1 ⟨rfl, hbel⟩; obtain ⟨hcc, hff⟩ := bcell hbel; have hsz := hbel.size; (try simp at hsz); have hF : (w1.cell? ⟨w.heap.size, 0, none⟩ = some (.int .u64 m) ∧ w1.cell? ⟨w.heap.size, 1, none⟩ = some (.int .u64 v) ∧ w.heap.size < w1.heap.size) ∧ (w1.cell? ⟨w.heap.size + 1, 0, none⟩ = some (.int .u64 n) ∧ w1.cell? ⟨w.heap.size + 1, 1, none⟩ = some (.int .u64 u) ∧ w.heap.size + 1 < w1.heap.size) ∧ (w1.cell? ⟨w.heap.size + 2, 0, none⟩ = some (.int .u64 0) ∧ w1.cell? ⟨w.heap.size + 2, 1, none⟩ = some (.int .u64 0) ∧ w1.frozen? ⟨w.heap.size + 2, 0, none⟩ = false ∧ w1.frozen? ⟨w.heap.size + 2, 1, none⟩ = false ∧ w.heap.size + 2 < w1.heap.size) ∧ Below w.heap.size w w1 := (by ((repeat' apply And.intro) <;> first | (simp [go_sem, *]; done) | omega | (repeat' (first | with_reducible exact Below.refl _ _ | with_reducible assumption | ((with_reducible refine Below.drew ?_)) | ((with_reducible refine below_drewN ?_ _)) | ((with_reducible refine Below.alloc ?_ ?_ _); rotate_left; focus (first | omega | (simp; done) | (simp; omega))) | ((with_reducible refine Below.setCell ?_ ?_ _); rotate_left; focus (first | omega | (simp; done) | (simp; omega))) | ((with_reducible refine Below.trans ?_ (Below.mono (by with_reducible assumption) ?_)); rotate_left; focus (first | omega | (simp; done) | (simp; omega))))))); go_split_ands; clear hcc hff hbel))
    rw [rounds_succ]
    go_wp2_with (go_at_call_of 44 (Value.int IntKind.u64 n); ((with_reducible refine (K2.out _).mono ?_); rintro e w2 ⟨rfl, hbel⟩; obtain ⟨hcc, hff⟩ := bcell hbel; have hsz := hbel.size; (try simp at hsz); have hF : (w2.cell? ⟨w.heap.size, 0, none⟩ = some (.int .u64 m) ∧ w2.cell? ⟨w.heap.size, 1, none⟩ = some (.int .u64 v) ∧ w.heap.size < w2.heap.size) ∧ (w2.cell? ⟨w.heap.size + 1, 0, none⟩ = some (.int .u64 n) ∧ w2.cell? ⟨w.heap.size + 1, 1, none⟩ = some (.int .u64 u) ∧ w.heap.size + 1 < w2.heap.size) ∧ (w2.cell? ⟨w.heap.size + 2, 0, none⟩ = some (.int .u64 0) ∧ w2.cell? ⟨w.heap.size + 2, 1, none⟩ = some (.int .u64 0) ∧ w2.frozen? ⟨w.heap.size + 2, 0, none⟩ = false ∧ w2.frozen? ⟨w.heap.size + 2, 1, none⟩ = false ∧ w.heap.size + 2 < w2.heap.size) ∧ Below w.heap.size w w2 := (by ((repeat' apply And.intro) <;> first | (simp [go_sem, *]; done) | omega | (repeat' (first | with_reducible exact Below.refl _ _ | with_reducible assumption | ((with_reducible refine Below.drew ?_)) | ((with_reducible refine below_drewN ?_ _)) | ((with_reducible refine Below.alloc ?_ ?_ _); rotate_left; focus (first | omega | (simp; done) | (simp; omega))) | ((with_reducible refine Below.setCell ?_ ?_ _); rotate_left; focus (first | omega | (simp; done) | (simp; omega))) | ((with_reducible refine Below.trans ?_ (Below.mono (by with_reducible assumption) ?_)); rotate_left; focus (first | omega | (simp; done) | (simp; omega))))))); go_split_ands; clear hcc hff hbel))
    rw [rounds_succ]
    go_wp2_with (go_at_call_of 44 (Value.int IntKind.u64 q); ((with_reducible refine (K3.out _).mono ?_); rintro e w3 ⟨rfl, hbel⟩; obtain ⟨hcc, hff⟩ := bcell hbel; have hsz := hbel.size; (try simp at hsz); have hF : (w3.cell? ⟨w.heap.size, 0, none⟩ = some (.int .u64 m) ∧ w3.cell? ⟨w.heap.size, 1, none⟩ = some (.int .u64 v) ∧ w.heap.size < w3.heap.size) ∧ (w3.cell? ⟨w.heap.size + 1, 0, none⟩ = some (.int .u64 n) ∧ w3.cell? ⟨w.heap.size + 1, 1, none⟩ = some (.int .u64 u) ∧ w.heap.size + 1 < w3.heap.size) ∧ (w3.cell? ⟨w.heap.size + 2, 0, none⟩ = some (.int .u64 0) ∧ w3.cell? ⟨w.heap.size + 2, 1, none⟩ = some (.int .u64 0) ∧ w3.frozen? ⟨w.heap.size + 2, 0, none⟩ = false ∧ w3.frozen? ⟨w.heap.size + 2, 1, none⟩ = false ∧ w.heap.size + 2 < w3.heap.size) ∧ Below w.heap.size w w3 := (by ((repeat' apply And.intro) <;> first | (simp [go_sem, *]; done) | omega | (repeat' (first | with_reducible exact Below.refl _ _ | with_reducible assumption | ((with_reducible refine Below.drew ?_)) | ((with_reducible refine below_drewN ?_ _)) | ((with_reducible refine Below.alloc ?_ ?_ _); rotate_left; focus (first | omega | (simp; done) | (simp; omega))) | ((with_reducible refine Below.setCell ?_ ?_ _); rotate_left; focus (first | omega | (simp; done) | (simp; omega))) | ((with_reducible refine Below.trans ?_ (Below.mono (by with_reducible assumption) ?_)); rotate_left; focus (first | omega | (simp; done) | (simp; omega))))))); go_split_ands; clear hcc hff hbel))
    rw [rounds_succ]
    go_wp2_with fail
    refine bodyPost_ret (v := .tuple #[.agg #[.int .u64 0, .int .u64 0], .int .i64 1]) (by simp [results, Try.results15, go_sem, *]) rfl ⟨rfl, (by repeat' (first | with_reducible exact Below.refl _ _ | with_reducible assumption | ((with_reducible refine Below.drew ?_)) | ((with_reducible refine below_drewN ?_ _)) | ((with_reducible refine Below.alloc ?_ ?_ _); rotate_left; focus (first | omega | (simp; done) | (simp; omega))) | ((with_reducible refine Below.setCell ?_ ?_ _); rotate_left; focus (first | omega | (simp; done) | (simp; omega))) | ((with_reducible refine Below.trans ?_ (Below.mono (by with_reducible assumption) ?_)); rotate_left; focus (first | omega | (simp; done) | (simp; omega)))))⟩
/-- May it be asked how far apart they may be? -/
def momay (m n lmax q : Int) : Bool := smay m && smay n && smay q && decide (1 ≤ lmax) && decide (lmax ≤ 16384)
theorem fmo_bad (m v n u q lmax : Int) (h : momay m n lmax q = false) (w : World) : Calls Try.prog 15 #[.agg #[.int .u64 m, .int .u64 v], .agg #[.int .u64 n, .int .u64 u], .int .i64 lmax, .int .u64 q] w fun ee w' => ee = .returned (.tuple #[.agg #[.int .u64 0, .int .u64 0], .int .i64 1]) ∧ Below w.heap.size w w' := by
  unfold momay at h
  cases h1 : smay m with
  | false => exact fmo_bad1 m v n u q lmax h1 w
  | true =>
    cases h2 : smay n with
    | false => exact fmo_bad2 m v n u q lmax h1 h2 w
    | true =>
      cases h3 : smay q with
      | false => exact fmo_bad3 m v n u q lmax h1 h2 h3 w
      | true =>
        refine fmo_bad4 m v n u q lmax h1 h2 h3 ?_ w
        rw [h1, h2, h3] at h
        simp only [Bool.true_and, Bool.and_eq_false_iff, decide_eq_false_iff_not] at h
        omega
theorem momay_bounds {m n lmax q : Int} (h : momay m n lmax q = true) : smay m = true ∧ smay n = true ∧ smay q = true ∧ 1 ≤ lmax ∧ lmax ≤ 16384 := by
  unfold momay at h; simp only [Bool.and_eq_true, decide_eq_true_eq] at h; exact ⟨h.1.1.1.1, h.1.1.1.2, h.1.1.2, h.1.2, h.2⟩
/-- In how many ticks a packet is sent. -/
def pticks (lmax q : Int) : Int := cl (lmax * 65536) q
theorem pticks_le {lmax q : Int} (hl : 1 ≤ lmax ∧ lmax ≤ 16384) (hq : 1 ≤ q) : 0 ≤ pticks lmax q ∧ pticks lmax q ≤ 1073741825 := by
  unfold pticks
  have h1 : lmax * 65536 / q ≤ lmax * 65536 := Int.ediv_le_self q (by omega)
  have h2 : 0 ≤ lmax * 65536 / q := Int.ediv_nonneg (by omega) (by omega)
  rcases cl_between (lmax * 65536) q with h | h <;> rw [h] <;> omega
/-- How far apart they may be. -/
def mostap (m n lmax q : Int) : Int := m * n * (2 * pticks lmax q + 2)
theorem smul {m n : Int} (h1 : smay m = true) (h2 : smay n = true) : 0 ≤ m * n ∧ m * n ≤ 18446744065119617025 := by
  rw [smay_iff] at h1 h2
  have := Int.mul_le_mul h1.2 h2.2 (by omega) (by decide)
  have h3 := Int.mul_nonneg (show 0 ≤ m by omega) (show 0 ≤ n by omega)
  exact ⟨h3, by simpa using this⟩
theorem fmo_c (m v n u q lmax : Int) (hq : In q) (h : momay m n lmax q = true) (w : World) : Calls Try.prog 15 #[.agg #[.int .u64 m, .int .u64 v], .agg #[.int .u64 n, .int .u64 u], .int .i64 lmax, .int .u64 q] w fun ee w' => ee = .returned (.tuple #[.agg #[.int .u64 (hi (mostap m n lmax q)), .int .u64 (lo (mostap m n lmax q))], .int .i64 0]) ∧ Below w.heap.size w w' := by
  obtain ⟨h1, h2, h3, hl⟩ := momay_bounds h
  have hP := smul h1 h2
  have hq1 := (smay_iff q).1 h3
  have hg := pticks_le hl hq1.1
  have k1 := smay_c m
  have k2 := smay_c n
  have k3 := smay_c q
  rw [h1] at k1
  rw [h2] at k2
  rw [h3] at k3
  have k4 := up_c lmax 65536 q (by unfold In; omega) (by unfold In; omega) hq hq1.1
  have hh : hi (cl (lmax * 65536) q) = 0 := by unfold pticks at hg; unfold hi; omega
  have hl' : lo (cl (lmax * 65536) q) = cl (lmax * 65536) q := by unfold pticks at hg; unfold lo; omega
  rw [nv_ok hh, ne_ok hh, hl'] at k4
  have k5 := mul_c (m * n) (2 * pticks lmax q + 2) (by unfold In; omega) (by unfold In; omega)
  exact fmo_ok m v n u q lmax (pticks lmax q) (m * n * (2 * pticks lmax q + 2)) hl (by rw [wrap_u64]; omega) (by rw [wrap_u64]; omega) (by rw [wrap_u64]; omega) k1 k2 k3 k4 k5 w
end Go.Proofs.Ytfplniooncdjdaa
