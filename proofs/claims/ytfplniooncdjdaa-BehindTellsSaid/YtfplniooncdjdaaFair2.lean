import Derived.Test.YtfplniooncdjdaaFair1
namespace Go.Proofs.Ytfplniooncdjdaa
set_option linter.unusedVariables false
set_option linter.unusedSimpArgs false
set_option maxRecDepth 100000
open Go.RowKit Fg Reg

set_option maxHeartbeats 4000000 in
theorem fap_bad1 (m v n u : Int) (h : smay m = false) (w : World) : Calls Try.prog 14 #[.agg #[.int .u64 m, .int .u64 v], .agg #[.int .u64 n, .int .u64 u]] w fun ee w' => ee = .returned (.tuple #[.agg #[.int .u64 0, .int .u64 0], .int .i64 1]) ∧ Below w.heap.size w w' := by
  have k1 := smay_c m
  rw [h] at k1
  have K1 := Lib.hid k1
  clear k1 h
  have i0 : ∀ w, (Instr.index 91 (.agg #[.int .u64 m, .int .u64 v, .int .u64 n, .int .u64 u]) (.int .i64 0)).run Try.prog w = .ok (.agg #[.int .u64 m, .int .u64 v]) w := fun w => by kernel_rfl
  go_enter Try.func14, Try.ntmps14
  go_wp2_with fail
  refine wp_loop_rounds 1 ?_
  rw [rounds_succ]
  go_wp2_with (go_at_call_of 44 (Value.int IntKind.u64 m); ((with_reducible refine (K1.out _).mono ?_); rintro e w1 ⟨rfl, hbel⟩; obtain ⟨hcc, hff⟩ := bcell hbel; have hsz := hbel.size; (try simp at hsz); have hF : (w1.cell? ⟨w.heap.size + 1 + 1 + 1, 0, none⟩ = some (.int .u64 m) ∧ w1.cell? ⟨w.heap.size + 1 + 1 + 1, 1, none⟩ = some (.int .u64 v) ∧ w.heap.size + 1 + 1 + 1 < w1.heap.size) ∧ (w1.cell? ⟨w.heap.size, 0, none⟩ = some (.int .u64 m) ∧ w1.cell? ⟨w.heap.size, 1, none⟩ = some (.int .u64 v) ∧ w.heap.size < w1.heap.size) ∧ (w1.cell? ⟨w.heap.size + 1, 0, none⟩ = some (.int .u64 n) ∧ w1.cell? ⟨w.heap.size + 1, 1, none⟩ = some (.int .u64 u) ∧ w.heap.size + 1 < w1.heap.size) ∧ (w1.cell? ⟨w.heap.size + 2, 0, none⟩ = some (.int .u64 0) ∧ w1.cell? ⟨w.heap.size + 2, 1, none⟩ = some (.int .u64 0) ∧ w1.frozen? ⟨w.heap.size + 2, 0, none⟩ = false ∧ w1.frozen? ⟨w.heap.size + 2, 1, none⟩ = false ∧ w.heap.size + 2 < w1.heap.size) ∧ Below w.heap.size w w1 := (by ((repeat' apply And.intro) <;> first | (simp [go_sem, *]; done) | omega | (repeat' (first | with_reducible exact Below.refl _ _ | with_reducible assumption | ((with_reducible refine Below.drew ?_)) | ((with_reducible refine below_drewN ?_ _)) | ((with_reducible refine Below.alloc ?_ ?_ _); rotate_left; focus (first | omega | (simp; done) | (simp; omega))) | ((with_reducible refine Below.setCell ?_ ?_ _); rotate_left; focus (first | omega | (simp; done) | (simp; omega))) | ((with_reducible refine Below.trans ?_ (Below.mono (by with_reducible assumption) ?_)); rotate_left; focus (first | omega | (simp; done) | (simp; omega))))))); go_split_ands; clear hcc hff hbel))
  refine bodyPost_ret (v := .tuple #[.agg #[.int .u64 0, .int .u64 0], .int .i64 1]) (by simp [results, Try.results14, go_sem, *]) rfl ⟨rfl, (by repeat' (first | with_reducible exact Below.refl _ _ | with_reducible assumption | ((with_reducible refine Below.drew ?_)) | ((with_reducible refine below_drewN ?_ _)) | ((with_reducible refine Below.alloc ?_ ?_ _); rotate_left; focus (first | omega | (simp; done) | (simp; omega))) | ((with_reducible refine Below.setCell ?_ ?_ _); rotate_left; focus (first | omega | (simp; done) | (simp; omega))) | ((with_reducible refine Below.trans ?_ (Below.mono (by with_reducible assumption) ?_)); rotate_left; focus (first | omega | (simp; done) | (simp; omega)))))⟩
set_option maxHeartbeats 4000000 in
theorem fap_bad2 (m v n u : Int) (h : smay m = true) (hv : 1099511627776 < v) (w : World) : Calls Try.prog 14 #[.agg #[.int .u64 m, .int .u64 v], .agg #[.int .u64 n, .int .u64 u]] w fun ee w' => ee = .returned (.tuple #[.agg #[.int .u64 0, .int .u64 0], .int .i64 1]) ∧ Below w.heap.size w w' := by
  have k1 := smay_c m
  rw [h] at k1
  have K1 := Lib.hid k1
  clear k1 h
  have g1 : decide (1099511627776 < v) = true := by simp; omega
  have i0 : ∀ w, (Instr.index 91 (.agg #[.int .u64 m, .int .u64 v, .int .u64 n, .int .u64 u]) (.int .i64 0)).run Try.prog w = .ok (.agg #[.int .u64 m, .int .u64 v]) w := fun w => by kernel_rfl
  go_enter Try.func14, Try.ntmps14
  go_wp2_with fail
  refine wp_loop_rounds 1 ?_
  rw [rounds_succ]
  go_wp2_with (go_at_call_of 44 (Value.int IntKind.u64 m); ((with_reducible refine (K1.out _).mono ?_); rintro e w1 ⟨rfl, hbel⟩; obtain ⟨hcc, hff⟩ := bcell hbel; have hsz := hbel.size; (try simp at hsz); have hF : (w1.cell? ⟨w.heap.size + 1 + 1 + 1, 0, none⟩ = some (.int .u64 m) ∧ w1.cell? ⟨w.heap.size + 1 + 1 + 1, 1, none⟩ = some (.int .u64 v) ∧ w.heap.size + 1 + 1 + 1 < w1.heap.size) ∧ (w1.cell? ⟨w.heap.size, 0, none⟩ = some (.int .u64 m) ∧ w1.cell? ⟨w.heap.size, 1, none⟩ = some (.int .u64 v) ∧ w.heap.size < w1.heap.size) ∧ (w1.cell? ⟨w.heap.size + 1, 0, none⟩ = some (.int .u64 n) ∧ w1.cell? ⟨w.heap.size + 1, 1, none⟩ = some (.int .u64 u) ∧ w.heap.size + 1 < w1.heap.size) ∧ (w1.cell? ⟨w.heap.size + 2, 0, none⟩ = some (.int .u64 0) ∧ w1.cell? ⟨w.heap.size + 2, 1, none⟩ = some (.int .u64 0) ∧ w1.frozen? ⟨w.heap.size + 2, 0, none⟩ = false ∧ w1.frozen? ⟨w.heap.size + 2, 1, none⟩ = false ∧ w.heap.size + 2 < w1.heap.size) ∧ Below w.heap.size w w1 := (by ((repeat' apply And.intro) <;> first | (simp [go_sem, *]; done) | omega | (repeat' (first | with_reducible exact Below.refl _ _ | with_reducible assumption | ((with_reducible refine Below.drew ?_)) | ((with_reducible refine below_drewN ?_ _)) | ((with_reducible refine Below.alloc ?_ ?_ _); rotate_left; focus (first | omega | (simp; done) | (simp; omega))) | ((with_reducible refine Below.setCell ?_ ?_ _); rotate_left; focus (first | omega | (simp; done) | (simp; omega))) | ((with_reducible refine Below.trans ?_ (Below.mono (by with_reducible assumption) ?_)); rotate_left; focus (first | omega | (simp; done) | (simp; omega))))))); go_split_ands; clear hcc hff hbel))
  refine bodyPost_ret (v := .tuple #[.agg #[.int .u64 0, .int .u64 0], .int .i64 1]) (by simp [results, Try.results14, go_sem, *]) rfl ⟨rfl, (by repeat' (first | with_reducible exact Below.refl _ _ | with_reducible assumption | ((with_reducible refine Below.drew ?_)) | ((with_reducible refine below_drewN ?_ _)) | ((with_reducible refine Below.alloc ?_ ?_ _); rotate_left; focus (first | omega | (simp; done) | (simp; omega))) | ((with_reducible refine Below.setCell ?_ ?_ _); rotate_left; focus (first | omega | (simp; done) | (simp; omega))) | ((with_reducible refine Below.trans ?_ (Below.mono (by with_reducible assumption) ?_)); rotate_left; focus (first | omega | (simp; done) | (simp; omega)))))⟩
set_option maxHeartbeats 4000000 in
theorem fap_bad3 (m v n u : Int) (h : smay m = true) (hv : ¬ 1099511627776 < v) (h2 : smay n = false) (w : World) : Calls Try.prog 14 #[.agg #[.int .u64 m, .int .u64 v], .agg #[.int .u64 n, .int .u64 u]] w fun ee w' => ee = .returned (.tuple #[.agg #[.int .u64 0, .int .u64 0], .int .i64 1]) ∧ Below w.heap.size w w' := by
  have k1 := smay_c m
  rw [h] at k1
  have K1 := Lib.hid k1
  have k2 := smay_c n
  rw [h2] at k2
  have K2 := Lib.hid k2
  clear k1 h k2 h2
  have g1 : decide (1099511627776 < v) = false := by simp; omega
  have i0 : ∀ w, (Instr.index 91 (.agg #[.int .u64 m, .int .u64 v, .int .u64 n, .int .u64 u]) (.int .i64 0)).run Try.prog w = .ok (.agg #[.int .u64 m, .int .u64 v]) w := fun w => by kernel_rfl
  have i1 : ∀ w, (Instr.index 91 (.agg #[.int .u64 m, .int .u64 v, .int .u64 n, .int .u64 u]) (.int .i64 1)).run Try.prog w = .ok (.agg #[.int .u64 n, .int .u64 u]) w := fun w => by kernel_rfl
  go_enter Try.func14, Try.ntmps14
  go_wp2_with fail
  refine wp_loop_rounds 2 ?_
  rw [rounds_succ]
  go_wp2_with (go_at_call_of 44 (Value.int IntKind.u64 m); ((with_reducible refine (K1.out _).mono ?_); rintro e w1 ⟨rfl, hbel⟩; obtain ⟨hcc, hff⟩ := bcell hbel; have hsz := hbel.size; (try simp at hsz); have hF : (w1.cell? ⟨w.heap.size + 1 + 1 + 1, 0, none⟩ = some (.int .u64 m) ∧ w1.cell? ⟨w.heap.size + 1 + 1 + 1, 1, none⟩ = some (.int .u64 v) ∧ w.heap.size + 1 + 1 + 1 < w1.heap.size) ∧ (w1.cell? ⟨w.heap.size, 0, none⟩ = some (.int .u64 m) ∧ w1.cell? ⟨w.heap.size, 1, none⟩ = some (.int .u64 v) ∧ w.heap.size < w1.heap.size) ∧ (w1.cell? ⟨w.heap.size + 1, 0, none⟩ = some (.int .u64 n) ∧ w1.cell? ⟨w.heap.size + 1, 1, none⟩ = some (.int .u64 u) ∧ w.heap.size + 1 < w1.heap.size) ∧ (w1.cell? ⟨w.heap.size + 2, 0, none⟩ = some (.int .u64 0) ∧ w1.cell? ⟨w.heap.size + 2, 1, none⟩ = some (.int .u64 0) ∧ w1.frozen? ⟨w.heap.size + 2, 0, none⟩ = false ∧ w1.frozen? ⟨w.heap.size + 2, 1, none⟩ = false ∧ w.heap.size + 2 < w1.heap.size) ∧ Below w.heap.size w w1 := (by ((repeat' apply And.intro) <;> first | (simp [go_sem, *]; done) | omega | (repeat' (first | with_reducible exact Below.refl _ _ | with_reducible assumption | ((with_reducible refine Below.drew ?_)) | ((with_reducible refine below_drewN ?_ _)) | ((with_reducible refine Below.alloc ?_ ?_ _); rotate_left; focus (first | omega | (simp; done) | (simp; omega))) | ((with_reducible refine Below.setCell ?_ ?_ _); rotate_left; focus (first | omega | (simp; done) | (simp; omega))) | ((with_reducible refine Below.trans ?_ (Below.mono (by with_reducible assumption) ?_)); rotate_left; focus (first | omega | (simp; done) | (simp; omega))))))); go_split_ands; clear hcc hff hbel))
  rw [rounds_succ]
  go_wp2_with (go_at_call_of 44 (Value.int IntKind.u64 n); ((with_reducible refine (K2.out _).mono ?_); rintro e w2 ⟨rfl, hbel⟩; obtain ⟨hcc, hff⟩ := bcell hbel; have hsz := hbel.size; (try simp at hsz); have hF : (w2.cell? ⟨w1.heap.size, 0, none⟩ = some (.int .u64 n) ∧ w2.cell? ⟨w1.heap.size, 1, none⟩ = some (.int .u64 u) ∧ w1.heap.size < w2.heap.size) ∧ (w2.cell? ⟨w.heap.size, 0, none⟩ = some (.int .u64 m) ∧ w2.cell? ⟨w.heap.size, 1, none⟩ = some (.int .u64 v) ∧ w.heap.size < w2.heap.size) ∧ (w2.cell? ⟨w.heap.size + 1, 0, none⟩ = some (.int .u64 n) ∧ w2.cell? ⟨w.heap.size + 1, 1, none⟩ = some (.int .u64 u) ∧ w.heap.size + 1 < w2.heap.size) ∧ (w2.cell? ⟨w.heap.size + 2, 0, none⟩ = some (.int .u64 0) ∧ w2.cell? ⟨w.heap.size + 2, 1, none⟩ = some (.int .u64 0) ∧ w2.frozen? ⟨w.heap.size + 2, 0, none⟩ = false ∧ w2.frozen? ⟨w.heap.size + 2, 1, none⟩ = false ∧ w.heap.size + 2 < w2.heap.size) ∧ Below w.heap.size w w2 := (by ((repeat' apply And.intro) <;> first | (simp [go_sem, *]; done) | omega | (repeat' (first | with_reducible exact Below.refl _ _ | with_reducible assumption | ((with_reducible refine Below.drew ?_)) | ((with_reducible refine below_drewN ?_ _)) | ((with_reducible refine Below.alloc ?_ ?_ _); rotate_left; focus (first | omega | (simp; done) | (simp; omega))) | ((with_reducible refine Below.setCell ?_ ?_ _); rotate_left; focus (first | omega | (simp; done) | (simp; omega))) | ((with_reducible refine Below.trans ?_ (Below.mono (by with_reducible assumption) ?_)); rotate_left; focus (first | omega | (simp; done) | (simp; omega))))))); go_split_ands; clear hcc hff hbel))
  refine bodyPost_ret (v := .tuple #[.agg #[.int .u64 0, .int .u64 0], .int .i64 1]) (by simp [results, Try.results14, go_sem, *]) rfl ⟨rfl, (by repeat' (first | with_reducible exact Below.refl _ _ | with_reducible assumption | ((with_reducible refine Below.drew ?_)) | ((with_reducible refine below_drewN ?_ _)) | ((with_reducible refine Below.alloc ?_ ?_ _); rotate_left; focus (first | omega | (simp; done) | (simp; omega))) | ((with_reducible refine Below.setCell ?_ ?_ _); rotate_left; focus (first | omega | (simp; done) | (simp; omega))) | ((with_reducible refine Below.trans ?_ (Below.mono (by with_reducible assumption) ?_)); rotate_left; focus (first | omega | (simp; done) | (simp; omega)))))⟩
set_option maxHeartbeats 4000000 in
theorem fap_bad4 (m v n u : Int) (h : smay m = true) (hv : ¬ 1099511627776 < v) (h2 : smay n = true) (hu : 1099511627776 < u) (w : World) : Calls Try.prog 14 #[.agg #[.int .u64 m, .int .u64 v], .agg #[.int .u64 n, .int .u64 u]] w fun ee w' => ee = .returned (.tuple #[.agg #[.int .u64 0, .int .u64 0], .int .i64 1]) ∧ Below w.heap.size w w' := by
  have k1 := smay_c m
  rw [h] at k1
  have K1 := Lib.hid k1
  have k2 := smay_c n
  rw [h2] at k2
  have K2 := Lib.hid k2
  clear k1 h k2 h2
  have g1 : decide (1099511627776 < v) = false := by simp; omega
  have g2 : decide (1099511627776 < u) = true := by simp; omega
  have i0 : ∀ w, (Instr.index 91 (.agg #[.int .u64 m, .int .u64 v, .int .u64 n, .int .u64 u]) (.int .i64 0)).run Try.prog w = .ok (.agg #[.int .u64 m, .int .u64 v]) w := fun w => by kernel_rfl
  have i1 : ∀ w, (Instr.index 91 (.agg #[.int .u64 m, .int .u64 v, .int .u64 n, .int .u64 u]) (.int .i64 1)).run Try.prog w = .ok (.agg #[.int .u64 n, .int .u64 u]) w := fun w => by kernel_rfl
  go_enter Try.func14, Try.ntmps14
  go_wp2_with fail
  refine wp_loop_rounds 2 ?_
  rw [rounds_succ]
  go_wp2_with (go_at_call_of 44 (Value.int IntKind.u64 m); ((with_reducible refine (K1.out _).mono ?_); rintro e w1 ⟨rfl, hbel⟩; obtain ⟨hcc, hff⟩ := bcell hbel; have hsz := hbel.size; (try simp at hsz); have hF : (w1.cell? ⟨w.heap.size + 1 + 1 + 1, 0, none⟩ = some (.int .u64 m) ∧ w1.cell? ⟨w.heap.size + 1 + 1 + 1, 1, none⟩ = some (.int .u64 v) ∧ w.heap.size + 1 + 1 + 1 < w1.heap.size) ∧ (w1.cell? ⟨w.heap.size, 0, none⟩ = some (.int .u64 m) ∧ w1.cell? ⟨w.heap.size, 1, none⟩ = some (.int .u64 v) ∧ w.heap.size < w1.heap.size) ∧ (w1.cell? ⟨w.heap.size + 1, 0, none⟩ = some (.int .u64 n) ∧ w1.cell? ⟨w.heap.size + 1, 1, none⟩ = some (.int .u64 u) ∧ w.heap.size + 1 < w1.heap.size) ∧ (w1.cell? ⟨w.heap.size + 2, 0, none⟩ = some (.int .u64 0) ∧ w1.cell? ⟨w.heap.size + 2, 1, none⟩ = some (.int .u64 0) ∧ w1.frozen? ⟨w.heap.size + 2, 0, none⟩ = false ∧ w1.frozen? ⟨w.heap.size + 2, 1, none⟩ = false ∧ w.heap.size + 2 < w1.heap.size) ∧ Below w.heap.size w w1 := (by ((repeat' apply And.intro) <;> first | (simp [go_sem, *]; done) | omega | (repeat' (first | with_reducible exact Below.refl _ _ | with_reducible assumption | ((with_reducible refine Below.drew ?_)) | ((with_reducible refine below_drewN ?_ _)) | ((with_reducible refine Below.alloc ?_ ?_ _); rotate_left; focus (first | omega | (simp; done) | (simp; omega))) | ((with_reducible refine Below.setCell ?_ ?_ _); rotate_left; focus (first | omega | (simp; done) | (simp; omega))) | ((with_reducible refine Below.trans ?_ (Below.mono (by with_reducible assumption) ?_)); rotate_left; focus (first | omega | (simp; done) | (simp; omega))))))); go_split_ands; clear hcc hff hbel))
  rw [rounds_succ]
  go_wp2_with (go_at_call_of 44 (Value.int IntKind.u64 n); ((with_reducible refine (K2.out _).mono ?_); rintro e w2 ⟨rfl, hbel⟩; obtain ⟨hcc, hff⟩ := bcell hbel; have hsz := hbel.size; (try simp at hsz); have hF : (w2.cell? ⟨w1.heap.size, 0, none⟩ = some (.int .u64 n) ∧ w2.cell? ⟨w1.heap.size, 1, none⟩ = some (.int .u64 u) ∧ w1.heap.size < w2.heap.size) ∧ (w2.cell? ⟨w.heap.size, 0, none⟩ = some (.int .u64 m) ∧ w2.cell? ⟨w.heap.size, 1, none⟩ = some (.int .u64 v) ∧ w.heap.size < w2.heap.size) ∧ (w2.cell? ⟨w.heap.size + 1, 0, none⟩ = some (.int .u64 n) ∧ w2.cell? ⟨w.heap.size + 1, 1, none⟩ = some (.int .u64 u) ∧ w.heap.size + 1 < w2.heap.size) ∧ (w2.cell? ⟨w.heap.size + 2, 0, none⟩ = some (.int .u64 0) ∧ w2.cell? ⟨w.heap.size + 2, 1, none⟩ = some (.int .u64 0) ∧ w2.frozen? ⟨w.heap.size + 2, 0, none⟩ = false ∧ w2.frozen? ⟨w.heap.size + 2, 1, none⟩ = false ∧ w.heap.size + 2 < w2.heap.size) ∧ Below w.heap.size w w2 := (by ((repeat' apply And.intro) <;> first | (simp [go_sem, *]; done) | omega | (repeat' (first | with_reducible exact Below.refl _ _ | with_reducible assumption | ((with_reducible refine Below.drew ?_)) | ((with_reducible refine below_drewN ?_ _)) | ((with_reducible refine Below.alloc ?_ ?_ _); rotate_left; focus (first | omega | (simp; done) | (simp; omega))) | ((with_reducible refine Below.setCell ?_ ?_ _); rotate_left; focus (first | omega | (simp; done) | (simp; omega))) | ((with_reducible refine Below.trans ?_ (Below.mono (by with_reducible assumption) ?_)); rotate_left; focus (first | omega | (simp; done) | (simp; omega))))))); go_split_ands; clear hcc hff hbel))
  refine bodyPost_ret (v := .tuple #[.agg #[.int .u64 0, .int .u64 0], .int .i64 1]) (by simp [results, Try.results14, go_sem, *]) rfl ⟨rfl, (by repeat' (first | with_reducible exact Below.refl _ _ | with_reducible assumption | ((with_reducible refine Below.drew ?_)) | ((with_reducible refine below_drewN ?_ _)) | ((with_reducible refine Below.alloc ?_ ?_ _); rotate_left; focus (first | omega | (simp; done) | (simp; omega))) | ((with_reducible refine Below.setCell ?_ ?_ _); rotate_left; focus (first | omega | (simp; done) | (simp; omega))) | ((with_reducible refine Below.trans ?_ (Below.mono (by with_reducible assumption) ?_)); rotate_left; focus (first | omega | (simp; done) | (simp; omega)))))⟩
/-- May the two be held against one another? -/
def apmay (m v n u : Int) : Bool := smay m && decide (v ≤ 1099511627776) && (smay n && decide (u ≤ 1099511627776))
theorem fap_bad (m v n u : Int) (h : apmay m v n u = false) (w : World) : Calls Try.prog 14 #[.agg #[.int .u64 m, .int .u64 v], .agg #[.int .u64 n, .int .u64 u]] w fun ee w' => ee = .returned (.tuple #[.agg #[.int .u64 0, .int .u64 0], .int .i64 1]) ∧ Below w.heap.size w w' := by
  unfold apmay at h
  cases h1 : smay m with
  | false => exact fap_bad1 m v n u h1 w
  | true =>
    by_cases hv : 1099511627776 < v
    · exact fap_bad2 m v n u h1 hv w
    · cases h2 : smay n with
      | false => exact fap_bad3 m v n u h1 hv h2 w
      | true =>
        by_cases hu : 1099511627776 < u
        · exact fap_bad4 m v n u h1 hv h2 hu w
        · exfalso
          rw [h1, h2, decide_eq_true (by omega : v ≤ 1099511627776), decide_eq_true (by omega : u ≤ 1099511627776)] at h
          simp at h
theorem dist_wd {x y : Int} (hx : Wd x) (hy : Wd y) : Wd (dist x y) := by unfold dist Wd at *; split <;> omega
theorem dist_comm (x y : Int) : dist x y = dist y x := by unfold dist; split <;> split <;> omega
/-- How far apart two classes are. -/
def apart (m v n u : Int) : Int := dist (v * 65536 * n) (u * 65536 * m)
theorem apart_comm (m v n u : Int) : apart m v n u = apart n u m v := by unfold apart; exact dist_comm _ _
theorem apmay_comm (m v n u : Int) : apmay m v n u = apmay n u m v := by unfold apmay; exact Bool.and_comm _ _
theorem apmay_bounds {m v n u : Int} (h : apmay m v n u = true) : (smay m = true ∧ v ≤ 1099511627776) ∧ smay n = true ∧ u ≤ 1099511627776 := by
  unfold apmay at h; simpa using h
theorem fap_c (m v n u : Int) (hm : In m) (hv0 : In v) (hn : In n) (hu0 : In u) (h : apmay m v n u = true) (w : World) : Calls Try.prog 14 #[.agg #[.int .u64 m, .int .u64 v], .agg #[.int .u64 n, .int .u64 u]] w fun ee w' => ee = .returned (.tuple #[.agg #[.int .u64 (hi (apart m v n u)), .int .u64 (lo (apart m v n u))], .int .i64 0]) ∧ Below w.heap.size w w' := by
  obtain ⟨⟨h1, hv⟩, h2, hu⟩ := apmay_bounds h
  have k1 := smay_c m
  have k2 := smay_c n
  rw [h1] at k1
  rw [h2] at k2
  have hv' : In (v * 65536) := by unfold In at *; omega
  have hu' : In (u * 65536) := by unfold In at *; omega
  have k3 := mul_c (v * 65536) n hv' hn
  have k4 := mul_c (u * 65536) m hu' hm
  have hX : Wd (v * 65536 * n) := wd_mul hv' hn
  have hY : Wd (u * 65536 * m) := wd_mul hu' hm
  have hD := dist_wd hX hY
  unfold apart
  generalize v * 65536 * n = X at *
  generalize u * 65536 * m = Y at *
  have k5 := fun w => compare_c (hi X) (lo X) (hi Y) (lo Y) (hi_in _) (lo_in _) (hi_in _) (lo_in _) w
  have k6 := fun w => sub_c (hi X) (lo X) (hi Y) (lo Y) (hi_in _) (lo_in _) (hi_in _) (lo_in _) w
  have k7 := fun w => sub_c (hi Y) (lo Y) (hi X) (lo X) (hi_in _) (lo_in _) (hi_in _) (lo_in _) w
  simp only [val_wd hX, val_wd hY] at k5 k6 k7
  refine fap_ok m v n u X Y (dist X Y) (decide (cmp X Y < 0)) ⟨hv0.1, hv⟩ ⟨hu0.1, hu⟩ (cmp X Y) rfl k1 k2 k3 k4 k5 ?_ w
  by_cases hlt : X < Y
  · have e : cmp X Y = -1 := cmp_lt' hlt
    have e2 : decide (cmp X Y < 0) = true := by rw [e]; rfl
    have e3 : decide (cmp Y X < 0) = false := by rw [cmp_gt' hlt]; rfl
    rw [e2]
    rw [e3] at k7
    simp only [if_true]
    unfold dist
    rw [if_pos hlt]
    exact k7
  · have e3 : decide (cmp X Y < 0) = false := by
      by_cases he : X = Y
      · rw [he, cmp_self']; rfl
      · rw [cmp_gt' (by omega)]; rfl
    rw [e3]
    rw [e3] at k6
    simp only [Bool.false_eq_true, if_false]
    unfold dist
    rw [if_neg hlt]
    exact k6
end Go.Proofs.Ytfplniooncdjdaa
