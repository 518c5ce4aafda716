import Derived.Test.YtldkgnfplldnaaaBase
namespace Go.Proofs.Ytldkgnfplldnaaa
set_option linter.unusedVariables false
set_option linter.unusedSimpArgs false
open Go.RowKit Fg Reg

def kcmp (a0 a1 b0 b1 : Int) : Int := if a0 = b0 ∧ a1 = b1 then 0 else if a0 < b0 ∨ (a0 = b0 ∧ a1 < b1) then -1 else 1
/-- The lesser one of two keys. -/
def km0 (a0 a1 b0 b1 : Int) : Int := if kcmp b0 b1 a0 a1 < 0 then b0 else a0
def km1 (a0 a1 b0 b1 : Int) : Int := if kcmp b0 b1 a0 a1 < 0 then b1 else a1
def kdue (a0 now : Int) : Bool := decide (a0 ≤ now) && decide (a0 < 9223372036854775808)

theorem kcmp_c (a0 a1 b0 b1 : Int) (w : World) : Calls Try.prog 21 #[.agg #[.int .u64 (a0), .int .i64 (a1)], .agg #[.int .u64 (b0), .int .i64 (b1)]] w fun ee w' => ee = .returned (.int .i64 (kcmp a0 a1 b0 b1)) ∧ Below w.heap.size w w' := by
  go_enter Try.func21, Try.ntmps21
  go_wp2
  all_goals
    go_ret
    refine ⟨ret_int ?_, (by repeat' (first | with_reducible exact Below.refl _ _ | with_reducible assumption | ((with_reducible refine Below.drew ?_)) | ((with_reducible refine below_drewN ?_ _)) | ((with_reducible refine Below.alloc ?_ ?_ _); rotate_left; focus (first | omega | (simp; done) | (simp; omega))) | ((with_reducible refine Below.setCell ?_ ?_ _); rotate_left; focus (first | omega | (simp; done) | (simp; omega))) | ((with_reducible refine Below.trans ?_ (Below.mono (by with_reducible assumption) ?_)); rotate_left; focus (first | omega | (simp; done) | (simp; omega)))))⟩
    unfold kcmp
    first
      | (rw [if_pos (by omega)])
      | (rw [if_neg (by omega), if_pos (by omega)])
      | (rw [if_neg (by omega), if_neg (by omega)])

theorem klst_c (a0 a1 b0 b1 : Int) (w : World) : Calls Try.prog 22 #[.agg #[.int .u64 (a0), .int .i64 (a1)], .agg #[.int .u64 (b0), .int .i64 (b1)]] w fun ee w' => ee = .returned (.agg #[.int .u64 (km0 a0 a1 b0 b1), .int .i64 (km1 a0 a1 b0 b1)]) ∧ Below w.heap.size w w' := by
  unfold km0 km1
  have K := Lib.hid (kcmp_c b0 b1 a0 a1)
  generalize kcmp b0 b1 a0 a1 = x at *
  by_cases h : x < 0
  · rw [if_pos h, if_pos h]
    go_enter Try.func22, Try.ntmps22
    go_wp2_with (go_at_call 21; ((with_reducible refine (K.out _).mono ?_); rintro e w1 ⟨rfl, hbel⟩; obtain ⟨hcc, hff⟩ := bcell hbel; have hsz := hbel.size; (try simp at hsz); have hF : (w1.cell? ⟨w.heap.size, 0, none⟩ = some (.int .u64 a0) ∧ w1.cell? ⟨w.heap.size, 1, none⟩ = some (.int .i64 a1) ∧ w.heap.size < w1.heap.size) ∧ (w1.cell? ⟨w.heap.size + 1, 0, none⟩ = some (.int .u64 b0) ∧ w1.cell? ⟨w.heap.size + 1, 1, none⟩ = some (.int .i64 b1) ∧ w.heap.size + 1 < w1.heap.size) ∧ (w1.cell? ⟨w.heap.size + 2, 0, none⟩ = some (.int .u64 0) ∧ w1.cell? ⟨w.heap.size + 2, 1, none⟩ = some (.int .i64 0) ∧ w1.frozen? ⟨w.heap.size + 2, 0, none⟩ = false ∧ w1.frozen? ⟨w.heap.size + 2, 1, none⟩ = false ∧ w.heap.size + 2 < w1.heap.size) ∧ Below w.heap.size w w1 := (by ((repeat' apply And.intro) <;> first | (simp [go_sem, *]; done) | omega | (repeat' (first | with_reducible exact Below.refl _ _ | with_reducible assumption | ((with_reducible refine Below.drew ?_)) | ((with_reducible refine below_drewN ?_ _)) | ((with_reducible refine Below.alloc ?_ ?_ _); rotate_left; focus (first | omega | (simp; done) | (simp; omega))) | ((with_reducible refine Below.setCell ?_ ?_ _); rotate_left; focus (first | omega | (simp; done) | (simp; omega))) | ((with_reducible refine Below.trans ?_ (Below.mono (by with_reducible assumption) ?_)); rotate_left; focus (first | omega | (simp; done) | (simp; omega))))))); go_split_ands; clear hcc hff hbel))
    refine bodyPost_ret (v := .agg #[.int .u64 (b0), .int .i64 (b1)]) (by simp [results, Try.results22, go_sem, *]) rfl ⟨rfl, (by repeat' (first | with_reducible exact Below.refl _ _ | with_reducible assumption | ((with_reducible refine Below.drew ?_)) | ((with_reducible refine below_drewN ?_ _)) | ((with_reducible refine Below.alloc ?_ ?_ _); rotate_left; focus (first | omega | (simp; done) | (simp; omega))) | ((with_reducible refine Below.setCell ?_ ?_ _); rotate_left; focus (first | omega | (simp; done) | (simp; omega))) | ((with_reducible refine Below.trans ?_ (Below.mono (by with_reducible assumption) ?_)); rotate_left; focus (first | omega | (simp; done) | (simp; omega)))))⟩
  · rw [if_neg h, if_neg h]
    have h' : 0 ≤ x := by omega
    clear h
    go_enter Try.func22, Try.ntmps22
    go_wp2_with (go_at_call 21; ((with_reducible refine (K.out _).mono ?_); rintro e w1 ⟨rfl, hbel⟩; obtain ⟨hcc, hff⟩ := bcell hbel; have hsz := hbel.size; (try simp at hsz); have hF : (w1.cell? ⟨w.heap.size, 0, none⟩ = some (.int .u64 a0) ∧ w1.cell? ⟨w.heap.size, 1, none⟩ = some (.int .i64 a1) ∧ w.heap.size < w1.heap.size) ∧ (w1.cell? ⟨w.heap.size + 1, 0, none⟩ = some (.int .u64 b0) ∧ w1.cell? ⟨w.heap.size + 1, 1, none⟩ = some (.int .i64 b1) ∧ w.heap.size + 1 < w1.heap.size) ∧ (w1.cell? ⟨w.heap.size + 2, 0, none⟩ = some (.int .u64 0) ∧ w1.cell? ⟨w.heap.size + 2, 1, none⟩ = some (.int .i64 0) ∧ w1.frozen? ⟨w.heap.size + 2, 0, none⟩ = false ∧ w1.frozen? ⟨w.heap.size + 2, 1, none⟩ = false ∧ w.heap.size + 2 < w1.heap.size) ∧ Below w.heap.size w w1 := (by ((repeat' apply And.intro) <;> first | (simp [go_sem, *]; done) | omega | (repeat' (first | with_reducible exact Below.refl _ _ | with_reducible assumption | ((with_reducible refine Below.drew ?_)) | ((with_reducible refine below_drewN ?_ _)) | ((with_reducible refine Below.alloc ?_ ?_ _); rotate_left; focus (first | omega | (simp; done) | (simp; omega))) | ((with_reducible refine Below.setCell ?_ ?_ _); rotate_left; focus (first | omega | (simp; done) | (simp; omega))) | ((with_reducible refine Below.trans ?_ (Below.mono (by with_reducible assumption) ?_)); rotate_left; focus (first | omega | (simp; done) | (simp; omega))))))); go_split_ands; clear hcc hff hbel))
    refine bodyPost_ret (v := .agg #[.int .u64 (a0), .int .i64 (a1)]) (by simp [results, Try.results22, go_sem, *]) rfl ⟨rfl, (by repeat' (first | with_reducible exact Below.refl _ _ | with_reducible assumption | ((with_reducible refine Below.drew ?_)) | ((with_reducible refine below_drewN ?_ _)) | ((with_reducible refine Below.alloc ?_ ?_ _); rotate_left; focus (first | omega | (simp; done) | (simp; omega))) | ((with_reducible refine Below.setCell ?_ ?_ _); rotate_left; focus (first | omega | (simp; done) | (simp; omega))) | ((with_reducible refine Below.trans ?_ (Below.mono (by with_reducible assumption) ?_)); rotate_left; focus (first | omega | (simp; done) | (simp; omega)))))⟩

theorem kdue_c (a0 a1 now : Int) (w : World) : Calls Try.prog 23 #[.agg #[.int .u64 (a0), .int .i64 (a1)], .int .u64 now] w fun ee w' => ee = .returned (.bool (kdue a0 now)) ∧ Below w.heap.size w w' := by
  unfold kdue
  by_cases h : a0 ≤ now
  · have e : (decide (a0 ≤ now) && decide (a0 < 9223372036854775808)) = decide (a0 < 9223372036854775808) := by simp [h]
    rw [e]
    clear e
    go_enter Try.func23, Try.ntmps23
    go_wp2
    all_goals (go_ret; refine ⟨?_, ?_⟩; (focus (exact rfl)); ((repeat' (first | with_reducible exact Below.refl _ _ | with_reducible assumption | ((with_reducible refine Below.drew ?_)) | ((with_reducible refine below_drewN ?_ _)) | ((with_reducible refine Below.alloc ?_ ?_ _); rotate_left; focus (first | omega | (simp; done) | (simp; omega))) | ((with_reducible refine Below.setCell ?_ ?_ _); rotate_left; focus (first | omega | (simp; done) | (simp; omega))) | ((with_reducible refine Below.trans ?_ (Below.mono (by with_reducible assumption) ?_)); rotate_left; focus (first | omega | (simp; done) | (simp; omega))))); done))
  · have e : (decide (a0 ≤ now) && decide (a0 < 9223372036854775808)) = false := by simp [h]
    rw [e]
    have h' : now < a0 := by omega
    clear e h
    go_enter Try.func23, Try.ntmps23
    go_wp2
    all_goals (go_ret; refine ⟨?_, ?_⟩; (focus (exact rfl)); ((repeat' (first | with_reducible exact Below.refl _ _ | with_reducible assumption | ((with_reducible refine Below.drew ?_)) | ((with_reducible refine below_drewN ?_ _)) | ((with_reducible refine Below.alloc ?_ ?_ _); rotate_left; focus (first | omega | (simp; done) | (simp; omega))) | ((with_reducible refine Below.setCell ?_ ?_ _); rotate_left; focus (first | omega | (simp; done) | (simp; omega))) | ((with_reducible refine Below.trans ?_ (Below.mono (by with_reducible assumption) ?_)); rotate_left; focus (first | omega | (simp; done) | (simp; omega))))); done))

theorem knev_c (a : Int) (w : World) : Calls Try.prog 24 #[.int .i64 a] w fun ee w' => ee = .returned (.agg #[.int .u64 (9223372036854775808), .int .i64 (a)]) ∧ Below w.heap.size w w' := by
  go_enter Try.func24, Try.ntmps24
  go_wp2
  refine bodyPost_ret (v := .agg #[.int .u64 (9223372036854775808), .int .i64 (a)]) (by simp [results, Try.results24, go_sem, *]) rfl ⟨rfl, (by repeat' (first | with_reducible exact Below.refl _ _ | with_reducible assumption | ((with_reducible refine Below.drew ?_)) | ((with_reducible refine below_drewN ?_ _)) | ((with_reducible refine Below.alloc ?_ ?_ _); rotate_left; focus (first | omega | (simp; done) | (simp; omega))) | ((with_reducible refine Below.setCell ?_ ?_ _); rotate_left; focus (first | omega | (simp; done) | (simp; omega))) | ((with_reducible refine Below.trans ?_ (Below.mono (by with_reducible assumption) ?_)); rotate_left; focus (first | omega | (simp; done) | (simp; omega)))))⟩
end Go.Proofs.Ytldkgnfplldnaaa
