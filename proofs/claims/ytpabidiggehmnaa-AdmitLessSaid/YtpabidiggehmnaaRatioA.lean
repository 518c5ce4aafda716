import Derived.Test.YtpabidiggehmnaaWideA
import Derived.Test.YtpabidiggehmnaaRefA
namespace Go.Proofs.Ytpabidiggehmnaa
set_option linter.unusedVariables false
set_option linter.unusedSimpArgs false
set_option maxRecDepth 100000
open Go.RowKit Fg Reg

theorem in_wf {a : Int} (h : (Lit.int .u64 a).wf = true) : In a := by
  have := bounds_u64 h
  unfold In; omega

end Go.Proofs.Ytpabidiggehmnaa

namespace Go.Proofs.Ytpabidiggehmnaa
set_option linter.unusedVariables false
set_option linter.unusedSimpArgs false
set_option maxRecDepth 100000
open Go.RowKit Fg Reg

end Go.Proofs.Ytpabidiggehmnaa

namespace Go.Proofs.Ytpabidiggehmnaa
set_option linter.unusedVariables false
set_option linter.unusedSimpArgs false
set_option maxRecDepth 100000
open Go.RowKit Fg Reg

theorem wd_quo {A b : Int} (hA : Wd A) (hb : 0 < b) : Wd (A / b) := by
  unfold Wd at *
  refine ⟨Int.ediv_nonneg hA.1 (by omega), ?_⟩
  have := Int.ediv_le_self b hA.1
  omega
theorem low_of_wd {Q : Int} (h : Wd Q) (h0 : hi Q = 0) : lo Q = Q := by unfold Wd at h; unfold hi at h0; unfold lo; omega
theorem val_zero (x : Int) : val 0 x = x := by unfold val; omega
theorem in_rest {A b : Int} (hb : In b) (h0 : 0 < b) : In (A % b) := by
  have h1 := Int.emod_nonneg A (show b ≠ 0 by omega)
  have h2 := Int.emod_lt_of_pos A h0
  unfold In at *; omega

end Go.Proofs.Ytpabidiggehmnaa

namespace Go.Proofs.Ytpabidiggehmnaa
set_option linter.unusedVariables false
set_option linter.unusedSimpArgs false
set_option maxRecDepth 100000
open Go.RowKit Fg Reg

/-- A wide number as one of 64 bits, and why it is not. -/
def nv (Q : Int) : Int := if hi Q = 0 then lo Q else 0
def ne (Q : Int) : Int := if hi Q = 0 then 0 else 20
theorem nv_ok {Q : Int} (h : hi Q = 0) : nv Q = lo Q := if_pos h
theorem ne_ok {Q : Int} (h : hi Q = 0) : ne Q = 0 := if_pos h
theorem nv_no {Q : Int} (h : ¬ hi Q = 0) : nv Q = 0 := if_neg h
theorem ne_no {Q : Int} (h : ¬ hi Q = 0) : ne Q = 20 := if_neg h
/-- The quotient, rounded up. -/
def cl (n d : Int) : Int := if n % d = 0 then n / d else n / d + 1

theorem narrow_c (Q : Int) (w : World) : Calls Try.prog 68 #[.agg #[.int .u64 (hi Q), .int .u64 (lo Q)]] w fun ee w' => ee = .returned (.tuple #[.int .u64 (nv Q), .int .i64 (ne Q)]) ∧ Below w.heap.size w w' := by
  by_cases h : hi Q = 0
  · rw [nv_ok h, ne_ok h, h]
    go_enter Try.func68, Try.ntmps68
    go_wp2
    go_ret2
    exact ⟨rfl, (by repeat' (first | with_reducible exact Below.refl _ _ | with_reducible assumption | ((with_reducible refine Below.drew ?_)) | ((with_reducible refine below_drewN ?_ _)) | ((with_reducible refine Below.alloc ?_ ?_ _); rotate_left; focus (first | omega | (simp; done) | (simp; omega))) | ((with_reducible refine Below.setCell ?_ ?_ _); rotate_left; focus (first | omega | (simp; done) | (simp; omega))) | ((with_reducible refine Below.trans ?_ (Below.mono (by with_reducible assumption) ?_)); rotate_left; focus (first | omega | (simp; done) | (simp; omega)))))⟩
  · rw [nv_no h, ne_no h]
    have h0 : (hi Q == 0) = false := by simpa using h
    clear h
    go_enter Try.func68, Try.ntmps68
    go_wp2
    go_ret2
    exact ⟨rfl, (by repeat' (first | with_reducible exact Below.refl _ _ | with_reducible assumption | ((with_reducible refine Below.drew ?_)) | ((with_reducible refine below_drewN ?_ _)) | ((with_reducible refine Below.alloc ?_ ?_ _); rotate_left; focus (first | omega | (simp; done) | (simp; omega))) | ((with_reducible refine Below.setCell ?_ ?_ _); rotate_left; focus (first | omega | (simp; done) | (simp; omega))) | ((with_reducible refine Below.trans ?_ (Below.mono (by with_reducible assumption) ?_)); rotate_left; focus (first | omega | (simp; done) | (simp; omega)))))⟩

theorem floor_none (a0 a1 : Int) (w : World) : Calls Try.prog 59 #[.agg #[.int .u64 a0, .int .u64 a1], .int .u64 0] w fun ee w' => ee = .returned (.tuple #[.int .u64 (0), .int .i64 (1)]) ∧ Below w.heap.size w w' := by
  go_enter Try.func59, Try.ntmps59
  go_wp2_with (go_at_call 67; ((with_reducible refine (div_none a0 a1 _).mono ?_); rintro e w1 ⟨rfl, hbel⟩; obtain ⟨hcc, hff⟩ := bcell hbel; have hsz := hbel.size; (try simp at hsz); have hF : (w1.cell? ⟨w.heap.size, 0, none⟩ = some (.int .u64 a0) ∧ w1.cell? ⟨w.heap.size, 1, none⟩ = some (.int .u64 a1) ∧ w.heap.size < w1.heap.size) ∧ Below w.heap.size w w1 := (by ((repeat' apply And.intro) <;> first | (simp [go_sem, *]; done) | omega | (repeat' (first | with_reducible exact Below.refl _ _ | with_reducible assumption | ((with_reducible refine Below.drew ?_)) | ((with_reducible refine below_drewN ?_ _)) | ((with_reducible refine Below.alloc ?_ ?_ _); rotate_left; focus (first | omega | (simp; done) | (simp; omega))) | ((with_reducible refine Below.setCell ?_ ?_ _); rotate_left; focus (first | omega | (simp; done) | (simp; omega))) | ((with_reducible refine Below.trans ?_ (Below.mono (by with_reducible assumption) ?_)); rotate_left; focus (first | omega | (simp; done) | (simp; omega))))))); go_split_ands; clear hcc hff hbel))
  go_ret2
  exact ⟨rfl, (by repeat' (first | with_reducible exact Below.refl _ _ | with_reducible assumption | ((with_reducible refine Below.drew ?_)) | ((with_reducible refine below_drewN ?_ _)) | ((with_reducible refine Below.alloc ?_ ?_ _); rotate_left; focus (first | omega | (simp; done) | (simp; omega))) | ((with_reducible refine Below.setCell ?_ ?_ _); rotate_left; focus (first | omega | (simp; done) | (simp; omega))) | ((with_reducible refine Below.trans ?_ (Below.mono (by with_reducible assumption) ?_)); rotate_left; focus (first | omega | (simp; done) | (simp; omega)))))⟩

theorem floor_c (a0 a1 d : Int) (ha0 : In a0) (ha1 : In a1) (hd : In d) (h0 : 1 ≤ d) (w : World) : Calls Try.prog 59 #[.agg #[.int .u64 a0, .int .u64 a1], .int .u64 d] w fun ee w' => ee = .returned (.tuple #[.int .u64 (nv (val a0 a1 / d)), .int .i64 (ne (val a0 a1 / d))]) ∧ Below w.heap.size w w' := by
  go_enter Try.func59, Try.ntmps59
  go_wp2_with (first
    | (go_at_call 67; ((with_reducible refine (div_some a0 a1 d ha0 ha1 hd h0 _).mono ?_); rintro e w1 ⟨rfl, hbel⟩; obtain ⟨hcc, hff⟩ := bcell hbel; have hsz := hbel.size; (try simp at hsz); have hF : (w1.cell? ⟨w.heap.size, 0, none⟩ = some (.int .u64 a0) ∧ w1.cell? ⟨w.heap.size, 1, none⟩ = some (.int .u64 a1) ∧ w.heap.size < w1.heap.size) ∧ Below w.heap.size w w1 := (by ((repeat' apply And.intro) <;> first | (simp [go_sem, *]; done) | omega | (repeat' (first | with_reducible exact Below.refl _ _ | with_reducible assumption | ((with_reducible refine Below.drew ?_)) | ((with_reducible refine below_drewN ?_ _)) | ((with_reducible refine Below.alloc ?_ ?_ _); rotate_left; focus (first | omega | (simp; done) | (simp; omega))) | ((with_reducible refine Below.setCell ?_ ?_ _); rotate_left; focus (first | omega | (simp; done) | (simp; omega))) | ((with_reducible refine Below.trans ?_ (Below.mono (by with_reducible assumption) ?_)); rotate_left; focus (first | omega | (simp; done) | (simp; omega))))))); go_split_ands; clear hcc hff hbel))
    | (go_at_call 68; ((with_reducible refine (narrow_c (val a0 a1 / d) _).mono ?_); rintro e w2 ⟨rfl, hbel⟩; obtain ⟨hcc, hff⟩ := bcell hbel; have hsz := hbel.size; (try simp at hsz); have hF : Below w.heap.size w w2 := (by ((repeat' apply And.intro) <;> first | (simp [go_sem, *]; done) | omega | (repeat' (first | with_reducible exact Below.refl _ _ | with_reducible assumption | ((with_reducible refine Below.drew ?_)) | ((with_reducible refine below_drewN ?_ _)) | ((with_reducible refine Below.alloc ?_ ?_ _); rotate_left; focus (first | omega | (simp; done) | (simp; omega))) | ((with_reducible refine Below.setCell ?_ ?_ _); rotate_left; focus (first | omega | (simp; done) | (simp; omega))) | ((with_reducible refine Below.trans ?_ (Below.mono (by with_reducible assumption) ?_)); rotate_left; focus (first | omega | (simp; done) | (simp; omega))))))); go_split_ands; clear hcc hff hbel)))
  go_ret2
  exact ⟨rfl, (by repeat' (first | with_reducible exact Below.refl _ _ | with_reducible assumption | ((with_reducible refine Below.drew ?_)) | ((with_reducible refine below_drewN ?_ _)) | ((with_reducible refine Below.alloc ?_ ?_ _); rotate_left; focus (first | omega | (simp; done) | (simp; omega))) | ((with_reducible refine Below.setCell ?_ ?_ _); rotate_left; focus (first | omega | (simp; done) | (simp; omega))) | ((with_reducible refine Below.trans ?_ (Below.mono (by with_reducible assumption) ?_)); rotate_left; focus (first | omega | (simp; done) | (simp; omega)))))⟩

theorem wd_mul {a b : Int} (ha : In a) (hb : In b) : Wd (a * b) := by
  have := mpart_in ha hb 4
  rw [mpart_last] at this; exact this
end Go.Proofs.Ytpabidiggehmnaa

namespace Go.Proofs.Ytpabidiggehmnaa
set_option linter.unusedVariables false
set_option linter.unusedSimpArgs false
set_option maxRecDepth 100000
open Go.RowKit Fg Reg

end Go.Proofs.Ytpabidiggehmnaa

namespace Go.Proofs.Ytpabidiggehmnaa
set_option linter.unusedVariables false
set_option linter.unusedSimpArgs false
set_option maxRecDepth 100000
open Go.RowKit Fg Reg

end Go.Proofs.Ytpabidiggehmnaa

namespace Go.Proofs.Ytpabidiggehmnaa
set_option linter.unusedVariables false
set_option linter.unusedSimpArgs false
set_option maxRecDepth 100000
open Go.RowKit Fg Reg

theorem cl_between (n d : Int) : cl n d = n / d ∨ cl n d = n / d + 1 := by unfold cl; split <;> simp
theorem hi_zero {x : Int} (h : Wd x) : hi x = 0 ↔ x ≤ 18446744073709551615 := by unfold Wd at h; unfold hi; omega

end Go.Proofs.Ytpabidiggehmnaa

namespace Go.Proofs.Ytpabidiggehmnaa
set_option linter.unusedVariables false
set_option linter.unusedSimpArgs false
set_option maxRecDepth 100000
open Go.RowKit Fg Reg

theorem cmp_lt' {x y : Int} (h : x < y) : cmp x y = -1 := by unfold cmp; rw [if_neg (by omega), if_pos h]
theorem cmp_gt' {x y : Int} (h : y < x) : cmp x y = 1 := by unfold cmp; rw [if_neg (by omega), if_neg (by omega)]
theorem cmp_self' (x : Int) : cmp x x = 0 := by unfold cmp; rw [if_pos rfl]
theorem cmp_anti (x y : Int) : cmp y x = -cmp x y := by
  unfold cmp; split <;> split <;> (try split) <;> (try split) <;> omega
theorem cmp_cases (x y : Int) : (decide (x < y) = false ∧ decide (y < x) = false ∧ cmp x y = 0) ∨ (decide (x < y) = true ∧ decide (y < x) = false ∧ cmp x y = -1) ∨ (decide (x < y) = false ∧ decide (y < x) = true ∧ cmp x y = 1) := by
  rcases Int.lt_trichotomy x y with h | h | h
  · exact .inr (.inl ⟨by simpa using h, by simp; omega, cmp_lt' h⟩)
  · subst h; exact .inl ⟨by simp, by simp, cmp_self' x⟩
  · exact .inr (.inr ⟨by simp; omega, by simpa using h, cmp_gt' h⟩)

end Go.Proofs.Ytpabidiggehmnaa
