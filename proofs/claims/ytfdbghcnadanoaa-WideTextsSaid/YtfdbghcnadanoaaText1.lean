import Derived.Test.YtfdbghcnadanoaaWide4
import Derived.Test.YtfdbghcnadanoaaRef5
import Derived.Test.YtfdbghcnadanoaaMathText
import Derived.Laws.Concat
import Derived.Test.YtfdbghcnadanoaaArrEq
namespace Go.Proofs.Ytfdbghcnadanoaa
set_option linter.unusedVariables false
set_option linter.unusedSimpArgs false
open Go.RowKit Fg Reg

set_option maxHeartbeats 1000000 in
theorem reftext_c (n : Int) (hn : Wd n) (w : World) : Calls Try.prog 27 #[.agg #[.int .u64 (d0 n), .int .u64 (d1 n), .int .u64 (d2 n), .int .u64 (d3 n)]] w fun ee w' => ee = .returned (.string (dec n)) ∧ Below w.heap.size w w' := by
  have i10 : In 10 := by unfold In; omega
  have b0 : 0 ≤ n % 10 ∧ n % 10 ≤ 9 := by omega
  go_enter Try.func27, Try.ntmps27
  go_wp2_with (go_at_call 25; ((with_reducible refine (refquo_c n 10 hn i10 (by omega) _).mono ?_); rintro e w1 ⟨rfl, hbel⟩; obtain ⟨hcc, hff⟩ := bcell hbel; have hsz := hbel.size; (try simp at hsz); have hF : (w1.cell? ⟨w.heap.size, 0, none⟩ = some (.int .u64 (d0 n)) ∧ w1.cell? ⟨w.heap.size, 1, none⟩ = some (.int .u64 (d1 n)) ∧ w1.cell? ⟨w.heap.size, 2, none⟩ = some (.int .u64 (d2 n)) ∧ w1.cell? ⟨w.heap.size, 3, none⟩ = some (.int .u64 (d3 n)) ∧ w.heap.size < w1.heap.size) ∧ Below w.heap.size w w1 := (by ((repeat' apply And.intro) <;> first | (simp [go_sem, *]; done) | omega | (repeat' (first | with_reducible exact Below.refl _ _ | with_reducible assumption | ((with_reducible refine Below.drew ?_)) | ((with_reducible refine below_drewN ?_ _)) | ((with_reducible refine Below.alloc ?_ ?_ _); rotate_left; focus (first | omega | (simp; done) | (simp; omega))) | ((with_reducible refine Below.setCell ?_ ?_ _); rotate_left; focus (first | omega | (simp; done) | (simp; omega))) | ((with_reducible refine Below.trans ?_ (Below.mono (by with_reducible assumption) ?_)); rotate_left; focus (first | omega | (simp; done) | (simp; omega))))))); go_split_ands; clear hcc hff hbel))
  rw [run_dec _ _ 0 1 1 [48 + n % 10] rfl (fun j x hj => by
    match j, hj with
    | 0, hj => obtain rfl := Option.some.inj hj; simp [go_sem])]
  go_wp2_with fail
  have HT := Lib.hid (td_start hn)
  go_loopw [5, 18] (fun s i wr => ∃ (k : Nat) (m : Int) (ds : List Int), i = .int .i64 k ∧ s = .string (strOf ds) ∧ TD n k m ds ∧ (wr.cell? ⟨w1.heap.size, 0, none⟩ = some (.int .u64 (d0 m)) ∧ wr.cell? ⟨w1.heap.size, 1, none⟩ = some (.int .u64 (d1 m)) ∧ wr.cell? ⟨w1.heap.size, 2, none⟩ = some (.int .u64 (d2 m)) ∧ wr.cell? ⟨w1.heap.size, 3, none⟩ = some (.int .u64 (d3 m)) ∧ wr.frozen? ⟨w1.heap.size, 0, none⟩ = false ∧ wr.frozen? ⟨w1.heap.size, 1, none⟩ = false ∧ wr.frozen? ⟨w1.heap.size, 2, none⟩ = false ∧ wr.frozen? ⟨w1.heap.size, 3, none⟩ = false ∧ w1.heap.size < wr.heap.size) ∧ Below w.heap.size w wr) (fun _ i _ => 39 - (intOf i).toNat)
  case atStart => exact ⟨0, _, _, rfl, rfl, HT.out, (by ((repeat' apply And.intro) <;> first | (simp [go_sem, *]; done) | omega | (repeat' (first | with_reducible exact Below.refl _ _ | with_reducible assumption | ((with_reducible refine Below.drew ?_)) | ((with_reducible refine below_drewN ?_ _)) | ((with_reducible refine Below.alloc ?_ ?_ _); rotate_left; focus (first | omega | (simp; done) | (simp; omega))) | ((with_reducible refine Below.setCell ?_ ?_ _); rotate_left; focus (first | omega | (simp; done) | (simp; omega))) | ((with_reducible refine Below.trans ?_ (Below.mono (by with_reducible assumption) ?_)); rotate_left; focus (first | omega | (simp; done) | (simp; omega))))))), (by ((repeat' (first | with_reducible exact Below.refl _ _ | with_reducible assumption | ((with_reducible refine Below.drew ?_)) | ((with_reducible refine below_drewN ?_ _)) | ((with_reducible refine Below.alloc ?_ ?_ _); rotate_left; focus (first | omega | (simp; done) | (simp; omega))) | ((with_reducible refine Below.setCell ?_ ?_ _); rotate_left; focus (first | omega | (simp; done) | (simp; omega))) | ((with_reducible refine Below.trans ?_ (Below.mono (by with_reducible assumption) ?_)); rotate_left; focus (first | omega | (simp; done) | (simp; omega))))); done))⟩
  case round =>
    obtain ⟨k, m, ds, rfl, rfl, T, h1, h2⟩ := hrel
    have hk := td_le T
    have hm := td_wd T
    have HT2 := Lib.hid T
    clear T HT
    by_cases h0 : m = 0
    · subst h0
      have hz0 := fun w => eqDig (x := 0) (y := 0) hm hm w
      have z0 : d0 0 = 0 := rfl
      have z1 : d1 0 = 0 := rfl
      have z2 : d2 0 = 0 := rfl
      have z3 : d3 0 = 0 := rfl
      rw [z0, z1, z2, z3] at h1
      simp only [z0, z1, z2, z3, decide_true] at hz0
      clear z0 z1 z2 z3
      go_wp2
      go_ret
      refine ⟨?_, ?_⟩
      · unfold dec; rw [td_end HT2.out]; rfl
      · ((repeat' (first | with_reducible exact Below.refl _ _ | with_reducible assumption | ((with_reducible refine Below.drew ?_)) | ((with_reducible refine below_drewN ?_ _)) | ((with_reducible refine Below.alloc ?_ ?_ _); rotate_left; focus (first | omega | (simp; done) | (simp; omega))) | ((with_reducible refine Below.setCell ?_ ?_ _); rotate_left; focus (first | omega | (simp; done) | (simp; omega))) | ((with_reducible refine Below.trans ?_ (Below.mono (by with_reducible assumption) ?_)); rotate_left; focus (first | omega | (simp; done) | (simp; omega))))); done)
    · have hz0 : ∀ w, (Op.equalIn 10000 28 (.agg #[.int .u64 (d0 m), .int .u64 (d1 m), .int .u64 (d2 m), .int .u64 (d3 m)]) (.agg #[.int .u64 0, .int .u64 0, .int .u64 0, .int .u64 0])).run Try.prog w = .ok false w := fun w => by
        have h := eqDig (x := m) (y := 0) hm (by unfold Wd; omega) w
        rw [show decide (m = 0) = false by simpa using h0] at h
        exact h
      have b1 : 0 ≤ m % 10 ∧ m % 10 ≤ 9 := by omega
      have hs1 := strOf_size [48 + m % 10]
      have hs2 := strOf_size ds
      have hadd := fun w => run_string_add_sum (P := Try.prog) (w := w) (strOf [48 + m % 10]) (strOf ds) (by rw [hs1, hs2]; simp; omega)
      simp only [strOf_append] at hadd
      have HD := Lib.hid hadd
      clear hadd hs1 hs2
      go_wp2_with (go_at_call 25; ((with_reducible refine (refquo_c m 10 hm i10 (by omega) _).mono ?_); rintro e w2 ⟨rfl, hbel⟩; obtain ⟨hcc, hff⟩ := bcell hbel; have hsz := hbel.size; (try simp at hsz); have hF : (w2.cell? ⟨w1.heap.size, 0, none⟩ = some (.int .u64 (d0 m)) ∧ w2.cell? ⟨w1.heap.size, 1, none⟩ = some (.int .u64 (d1 m)) ∧ w2.cell? ⟨w1.heap.size, 2, none⟩ = some (.int .u64 (d2 m)) ∧ w2.cell? ⟨w1.heap.size, 3, none⟩ = some (.int .u64 (d3 m)) ∧ w2.frozen? ⟨w1.heap.size, 0, none⟩ = false ∧ w2.frozen? ⟨w1.heap.size, 1, none⟩ = false ∧ w2.frozen? ⟨w1.heap.size, 2, none⟩ = false ∧ w2.frozen? ⟨w1.heap.size, 3, none⟩ = false ∧ w1.heap.size < w2.heap.size) ∧ Below w.heap.size w w2 := (by ((repeat' apply And.intro) <;> first | (simp [go_sem, *]; done) | omega | (repeat' (first | with_reducible exact Below.refl _ _ | with_reducible assumption | ((with_reducible refine Below.drew ?_)) | ((with_reducible refine below_drewN ?_ _)) | ((with_reducible refine Below.alloc ?_ ?_ _); rotate_left; focus (first | omega | (simp; done) | (simp; omega))) | ((with_reducible refine Below.setCell ?_ ?_ _); rotate_left; focus (first | omega | (simp; done) | (simp; omega))) | ((with_reducible refine Below.trans ?_ (Below.mono (by with_reducible assumption) ?_)); rotate_left; focus (first | omega | (simp; done) | (simp; omega))))))); go_split_ands; clear hcc hff hbel))
      rw [run_dec _ _ 0 1 1 [48 + m % 10] rfl (fun j x hj => by
        match j, hj with
        | 0, hj => obtain rfl := Option.some.inj hj; simp [go_sem])]
      have hadd := HD.out
      go_wp2
      have HT3 := Lib.hid (td_next HT2.out h0)
      go_roundw
      case rel => exact ⟨k + 1, m / 10, (48 + m % 10) :: ds, (by go_num), rfl, HT3.out, (by ((repeat' apply And.intro) <;> first | (simp [go_sem, *]; done) | omega | (repeat' (first | with_reducible exact Below.refl _ _ | with_reducible assumption | ((with_reducible refine Below.drew ?_)) | ((with_reducible refine below_drewN ?_ _)) | ((with_reducible refine Below.alloc ?_ ?_ _); rotate_left; focus (first | omega | (simp; done) | (simp; omega))) | ((with_reducible refine Below.setCell ?_ ?_ _); rotate_left; focus (first | omega | (simp; done) | (simp; omega))) | ((with_reducible refine Below.trans ?_ (Below.mono (by with_reducible assumption) ?_)); rotate_left; focus (first | omega | (simp; done) | (simp; omega))))))), (by ((repeat' (first | with_reducible exact Below.refl _ _ | with_reducible assumption | ((with_reducible refine Below.drew ?_)) | ((with_reducible refine below_drewN ?_ _)) | ((with_reducible refine Below.alloc ?_ ?_ _); rotate_left; focus (first | omega | (simp; done) | (simp; omega))) | ((with_reducible refine Below.setCell ?_ ?_ _); rotate_left; focus (first | omega | (simp; done) | (simp; omega))) | ((with_reducible refine Below.trans ?_ (Below.mono (by with_reducible assumption) ?_)); rotate_left; focus (first | omega | (simp; done) | (simp; omega))))); done))⟩
      case measure => simp [intOf]; omega
end Go.Proofs.Ytfdbghcnadanoaa
