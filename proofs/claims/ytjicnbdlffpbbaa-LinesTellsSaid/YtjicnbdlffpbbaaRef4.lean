import Derived.Test.YtjicnbdlffpbbaaRef3
import Derived.Test.YtjicnbdlffpbbaaMathQuo
namespace Go.Proofs.Ytjicnbdlffpbbaa
set_option linter.unusedVariables false
set_option linter.unusedSimpArgs false
set_option maxRecDepth 100000
open Go.RowKit Fg Reg

set_option maxHeartbeats 1000000 in
theorem refbit_0 (x : Int) (i j : Nat) (hj : j < 32) (hi : i = 0 + j) (w : World) : Calls Try.prog 107 #[.agg #[.int .u64 (d0 x), .int .u64 (d1 x), .int .u64 (d2 x), .int .u64 (d3 x)], .int .i64 i] w fun e w' => e = .returned (.int .u64 (d0 x / 2 ^ j % 2)) ∧ Below w.heap.size w w' := by
  have e1 : (i : Int) / 32 = 0 := by omega
  have e2 : (i : Int) % 32 = (j : Int) := by omega
  have b1 : (0 : Int) ≤ i ∧ (i : Int) ≤ 127 := by omega
  have b2 := d0_in x
  clear hi
  go_enter Try.func107, Try.ntmps107
  go_wp2_with fail
  go_loop [5, 12] (fun v c => ∃ m : Nat, m ≤ j ∧ c = .int .i64 m ∧ v = .int .u64 (d0 x / 2 ^ m)) (fun _ c => j - (intOf c).toNat)
  case atStart => exact ⟨0, by omega, rfl, by simp⟩
  case round =>
    obtain ⟨m, hm, rfl, rfl⟩ := hrel
    have b3 := half_in b2 m
    have b4 := half_in b2 j
    have b5 := Lib.hid (half_again (d0 x) m)
    by_cases hlt : m < j
    · go_wp2
      go_round
      case rel => exact ⟨m + 1, by omega, by go_num, by rw [← b5.out]⟩
      case measure => simp [intOf]; omega
    · obtain rfl : m = j := by omega
      go_wp2
      go_ret
      exact ⟨rfl, (by repeat' (first | with_reducible exact Below.refl _ _ | with_reducible assumption | ((with_reducible refine Below.drew ?_)) | ((with_reducible refine below_drewN ?_ _)) | ((with_reducible refine Below.alloc ?_ ?_ _); rotate_left; focus (first | omega | (simp; done) | (simp; omega))) | ((with_reducible refine Below.setCell ?_ ?_ _); rotate_left; focus (first | omega | (simp; done) | (simp; omega))) | ((with_reducible refine Below.trans ?_ (Below.mono (by with_reducible assumption) ?_)); rotate_left; focus (first | omega | (simp; done) | (simp; omega)))))⟩

set_option maxHeartbeats 1000000 in
theorem refbit_1 (x : Int) (i j : Nat) (hj : j < 32) (hi : i = 32 + j) (w : World) : Calls Try.prog 107 #[.agg #[.int .u64 (d0 x), .int .u64 (d1 x), .int .u64 (d2 x), .int .u64 (d3 x)], .int .i64 i] w fun e w' => e = .returned (.int .u64 (d1 x / 2 ^ j % 2)) ∧ Below w.heap.size w w' := by
  have e1 : (i : Int) / 32 = 1 := by omega
  have e2 : (i : Int) % 32 = (j : Int) := by omega
  have b1 : (0 : Int) ≤ i ∧ (i : Int) ≤ 127 := by omega
  have b2 := d1_in x
  clear hi
  go_enter Try.func107, Try.ntmps107
  go_wp2_with fail
  go_loop [5, 12] (fun v c => ∃ m : Nat, m ≤ j ∧ c = .int .i64 m ∧ v = .int .u64 (d1 x / 2 ^ m)) (fun _ c => j - (intOf c).toNat)
  case atStart => exact ⟨0, by omega, rfl, by simp⟩
  case round =>
    obtain ⟨m, hm, rfl, rfl⟩ := hrel
    have b3 := half_in b2 m
    have b4 := half_in b2 j
    have b5 := Lib.hid (half_again (d1 x) m)
    by_cases hlt : m < j
    · go_wp2
      go_round
      case rel => exact ⟨m + 1, by omega, by go_num, by rw [← b5.out]⟩
      case measure => simp [intOf]; omega
    · obtain rfl : m = j := by omega
      go_wp2
      go_ret
      exact ⟨rfl, (by repeat' (first | with_reducible exact Below.refl _ _ | with_reducible assumption | ((with_reducible refine Below.drew ?_)) | ((with_reducible refine below_drewN ?_ _)) | ((with_reducible refine Below.alloc ?_ ?_ _); rotate_left; focus (first | omega | (simp; done) | (simp; omega))) | ((with_reducible refine Below.setCell ?_ ?_ _); rotate_left; focus (first | omega | (simp; done) | (simp; omega))) | ((with_reducible refine Below.trans ?_ (Below.mono (by with_reducible assumption) ?_)); rotate_left; focus (first | omega | (simp; done) | (simp; omega)))))⟩

set_option maxHeartbeats 1000000 in
theorem refbit_2 (x : Int) (i j : Nat) (hj : j < 32) (hi : i = 64 + j) (w : World) : Calls Try.prog 107 #[.agg #[.int .u64 (d0 x), .int .u64 (d1 x), .int .u64 (d2 x), .int .u64 (d3 x)], .int .i64 i] w fun e w' => e = .returned (.int .u64 (d2 x / 2 ^ j % 2)) ∧ Below w.heap.size w w' := by
  have e1 : (i : Int) / 32 = 2 := by omega
  have e2 : (i : Int) % 32 = (j : Int) := by omega
  have b1 : (0 : Int) ≤ i ∧ (i : Int) ≤ 127 := by omega
  have b2 := d2_in x
  clear hi
  go_enter Try.func107, Try.ntmps107
  go_wp2_with fail
  go_loop [5, 12] (fun v c => ∃ m : Nat, m ≤ j ∧ c = .int .i64 m ∧ v = .int .u64 (d2 x / 2 ^ m)) (fun _ c => j - (intOf c).toNat)
  case atStart => exact ⟨0, by omega, rfl, by simp⟩
  case round =>
    obtain ⟨m, hm, rfl, rfl⟩ := hrel
    have b3 := half_in b2 m
    have b4 := half_in b2 j
    have b5 := Lib.hid (half_again (d2 x) m)
    by_cases hlt : m < j
    · go_wp2
      go_round
      case rel => exact ⟨m + 1, by omega, by go_num, by rw [← b5.out]⟩
      case measure => simp [intOf]; omega
    · obtain rfl : m = j := by omega
      go_wp2
      go_ret
      exact ⟨rfl, (by repeat' (first | with_reducible exact Below.refl _ _ | with_reducible assumption | ((with_reducible refine Below.drew ?_)) | ((with_reducible refine below_drewN ?_ _)) | ((with_reducible refine Below.alloc ?_ ?_ _); rotate_left; focus (first | omega | (simp; done) | (simp; omega))) | ((with_reducible refine Below.setCell ?_ ?_ _); rotate_left; focus (first | omega | (simp; done) | (simp; omega))) | ((with_reducible refine Below.trans ?_ (Below.mono (by with_reducible assumption) ?_)); rotate_left; focus (first | omega | (simp; done) | (simp; omega)))))⟩

set_option maxHeartbeats 1000000 in
theorem refbit_3 (x : Int) (i j : Nat) (hj : j < 32) (hi : i = 96 + j) (w : World) : Calls Try.prog 107 #[.agg #[.int .u64 (d0 x), .int .u64 (d1 x), .int .u64 (d2 x), .int .u64 (d3 x)], .int .i64 i] w fun e w' => e = .returned (.int .u64 (d3 x / 2 ^ j % 2)) ∧ Below w.heap.size w w' := by
  have e1 : (i : Int) / 32 = 3 := by omega
  have e2 : (i : Int) % 32 = (j : Int) := by omega
  have b1 : (0 : Int) ≤ i ∧ (i : Int) ≤ 127 := by omega
  have b2 := d3_in x
  clear hi
  go_enter Try.func107, Try.ntmps107
  go_wp2_with fail
  go_loop [5, 12] (fun v c => ∃ m : Nat, m ≤ j ∧ c = .int .i64 m ∧ v = .int .u64 (d3 x / 2 ^ m)) (fun _ c => j - (intOf c).toNat)
  case atStart => exact ⟨0, by omega, rfl, by simp⟩
  case round =>
    obtain ⟨m, hm, rfl, rfl⟩ := hrel
    have b3 := half_in b2 m
    have b4 := half_in b2 j
    have b5 := Lib.hid (half_again (d3 x) m)
    by_cases hlt : m < j
    · go_wp2
      go_round
      case rel => exact ⟨m + 1, by omega, by go_num, by rw [← b5.out]⟩
      case measure => simp [intOf]; omega
    · obtain rfl : m = j := by omega
      go_wp2
      go_ret
      exact ⟨rfl, (by repeat' (first | with_reducible exact Below.refl _ _ | with_reducible assumption | ((with_reducible refine Below.drew ?_)) | ((with_reducible refine below_drewN ?_ _)) | ((with_reducible refine Below.alloc ?_ ?_ _); rotate_left; focus (first | omega | (simp; done) | (simp; omega))) | ((with_reducible refine Below.setCell ?_ ?_ _); rotate_left; focus (first | omega | (simp; done) | (simp; omega))) | ((with_reducible refine Below.trans ?_ (Below.mono (by with_reducible assumption) ?_)); rotate_left; focus (first | omega | (simp; done) | (simp; omega)))))⟩


theorem refbit_c (x : Int) (i : Nat) (hi : i < 128) (w : World) : Calls Try.prog 107 #[.agg #[.int .u64 (d0 x), .int .u64 (d1 x), .int .u64 (d2 x), .int .u64 (d3 x)], .int .i64 i] w fun e w' => e = .returned (.int .u64 (x / 2 ^ i % 2)) ∧ Below w.heap.size w w' := by
  obtain ⟨j, hj, h⟩ : ∃ j, j < 32 ∧ (i = 0 + j ∨ i = 32 + j ∨ i = 64 + j ∨ i = 96 + j) := ⟨i % 32, by omega, by omega⟩
  have hd := dig_bits x j hj
  rcases h with h | h | h | h
  · have := refbit_0 x i j hj h w
    rw [hd.1] at this; rw [Nat.zero_add] at h; rw [h] at this ⊢; exact this
  · have := refbit_1 x i j hj h w
    rw [hd.2.1] at this; rw [h] at this ⊢; exact this
  · have := refbit_2 x i j hj h w
    rw [hd.2.2.1] at this; rw [h] at this ⊢; exact this
  · have := refbit_3 x i j hj h w
    rw [hd.2.2.2] at this; rw [h] at this ⊢; exact this
end Go.Proofs.Ytjicnbdlffpbbaa
