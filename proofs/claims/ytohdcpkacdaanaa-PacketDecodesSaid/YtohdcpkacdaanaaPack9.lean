/- The reference's Number and Bytes. -/
import Derived.Test.YtohdcpkacdaanaaPack8
import Derived.Test.YtohdcpkacdaanaaMathA
namespace Go.Proofs.Ytohdcpkacdaanaa
set_option linter.unusedVariables false
set_option linter.unusedSimpArgs false
set_option maxRecDepth 100000
open Go.RowKit Fg Reg
attribute [local irreducible] Reg.wE

set_option maxHeartbeats 2000000 in
theorem num_c (S : ByteArray) (hS : S.size ≤ 8) (w : World) : Calls Try.prog 53 #[.string S] w fun ee w' => ee = .returned (.int .u64 (horn S 0 S.size)) ∧ Below w.heap.size w w' := by
  go_enter Try.func53, Try.ntmps53
  go_wp2_with fail
  go_loopw [3, 7] (fun v ii wr => ∃ k : Nat, k ≤ S.size ∧ ii = .int .i64 k ∧ v = .int .u64 (horn S 0 k) ∧ Below w.heap.size w wr) (fun _ ii _ => S.size - (intOf ii).toNat)
  case atStart => exact ⟨0, Nat.zero_le _, rfl, rfl, Below.refl _ _⟩
  case round =>
    obtain ⟨k, hk, rfl, rfl, hB⟩ := hrel
    by_cases hlt : k < S.size
    · have hv := horn_bd S 0 k
      have hp : (256 : Int) ^ k ≤ 72057594037927936 := by
        rcases k with _ | _ | _ | _ | _ | _ | _ | _ | k <;> first | (exfalso; omega) | decide
      have hxb := byt_bd S k
      have h0 : horn S 0 (k + 1) = horn S 0 k * 256 + byt S k := by
        have : horn S 0 (k + 1) = horn S 0 k * 256 + byt S (0 + k) := rfl
        rw [Nat.zero_add] at this
        exact this
      have hsx : ∀ (h : k < S.size), (S[k]'h).toNat = (S.data[k]?.getD 0).toNat := fun h => by rw [Array.getElem?_eq_getElem (show k < S.data.size from h)]; rfl
      have HH := Lib.hid h0
      clear h0
      unfold byt at hxb HH
      generalize (S.data[k]?.getD 0).toNat = x at hsx hxb HH
      generalize horn S 0 k = y at *
      have hw1 : IntKind.u64.wrap (y * 256) = y * 256 := by rw [wrap_u64]; omega
      have hw2 : IntKind.u64.wrap (y * 256 + x) = y * 256 + x := by rw [wrap_u64]; omega
      clear hp
      go_wp2
      go_roundw
      case rel => exact ⟨k + 1, by omega, by go_num, by rw [HH.out], by assumption⟩
      case measure => simp [intOf]; omega
    · obtain rfl : k = S.size := by omega
      go_wp2
      go_ret
      exact ⟨rfl, hB⟩
/-- The lowest k bytes of a number. -/
def low (v : Int) : Nat → List Int
  | 0 => []
  | k + 1 => (v / 256 ^ k % 256) :: low v k
theorem low_len (v : Int) (k : Nat) : (low v k).length = k := by
  induction k with
  | zero => rfl
  | succ k ih => simp [low, ih]
set_option maxHeartbeats 4000000 in
theorem byt_c (v : Int) (hv : 0 ≤ v ∧ v ≤ 18446744073709551615) (n : Nat) (hn : n ≤ 8) (w : World) : Calls Try.prog 52 #[.int .u64 v, .int .i64 n] w fun ee w' => ee = .returned (.string (strOf (low v n))) ∧ Below w.heap.size w w' := by
  have HCV := Lib.hid (fun (W : World) (b : Nat) (x : Int) (h : W.cell? ⟨b, 0, none⟩ = some (.int .u8 x)) => run_dec18 W b 0 1 1 [x] rfl (fun j y hj => by
    match j, hj with
    | 0, hj => simp at hj; subst hj; simpa using h))
  go_enter Try.func52, Try.ntmps52
  go_wp2_with fail
  go_loopw [0, 5, 7] (fun vv s ii wr => ∃ k : Nat, k ≤ n ∧ ii = .int .i64 k ∧ vv = .int .u64 (v / 256 ^ k) ∧ s = .string (strOf (low v k)) ∧ Below w.heap.size w wr) (fun _ _ ii _ => n - (intOf ii).toNat)
  case atStart => exact ⟨0, Nat.zero_le _, rfl, by simp, rfl, Below.refl _ _⟩
  case round =>
    obtain ⟨k, hk, rfl, rfl, rfl, hB⟩ := hrel
    by_cases hlt : k < n
    · have hsz := hB.size
      have hy0 : 0 ≤ v / 256 ^ k := Int.ediv_nonneg hv.1 (Int.pow_nonneg (by omega))
      have hy1 : v / 256 ^ k ≤ 18446744073709551615 := Int.le_trans (Int.ediv_le_self _ hv.1) hv.2
      have hyd : v / 256 ^ k / 256 = v / 256 ^ (k + 1) := by rw [Int.ediv_ediv_of_nonneg (Int.pow_nonneg (by omega)), Int.pow_succ]
      have HY := Lib.hid hyd
      have hl : low v (k + 1) = [v / 256 ^ k % 256] ++ low v k := rfl
      have HL := Lib.hid hl
      have hll := low_len v k
      clear hyd hl
      generalize v / 256 ^ k = y at *
      generalize low v k = ds at *
      have q1 : y.tmod 256 = y % 256 := Int.tmod_eq_emod_of_nonneg hy0
      have q2 : y.tdiv 256 = y / 256 := Int.tdiv_eq_ediv_of_nonneg hy0
      have hadd := fun w => run_string_add_sum (P := Try.prog) (w := w) (strOf [y % 256]) (strOf ds) (by rw [strOf_size, strOf_size]; simp; omega)
      simp only [strOf_append] at hadd
      have hcv := HCV.out (wr.alloc (.cells #[.int .u8 (y % 256)] 5)) wr.heap.size (y % 256) (by simp [go_sem])
      go_wp2
      go_roundw
      case rel => exact ⟨k + 1, by omega, by go_num, by rw [HY.out], by rw [HL.out]; rfl, by ((repeat' apply And.intro) <;> first | (simp [go_sem, *]; done) | omega | (repeat' (first | with_reducible exact Below.refl _ _ | with_reducible assumption | ((with_reducible refine Below.drew ?_)) | ((with_reducible refine below_drewN ?_ _)) | ((with_reducible refine Below.alloc ?_ ?_ _); rotate_left; focus (first | omega | (simp; done) | (simp; omega))) | ((with_reducible refine Below.setCell ?_ ?_ _); rotate_left; focus (first | omega | (simp; done) | (simp; omega))) | ((with_reducible refine Below.trans ?_ (Below.mono (by with_reducible assumption) ?_)); rotate_left; focus (first | omega | (simp; done) | (simp; omega))))))⟩
      case measure => simp [intOf]; omega
    · obtain rfl : k = n := by omega
      go_wp2
      go_ret
      exact ⟨rfl, hB⟩
end Go.Proofs.Ytohdcpkacdaanaa
