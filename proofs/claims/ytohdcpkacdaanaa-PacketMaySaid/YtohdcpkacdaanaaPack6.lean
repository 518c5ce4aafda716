import Derived.Test.YtohdcpkacdaanaaPack3b
import Derived.Test.YtohdcpkacdaanaaPack4
import Derived.Test.YtohdcpkacdaanaaPack5
namespace Go.Proofs.Ytohdcpkacdaanaa
set_option linter.unusedVariables false
set_option linter.unusedSimpArgs false
set_option maxRecDepth 100000
open Go.RowKit Fg Reg

theorem s1_eq : strOf (pkb 1 258 2 3 4 5) = (⟨#[0, 0, 0, 0, 0, 0, 0, 1, 1, 2, 0, 2, 0, 3, 0, 4, 0, 5]⟩ : ByteArray) := by decide
theorem one_c (w : World) : Calls Try.prog 16 #[] w fun ee w' => ee = .returned (.bool true) ∧ Below w.heap.size w w' := by
  have h1 := enc_c 1 258 2 3 4 5 (by omega) (by omega) (by omega) (by omega) (by omega) (by omega)
  rw [s1_eq] at h1
  exact one_in (fun w => by kernel_rfl) h1 (dec_in (⟨#[0, 0, 0, 0, 0, 0, 0, 1, 1, 2, 0, 2, 0, 3, 0, 4, 0, 5]⟩ : ByteArray) rfl (fun W => by kernel_rfl) (fun W => by kernel_rfl) (fun W => by kernel_rfl) (fun W => by kernel_rfl) (fun W => by kernel_rfl) (fun W => by kernel_rfl) (fun W => by kernel_rfl) (fun W => by kernel_rfl) (fun W => by kernel_rfl) (fun W => by kernel_rfl) (fun W => by kernel_rfl) (fun W => by kernel_rfl) (fun W => by kernel_rfl) (fun W => by kernel_rfl) (fun W => by kernel_rfl) (fun W => by kernel_rfl) (fun W => by kernel_rfl) (fun W => by kernel_rfl)) (tic_ok 1 258 2 3 4 5 3 (by omega) (by omega)) w
theorem packetMay_law (i n a b c d m t : Int) (w0 : (Lit.int .u64 i).wf = true) (w1 : (Lit.int .i64 n).wf = true) (w2 : (Lit.int .u16 a).wf = true) (w3 : (Lit.int .u16 b).wf = true) (w4 : (Lit.int .u16 c).wf = true) (w5 : (Lit.int .u16 d).wf = true) (w6 : (Lit.int .i64 m).wf = true) (w7 : (Lit.int .i64 t).wf = true) (w : World) :
    Calls Try.prog 5 #[.agg #[.int .u64 i, .int .i64 n, .int .u16 a, .int .u16 b, .int .u16 c, .int .u16 d], .int .i64 m, .int .i64 t] w fun e w' => e = .returned (.bool true) ∧ Below w.heap.size w w' := by
  have hV : mayv n m = if (decide (m < 1) || decide (16384 < m)) = true then 1 else if (decide (n < 1) || decide (m < n)) = true then 26 else 0 := by
    unfold mayv
    by_cases h1 : m < 1 ∨ 16384 < m
    · rw [if_pos h1, if_pos (show (decide (m < 1) || decide (16384 < m)) = true by simpa using h1)]
    · rw [if_neg h1, if_neg (show ¬ (decide (m < 1) || decide (16384 < m)) = true by simpa using h1)]
      by_cases h2 : n < 1 ∨ m < n
      · rw [if_pos h2, if_pos (show (decide (n < 1) || decide (m < n)) = true by simpa using h2)]
      · rw [if_neg h2, if_neg (show ¬ (decide (n < 1) || decide (m < n)) = true by simpa using h2)]
  by_cases h : t < 1 ∨ 65536 < t ∨ n < 1 ∨ 16384 < n
  · have e3 : (decide (t < 1) || decide (65536 < t) || decide (n < 1) || decide (16384 < n)) = true := by simpa [or_assoc] using h
    exact packetMay_in i n a b c d m t _ 0 1 _ _ true one_c rfl rfl e3 hV (.inl ⟨rfl, rfl, rfl⟩) (may_c i n a b c d m) (tic_no i n a b c d t h) w
  · have e3 : (decide (t < 1) || decide (65536 < t) || decide (n < 1) || decide (16384 < n)) = false := by simp; omega
    have hm1 : 0 ≤ n * t := Int.mul_nonneg (by omega) (by omega)
    have hm2 : n * t ≤ 16384 * 65536 := Int.mul_le_mul (by omega) (by omega) (by omega) (by omega)
    exact packetMay_in i n a b c d m t _ (n * t) 0 _ _ false one_c rfl rfl e3 hV (.inr ⟨rfl, rfl, rfl, hm1, hm2, by omega, by omega, by omega, by omega⟩) (may_c i n a b c d m) (tic_ok i n a b c d t (by omega) (by omega)) w
end Go.Proofs.Ytohdcpkacdaanaa
