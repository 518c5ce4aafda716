import Derived.Test.YtohdcpkacdaanaaLink1
namespace Go.Proofs.Ytohdcpkacdaanaa
set_option linter.unusedVariables false
set_option linter.unusedSimpArgs false
set_option maxRecDepth 100000
open Go.RowKit Fg Reg

theorem ih_0 (a b c d : Int) (W : World) : (Instr.index 25 (.agg #[.int .u16 a, .int .u16 b, .int .u16 c, .int .u16 d]) (.int .i64 0)).run Try.prog W = .ok (.int .u16 a) W := by kernel_rfl
theorem ih_1 (a b c d : Int) (W : World) : (Instr.index 25 (.agg #[.int .u16 a, .int .u16 b, .int .u16 c, .int .u16 d]) (.int .i64 1)).run Try.prog W = .ok (.int .u16 b) W := by kernel_rfl
theorem ih_2 (a b c d : Int) (W : World) : (Instr.index 25 (.agg #[.int .u16 a, .int .u16 b, .int .u16 c, .int .u16 d]) (.int .i64 2)).run Try.prog W = .ok (.int .u16 c) W := by kernel_rfl
theorem ih_3 (a b c d : Int) (W : World) : (Instr.index 25 (.agg #[.int .u16 a, .int .u16 b, .int .u16 c, .int .u16 d]) (.int .i64 3)).run Try.prog W = .ok (.int .u16 d) W := by kernel_rfl
theorem if_0 (i n a b c d : Int) (W : World) : (Instr.index 91 (.agg #[.int .u64 i, .int .i64 8, .int .u64 n, .int .i64 2, .int .u64 a, .int .i64 2, .int .u64 b, .int .i64 2, .int .u64 c, .int .i64 2, .int .u64 d, .int .i64 2]) (.int .i64 0)).run Try.prog W = .ok (.agg #[.int .u64 i, .int .i64 8]) W := by kernel_rfl
theorem if_1 (i n a b c d : Int) (W : World) : (Instr.index 91 (.agg #[.int .u64 i, .int .i64 8, .int .u64 n, .int .i64 2, .int .u64 a, .int .i64 2, .int .u64 b, .int .i64 2, .int .u64 c, .int .i64 2, .int .u64 d, .int .i64 2]) (.int .i64 1)).run Try.prog W = .ok (.agg #[.int .u64 n, .int .i64 2]) W := by kernel_rfl
theorem if_2 (i n a b c d : Int) (W : World) : (Instr.index 91 (.agg #[.int .u64 i, .int .i64 8, .int .u64 n, .int .i64 2, .int .u64 a, .int .i64 2, .int .u64 b, .int .i64 2, .int .u64 c, .int .i64 2, .int .u64 d, .int .i64 2]) (.int .i64 2)).run Try.prog W = .ok (.agg #[.int .u64 a, .int .i64 2]) W := by kernel_rfl
theorem if_3 (i n a b c d : Int) (W : World) : (Instr.index 91 (.agg #[.int .u64 i, .int .i64 8, .int .u64 n, .int .i64 2, .int .u64 a, .int .i64 2, .int .u64 b, .int .i64 2, .int .u64 c, .int .i64 2, .int .u64 d, .int .i64 2]) (.int .i64 3)).run Try.prog W = .ok (.agg #[.int .u64 b, .int .i64 2]) W := by kernel_rfl
theorem if_4 (i n a b c d : Int) (W : World) : (Instr.index 91 (.agg #[.int .u64 i, .int .i64 8, .int .u64 n, .int .i64 2, .int .u64 a, .int .i64 2, .int .u64 b, .int .i64 2, .int .u64 c, .int .i64 2, .int .u64 d, .int .i64 2]) (.int .i64 4)).run Try.prog W = .ok (.agg #[.int .u64 c, .int .i64 2]) W := by kernel_rfl
theorem if_5 (i n a b c d : Int) (W : World) : (Instr.index 91 (.agg #[.int .u64 i, .int .i64 8, .int .u64 n, .int .i64 2, .int .u64 a, .int .i64 2, .int .u64 b, .int .i64 2, .int .u64 c, .int .i64 2, .int .u64 d, .int .i64 2]) (.int .i64 5)).run Try.prog W = .ok (.agg #[.int .u64 d, .int .i64 2]) W := by kernel_rfl
set_option maxHeartbeats 4000000 in
theorem cut_c (i n a b c d : Int) (hn : 0 ≤ n ∧ n ≤ 16384) (ha : 0 ≤ a ∧ a ≤ 65535) (hb : 0 ≤ b ∧ b ≤ 65535) (hc : 0 ≤ c ∧ c ≤ 65535) (hd : 0 ≤ d ∧ d ≤ 65535) (w : World) : Calls Try.prog 51 #[.agg #[.int .u64 i, .int .i64 n, .int .u16 a, .int .u16 b, .int .u16 c, .int .u16 d]] w fun ee w' => ee = .returned (.agg #[.int .u64 i, .int .i64 8, .int .u64 n, .int .i64 2, .int .u64 a, .int .i64 2, .int .u64 b, .int .i64 2, .int .u64 c, .int .i64 2, .int .u64 d, .int .i64 2]) ∧ Below w.heap.size w w' := by
  have i0 := ih_0 a b c d
  have i1 := ih_1 a b c d
  have i2 := ih_2 a b c d
  have i3 := ih_3 a b c d
  go_enter Try.func51, Try.ntmps51
  go_wp2
  refine wp_loop_rounds 5 ?_
  rw [rounds_succ]
  go_wp2
  rw [rounds_succ]
  go_wp2
  rw [rounds_succ]
  go_wp2
  rw [rounds_succ]
  go_wp2
  rw [rounds_succ]
  go_wp2
  refine bodyPost_ret (v := .agg #[.int .u64 i, .int .i64 8, .int .u64 n, .int .i64 2, .int .u64 a, .int .i64 2, .int .u64 b, .int .i64 2, .int .u64 c, .int .i64 2, .int .u64 d, .int .i64 2]) (by simp [results, Try.results51, go_sem, *]) rfl ⟨rfl, (by repeat' (first | with_reducible exact Below.refl _ _ | with_reducible assumption | ((with_reducible refine Below.drew ?_)) | ((with_reducible refine below_drewN ?_ _)) | ((with_reducible refine Below.alloc ?_ ?_ _); rotate_left; focus (first | omega | (simp; done) | (simp; omega))) | ((with_reducible refine Below.setCell ?_ ?_ _); rotate_left; focus (first | omega | (simp; done) | (simp; omega))) | ((with_reducible refine Below.trans ?_ (Below.mono (by with_reducible assumption) ?_)); rotate_left; focus (first | omega | (simp; done) | (simp; omega)))))⟩
end Go.Proofs.Ytohdcpkacdaanaa
