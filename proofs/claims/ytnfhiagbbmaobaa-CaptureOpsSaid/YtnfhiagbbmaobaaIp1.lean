/- ipv4's numbers put together of bytes, and cut into bytes. -/
import Derived.Test.YtnfhiagbbmaobaaIp0
import Derived.Laws.IdiomStrings
import Derived.Deep.OwnRows
namespace Go.Proofs.Ytnfhiagbbmaobaa
set_option linter.unusedVariables false
set_option linter.unusedSimpArgs false
set_option maxRecDepth 100000
open Go.RowKit Fg Reg
attribute [local irreducible] Reg.wE

theorem or_byte {v x : Int} (h0 : 0 ≤ v) (h1 : v < 72057594037927936) (hx : 0 ≤ x ∧ x ≤ 255) : bits .or .u64 (v * 256) x = v * 256 + x := by
  exact bits_join .u64 64 (by decide) (fun n h0 h1 => by rw [wrap_u64]; omega) 8 (v * 256) x (by omega) (by omega) (by omega) (by omega) (by omega) (by omega)
/-- Bytes as a number, the highest first. -/
def hor (f : Nat → Int) : Nat → Int
  | 0 => 0
  | n + 1 => hor f n * 256 + f n
theorem hor_bd {f : Nat → Int} (hf : ∀ j, 0 ≤ f j ∧ f j ≤ 255) (n : Nat) : 0 ≤ hor f n ∧ hor f n < 256 ^ n := by
  induction n with
  | zero => simp [hor]
  | succ n ih =>
    have hb := hf n
    unfold hor
    rw [Int.pow_succ]
    omega
set_option maxHeartbeats 2000000 in
theorem joined_c (f : Nat → Int) (hf : ∀ j, 0 ≤ f j ∧ f j ≤ 255) (b o n cap : Nat) (hn : n ≤ 8) (w : World) (hb : b < w.heap.size) (hc : ∀ j, j < n → w.cell? ⟨b, o + j, none⟩ = some (.int .u8 (f j))) :
    Calls Try.prog 74 #[.slice (some ⟨b, o, none⟩) n cap] w fun ee w' => ee = .returned (.int .u64 (hor f n)) ∧ Below w.heap.size w w' := by
  have HC := Lib.hid hc
  have HF := Lib.hid hf
  clear hc hf
  go_enter Try.func74, Try.ntmps74
  go_wp2_with fail
  go_loopw [3, 8] (fun v ii wr => ∃ k : Nat, k ≤ n ∧ ii = .int .i64 k ∧ v = .int .u64 (hor f k) ∧ Below w.heap.size w wr) (fun _ ii _ => n - (intOf ii).toNat)
  case atStart => exact ⟨0, Nat.zero_le _, rfl, rfl, Below.refl _ _⟩
  case round =>
    obtain ⟨k, hk, rfl, rfl, hB⟩ := hrel
    by_cases hlt : k < n
    · have hv := hor_bd HF.out k
      have hp : (256 : Int) ^ k ≤ 72057594037927936 := by
        rcases k with _ | _ | _ | _ | _ | _ | _ | _ | k <;> first | (exfalso; omega) | decide
      have hxb := HF.out k
      have h0 : hor f (k + 1) = hor f k * 256 + f k := rfl
      have hcx := (hB.cell (p := ⟨b, o + k, none⟩) hb).trans (HC.out k hlt)
      have hor := or_byte hv.1 (by omega) hxb
      have HH := Lib.hid h0
      clear h0
      generalize f k = x at *
      generalize Go.Proofs.Ytnfhiagbbmaobaa.hor f k = y at *
      have hw1 : IntKind.u64.wrap (y * 256) = y * 256 := by rw [wrap_u64]; omega
      have hw2 : IntKind.u64.wrap x = x := by rw [wrap_u64]; omega
      have hbs := hB.size
      clear hp
      go_wp2
      go_roundw
      case rel => exact ⟨k + 1, by omega, by go_num, by rw [HH.out], by assumption⟩
      case measure => simp [intOf]; omega
    · obtain rfl : k = n := by omega
      go_wp2
      go_ret
      exact ⟨rfl, hB⟩
/-- A row of so many bytes in memory. -/
def BR (w : World) (b n : Nat) (f : Nat → Int) : Prop := b < w.heap.size ∧ ∀ j, j < n → w.cell? ⟨b, j, none⟩ = some (.int .u8 (f j))
def by1 (v : Int) : List Int := [v % 256]
def by2 (v : Int) : List Int := [v / 256 % 256, v % 256]
def by4 (v : Int) : List Int := [v / 16777216 % 256, v / 65536 % 256, v / 256 % 256, v % 256]
theorem make1 (W : World) : (Instr.makeSlice 43 (.int .i64 1) (.int .i64 1)).run Try.prog W = .ok (.slice (some ⟨W.heap.size, 0, none⟩) 1 1) (W.alloc (.cells #[.int .u8 0] 5)) := by
  have h := run_make_row' (P := Try.prog) 43 5 (.int .u8 0) 1 Try.underlying43 (by kernel_rfl) rfl .i64 .i64 1 (by omega) (by omega) W
  rw [show madeCells #[Value.int .u8 0] 1 = #[.int .u8 0] by kernel_rfl] at h
  exact h
set_option maxHeartbeats 2000000 in
theorem cut1_c (v : Int) (hv : 0 ≤ v ∧ v ≤ 18446744073709551615) (w : World) : Calls Try.prog 50 #[.int .u64 v, .int .i64 1] w (fun ee w' => ∃ b, ee = .returned (.slice (some ⟨b, 0, none⟩) 1 1) ∧ w.heap.size ≤ b ∧ BR w' b 1 (fun j => (by1 v : List Int).getD j 0) ∧ Below w.heap.size w w') := by
  have hmk := make1
  go_enter Try.func50, Try.ntmps50
  go_wp2
  refine wp_loop_rounds 2 ?_
  rw [rounds_succ]
  go_wp2
  rw [rounds_succ]
  go_wp2
  go_ret
  refine ⟨_, rfl, Nat.le_refl _, ⟨by simp, fun j hj => ?_⟩, (by repeat' (first | with_reducible exact Below.refl _ _ | with_reducible assumption | ((with_reducible refine Below.drew ?_)) | ((with_reducible refine below_drewN ?_ _)) | ((with_reducible refine Below.alloc ?_ ?_ _); rotate_left; focus (first | omega | (simp; done) | (simp; omega))) | ((with_reducible refine Below.setCell ?_ ?_ _); rotate_left; focus (first | omega | (simp; done) | (simp; omega))) | ((with_reducible refine Below.trans ?_ (Below.mono (by with_reducible assumption) ?_)); rotate_left; focus (first | omega | (simp; done) | (simp; omega)))))⟩
  rcases j with _ | j <;> first | (exfalso; omega) | simp [go_sem, by1]
theorem make2 (W : World) : (Instr.makeSlice 43 (.int .i64 2) (.int .i64 2)).run Try.prog W = .ok (.slice (some ⟨W.heap.size, 0, none⟩) 2 2) (W.alloc (.cells #[.int .u8 0, .int .u8 0] 5)) := by
  have h := run_make_row' (P := Try.prog) 43 5 (.int .u8 0) 1 Try.underlying43 (by kernel_rfl) rfl .i64 .i64 2 (by omega) (by omega) W
  rw [show madeCells #[Value.int .u8 0] 2 = #[.int .u8 0, .int .u8 0] by kernel_rfl] at h
  exact h
set_option maxHeartbeats 2000000 in
theorem cut2_c (v : Int) (hv : 0 ≤ v ∧ v ≤ 18446744073709551615) (w : World) : Calls Try.prog 50 #[.int .u64 v, .int .i64 2] w (fun ee w' => ∃ b, ee = .returned (.slice (some ⟨b, 0, none⟩) 2 2) ∧ w.heap.size ≤ b ∧ BR w' b 2 (fun j => (by2 v : List Int).getD j 0) ∧ Below w.heap.size w w') := by
  have hmk := make2
  go_enter Try.func50, Try.ntmps50
  go_wp2
  refine wp_loop_rounds 3 ?_
  rw [rounds_succ]
  go_wp2
  rw [rounds_succ]
  go_wp2
  rw [rounds_succ]
  go_wp2
  go_ret
  refine ⟨_, rfl, Nat.le_refl _, ⟨by simp, fun j hj => ?_⟩, (by repeat' (first | with_reducible exact Below.refl _ _ | with_reducible assumption | ((with_reducible refine Below.drew ?_)) | ((with_reducible refine below_drewN ?_ _)) | ((with_reducible refine Below.alloc ?_ ?_ _); rotate_left; focus (first | omega | (simp; done) | (simp; omega))) | ((with_reducible refine Below.setCell ?_ ?_ _); rotate_left; focus (first | omega | (simp; done) | (simp; omega))) | ((with_reducible refine Below.trans ?_ (Below.mono (by with_reducible assumption) ?_)); rotate_left; focus (first | omega | (simp; done) | (simp; omega)))))⟩
  rcases j with _ | _ | j <;> first | (exfalso; omega) | simp [go_sem, by2]
theorem make4 (W : World) : (Instr.makeSlice 43 (.int .i64 4) (.int .i64 4)).run Try.prog W = .ok (.slice (some ⟨W.heap.size, 0, none⟩) 4 4) (W.alloc (.cells #[.int .u8 0, .int .u8 0, .int .u8 0, .int .u8 0] 5)) := by
  have h := run_make_row' (P := Try.prog) 43 5 (.int .u8 0) 1 Try.underlying43 (by kernel_rfl) rfl .i64 .i64 4 (by omega) (by omega) W
  rw [show madeCells #[Value.int .u8 0] 4 = #[.int .u8 0, .int .u8 0, .int .u8 0, .int .u8 0] by kernel_rfl] at h
  exact h
set_option maxHeartbeats 2000000 in
theorem cut4_c (v : Int) (hv : 0 ≤ v ∧ v ≤ 18446744073709551615) (w : World) : Calls Try.prog 50 #[.int .u64 v, .int .i64 4] w (fun ee w' => ∃ b, ee = .returned (.slice (some ⟨b, 0, none⟩) 4 4) ∧ w.heap.size ≤ b ∧ BR w' b 4 (fun j => (by4 v : List Int).getD j 0) ∧ Below w.heap.size w w') := by
  have hmk := make4
  go_enter Try.func50, Try.ntmps50
  go_wp2
  refine wp_loop_rounds 5 ?_
  rw [rounds_succ]
  go_wp2
  rw [rounds_succ]
  go_wp2
  rw [rounds_succ]
  go_wp2
  rw [rounds_succ]
  go_wp2
  rw [rounds_succ]
  go_wp2
  go_ret
  refine ⟨_, rfl, Nat.le_refl _, ⟨by simp, fun j hj => ?_⟩, (by repeat' (first | with_reducible exact Below.refl _ _ | with_reducible assumption | ((with_reducible refine Below.drew ?_)) | ((with_reducible refine below_drewN ?_ _)) | ((with_reducible refine Below.alloc ?_ ?_ _); rotate_left; focus (first | omega | (simp; done) | (simp; omega))) | ((with_reducible refine Below.setCell ?_ ?_ _); rotate_left; focus (first | omega | (simp; done) | (simp; omega))) | ((with_reducible refine Below.trans ?_ (Below.mono (by with_reducible assumption) ?_)); rotate_left; focus (first | omega | (simp; done) | (simp; omega)))))⟩
  rcases j with _ | _ | _ | _ | j <;> first | (exfalso; omega) | simp [go_sem, by4]
end Go.Proofs.Ytnfhiagbbmaobaa
