import Derived.Test.YtohdcpkacdaanaaBase
namespace Go.Proofs.Ytohdcpkacdaanaa
set_option linter.unusedVariables false
set_option linter.unusedSimpArgs false
set_option maxRecDepth 100000
open Go.RowKit Fg Reg

/-- A number that is not above a bound, and why it is not. -/
def bv (s m : Int) : Int := if s ≤ m then s else 0
def be (s m : Int) : Int := if s ≤ m then 0 else 20
theorem bv_ok {s m : Int} (h : s ≤ m) : bv s m = s := if_pos h
theorem be_ok {s m : Int} (h : s ≤ m) : be s m = 0 := if_pos h
theorem bv_no {s m : Int} (h : m < s) : bv s m = 0 := if_neg (by omega)
theorem be_no {s m : Int} (h : m < s) : be s m = 20 := if_neg (by omega)

theorem bsub_no (a b : Int) (ha : In a) (hb : In b) (h : a < b) (w : World) : Calls Try.prog 59 #[.int .u64 a, .int .u64 b] w fun ee w' => ee = .returned (.tuple #[.int .u64 (0), .int .i64 (20)]) ∧ w = w' := by
  go_enter Try.func59, Try.ntmps59
  go_wp2
  go_ret2
  exact ⟨rfl, rfl⟩
theorem bsub_ok (a b : Int) (ha : In a) (hb : In b) (h : b ≤ a) (w : World) : Calls Try.prog 59 #[.int .u64 a, .int .u64 b] w fun ee w' => ee = .returned (.tuple #[.int .u64 (a - b), .int .i64 (0)]) ∧ w = w' := by
  have ha' : 0 ≤ a ∧ a ≤ 18446744073709551615 := ha
  have hb' : 0 ≤ b ∧ b ≤ 18446744073709551615 := hb
  go_enter Try.func59, Try.ntmps59
  go_wp2
  go_ret2
  exact ⟨rfl, rfl⟩

theorem mul_gt {a b m : Int} (h0 : 0 < a) : m < a * b ↔ m / a < b := by
  rw [Int.mul_comm, Int.ediv_lt_iff_lt_mul h0]

theorem min_if (l z : Int) : (if z < l then z else l) = min l z := by rw [Int.min_def]; split <;> split <;> omega
/-- The least of numbers, and Never. -/
def lst (zs : List Int) : Int := zs.foldl min 9223372036854775808
theorem lst_snoc (zs : List Int) (x : Int) : lst (zs ++ [x]) = min (lst zs) x := by simp [lst]
theorem lst_nil (w : World) : Calls Try.prog 57 #[.slice none 0 0] w fun ee w' => ee = .returned (.int .u64 9223372036854775808) ∧ w = w' := by
  go_enter Try.func57, Try.ntmps57
  go_wp2_with fail
  refine wp_loop_rounds 1 ?_
  rw [rounds_succ]
  go_wp2
  go_ret
  exact ⟨rfl, rfl⟩
theorem take_snoc' {α : Type} (l : List α) (k : Nat) (h : k < l.length) : l.take (k + 1) = l.take k ++ [l[k]] := by
  rw [List.take_succ_eq_append_getElem h]
set_option maxHeartbeats 1000000 in
theorem lst_c (zs : List Int) (b o c : Nat) (hz : ∀ k (h : k < zs.length), In zs[k]) (hn : zs.length ≤ 4611686018427387904) (w : World) (hc : ∀ k (h : k < zs.length), w.cell? ⟨b, o + k, none⟩ = some (.int .u64 zs[k])) :
    Calls Try.prog 57 #[.slice (some ⟨b, o, none⟩) zs.length c] w fun ee w' => ee = .returned (.int .u64 (lst zs)) ∧ w = w' := by
  go_enter Try.func57, Try.ntmps57
  go_wp2_with fail
  go_loop [3, 8] (fun m i => ∃ k : Nat, k ≤ zs.length ∧ i = .int .i64 k ∧ m = .int .u64 (lst (zs.take k))) (fun _ i => zs.length - (intOf i).toNat)
  case atStart => exact ⟨0, Nat.zero_le _, rfl, rfl⟩
  case round =>
    obtain ⟨k, hk, rfl, rfl⟩ := hrel
    by_cases hlt : k < zs.length
    · have hcell := hc k hlt
      have hs : lst (zs.take (k + 1)) = min (lst (zs.take k)) zs[k] := by rw [take_snoc' _ _ hlt, lst_snoc]
      have Hs := Lib.hid hs
      clear hc hs
      go_wp2
      all_goals
        go_round
        case rel => exact ⟨k + 1, by omega, by go_num, by rw [Hs.out, ← min_if]⟩
        case measure => simp [intOf]; omega
    · obtain rfl : k = zs.length := by omega
      clear hc
      go_wp2
      go_ret
      exact ⟨rfl, rfl⟩
end Go.Proofs.Ytohdcpkacdaanaa
