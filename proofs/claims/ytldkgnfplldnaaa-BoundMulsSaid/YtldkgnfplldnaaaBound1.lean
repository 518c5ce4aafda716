import Derived.Test.YtldkgnfplldnaaaBase
namespace Go.Proofs.Ytldkgnfplldnaaa
set_option linter.unusedVariables false
set_option linter.unusedSimpArgs false
open Go.RowKit Fg Reg

/-- A number that is not above a bound, and why it is not. -/
def bv (s m : Int) : Int := if s ≤ m then s else 0
def be (s m : Int) : Int := if s ≤ m then 0 else 20
theorem bv_ok {s m : Int} (h : s ≤ m) : bv s m = s := if_pos h
theorem be_ok {s m : Int} (h : s ≤ m) : be s m = 0 := if_pos h
theorem bv_no {s m : Int} (h : m < s) : bv s m = 0 := if_neg (by omega)
theorem be_no {s m : Int} (h : m < s) : be s m = 20 := if_neg (by omega)

theorem badd_c (a b m : Int) (ha : In a) (hb : In b) (hm : In m) (w : World) : Calls Try.prog 13 #[.int .u64 a, .int .u64 b, .int .u64 m] w fun ee w' => ee = .returned (.tuple #[.int .u64 (bv (a + b) m), .int .i64 (be (a + b) m)]) ∧ w = w' := by
  have ha' : 0 ≤ a ∧ a ≤ 18446744073709551615 := ha
  have hb' : 0 ≤ b ∧ b ≤ 18446744073709551615 := hb
  have hm' : 0 ≤ m ∧ m ≤ 18446744073709551615 := hm
  by_cases h : a + b ≤ m
  · rw [bv_ok h, be_ok h]
    have h1 : a ≤ m := by omega
    have h2 : b ≤ m - a := by omega
    go_enter Try.func13, Try.ntmps13
    go_wp2
    go_ret2
    exact ⟨rfl, rfl⟩
  · rw [bv_no (by omega), be_no (by omega)]
    by_cases h1 : m < a
    · go_enter Try.func13, Try.ntmps13
      go_wp2
      go_ret2
      exact ⟨rfl, rfl⟩
    · have h1' : a ≤ m := by omega
      have h2 : m - a < b := by omega
      clear h h1
      go_enter Try.func13, Try.ntmps13
      go_wp2
      go_ret2
      exact ⟨rfl, rfl⟩

theorem bsub_no (a b : Int) (ha : In a) (hb : In b) (h : a < b) (w : World) : Calls Try.prog 15 #[.int .u64 a, .int .u64 b] w fun ee w' => ee = .returned (.tuple #[.int .u64 (0), .int .i64 (20)]) ∧ w = w' := by
  go_enter Try.func15, Try.ntmps15
  go_wp2
  go_ret2
  exact ⟨rfl, rfl⟩
theorem bsub_ok (a b : Int) (ha : In a) (hb : In b) (h : b ≤ a) (w : World) : Calls Try.prog 15 #[.int .u64 a, .int .u64 b] w fun ee w' => ee = .returned (.tuple #[.int .u64 (a - b), .int .i64 (0)]) ∧ w = w' := by
  have ha' : 0 ≤ a ∧ a ≤ 18446744073709551615 := ha
  have hb' : 0 ≤ b ∧ b ≤ 18446744073709551615 := hb
  go_enter Try.func15, Try.ntmps15
  go_wp2
  go_ret2
  exact ⟨rfl, rfl⟩

theorem mul_gt {a b m : Int} (h0 : 0 < a) : m < a * b ↔ m / a < b := by
  rw [Int.mul_comm, Int.ediv_lt_iff_lt_mul h0]

theorem bmul_c (a b m : Int) (ha : In a) (hb : In b) (hm : In m) (w : World) : Calls Try.prog 17 #[.int .u64 a, .int .u64 b, .int .u64 m] w fun ee w' => ee = .returned (.tuple #[.int .u64 (bv (a * b) m), .int .i64 (be (a * b) m)]) ∧ w = w' := by
  have ha' : 0 ≤ a ∧ a ≤ 18446744073709551615 := ha
  have hb' : 0 ≤ b ∧ b ≤ 18446744073709551615 := hb
  have hm' : 0 ≤ m ∧ m ≤ 18446744073709551615 := hm
  by_cases h0 : a = 0
  · subst h0
    rw [Int.zero_mul, bv_ok hm.1, be_ok hm.1]
    go_enter Try.func17, Try.ntmps17
    go_wp2
    go_ret2
    simp [wrap_u64]
  · have h1 : 0 < a := by omega
    have h1' : (a == 0) = false := by simpa using h0
    have h1'' : (a != 0) = true := by simpa using h0
    by_cases h : a * b ≤ m
    · rw [bv_ok h, be_ok h]
      have h2 : b ≤ m / a := by
        rcases Int.lt_or_le (m / a) b with h' | h'
        · have := (mul_gt h1).2 h'; omega
        · exact h'
      have h3 : 0 ≤ a * b := Int.mul_nonneg ha.1 hb.1
      have h4 : IntKind.u64.wrap (a * b) = a * b := by rw [wrap_u64]; omega
      clear h0
      go_enter Try.func17, Try.ntmps17
      go_wp2
      go_ret2
      exact ⟨rfl, rfl⟩
    · have h' : m < a * b := by omega
      rw [bv_no h', be_no h']
      have h2 : m / a < b := (mul_gt h1).1 h'
      clear h0 h h'
      go_enter Try.func17, Try.ntmps17
      go_wp2
      go_ret2
      exact ⟨rfl, rfl⟩

theorem bclock_ok (a b : Int) (ha : In a) (hb : In b) (h : a + b ≤ 4611686018427387904) (w : World) : Calls Try.prog 18 #[.int .u64 a, .int .u64 b] w fun ee w' => ee = .returned (.tuple #[.int .u64 (a + b), .int .i64 (0)]) ∧ w = w' := by
  have k := fun w => badd_c a b 4611686018427387904 ha hb (by unfold In; omega) w
  rw [bv_ok h, be_ok h] at k
  have K := Lib.hid k
  clear k
  go_enter Try.func18, Try.ntmps18
  go_wp2_with (go_at_call 13; refine (K.out _).mono ?_; rintro e w' ⟨rfl, rfl⟩)
  go_ret2
  exact ⟨rfl, rfl⟩
theorem bclock_no (a b : Int) (ha : In a) (hb : In b) (h : 4611686018427387904 < a + b) (w : World) : Calls Try.prog 18 #[.int .u64 a, .int .u64 b] w fun ee w' => ee = .returned (.tuple #[.int .u64 (0), .int .i64 (27)]) ∧ w = w' := by
  have k := fun w => badd_c a b 4611686018427387904 ha hb (by unfold In; omega) w
  rw [bv_no h, be_no h] at k
  have K := Lib.hid k
  clear k
  go_enter Try.func18, Try.ntmps18
  go_wp2_with (go_at_call 13; refine (K.out _).mono ?_; rintro e w' ⟨rfl, rfl⟩)
  go_ret2
  exact ⟨rfl, rfl⟩

theorem min_if (l z : Int) : (if z < l then z else l) = min l z := by rw [Int.min_def]; split <;> split <;> omega
/-- The least of numbers, and Never. -/
def lst (zs : List Int) : Int := zs.foldl min 9223372036854775808
theorem lst_snoc (zs : List Int) (x : Int) : lst (zs ++ [x]) = min (lst zs) x := by simp [lst]
theorem lst_nil (w : World) : Calls Try.prog 19 #[.slice none 0 0] w fun ee w' => ee = .returned (.int .u64 9223372036854775808) ∧ w = w' := by
  go_enter Try.func19, Try.ntmps19
  go_wp2_with fail
  refine wp_loop_rounds 1 ?_
  rw [rounds_succ]
  go_wp2
  go_ret
  exact ⟨rfl, rfl⟩
theorem take_snoc' {α : Type} (l : List α) (k : Nat) (h : k < l.length) : l.take (k + 1) = l.take k ++ [l[k]] := by
  rw [List.take_succ_eq_append_getElem h]
set_option maxHeartbeats 1000000 in
theorem lst_c (zs : List Int) (b o c : Nat) (hz : ∀ k (h : k < zs.length), In zs[k]) (hn : zs.length ≤ 4611686018427387904) (w : World) (hc : ∀ k (h : k < zs.length), w.cell? ⟨b, o + k, none⟩ = some (.int .u64 zs[k])) :
    Calls Try.prog 19 #[.slice (some ⟨b, o, none⟩) zs.length c] w fun ee w' => ee = .returned (.int .u64 (lst zs)) ∧ w = w' := by
  go_enter Try.func19, Try.ntmps19
  go_wp2_with fail
  go_loop [3, 8] (fun m i => ∃ k : Nat, k ≤ zs.length ∧ i = .int .i64 k ∧ m = .int .u64 (lst (zs.take k))) (fun _ i => zs.length - (intOf i).toNat)
  case atStart => exact ⟨0, Nat.zero_le _, rfl, rfl⟩
  case round =>
    obtain ⟨k, hk, rfl, rfl⟩ := hrel
    by_cases hlt : k < zs.length
    · have hcell := hc k hlt
      have hs : lst (zs.take (k + 1)) = min (lst (zs.take k)) zs[k] := by rw [take_snoc' _ _ hlt, lst_snoc]
      have Hs := Lib.hid hs
      clear hc hs
      go_wp2
      all_goals
        go_round
        case rel => exact ⟨k + 1, by omega, by go_num, by rw [Hs.out, ← min_if]⟩
        case measure => simp [intOf]; omega
    · obtain rfl : k = zs.length := by omega
      clear hc
      go_wp2
      go_ret
      exact ⟨rfl, rfl⟩
end Go.Proofs.Ytldkgnfplldnaaa
