/- floodgateref16.under is the bits that both have. -/
import Derived.Test.YtkbglhkhhoakgaaBaseA
namespace Go.Proofs.Ytkbglhkhhoakgaa
set_option linter.unusedVariables false
set_option linter.unusedSimpArgs false
set_option maxRecDepth 100000
open Go.RowKit Fg Reg
attribute [local irreducible] Reg.wE

theorem and_bit (v m k : Nat) : (v &&& m) / 2 ^ k % 2 = if v / 2 ^ k % 2 = 1 ∧ m / 2 ^ k % 2 = 1 then 1 else 0 := by
  have h := Nat.testBit_and v m k
  rw [Nat.testBit_eq_decide_div_mod_eq, Nat.testBit_eq_decide_div_mod_eq, Nat.testBit_eq_decide_div_mod_eq] at h
  have h1 := Nat.mod_lt (v / 2 ^ k) (show 0 < 2 by decide)
  have h2 := Nat.mod_lt (m / 2 ^ k) (show 0 < 2 by decide)
  have h3 := Nat.mod_lt ((v &&& m) / 2 ^ k) (show 0 < 2 by decide)
  by_cases c1 : v / 2 ^ k % 2 = 1 <;> by_cases c2 : m / 2 ^ k % 2 = 1 <;> simp [c1, c2] at h ⊢ <;> omega
theorem and_succ (v m k : Nat) : (v &&& m) % 2 ^ (k + 1) = (v &&& m) % 2 ^ k + if v / 2 ^ k % 2 = 1 ∧ m / 2 ^ k % 2 = 1 then 2 ^ k else 0 := by
  rw [Nat.mod_pow_succ, and_bit]
  split <;> simp
set_option maxHeartbeats 4000000 in
theorem und_c (v m : Nat) (hv : v < 65536) (hm : m < 65536) (w : World) : Calls Try.prog 53 #[.int .u16 v, .int .u16 m] w fun ee w' => ee = .returned (.int .u16 ((v &&& m : Nat) : Int)) ∧ Below w.heap.size w w' := by
  have HS := Lib.hid (and_succ v m)
  have HA := Lib.hid (show (v &&& m) % 2 ^ 16 = v &&& m from Nat.mod_eq_of_lt (Nat.lt_of_le_of_lt Nat.and_le_left hv))
  go_enter Try.func53, Try.ntmps53
  go_wp2_with fail
  go_loopw [5, 6, 7] (fun o bb i wr => ∃ k : Nat, k < 16 ∧ i = .int .i64 k ∧ bb = .int .u16 ((2 ^ k : Nat) : Int) ∧ o = .int .u16 (((v &&& m) % 2 ^ k : Nat) : Int) ∧ Below w.heap.size w wr) (fun _ _ i _ => 16 - (intOf i).toNat)
  case atStart => exact ⟨0, by omega, rfl, rfl, by simp [Nat.mod_one], Below.refl _ _⟩
  case round =>
    obtain ⟨k, hk, rfl, rfl, rfl, hB⟩ := hrel
    have hp : 0 < 2 ^ k := Nat.two_pow_pos k
    have hs := HS.out k
    generalize hB2 : (2 ^ k : Nat) = B at hp hs
    have hB0 : ¬ ((B : Int) = 0) := by omega
    have qd : ∀ x : Nat, x < 65536 → ∀ b : Bool, decide (x / B % 2 = 1) = b → ((IntKind.u16.wrap ((x : Int) / (B : Int))).tmod 2 == 1) = b := fun x hx b hb => by
      have hle := Nat.div_le_self x B
      have q0 : ((x : Int) / (B : Int)) = ((x / B : Nat) : Int) := (Int.natCast_ediv x B).symm
      rw [q0, ← hb]
      generalize x / B = n at hle
      have q1 : IntKind.u16.wrap (n : Int) = (n : Int) := by rw [IntKind.wrap_u16]; omega
      rw [q1, Int.tmod_eq_emod_of_nonneg (by omega)]
      by_cases h : n % 2 = 1
      · have : (n : Int) % 2 = 1 := by omega
        rw [this]; simp [h]
      · have : (n : Int) % 2 = 0 := by omega
        rw [this]; simp [h]
    obtain ⟨b1, hb1⟩ : ∃ b1, decide (v / B % 2 = 1) = b1 := ⟨_, rfl⟩
    obtain ⟨b2, hb2⟩ : ∃ b2, decide (m / B % 2 = 1) = b2 := ⟨_, rfl⟩
    have t1 := qd v hv b1 hb1
    have t2 := qd m hm b2 hb2
    have hs2 : (v &&& m) % 2 ^ (k + 1) = (v &&& m) % B + if (b1 && b2) = true then B else 0 := by
      rw [hs, ← hb1, ← hb2]; simp
    have hlt : (v &&& m) % B < B := Nat.mod_lt _ hp
    have hBle : B ≤ 32768 := by
      rw [← hB2]
      exact Nat.le_trans (Nat.pow_le_pow_right (by decide) (show k ≤ 15 by omega)) (by decide)
    have a4 : (((v &&& m : Nat) : Int) % (B : Int)) = (((v &&& m) % B : Nat) : Int) := (Int.natCast_emod (v &&& m) B).symm
    have W4 : IntKind.u16.wrap (((v &&& m : Nat) : Int) % (B : Int) + (B : Int)) = (((v &&& m) % B + B : Nat) : Int) := by
      rw [IntKind.wrap_u16, a4]
      generalize (v &&& m) % B = r at hlt
      omega
    clear a4
    have hpk : 2 ^ (k + 1) = B * 2 := by rw [← hB2, Nat.pow_succ]
    have HN := Lib.hid hs2
    have HPK := Lib.hid hpk
    clear hs hs2 qd hb1 hb2 hpk
    by_cases hk15 : k = 15
    · have W3 : IntKind.u16.wrap ((B : Int) * 2) = 0 := by subst hk15; rw [IntKind.wrap_u16, ← hB2]; decide
      have HA2 := Lib.hid (show (v &&& m) % 2 ^ (k + 1) = v &&& m by rw [hk15]; exact HA.out)
      have HE : RowKit.Hid (v &&& m = (v &&& m) % B + if (b1 && b2) = true then B else 0) := Lib.hid (by rw [← HN.out]; exact HA2.out.symm)
      cases b1 <;> cases b2 <;> (go_wp2; go_ret; refine ⟨?_, hB⟩; rw [show Value.int IntKind.u16 ((v &&& m : Nat) : Int) = Value.int IntKind.u16 (((v &&& m) % B + if (_ && _) = true then B else 0 : Nat) : Int) from congrArg (fun n : Nat => Value.int IntKind.u16 (n : Int)) HE.out]; simp)
    · have W3 : IntKind.u16.wrap ((B : Int) * 2) = (B : Int) * 2 := by
        have hB4 : B ≤ 16384 := by
          rw [← hB2]
          exact Nat.le_trans (Nat.pow_le_pow_right (by decide) (show k ≤ 14 by omega)) (by decide)
        rw [IntKind.wrap_u16]; omega
      have d1 : ((B : Int) * 2 == 0) = false := by simp; omega
      cases b1 <;> cases b2
      all_goals
        go_wp2
        go_roundw
        case rel => exact ⟨k + 1, by omega, by go_num, by rw [HPK.out]; simp, by rw [HN.out]; simp, hB⟩
        case measure => simp [intOf]; omega
end Go.Proofs.Ytkbglhkhhoakgaa
