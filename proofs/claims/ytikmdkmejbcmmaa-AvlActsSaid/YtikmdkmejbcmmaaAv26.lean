/- The reference: Needs. -/
import Derived.Test.YtikmdkmejbcmmaaAv25
namespace Go.Proofs.Ytikmdkmejbcmmaa
set_option linter.unusedVariables false
set_option linter.unusedSimpArgs false
set_option maxRecDepth 100000
open Go.RowKit Fg Reg
attribute [local irreducible] Reg.wE NT

/-- How many items a height needs, and the next one. -/
def nd : Nat → Nat × Nat
  | 0 => (0, 1)
  | k + 1 => ((nd k).2, (nd k).1 + (nd k).2 + 1)
theorem nd_bd : ∀ k, (nd k).1 ≤ 2 ^ k ∧ (nd k).2 ≤ 2 ^ (k + 1)
  | 0 => by simp [nd]
  | k + 1 => by
    obtain ⟨h1, h2⟩ := nd_bd k
    have h3 : 2 ^ (k + 1) = 2 * 2 ^ k := by rw [Nat.pow_succ]; omega
    have h4 : 2 ^ (k + 1 + 1) = 2 * 2 ^ (k + 1) := by rw [Nat.pow_succ]; omega
    have h5 : 1 ≤ 2 ^ k := Nat.one_le_two_pow
    refine ⟨h2, ?_⟩
    show (nd k).1 + (nd k).2 + 1 ≤ _
    omega
theorem nd_mono : ∀ k, (nd k).1 ≤ (nd k).2
  | 0 => by simp [nd]
  | k + 1 => by show (nd k).2 ≤ (nd k).1 + (nd k).2 + 1; omega
theorem nd_le (k : Nat) : ∀ j, (nd k).1 ≤ (nd (k + j)).1
  | 0 => Nat.le_refl _
  | j + 1 => Nat.le_trans (nd_le k j) (nd_mono (k + j))
/-- A balanced tree has as many items as its height needs. -/
theorem nd_bal : ∀ t, bal t → (nd (hgt t)).1 ≤ (tl t).length
  | .nil, _ => by simp [hgt, nd]
  | .node b x l r, ⟨h1, h2, h3, h4⟩ => by
    have il := nd_bal l h3
    have ir := nd_bal r h4
    have hlen : (tl (.node b x l r)).length = (tl l).length + ((tl r).length + 1) := by simp [tl]
    rw [hlen, hgt_node]
    have key : ∀ p q : Nat, p ≤ q + 1 → q ≤ p → (nd (1 + p)).1 ≤ (nd p).1 + ((nd q).1 + 1) := fun p q hpq hqp => by
      rw [Nat.add_comm 1 p]
      show (nd p).2 ≤ _
      cases p with
      | zero => have hq0 : q = 0 := by omega
                subst hq0; simp [nd]
      | succ m =>
        have hm : (nd m).1 ≤ (nd q).1 := by
          have := nd_le m (q - m)
          rwa [show m + (q - m) = q by omega] at this
        show (nd m).1 + (nd m).2 + 1 ≤ (nd m).2 + ((nd q).1 + 1)
        omega
    by_cases h : hgt r ≤ hgt l
    · rw [Nat.max_eq_left h]
      have := key (hgt l) (hgt r) h1 h
      omega
    · rw [Nat.max_eq_right (by omega)]
      have := key (hgt r) (hgt l) h2 (by omega)
      omega
theorem hgt_40 (t : Tr) (hb : bal t) (hl : (tl t).length ≤ 80) : hgt t < 40 := by
  rcases Nat.lt_or_ge (hgt t) 10 with h | h
  · omega
  · have h1 := nd_le 10 (hgt t - 10)
    rw [show 10 + (hgt t - 10) = hgt t by omega] at h1
    have h2 := nd_bal t hb
    have h3 : (nd 10).1 = 143 := by decide
    omega
set_option maxHeartbeats 4000000 in
theorem rneeds_c (h : Nat) (hh : h ≤ 60) (w : World) : Calls Try.prog 58 #[.int .i64 h] w fun ee w' => ee = .returned (.int .i64 ((nd h).1 : Nat)) ∧ Below w.heap.size w w' := by
  go_enter Try.func58, Try.ntmps58
  go_wp2
  go_loopg [7, 3, 4] h (fun k9 s7 s3 s4 wr => ∃ (i : Nat), s7 = .int .i64 i ∧ s3 = .int .i64 ((nd i).1 : Nat) ∧ s4 = .int .i64 ((nd i).2 : Nat) ∧ i ≤ h ∧ h - i ≤ k9 ∧ Below w.heap.size w wr)
  case atStart => exact ⟨0, rfl, rfl, rfl, by omega, by omega, Below.refl _ _⟩
  case round =>
    obtain ⟨i, rfl, rfl, rfl, hi, hk, hB⟩ := hrel
    by_cases hin : i < h
    · obtain ⟨b1, b2⟩ := nd_bd i
      have b3 : 2 ^ (i + 1) ≤ 2 ^ 60 := Nat.pow_le_pow_right (by omega) (by omega)
      have b4 : 2 ^ i ≤ 2 ^ 60 := Nat.pow_le_pow_right (by omega) (by omega)
      have e1 : (nd (i + 1)).1 = (nd i).2 := rfl
      have e2 : (nd (i + 1)).2 = (nd i).1 + (nd i).2 + 1 := rfl
      have HE1 := Lib.hid e1
      have HE2 := Lib.hid e2
      have c1 : (nd i).1 ≤ 1152921504606846976 := Nat.le_trans b1 b4
      have c2 : (nd i).2 ≤ 1152921504606846976 := Nat.le_trans b2 b3
      clear b1 b2 b3 b4 e1 e2
      generalize (nd i).1 = p at *
      generalize (nd i).2 = q at *
      have W1 : IntKind.i64.wrap ((p : Int) + (q : Int)) = (p : Int) + (q : Int) := by rw [IntKind.wrap_i64]; omega
      have W2 : IntKind.i64.wrap ((p : Int) + (q : Int) + 1) = (p : Int) + (q : Int) + 1 := by rw [IntKind.wrap_i64]; omega
      have W4 : IntKind.i64.wrap ((i : Int) + 1) = ((i + 1 : Nat) : Int) := by rw [IntKind.wrap_i64]; omega
      go_wp2
      go_roundg (h - (i + 1))
      case rel => exact ⟨i + 1, by first | rfl | go_num | (congr 1; omega), by rw [HE1.out], by rw [HE2.out]; first | rfl | go_num | (congr 1; omega) | (simp; done), by omega, Nat.le_refl _, hB⟩
      case measure => omega
    · have hie : i = h := by omega
      subst hie
      go_wp2
      go_ret
      exact ⟨rfl, hB⟩
end Go.Proofs.Ytikmdkmejbcmmaa
