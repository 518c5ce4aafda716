/- flow.Key: the plain mathematics: exclusive or, ports, the key of a text. -/
import Derived.Test.YtnfhiagbbmaobaaIp14
import Derived.Test.YtnfhiagbbmaobaaIp9
namespace Go.Proofs.Ytnfhiagbbmaobaa
set_option linter.unusedVariables false
set_option linter.unusedSimpArgs false
set_option maxRecDepth 100000
open Go.RowKit Fg Reg

/-- Exclusive or of two numbers. -/
def xr (a b : Int) : Int := ((a.toNat ^^^ b.toNat : Nat) : Int)
theorem xr_bd {a b : Int} (ha : 0 ≤ a ∧ a < 65536) (hb : 0 ≤ b ∧ b < 65536) : 0 ≤ xr a b ∧ xr a b < 65536 := by
  have h : a.toNat ^^^ b.toNat < 2 ^ 16 := Nat.xor_lt_two_pow (by omega) (by omega)
  unfold xr; omega
theorem xr_comm (a b : Int) : xr a b = xr b a := by unfold xr; rw [Nat.xor_comm]
theorem xr_assoc (a b c : Int) : xr (xr a b) c = xr a (xr b c) := by unfold xr; rw [Int.toNat_natCast, Int.toNat_natCast, Nat.xor_assoc]
theorem bits_xor16 {a b : Int} (ha : 0 ≤ a ∧ a < 65536) (hb : 0 ≤ b ∧ b < 65536) : bits .xor .u16 a b = xr a b := by
  obtain ⟨x, rfl⟩ := Int.eq_ofNat_of_zero_le ha.1
  obtain ⟨y, rfl⟩ := Int.eq_ofNat_of_zero_le hb.1
  have hx : x ^^^ y < 2 ^ 16 := Nat.xor_lt_two_pow (by omega) (by omega)
  have h1 : (BitVec.ofInt 16 (x : Int)).toNat = x := by
    rw [BitVec.ofInt_natCast, BitVec.toNat_ofNat]; exact Nat.mod_eq_of_lt (by omega)
  have h2 : (BitVec.ofInt 16 (y : Int)).toNat = y := by
    rw [BitVec.ofInt_natCast, BitVec.toNat_ofNat]; exact Nat.mod_eq_of_lt (by omega)
  have hw : ∀ n : Int, IntKind.u16.wrap n = n % 65536 := fun n => by simp [IntKind.wrap, IntKind.bits, IntKind.signed]
  show IntKind.u16.wrap ((BitVec.ofInt 16 (x : Int) ^^^ BitVec.ofInt 16 (y : Int)).toNat : Int) = _
  rw [BitVec.toNat_xor, h1, h2, hw]
  unfold xr
  rw [Int.toNat_natCast, Int.toNat_natCast]
  omega
/-- One bit more of an exclusive or. -/
theorem xr_bit (a b : Int) (ha : 0 ≤ a) (hb : 0 ≤ b) (k : Nat) : xr (a % 2 ^ (k + 1)) (b % 2 ^ (k + 1)) = xr (a % 2 ^ k) (b % 2 ^ k) + (if a / 2 ^ k % 2 = b / 2 ^ k % 2 then 0 else 2 ^ k) := by
  obtain ⟨x, rfl⟩ := Int.eq_ofNat_of_zero_le ha
  obtain ⟨y, rfl⟩ := Int.eq_ofNat_of_zero_le hb
  have e1 : ∀ (z j : Nat), ((z : Int) % 2 ^ j) = ((z % 2 ^ j : Nat) : Int) := fun z j => by simp
  have e2 : ∀ (z j : Nat), ((z : Int) / 2 ^ j % 2) = ((z / 2 ^ j % 2 : Nat) : Int) := fun z j => by simp
  rw [e1, e1, e1, e1, e2, e2]
  unfold xr
  simp only [Int.toNat_natCast]
  rw [← Nat.xor_mod_two_pow, ← Nat.xor_mod_two_pow]
  have hsp : (x ^^^ y) % 2 ^ (k + 1) = (x ^^^ y) % 2 ^ k + 2 ^ k * ((x ^^^ y) / 2 ^ k % 2) := Nat.mod_pow_succ
  rw [hsp, Nat.xor_div_two_pow]
  have hm : (x / 2 ^ k ^^^ y / 2 ^ k) % 2 = if x / 2 ^ k % 2 = y / 2 ^ k % 2 then 0 else 1 := by
    have := Nat.xor_mod_two_pow (a := x / 2 ^ k) (b := y / 2 ^ k) (n := 1)
    rw [Nat.pow_one] at this
    rw [this]
    rcases Nat.mod_two_eq_zero_or_one (x / 2 ^ k) with h1 | h1 <;> rcases Nat.mod_two_eq_zero_or_one (y / 2 ^ k) with h2 | h2 <;> rw [h1, h2] <;> rfl
  rw [hm]
  by_cases h : x / 2 ^ k % 2 = y / 2 ^ k % 2
  · rw [if_pos h, if_pos (by exact_mod_cast h)]; simp
  · rw [if_neg h, if_neg (by exact_mod_cast h)]; simp
/-- Why bytes are no datagram. -/
def kbad (S : ByteArray) : Int :=
  if S.size < 20 then 3 else if byt S 0 < 69 ∨ 79 < byt S 0 ∨ nat S 2 2 < (byt S 0 - 64) * 4 then 4 else if (S.size : Int) < nat S 2 2 then 3 else if nat S 2 2 < (S.size : Int) then 2
  else if nat S 10 2 ≠ 65535 - sumb (zeroed (S.extract 0 (hlen S))) then 7 else 0
theorem kbad_val (S : ByteArray) : kbad S = 0 ∨ kbad S = 2 ∨ kbad S = 3 ∨ kbad S = 4 ∨ kbad S = 7 := by
  unfold kbad; (repeat' split) <;> simp
theorem kbad_ok {S : ByteArray} (h : kbad S = 0) : 20 ≤ S.size ∧ (69 ≤ byt S 0 ∧ byt S 0 ≤ 79 ∧ (byt S 0 - 64) * 4 ≤ nat S 2 2) ∧ nat S 2 2 = (S.size : Int) ∧ nat S 10 2 = 65535 - sumb (zeroed (S.extract 0 (hlen S))) := by
  unfold kbad at h
  split at h
  · omega
  split at h
  · omega
  split at h
  · omega
  split at h
  · omega
  split at h
  · omega
  rename_i h1 h2 h3 h4 h5
  exact ⟨by omega, ⟨by omega, by omega, by omega⟩, by omega, Decidable.not_not.1 h5⟩
/-- Does a datagram tell ports? -/
def hasp (S : ByteArray) : Prop := (byt S 9 = 6 ∨ byt S 9 = 17) ∧ offs (nat S 6 2) = 0 ∧ hlen S + 4 ≤ S.size
instance (S : ByteArray) : Decidable (hasp S) := by unfold hasp; exact inferInstance
def k0 (S : ByteArray) : Int := byt S 9 * 256 + byt S 1 / 4
def k1 (S : ByteArray) : Int := if hasp S then nat S (hlen S) 2 else 0
def k2 (S : ByteArray) : Int := if hasp S then nat S (hlen S + 2) 2 else 0
def mix (x y : Int) : Int := xr (xr (xr (x / 65536) (x % 65536)) (y / 65536)) (y % 65536)
def k3 (S : ByteArray) : Int := mix (nat S 12 4) (nat S 16 4)
theorem mix_bd {x y : Int} (hx : 0 ≤ x ∧ x < 4294967296) (hy : 0 ≤ y ∧ y < 4294967296) : 0 ≤ mix x y ∧ mix x y < 65536 :=
  xr_bd (xr_bd (xr_bd (by omega) (by omega)) (by omega)) (by omega)
theorem mix_swap (x y : Int) : mix x y = mix y x := by
  unfold mix
  rw [xr_assoc (xr (x / 65536) (x % 65536)), xr_assoc (xr (y / 65536) (y % 65536)), xr_comm]
end Go.Proofs.Ytnfhiagbbmaobaa
