/- Rates and times out of text, as numbers. Nothing of the program is imported here. -/
import Derived.Test.YtdiniaokkdcihaaDoorTx0
import Derived.Lib.Strings
namespace Go.Proofs.YtdiniaokkdcihaaDoor
set_option linter.unusedVariables false
set_option linter.unusedSimpArgs false
set_option maxRecDepth 100000
namespace Fg
def gL : List UInt8 := [103, 98, 105, 116]
def mL : List UInt8 := [109, 98, 105, 116]
def kL : List UInt8 := [107, 98, 105, 116]
def bL : List UInt8 := [98, 105, 116]
def sL : List UInt8 := [115]
def msL : List UInt8 := [109, 115]
def usL : List UInt8 := [117, 115]
theorem suf_iff (l p : List UInt8) : Lib.hasSuffix l p = true ↔ p <:+ l := by unfold Lib.hasSuffix; rw [List.isSuffixOf_iff_suffix]
theorem suf_one {l p q : List UInt8} (hp : Lib.hasSuffix l p = true) (hl : p.length = q.length) (hne : p ≠ q) : Lib.hasSuffix l q = false := by
  rw [Bool.eq_false_iff]; intro hq
  rw [suf_iff] at hp hq
  exact hne ((List.suffix_of_suffix_length_le hp hq (by omega)).eq_of_length hl)
theorem suf_part {l p q : List UInt8} (hp : Lib.hasSuffix l p = true) (hq : Lib.hasSuffix p q = true) : Lib.hasSuffix l q = true := by
  rw [suf_iff] at *
  exact hq.trans hp
theorem suf_not {l p q : List UInt8} (hp : Lib.hasSuffix l q = false) (hq : Lib.hasSuffix p q = true) : Lib.hasSuffix l p = false := by
  rw [Bool.eq_false_iff] at *
  intro h; exact hp (suf_part h hq)
/-- Which word a rate ends with: 0 to 3; 4: none. -/
def rsel (l : List UInt8) : Nat := if Lib.hasSuffix l gL then 0 else if Lib.hasSuffix l mL then 1 else if Lib.hasSuffix l kL then 2 else if Lib.hasSuffix l bL then 3 else 4
theorem rsel_facts (l : List UInt8) : (rsel l = 0 ∧ Lib.hasSuffix l gL = true ∧ Lib.hasSuffix l mL = false ∧ Lib.hasSuffix l kL = false ∧ Lib.hasSuffix l bL = true) ∨ (rsel l = 1 ∧ Lib.hasSuffix l gL = false ∧ Lib.hasSuffix l mL = true ∧ Lib.hasSuffix l kL = false ∧ Lib.hasSuffix l bL = true) ∨
    (rsel l = 2 ∧ Lib.hasSuffix l gL = false ∧ Lib.hasSuffix l mL = false ∧ Lib.hasSuffix l kL = true ∧ Lib.hasSuffix l bL = true) ∨ (rsel l = 3 ∧ Lib.hasSuffix l gL = false ∧ Lib.hasSuffix l mL = false ∧ Lib.hasSuffix l kL = false ∧ Lib.hasSuffix l bL = true) ∨
    (rsel l = 4 ∧ Lib.hasSuffix l gL = false ∧ Lib.hasSuffix l mL = false ∧ Lib.hasSuffix l kL = false ∧ Lib.hasSuffix l bL = false) := by
  unfold rsel
  cases h0 : Lib.hasSuffix l gL with
  | true => exact .inl ⟨by simp, rfl, suf_one h0 rfl (by decide), suf_one h0 rfl (by decide), suf_part h0 (by decide)⟩
  | false =>
    cases h1 : Lib.hasSuffix l mL with
    | true => exact .inr (.inl ⟨by simp, rfl, rfl, suf_one h1 rfl (by decide), suf_part h1 (by decide)⟩)
    | false =>
      cases h2 : Lib.hasSuffix l kL with
      | true => exact .inr (.inr (.inl ⟨by simp, rfl, rfl, rfl, suf_part h2 (by decide)⟩))
      | false =>
        cases h3 : Lib.hasSuffix l bL with
        | true => exact .inr (.inr (.inr (.inl ⟨by simp, rfl, rfl, rfl, rfl⟩)))
        | false => exact .inr (.inr (.inr (.inr ⟨by simp, rfl, rfl, rfl, rfl⟩)))
/-- Which word a time ends with: 0 to 2; 3: none. -/
def tsel (l : List UInt8) : Nat := if Lib.hasSuffix l usL then 2 else if Lib.hasSuffix l msL then 1 else if Lib.hasSuffix l sL then 0 else 3
theorem tsel_facts (l : List UInt8) : (tsel l = 0 ∧ Lib.hasSuffix l sL = true ∧ Lib.hasSuffix l msL = false ∧ Lib.hasSuffix l usL = false) ∨ (tsel l = 1 ∧ Lib.hasSuffix l sL = true ∧ Lib.hasSuffix l msL = true ∧ Lib.hasSuffix l usL = false) ∨
    (tsel l = 2 ∧ Lib.hasSuffix l sL = true ∧ Lib.hasSuffix l msL = false ∧ Lib.hasSuffix l usL = true) ∨ (tsel l = 3 ∧ Lib.hasSuffix l sL = false ∧ Lib.hasSuffix l msL = false ∧ Lib.hasSuffix l usL = false) := by
  unfold tsel
  cases h2 : Lib.hasSuffix l usL with
  | true => exact .inr (.inr (.inl ⟨by simp, suf_part h2 (by decide), suf_one h2 rfl (by decide), rfl⟩))
  | false =>
    cases h1 : Lib.hasSuffix l msL with
    | true => exact .inr (.inl ⟨by simp, suf_part h1 (by decide), rfl, rfl⟩)
    | false =>
      cases h0 : Lib.hasSuffix l sL with
      | true => exact .inl ⟨by simp, rfl, rfl, rfl⟩
      | false => exact .inr (.inr (.inr ⟨by simp, rfl, rfl, rfl⟩))
/-- The number ahead of a word of so many signs, times something, with a bound. -/
def amE (l : List UInt8) (n : Nat) (times most : Int) : Int := if numE (l.take (l.length - n)) most = 0 then (if most / times < numV (l.take (l.length - n)) most then 20 else 0) else numE (l.take (l.length - n)) most
def amV (l : List UInt8) (n : Nat) (times most : Int) : Int := if amE l n times most = 0 then numV (l.take (l.length - n)) most * times else 0
def rlen : Nat → Nat | 0 => 4 | 1 => 4 | 2 => 4 | _ => 3
def rtim : Nat → Int | 0 => 1000000000 | 1 => 1000000 | 2 => 1000 | _ => 1
def tlen : Nat → Nat | 0 => 1 | _ => 2
def ttim : Nat → Int | 0 => 1000000 | 1 => 1000 | _ => 1
def ratE0 (l : List UInt8) : Int := if rsel l = 4 then 4 else amE l (rlen (rsel l)) (rtim (rsel l)) 1000000000000
def ratV0 (l : List UInt8) : Int := if rsel l = 4 then 0 else amV l (rlen (rsel l)) (rtim (rsel l)) 1000000000000
def ratE (l : List UInt8) : Int := if ratE0 l = 0 ∧ ratV0 l = 0 then 1 else ratE0 l
def ratV (l : List UInt8) : Int := if ratE0 l = 0 ∧ ratV0 l = 0 then 0 else ratV0 l
def timE (l : List UInt8) : Int := if tsel l = 3 then 4 else amE l (tlen (tsel l)) (ttim (tsel l)) 1000000000
def timV (l : List UInt8) : Int := if tsel l = 3 then 0 else amV l (tlen (tsel l)) (ttim (tsel l)) 1000000000
theorem am_cases (l : List UInt8) (n : Nat) (times most : Int) (ht : 0 < times) (hm : 0 ≤ most) (hM : most < 18446744073709551616) (v e : Int) (hv : numV (l.take (l.length - n)) most = v) (he : numE (l.take (l.length - n)) most = e) :
    (¬ e = 0 ∧ amE l n times most = e ∧ amV l n times most = 0) ∨ (e = 0 ∧ most / times < v ∧ amE l n times most = 20 ∧ amV l n times most = 0) ∨ (e = 0 ∧ v ≤ most / times ∧ amE l n times most = 0 ∧ amV l n times most = v * times ∧ 0 ≤ v ∧ v * times ≤ most) := by
  unfold amV amE
  rw [hv, he]
  by_cases h0 : e = 0
  · by_cases h1 : most / times < v
    · exact .inr (.inl ⟨h0, h1, by rw [if_pos h0, if_pos h1], by rw [if_pos h0, if_pos h1]; rfl⟩)
    · refine .inr (.inr ⟨h0, by omega, by rw [if_pos h0, if_neg h1], by rw [if_pos h0, if_neg h1]; rfl, ?_, ?_⟩)
      · have := num_back (l.take (l.length - n)) most (by rw [he, h0])
        rw [hv] at this; exact this.2.1
      · have h2 : v ≤ most / times := by omega
        have h3 := Int.mul_le_mul_of_nonneg_right h2 (Int.le_of_lt ht)
        have h4 := Int.ediv_mul_le most (Int.ne_of_gt ht)
        omega
  · refine .inl ⟨h0, by rw [if_neg h0], by rw [if_neg h0, if_neg h0]⟩
end Fg
end Go.Proofs.YtdiniaokkdcihaaDoor
