/- Numbers as text: digits, and what they come to. Nothing of the program is imported here. -/
import Derived.Test.YtdiniaokkdcihaaDoorMathA
import Derived.Lib.ItoaNum
import Derived.Laws.RangeString
namespace Go.Proofs.YtdiniaokkdcihaaDoor
set_option linter.unusedVariables false
set_option linter.unusedSimpArgs false
set_option maxRecDepth 100000
namespace Fg
def isd (b : UInt8) : Bool := decide (48 ≤ b.toNat) && decide (b.toNat ≤ 57)
def dval (l : List UInt8) : Nat := l.foldl (fun a b => 10 * a + (b.toNat - 48)) 0
theorem dval_snoc (l : List UInt8) (b : UInt8) : dval (l ++ [b]) = 10 * dval l + (b.toNat - 48) := by simp [dval]
theorem dval_nil : dval [] = 0 := rfl
theorem dval_app (l m : List UInt8) : dval l ≤ dval (l ++ m) := by
  induction m generalizing l with
  | nil => simp
  | cons b m ih =>
    rw [show l ++ b :: m = (l ++ [b]) ++ m by simp]
    refine Nat.le_trans ?_ (ih (l ++ [b]))
    rw [dval_snoc]; omega
theorem dval_take (l : List UInt8) (i : Nat) : dval (l.take i) ≤ dval l := by
  have := dval_app (l.take i) (l.drop i)
  rwa [List.take_append_drop] at this
theorem dval_step (l : List UInt8) (i : Nat) (h : i < l.length) : dval (l.take (i + 1)) = 10 * dval (l.take i) + (l[i].toNat - 48) := by
  rw [List.take_succ_eq_append_getElem h, dval_snoc]
theorem dval_dec (u : Nat) : dval (Lib.decDigits u) = u := by
  induction u using Nat.strongRecOn with
  | _ u ih =>
    by_cases h : u < 10
    · rw [Lib.decDigits, dif_pos h]
      simp [dval, UInt8.toNat_ofNat']
      omega
    · rw [Lib.decDigits, dif_neg h, dval_snoc, ih (u / 10) (by omega)]
      simp [UInt8.toNat_ofNat']
      omega
theorem dec_all (u : Nat) : (Lib.decDigits u).all isd = true := by
  induction u using Nat.strongRecOn with
  | _ u ih =>
    by_cases h : u < 10
    · rw [Lib.decDigits, dif_pos h]
      simp [isd, UInt8.toNat_ofNat']
      omega
    · rw [Lib.decDigits, dif_neg h, List.all_append, ih (u / 10) (by omega)]
      simp [isd, UInt8.toNat_ofNat']
      omega
theorem dec_ne (u : Nat) : Lib.decDigits u ≠ [] := by
  intro h
  have := Lib.decDigits_length u
  have h1 := Lib.nDigits_pos u
  rw [h] at this; simp at this; omega
theorem head_app {l : List UInt8} (m : List UInt8) (h : l ≠ []) : (l ++ m).head? = l.head? := by
  cases l with
  | nil => exact absurd rfl h
  | cons a l => rfl
theorem dec_head (u : Nat) (h : 10 ≤ u) : (Lib.decDigits u).head? ≠ some 48 := by
  induction u using Nat.strongRecOn with
  | _ u ih =>
    rw [Lib.decDigits, dif_neg (by omega), head_app _ (dec_ne _)]
    by_cases h2 : u / 10 < 10
    · rw [Lib.decDigits, dif_pos h2]
      simp
      intro e
      have := congrArg UInt8.toNat e
      simp [UInt8.toNat_ofNat'] at this
      omega
    · exact ih (u / 10) (by omega) (by omega)
theorem isd_iff (b : UInt8) : isd b = true ↔ 48 ≤ b.toNat ∧ b.toNat ≤ 57 := by simp [isd]
/-- Digits without a 0 ahead are the number's own. -/
theorem dec_dval (l : List UInt8) (hn : l ≠ []) (hd : l.all isd = true) (h0 : l.head? = some 48 → l.length = 1) : Lib.decDigits (dval l) = l := by
  obtain ⟨n, hlen⟩ : ∃ n, l.length = n := ⟨_, rfl⟩
  induction n generalizing l with
  | zero => exact absurd (List.eq_nil_of_length_eq_zero hlen) hn
  | succ n ih =>
    rcases List.eq_nil_or_concat l with rfl | ⟨m, b, rfl⟩
    · exact absurd rfl hn
    · simp only [List.concat_eq_append] at *
      have hb : 48 ≤ b.toNat ∧ b.toNat ≤ 57 := by
        rw [List.all_append, Bool.and_eq_true] at hd
        have := hd.2
        rw [← isd_iff]; simpa using this
      have eb : UInt8.ofNat (48 + (b.toNat - 48)) = b := by
        rw [show 48 + (b.toNat - 48) = b.toNat by omega]; simp
      by_cases hm : m = []
      · subst hm
        rw [dval_snoc, dval_nil, Lib.decDigits, dif_pos (by omega)]
        simp only [Nat.mul_zero, Nat.zero_add, List.nil_append]
        rw [eb]
      · have hmh : m.head? ≠ some 48 := by
          intro e
          have := h0 (by rw [head_app _ hm]; exact e)
          rw [List.length_append, List.length_singleton] at this
          have h2 : m.length ≠ 0 := fun e => hm (List.eq_nil_of_length_eq_zero e)
          omega
        have hda : m.all isd = true := by rw [List.all_append, Bool.and_eq_true] at hd; exact hd.1
        have hi := ih m hm hda (fun e => absurd e hmh) (by simp at hlen; exact hlen)
        have hp : 1 ≤ dval m := by
          rcases Nat.eq_zero_or_pos (dval m) with e | e
          · rw [e, Lib.decDigits, dif_pos (by omega)] at hi
            exfalso; apply hmh; rw [← hi]; rfl
          · exact e
        rw [dval_snoc, Lib.decDigits, dif_neg (by omega), show (10 * dval m + (b.toNat - 48)) / 10 = dval m by omega, show (10 * dval m + (b.toNat - 48)) % 10 = b.toNat - 48 by omega, hi, eb]
/-- A number out of a text: what it is, and its error. -/
def numE (l : List UInt8) (most : Int) : Int :=
  if l = [] ∨ (l.head? = some 48 ∧ l.length ≠ 1) then 4 else if l.all isd = false then 4
  else if 18446744073709551616 ≤ (dval l : Int) ∨ most < (dval l : Int) then 20 else 0
def numV (l : List UInt8) (most : Int) : Int := if numE l most = 0 then dval l else 0
theorem numE_dec (u : Nat) (most : Int) (h : (u : Int) ≤ most) (hm : most < 18446744073709551616) : numE (Lib.decDigits u) most = 0 := by
  unfold numE
  rw [if_neg, if_neg (by rw [dec_all]; simp), if_neg]
  · rw [dval_dec]; omega
  · rintro (e | ⟨e, e2⟩)
    · exact dec_ne u e
    · by_cases h10 : u < 10
      · exact e2 (by rw [Lib.decDigits_length, Lib.nDigits_small h10])
      · exact dec_head u (by omega) e
theorem numV_dec (u : Nat) (most : Int) (h : (u : Int) ≤ most) (hm : most < 18446744073709551616) : numV (Lib.decDigits u) most = u := by
  unfold numV; rw [if_pos (numE_dec u most h hm), dval_dec]
theorem num_back (l : List UInt8) (most : Int) (h : numE l most = 0) : Lib.decDigits (numV l most).toNat = l ∧ 0 ≤ numV l most ∧ numV l most < 18446744073709551616 ∧ numV l most ≤ most := by
  unfold numV; rw [if_pos h]
  unfold numE at h
  by_cases h1 : l = [] ∨ (l.head? = some 48 ∧ l.length ≠ 1)
  · rw [if_pos h1] at h; simp at h
  · rw [if_neg h1] at h
    by_cases h2 : l.all isd = false
    · rw [if_pos h2] at h; simp at h
    · rw [if_neg h2] at h
      by_cases h3 : 18446744073709551616 ≤ (dval l : Int) ∨ most < (dval l : Int)
      · rw [if_pos h3] at h; simp at h
      · refine ⟨?_, by omega, by omega, by omega⟩
        rw [Int.toNat_natCast]
        refine dec_dval l (fun e => h1 (.inl e)) (by simpa using h2) (fun e => ?_)
        apply Classical.byContradiction
        intro e2
        exact h1 (.inr ⟨e, e2⟩)
/-- Behind i signs, all of them digits: whether it went beyond 64 bits, and what it is. -/
def NS (l : List UInt8) (i : Nat) (ov : Bool) (v : Int) : Prop :=
  0 ≤ v ∧ v < 18446744073709551616 ∧ (∀ j, (h : j < l.length) → j < i → isd l[j] = true) ∧ (if ov then 18446744073709551616 ≤ (dval (l.take i) : Int) else v = dval (l.take i))
theorem ns_zero (l : List UInt8) : NS l 0 false 0 := ⟨by omega, by omega, fun j _ h => absurd h (by omega), by simp [dval]⟩
theorem ns_next {l : List UInt8} {i : Nat} {ov : Bool} {v : Int} (h : NS l i ov v) (hi : i < l.length) (hd : isd l[i] = true) (d : Int) (hdd : d = (l[i].toNat : Int) - 48) :
    NS l (i + 1) (ov || decide ((18446744073709551615 - d) / 10 < v)) ((v * 10 + d) % 18446744073709551616) := by
  obtain ⟨h1, h2, h3, h4⟩ := h
  have hb := (isd_iff _).1 hd
  refine ⟨by omega, by omega, fun j hj hji => ?_, ?_⟩
  · by_cases e : j = i
    · subst e; exact hd
    · exact h3 j hj (by omega)
  · have hs := dval_step l i hi
    have hs' : (dval (l.take (i + 1)) : Int) = 10 * dval (l.take i) + d := by rw [hs]; omega
    rw [hs']
    cases ov with
    | true =>
      simp only [Bool.true_or, if_true]
      simp at h4; omega
    | false =>
      simp at h4
      by_cases hx : (18446744073709551615 - d) / 10 < v
      · rw [decide_eq_true hx]; simp only [Bool.false_or, if_true]; omega
      · rw [decide_eq_false hx]; simp only [Bool.or_false, Bool.false_eq_true, if_false]; omega
theorem ns_all {l : List UInt8} {ov : Bool} {v : Int} (h : NS l l.length ov v) : l.all isd = true := by
  rw [List.all_eq_true]
  intro x hx
  obtain ⟨j, hj, rfl⟩ := List.mem_iff_getElem.1 hx
  exact h.2.2.1 j hj hj
theorem ns_end {l : List UInt8} {ov : Bool} {v : Int} (h : NS l l.length ov v) : if ov then 18446744073709551616 ≤ (dval l : Int) else v = dval l := by
  have := h.2.2.2
  rwa [List.take_length] at this
theorem ns_over {l : List UInt8} {i : Nat} {v : Int} (h : NS l i true v) : 18446744073709551616 ≤ (dval l : Int) := by
  have := h.2.2.2
  simp at this
  have h2 := dval_take l i
  omega
theorem num_form {l : List UInt8} (most : Int) (h : l = [] ∨ (l.head? = some 48 ∧ l.length ≠ 1) ∨ ∃ j, ∃ h : j < l.length, isd l[j] = false) : numE l most = 4 ∧ numV l most = 0 := by
  have e : numE l most = 4 := by
    unfold numE
    by_cases h1 : l = [] ∨ (l.head? = some 48 ∧ l.length ≠ 1)
    · rw [if_pos h1]
    · rw [if_neg h1, if_pos]
      rcases h with h | h | ⟨j, hj, h⟩
      · exact absurd (.inl h) h1
      · exact absurd (.inr h) h1
      · rw [Bool.eq_false_iff]
        intro e
        rw [List.all_eq_true] at e
        rw [e _ (List.getElem_mem hj)] at h
        cases h
  refine ⟨e, ?_⟩
  unfold numV; rw [if_neg (by rw [e]; decide)]
theorem num_over {l : List UInt8} (most : Int) (h1 : l ≠ []) (h2 : l.head? = some 48 → l.length = 1) (h3 : l.all isd = true) (h4 : 18446744073709551616 ≤ (dval l : Int) ∨ most < (dval l : Int)) : numE l most = 20 ∧ numV l most = 0 := by
  have e : numE l most = 20 := by
    unfold numE
    rw [if_neg (by rintro (e | ⟨e, e2⟩); exact h1 e; exact e2 (h2 e)), if_neg (by rw [h3]; simp), if_pos h4]
  refine ⟨e, ?_⟩
  unfold numV; rw [if_neg (by rw [e]; decide)]
theorem num_ok {l : List UInt8} (most : Int) (h1 : l ≠ []) (h2 : l.head? = some 48 → l.length = 1) (h3 : l.all isd = true) (h4 : ¬ 18446744073709551616 ≤ (dval l : Int)) (h5 : ¬ most < (dval l : Int)) : numE l most = 0 ∧ numV l most = dval l := by
  have e : numE l most = 0 := by
    unfold numE
    rw [if_neg (by rintro (e | ⟨e, e2⟩); exact h1 e; exact e2 (h2 e)), if_neg (by rw [h3]; simp), if_neg (by rintro (e | e); exact h4 e; exact h5 e)]
  refine ⟨e, ?_⟩
  unfold numV; rw [if_pos e]
end Fg
end Go.Proofs.YtdiniaokkdcihaaDoor
