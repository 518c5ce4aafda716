/- Layer 34: where leaves were not kept below a curve: the answer, and that there is one (mathematics). -/
import Derived.Test.YtdahjhokcjfioaaLt1
import Derived.Test.YtdahjhokcjfioaaLu1
namespace Go.Proofs.Ytdahjhokcjfioaa
set_option linter.unusedVariables false
set_option linter.unusedSimpArgs false
set_option maxRecDepth 100000
open Fg

theorem pks_in (zs : List Int) (es : List Ev) (f t : Int) : ∀ k, 0 ≤ pks zs es f t k ∧ pks zs es f t k < 18446744073709551616
  | 0 => by unfold pks; omega
  | k + 1 => by
    have h := pks_in zs es f t k
    unfold pks
    split
    · exact h
    · split <;> omega
/-- Events behind the last one that counts make no difference. -/
theorem pks_cut (zs : List Int) (es : List Ev) (f : Int) (i : Nat) (T : Int) (hT : (i : Int) ≤ T) : ∀ k, pks zs es f i k = pks zs es f T (min k (i + 1))
  | 0 => by simp [pks]
  | k + 1 => by
    have h := pks_cut zs es f i T hT k
    by_cases hk : k < i + 1
    · rw [show min (k + 1) (i + 1) = k + 1 by omega]
      rw [show min k (i + 1) = k by omega] at h
      unfold pks
      rw [h]
      have e : ∀ x : Ev, pkc zs f i k x = pkc zs f T k x := fun x => by
        unfold pkc
        rw [show decide ((k : Int) ≤ i) = true by simp; omega, show decide ((k : Int) ≤ T) = true by simp; omega]
      split
      · rfl
      · rw [e]
    · rw [show min (k + 1) (i + 1) = i + 1 by omega]
      rw [show min k (i + 1) = i + 1 by omega] at h
      rw [← h]
      conv => lhs; unfold pks
      split
      · rfl
      · have e : ∀ x : Ev, pkc zs f i k x = false := fun x => by
          unfold pkc
          rw [show decide ((k : Int) ≤ i) = false by simp; omega]
          simp
        rw [e]
        rfl
/-- Below the first place nothing counts. -/
theorem pks_none (zs : List Int) (es : List Ev) (f t : Int) : ∀ k : Nat, (k : Int) ≤ f → pks zs es f t k = 0
  | 0, _ => rfl
  | k + 1, h => by
    have ih := pks_none zs es f t k (by omega)
    unfold pks
    split
    · exact ih
    · have e : ∀ x : Ev, pkc zs f t k x = false := fun x => by
        unfold pkc
        rw [show decide (f ≤ (k : Int)) = false by simp; omega]
        simp
      rw [e]
      exact ih
/-- Is the curve broken at event i of span x? -/
def hb (c1 cd c2 lm : Int) (zs : List Int) (es : List Ev) (x : Sp) (i : Nat) : Bool :=
  match es[i]? with
  | none => false
  | some e => decide (x.fi < i) && (x.op || decide (i ≤ x.la)) && !e.inn && has zs e.cls && decide (mostv (srv c1 cd c2 (tks x.fr e.tm)) lm < pks zs es (x.fi + 1) i es.length)
def Found (c1 cd c2 lm : Int) (zs : List Int) (es : List Ev) (rs : List Sp) (i : Nat) : Prop :=
  ∃ a, ∃ h : a < rs.length, (∀ b (hb' : b < rs.length), b < a → ∀ j, hb c1 cd c2 lm zs es rs[b] j = false) ∧ hb c1 cd c2 lm zs es rs[a] i = true ∧ ∀ j, j < i → hb c1 cd c2 lm zs es rs[a] j = false
def Ans (c1 cd c2 lm : Int) (zs : List Int) (es : List Ev) (rs : List Sp) (p : Int) (no : Bool) : Prop :=
  (no = true ∧ ∃ i : Nat, p = i ∧ Found c1 cd c2 lm zs es rs i) ∨ (no = false ∧ p = 0 ∧ ∀ a (h : a < rs.length) j, hb c1 cd c2 lm zs es rs[a] j = false)
theorem found_one {c1 cd c2 lm : Int} {zs : List Int} {es : List Ev} {rs : List Sp} {i j : Nat} (h : Found c1 cd c2 lm zs es rs i) (g : Found c1 cd c2 lm zs es rs j) : i = j := by
  obtain ⟨a, ha, a1, a2, a3⟩ := h
  obtain ⟨b, hb', b1, b2, b3⟩ := g
  rcases Nat.lt_trichotomy a b with h | h | h
  · have := b1 a ha h i
    rw [this] at a2; cases a2
  · subst h
    rcases Nat.lt_trichotomy i j with h | h | h
    · have := b3 i h
      rw [this] at a2; cases a2
    · exact h
    · have := a3 j h
      rw [this] at b2; cases b2
  · have := a1 b hb' h j
    rw [this] at b2; cases b2
theorem ans_one {c1 cd c2 lm : Int} {zs : List Int} {es : List Ev} {rs : List Sp} {p q : Int} {n m : Bool} (h : Ans c1 cd c2 lm zs es rs p n) (g : Ans c1 cd c2 lm zs es rs q m) : p = q ∧ n = m := by
  rcases h with ⟨rfl, i, rfl, h⟩ | ⟨rfl, rfl, h⟩ <;> rcases g with ⟨rfl, j, rfl, g⟩ | ⟨rfl, rfl, g⟩
  · exact ⟨by rw [found_one h g], rfl⟩
  · obtain ⟨a, ha, _, a2, _⟩ := h
    have := g a ha i
    rw [this] at a2; cases a2
  · obtain ⟨a, ha, _, a2, _⟩ := g
    have := h a ha j
    rw [this] at a2; cases a2
  · exact ⟨rfl, rfl⟩
end Go.Proofs.Ytdahjhokcjfioaa
