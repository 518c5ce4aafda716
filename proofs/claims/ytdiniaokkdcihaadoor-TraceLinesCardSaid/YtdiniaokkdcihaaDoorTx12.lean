/- A text cut at a sign. Nothing of the program is imported here. -/
import Derived.Test.YtdiniaokkdcihaaDoorTx0
import Derived.Lib.Strings
import Derived.Lib.SplitLaws
namespace Go.Proofs.YtdiniaokkdcihaaDoor
set_option linter.unusedVariables false
set_option linter.unusedSimpArgs false
set_option maxRecDepth 100000
namespace Fg
/-- A text's pieces, cut at each sign c. -/
def cutL (c : UInt8) : List UInt8 → List (List UInt8)
  | [] => [[]]
  | b :: l => if b = c then [] :: cutL c l else match cutL c l with
    | h :: t => (b :: h) :: t
    | [] => [[b]]
theorem cutL_ne (c : UInt8) (l : List UInt8) : cutL c l ≠ [] := by
  induction l with
  | nil => simp [cutL]
  | cons b l ih =>
    unfold cutL
    split
    · simp
    · split <;> simp
theorem ix_one (l : List UInt8) (c : UInt8) : Lib.index l [c] = Lib.indexByte l c := Lib.index_one l c
theorem cut_miss (c : UInt8) (l : List UInt8) (h : Lib.indexByte l c = -1) : cutL c l = [l] := by
  induction l with
  | nil => rfl
  | cons b l ih =>
    unfold Lib.indexByte at h
    by_cases hb : b = c
    · subst hb; simp at h
    · have hbb : (b == c) = false := by simpa using hb
      rw [hbb] at h
      simp only [Bool.false_eq_true, if_false] at h
      have hge := Lib.indexByte_ge l c
      have h2 : Lib.indexByte l c = -1 := by
        by_cases e : Lib.indexByte l c = -1
        · exact e
        · rw [if_neg (by simpa using e)] at h; omega
      unfold cutL
      rw [if_neg hb, ih h2]
theorem cut_hit (c : UInt8) (l : List UInt8) (i : Nat) (h : Lib.indexByte l c = i) : cutL c l = l.take i :: cutL c (l.drop (i + 1)) := by
  induction l generalizing i with
  | nil => simp [Lib.indexByte] at h
  | cons b l ih =>
    unfold Lib.indexByte at h
    by_cases hb : b = c
    · subst hb
      simp at h
      obtain rfl : i = 0 := by omega
      simp [cutL]
    · have hbb : (b == c) = false := by simpa using hb
      rw [hbb] at h
      simp only [Bool.false_eq_true, if_false] at h
      have hge := Lib.indexByte_ge l c
      by_cases e : Lib.indexByte l c = -1
      · rw [e] at h; simp at h
      · rw [if_neg (by simpa using e)] at h
        obtain ⟨j, rfl⟩ : ∃ j, i = j + 1 := ⟨i - 1, by omega⟩
        have hj := ih j (by omega)
        have hu : cutL c (b :: l) = if b = c then [] :: cutL c l else match cutL c l with
            | h :: t => (b :: h) :: t
            | [] => [[b]] := rfl
        rw [hu, if_neg hb, hj]
        simp
theorem cut_count (c : UInt8) (l : List UInt8) : (cutL c l).length = l.count c + 1 := by
  induction l with
  | nil => rfl
  | cons b l ih =>
    unfold cutL
    by_cases hb : b = c
    · subst hb; simp [ih]
    · rw [if_neg hb, List.count_cons_of_ne hb]
      have hn := cutL_ne c l
      split
      · rename_i h t e; rw [e] at ih; simpa using ih
      · rename_i e; exact absurd e hn
theorem split_cut (c : UInt8) : ∀ (k : Nat) (l : List UInt8), l.count c = k → Lib.splitK [c] 0 k l = cutL c l := by
  intro k
  induction k with
  | zero =>
    intro l h
    rw [Lib.splitK]
    rw [cut_miss]
    rcases Int.lt_or_le (-1) (Lib.indexByte l c) with h2 | h2
    · exfalso
      obtain ⟨i, hi⟩ : ∃ i : Nat, Lib.indexByte l c = i := ⟨(Lib.indexByte l c).toNat, by omega⟩
      have h3 := cut_count c l
      rw [cut_hit c l i hi, h, List.length_cons, cut_count] at h3
      omega
    · have := Lib.indexByte_ge l c; omega
  | succ k ih =>
    intro l h
    rw [Lib.splitK, ix_one]
    by_cases e : Lib.indexByte l c = -1
    · have h3 := cut_count c l
      rw [cut_miss c l e, h] at h3
      simp at h3
    · have hge := Lib.indexByte_ge l c
      obtain ⟨i, hi⟩ : ∃ i : Nat, Lib.indexByte l c = i := ⟨(Lib.indexByte l c).toNat, by omega⟩
      have h3 := cut_count c l
      rw [cut_hit c l i hi, List.length_cons, cut_count, h] at h3
      rw [if_neg (by simpa using e), hi, cut_hit c l i hi]
      simp only [Int.toNat_natCast, Nat.add_zero, List.length_singleton]
      rw [ih _ (by omega)]
end Fg
end Go.Proofs.YtdiniaokkdcihaaDoor
