/- floodgateref31's Of is the run's rows: the mathematics. -/
import Derived.Test.YtdahjhokcjfioaaLp6
namespace Go.Proofs.Ytdahjhokcjfioaa
set_option linter.unusedVariables false
set_option linter.unusedSimpArgs false
set_option maxRecDepth 100000
open Go.RowKit Fg Reg
attribute [local irreducible] Reg.wE

def tmA (es : List Ev) (k : Nat) : Int := ((es[k]?).map Ev.tm).getD 0
theorem tmA_eq (es : List Ev) (k : Nat) (h : k < es.length) : tmA es k = es[k].tm := by simp [tmA, h]
/-- One more event of a span that began. -/
def scl (zs : List Int) (es : List Ev) (k : Nat) (x : Sp) : Sp := if x.op = true ∧ (spsrun zs es (k + 1)).p = 0 then ⟨x.fr, tmA es k, x.fi, k, false⟩ else x
def scan (zs : List Int) (es : List Ev) (i : Nat) : Nat → Sp
  | 0 => ⟨tmA es i, 0, i, 0, true⟩
  | k + 1 => if i < k then scl zs es k (scan zs es i k) else scan zs es i k
theorem scan_id (zs : List Int) (es : List Ev) (i : Nat) : ∀ k, (scan zs es i k).fr = tmA es i ∧ (scan zs es i k).fi = i
  | 0 => ⟨rfl, rfl⟩
  | k + 1 => by
    have ih := scan_id zs es i k
    rw [scan]
    unfold scl
    (repeat' split) <;> exact ih
theorem scan_le (zs : List Int) (es : List Ev) (i : Nat) : ∀ k, k ≤ i + 1 → scan zs es i k = ⟨tmA es i, 0, i, 0, true⟩
  | 0, _ => rfl
  | k + 1, h => by rw [scan, if_neg (by omega), scan_le zs es i k (by omega)]
/-- Does a span begin there? -/
def beg (zs : List Int) (es : List Ev) (i : Nat) : Bool := decide ((spsrun zs es i).p = 0) && decide (0 < (spsrun zs es (i + 1)).p)
def gsp (zs : List Int) (es : List Ev) (m K : Nat) : List Sp := ((List.range m).filter (beg zs es)).map (fun i => scan zs es i K)
theorem gsp_next (zs : List Int) (es : List Ev) (K : Nat) : gsp zs es K (K + 1) = (gsp zs es K K).map (scl zs es K) := by
  unfold gsp
  rw [List.map_map]
  apply List.map_congr_left
  intro i hi
  have : i < K := by
    have := (List.mem_filter.1 hi).1
    simpa using this
  simp only [Function.comp_apply]
  rw [scan, if_pos this]
theorem gsp_snoc (zs : List Int) (es : List Ev) (m K : Nat) : gsp zs es (m + 1) K = gsp zs es m K ++ if beg zs es m = true then [scan zs es m K] else [] := by
  unfold gsp
  rw [List.range_succ, List.filter_append, List.map_append]
  congr 1
  by_cases h : beg zs es m = true <;> simp [h]
theorem scl_shut (zs : List Int) (es : List Ev) (k : Nat) (l : List Sp) (h : ∀ x ∈ l, x.op = false) : l.map (scl zs es k) = l := by
  conv => rhs; rw [← List.map_id l]
  apply List.map_congr_left
  intro x hx
  unfold scl
  rw [h x hx]
  simp
theorem scl_on (zs : List Int) (es : List Ev) (k : Nat) (l : List Sp) (h : 0 < (spsrun zs es (k + 1)).p) : l.map (scl zs es k) = l := by
  conv => rhs; rw [← List.map_id l]
  apply List.map_congr_left
  intro x hx
  unfold scl
  rw [if_neg (by omega)]
  rfl
theorem rows_gsp (zs : List Int) (es : List Ev) : ∀ K, K ≤ es.length → (spsrun zs es K).rows = gsp zs es K K
  | 0, _ => rfl
  | K + 1, hK => by
    have ih := rows_gsp zs es K (by omega)
    have hal := sp_all zs es K
    rw [gsp_snoc, gsp_next, ← ih, scan_le zs es K (K + 1) (Nat.le_refl _)]
    have hon := scl_on zs es K
    have hsh := scl_shut zs es K
    have hc : ∀ x, x.op = true → (spsrun zs es (K + 1)).p = 0 → scl zs es K x = ⟨x.fr, tmA es K, x.fi, K, false⟩ := fun x h1 h2 => by unfold scl; rw [if_pos ⟨h1, h2⟩]
    unfold beg
    rw [spsrun_succ zs es K hK] at *
    generalize hs : spsrun zs es K = s at *
    obtain ⟨p, cl, fr, fi⟩ := s
    rw [tmA_eq es K hK] at *
    generalize es[K] = e at *
    unfold sstep at *
    simp only at *
    split
    · rename_i h1
      simp only [h1, if_true] at hon hc ⊢
      split
      · rename_i h2
        simp only [h2, if_true] at hon hc ⊢
        split
        · rename_i h3
          subst h3
          simp only [if_true] at hon hc ⊢
          rw [hon _ (by decide)]
          simp [SS.rows]
        · rename_i h3
          simp only [h3, if_false] at hon hc ⊢
          rw [hon _ (by omega)]
          simp [SS.rows, h3]
      · rename_i h2
        simp only [h2, if_false] at hon hc ⊢
        split
        · rename_i h3
          subst h3
          simp only [if_true] at hon hc ⊢
          simp only [SS.rows, if_true]
          rw [if_neg (by decide), List.map_append, hsh _ hal]
          simp [hc]
        · rename_i h3
          simp only [h3, if_false] at hon hc ⊢
          by_cases h4 : p = 0
          · subst h4
            simp only [SS.rows]
            simp only [if_true, List.append_nil]
            rw [hsh _ hal]
            simp
          · rw [hon _ (by show 0 < p - 1; omega)]
            simp [SS.rows, h4, show ¬ p - 1 = 0 by omega]
    · rename_i h1
      simp only [h1, if_false] at hon hc ⊢
      by_cases h4 : p = 0
      · subst h4
        simp only [SS.rows, if_true, List.append_nil]
        rw [hsh _ hal]
        simp
      · rw [hon _ (by show 0 < p; omega)]
        simp [h4]
end Go.Proofs.Ytdahjhokcjfioaa
