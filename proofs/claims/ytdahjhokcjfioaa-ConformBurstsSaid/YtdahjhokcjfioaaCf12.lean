/- The least burst as the greatest of all stretches (mathematics). -/
import Derived.Test.YtdahjhokcjfioaaCf11
namespace Go.Proofs.Ytdahjhokcjfioaa
set_option linter.unusedVariables false
set_option linter.unusedSimpArgs false
set_option maxRecDepth 100000
open Go.RowKit Fg Reg

def cstep (st : Int × Int × Int) (x : Cm) : Int × Int × Int := (x.tm, (if x.tm < st.1 then 27 else st.2.1), (if st.2.2 ≤ 1099511627776 then st.2.2 + x.by' else st.2.2))
def bstep (s : Int) (st : Int × Int × Int) (x : Cm) : Int × Int × Int :=
  ((if st.1 < s * (x.tm - st.2.1) then 0 else st.1 - s * (x.tm - st.2.1)) + x.by' * 65536, x.tm, bmx st.2.2 ((if st.1 < s * (x.tm - st.2.1) then 0 else st.1 - s * (x.tm - st.2.1)) + x.by' * 65536))
def cfold (L : List Cm) : Int × Int × Int := L.foldl cstep (0, 0, 0)
def bfold (s : Int) (L : List Cm) : Int × Int × Int := L.foldl (bstep s) (0, 0, 0)
theorem cfold_snoc (L : List Cm) (x : Cm) : cfold (L ++ [x]) = cstep (cfold L) x := by unfold cfold; rw [List.foldl_append]; rfl
theorem bfold_snoc (s : Int) (L : List Cm) (x : Cm) : bfold s (L ++ [x]) = bstep s (bfold s L) x := by unfold bfold; rw [List.foldl_append]; rfl
theorem ckr_cms (c : Int) (es : List Ev) : ∀ k, k ≤ es.length → ckr c (es.take k) = cfold (cms c (es.take k))
  | 0, _ => by rw [List.take_zero]; rfl
  | k + 1, hk => by
    rw [ckr_succ c es k (by omega)]
    cases hc : cp c es[k] with
    | false =>
      rw [cms_no c es k (by omega) hc, ← ckr_cms c es k (by omega)]
      unfold ckst; rw [hc]; rfl
    | true =>
      rw [cms_yes c es k (by omega) hc, cfold_snoc, ← ckr_cms c es k (by omega)]
      unfold ckst; rw [hc, if_pos rfl]; rfl
theorem bur_cms (s c : Int) (es : List Ev) : ∀ k, k ≤ es.length → bur s c (es.take k) = bfold s (cms c (es.take k))
  | 0, _ => by rw [List.take_zero]; rfl
  | k + 1, hk => by
    rw [bur_succ s c es k (by omega)]
    cases hc : cp c es[k] with
    | false =>
      rw [cms_no c es k (by omega) hc, ← bur_cms s c es k (by omega)]
      unfold bust; rw [hc]; rfl
    | true =>
      rw [cms_yes c es k (by omega) hc, bfold_snoc, ← bur_cms s c es k (by omega)]
      unfold bust; rw [hc, if_pos rfl]; rfl
theorem cfold_succ (L : List Cm) (k : Nat) (h : k < L.length) : cfold (L.take (k + 1)) = cstep (cfold (L.take k)) L[k] := by rw [take_snoc'' L k h, cfold_snoc]
theorem bfold_succ (s : Int) (L : List Cm) (k : Nat) (h : k < L.length) : bfold s (L.take (k + 1)) = bstep s (bfold s (L.take k)) L[k] := by rw [take_snoc'' L k h, bfold_snoc]
structure Cm.wf (x : Cm) : Prop where
  t0 : 0 ≤ x.tm
  t1 : x.tm ≤ 18446744073709551615
  b0 : 0 ≤ x.by'
  b1 : x.by' ≤ 9223372036854775807
theorem cms_wf (c : Int) (es : List Ev) (hwf : ∀ k (h : k < es.length), es[k].wf3) : ∀ x ∈ cms c es, x.wf := by
  intro x hx
  unfold cms at hx
  obtain ⟨e, he, rfl⟩ := List.mem_map.1 hx
  have he := (List.mem_filter.1 he).1
  obtain ⟨k, hk, rfl⟩ := List.mem_iff_getElem.1 he
  have hw := hwf k hk
  have := cb_bd es[k] hw
  exact ⟨hw.tm0, hw.tm1, this.1, this.2⟩
theorem cfold_last (L : List Cm) (k : Nat) (h : k < L.length) : (cfold (L.take (k + 1))).1 = L[k].tm := by rw [cfold_succ L k h]; rfl
/-- An error stays. -/
theorem cfold_stuck (L : List Cm) : ∀ d k, k + d ≤ L.length → (cfold (L.take k)).2.1 ≠ 0 → (cfold (L.take (k + d))).2.1 ≠ 0
  | 0, k, _, h => h
  | d + 1, k, hk, h => by
    have := cfold_stuck L d k (by omega) h
    rw [show k + (d + 1) = k + d + 1 by omega, cfold_succ L (k + d) (by omega)]
    unfold cstep
    dsimp only
    split
    · decide
    · exact this
theorem cfold_many (L : List Cm) (hw : ∀ x ∈ L, x.wf) : ∀ d k, k + d ≤ L.length → 1099511627776 < (cfold (L.take k)).2.2 → 1099511627776 < (cfold (L.take (k + d))).2.2
  | 0, k, _, h => h
  | d + 1, k, hk, h => by
    have := cfold_many L hw d k (by omega) h
    rw [show k + (d + 1) = k + d + 1 by omega, cfold_succ L (k + d) (by omega)]
    unfold cstep
    dsimp only
    split <;> omega
theorem cfold_err (L : List Cm) : ∀ k, k ≤ L.length → (cfold (L.take k)).2.1 = 0 ∨ (cfold (L.take k)).2.1 = 27
  | 0, _ => by rw [List.take_zero]; exact .inl rfl
  | k + 1, hk => by
    rw [cfold_succ L k (by omega)]
    unfold cstep
    dsimp only
    split
    · exact .inr rfl
    · exact cfold_err L k (by omega)
def eL (L : List Cm) : Int := if (cfold L).2.1 = 0 then (if 1099511627776 < (cfold L).2.2 then 28 else 0) else (cfold L).2.1
theorem chkE_cms (c : Int) (es : List Ev) : chkE c es = eL (cms c es) := by
  have := ckr_cms c es es.length (Nat.le_refl _)
  rw [List.take_length] at this
  unfold chkE eL
  rw [this]
/-- What reading stretch i to k asks for. -/
def stv (s : Int) (L : List Cm) (i k : Nat) : Int := 65536 * (smc (L.take (k + 1)) - smc (L.take i)) - (s * (L.getD k default).tm - s * (L.getD i default).tm)
theorem getD_at (L : List Cm) (k : Nat) (h : k < L.length) : L.getD k default = L[k] := by
  rw [List.getD_eq_getElem?_getD, List.getElem?_eq_getElem h]; rfl
structure BB (s : Int) (L : List Cm) (k : Nat) (lv m : Int) : Prop where
  l0 : 0 ≤ lv
  m0 : 0 ≤ m
  lub : ∀ i, i < k → stv s L i (k - 1) ≤ lv
  lat : (k = 0 ∧ lv = 0) ∨ ∃ i, i < k ∧ lv = stv s L i (k - 1)
  mub : ∀ i j, i ≤ j → j < k → stv s L i j ≤ m
  mat : m = 0 ∨ ∃ i j, i ≤ j ∧ j < k ∧ m = stv s L i j
theorem bb_all {s : Int} {L : List Cm} (hs : 0 ≤ s) (hw : ∀ x ∈ L, x.wf) (hsort : ∀ k, k ≤ L.length → (cfold (L.take k)).2.1 = 0) : ∀ k, k ≤ L.length → (bfold s (L.take k)).2.1 = (cfold (L.take k)).1 ∧ BB s L k (bfold s (L.take k)).1 (bfold s (L.take k)).2.2
  | 0, _ => by
    rw [List.take_zero]
    exact ⟨rfl, Int.le_refl 0, Int.le_refl 0, fun i hi => absurd hi (Nat.not_lt_zero _), .inl ⟨rfl, rfl⟩, fun i j _ hj => absurd hj (Nat.not_lt_zero _), .inl rfl⟩
  | k + 1, hk => by
    have hk' : k < L.length := by omega
    obtain ⟨ht, hB⟩ := bb_all hs hw hsort k (by omega)
    have hx := hw L[k] (List.getElem_mem hk')
    have hso := hsort (k + 1) hk
    rw [cfold_succ L k hk'] at hso
    have hge : (cfold (L.take k)).1 ≤ L[k].tm := by
      unfold cstep at hso
      dsimp only at hso
      split at hso
      · omega
      · omega
    rw [bfold_succ s L k hk', cfold_succ L k hk']
    refine ⟨rfl, ?_⟩
    unfold bstep
    dsimp only
    rw [ht]
    obtain ⟨l0, m0, lub, lat, mub, mat⟩ := hB
    generalize (bfold s (L.take k)).1 = lv at *
    generalize (bfold s (L.take k)).2.2 = m at *
    have hX : 0 ≤ s * (L[k].tm - (cfold (L.take k)).1) := Int.mul_nonneg hs (by omega)
    have hXe : s * (L[k].tm - (cfold (L.take k)).1) = s * L[k].tm - s * (cfold (L.take k)).1 := Int.mul_sub _ _ _
    have hlast : 0 < k → (cfold (L.take k)).1 = (L.getD (k - 1) default).tm := fun h => by
      have := cfold_last L (k - 1) (by omega)
      rw [show k - 1 + 1 = k by omega] at this
      rw [this, getD_at L (k - 1) (by omega)]
    have hself : stv s L k k = L[k].by' * 65536 := by
      unfold stv
      rw [smc_succ L k hk']; omega
    have hup : ∀ i, i < k → stv s L i k = stv s L i (k - 1) - s * (L[k].tm - (cfold (L.take k)).1) + L[k].by' * 65536 := fun i hi => by
      unfold stv
      rw [smc_succ L k hk', show k - 1 + 1 = k by omega, hXe, hlast (by omega), getD_at L k hk']
      omega
    have hb := hx.b0
    obtain ⟨lv', hlv'⟩ : ∃ lv', (if lv < s * (L[k].tm - (cfold (L.take k)).1) then 0 else lv - s * (L[k].tm - (cfold (L.take k)).1)) + L[k].by' * 65536 = lv' := ⟨_, rfl⟩
    rw [hlv']
    have n0 : 0 ≤ lv' := by rw [← hlv']; split <;> omega
    have nub : ∀ i, i < k + 1 → stv s L i (k + 1 - 1) ≤ lv' := fun i hi => by
      rw [show k + 1 - 1 = k by omega]
      by_cases h : i = k
      · subst h; rw [hself, ← hlv']; split <;> omega
      · have h1 := lub i (by omega)
        rw [hup i (by omega), ← hlv']; split <;> omega
    have nat : ∃ i, i < k + 1 ∧ lv' = stv s L i (k + 1 - 1) := by
      rw [show k + 1 - 1 = k by omega]
      by_cases h : lv < s * (L[k].tm - (cfold (L.take k)).1)
      · exact ⟨k, by omega, by rw [hself, ← hlv', if_pos h]; omega⟩
      · rcases lat with ⟨h1, h2⟩ | ⟨i, hi, h2⟩
        · exact ⟨k, by omega, by rw [hself, ← hlv', if_neg h]; omega⟩
        · exact ⟨i, by omega, by rw [hup i hi, ← hlv', if_neg h]; omega⟩
    refine ⟨n0, ?_, nub, .inr nat, ?_, ?_⟩
    · unfold bmx; split <;> omega
    · intro i j hij hj
      have : stv s L i j ≤ m ∨ stv s L i j ≤ lv' := by
        by_cases h : j = k
        · subst h; have := nub i (by omega); rw [show j + 1 - 1 = j by omega] at this; exact .inr this
        · exact .inl (mub i j hij (by omega))
      unfold bmx; split <;> omega
    · unfold bmx
      split
      · obtain ⟨i, hi, h2⟩ := nat
        rw [show k + 1 - 1 = k by omega] at h2
        exact .inr ⟨i, k, by omega, by omega, h2⟩
      · rcases mat with h | ⟨i, j, h1, h2, h3⟩
        · exact .inl h
        · exact .inr ⟨i, j, h1, by omega, h3⟩
/-- What the double loop knows. -/
structure DD (s : Int) (L : List Cm) (m : Int) (P : Nat → Nat → Prop) : Prop where
  m0 : 0 ≤ m
  ub : ∀ i j, i ≤ j → j < L.length → P i j → stv s L i j ≤ m
  at' : m = 0 ∨ ∃ i j, i ≤ j ∧ j < L.length ∧ m = stv s L i j
theorem dd_eq {s : Int} {L : List Cm} {m lv M : Int} (h : DD s L m (fun _ _ => True)) (hB : BB s L L.length lv M) : m = M := by
  obtain ⟨a1, a2, a3⟩ := h
  obtain ⟨_, b1, _, _, b2, b3⟩ := hB
  have x : m ≤ M := by
    rcases a3 with h | ⟨i, j, h1, h2, h3⟩
    · omega
    · have := b2 i j h1 h2; omega
  have y : M ≤ m := by
    rcases b3 with h | ⟨i, j, h1, h2, h3⟩
    · omega
    · have := a2 i j h1 h2 trivial; omega
  omega
end Go.Proofs.Ytdahjhokcjfioaa
