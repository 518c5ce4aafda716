/- What is picked: mathematics; acts. -/
import Derived.Test.YtikmdkmejbcmmaaEl3
import Derived.Test.YtikmdkmejbcmmaaVl3
namespace Go.Proofs.Ytikmdkmejbcmmaa
set_option linter.unusedVariables false
set_option linter.unusedSimpArgs false
set_option maxRecDepth 100000
open Go.RowKit Fg Reg
attribute [local irreducible] Reg.wE NT

theorem mnn_le (x a b : Int) : x ≤ mnn a b ↔ x ≤ a ∧ x ≤ b := by unfold mnn; split <;> omega
theorem e_pickN {t : Tr} {L : List Rw} {now : Int} (h : TM t L) (hs : SS (tl t)) (ho : belL (mnn now 9223372036854775807) (tl t) = none) : ∀ r ∈ L, ¬ (r.a ≤ now ∧ r.a < 9223372036854775808) := fun r hr g => by
  have h1 := bel_mn (mnn now 9223372036854775807) (tl t) hs
  rw [ho] at h1
  exact h1 r.it ((h _).2 ⟨r, hr, rfl⟩) ((mnn_le _ _ _).2 ⟨g.1, by have := g.2; show r.a ≤ _; omega⟩)
theorem e_pickS {t : Tr} {L : List Rw} {now : Int} {m : It} (h : TM t L) (hs : SS (tl t)) (ho : belL (mnn now 9223372036854775807) (tl t) = some m) :
    ∃ r0 ∈ L, m = r0.it ∧ r0.a ≤ now ∧ r0.a < 9223372036854775808 ∧ ∀ r ∈ L, r.a ≤ now → r.a < 9223372036854775808 → ¬ r.b < r0.b ∧ (r.b = r0.b → ¬ r.id < r0.id) := by
  have h1 := bel_mn (mnn now 9223372036854775807) (tl t) hs
  rw [ho] at h1
  obtain ⟨h2, h3, h4⟩ := h1
  obtain ⟨r0, hr0, rfl⟩ := (h m).1 h2
  have h3' := (mnn_le _ _ _).1 h3
  have ha : r0.a ≤ now ∧ r0.a ≤ 9223372036854775807 := h3'
  refine ⟨r0, hr0, rfl, ha.1, by omega, fun r hr g1 g2 => ?_⟩
  rcases h4 r.it ((h _).2 ⟨r, hr, rfl⟩) ((mnn_le _ _ _).2 ⟨g1, by show r.a ≤ _; omega⟩) with e | e
  · have := it_inj e; subst this; omega
  · unfold ahd at e
    split at e
    · rename_i g; have g2 : r0.id = r.id := g.2; have g1 : r0.b = r.b := g.1; omega
    · have e2 : r0.b < r.b ∨ (r0.b = r.b ∧ r0.id < r.id) := of_decide_eq_true e; omega
theorem fst_min {a : Int} : ∀ {K : List It}, SS K → ∀ {m : It}, fstL a K = some m → m ∈ K ∧ m.va ≤ a ∧ ∀ z ∈ K, z.va ≤ a → z = m ∨ kl m z = true
  | [], _, m, h => by simp [fstL] at h
  | x :: K, hs, m, h => by
    unfold SS at hs
    rw [List.pairwise_cons] at hs
    unfold fstL at h
    rw [List.find?_cons] at h
    by_cases hx : x.va ≤ a
    · rw [decide_eq_true hx] at h
      injection h with h
      subst h
      refine ⟨by simp, hx, fun z hz _ => ?_⟩
      rcases List.mem_cons.1 hz with e | e
      · exact .inl e
      · exact .inr (hs.1 z e)
    · rw [decide_eq_false hx] at h
      obtain ⟨h1, h2, h3⟩ := fst_min (K := K) hs.2 h
      refine ⟨by simp [h1], h2, fun z hz hza => ?_⟩
      rcases List.mem_cons.1 hz with e | e
      · subst e; exact absurd hza hx
      · exact h3 z e hza
theorem fst_none {a : Int} {K : List It} (h : fstL a K = none) : ∀ z ∈ K, ¬ z.va ≤ a := by
  unfold fstL at h
  rw [List.find?_eq_none] at h
  exact fun z hz g => h z hz (decide_eq_true g)
theorem v_pickN {t : Tr} {L : List Rw} {now : Int} (h : TM t L) (ho : fstL (mnn now 9223372036854775807) (tl t) = none) : ∀ r ∈ L, ¬ (r.b ≤ now ∧ r.b < 9223372036854775808) := fun r hr g =>
  fst_none ho r.it ((h _).2 ⟨r, hr, rfl⟩) ((mnn_le _ _ _).2 ⟨g.1, by have := g.2; show r.b ≤ _; omega⟩)
theorem v_pickS {t : Tr} {L : List Rw} {now : Int} {m : It} (h : TM t L) (hs : SS (tl t)) (ho : fstL (mnn now 9223372036854775807) (tl t) = some m) :
    ∃ r0 ∈ L, m = r0.it ∧ r0.b ≤ now ∧ r0.b < 9223372036854775808 ∧ ∀ r ∈ L, r.b ≤ now → r.b < 9223372036854775808 → ¬ r.a < r0.a ∧ (r.a = r0.a → ¬ r.id < r0.id) := by
  obtain ⟨h2, h3, h4⟩ := fst_min hs ho
  obtain ⟨r0, hr0, rfl⟩ := (h m).1 h2
  have ha : r0.b ≤ now ∧ r0.b ≤ 9223372036854775807 := (mnn_le _ _ _).1 h3
  refine ⟨r0, hr0, rfl, ha.1, by omega, fun r hr g1 g2 => ?_⟩
  rcases h4 r.it ((h _).2 ⟨r, hr, rfl⟩) ((mnn_le _ _ _).2 ⟨g1, by show r.b ≤ _; omega⟩) with e | e
  · have := it_inj e; subst this; omega
  · have e2 : r0.a < r.a ∨ (r0.a = r.a ∧ r0.id < r.id) := kl_iff.1 e; omega
/-- The least first tick. -/
def nxt (t : Tr) : Int := if isN t = true then 9223372036854775808 else mnn (lst t).ka 9223372036854775808
theorem nxt_le {t : Tr} {L : List Rw} (h : TM t L) (hs : SS (tl t)) : nxt t ≤ 9223372036854775808 ∧ ∀ r ∈ L, nxt t ≤ r.a := by
  unfold nxt
  cases hn : isN t with
  | true =>
    have := isN_nil hn
    subst this
    refine ⟨by simp, fun r hr => ?_⟩
    have := (h r.it).2 ⟨r, hr, rfl⟩
    simp [tl] at this
  | false =>
    simp only [Bool.false_eq_true, if_false]
    obtain ⟨L', hL⟩ := lst_hd t hn
    refine ⟨((mnn_le _ _ _).1 (Int.le_refl _)).2, fun r hr => ?_⟩
    have h1 := ((mnn_le _ _ _).1 (Int.le_refl (mnn (lst t).ka 9223372036854775808))).1
    have h2 := (h r.it).2 ⟨r, hr, rfl⟩
    rw [hL] at h2 hs
    have h3 : (lst t).ka ≤ r.a := by
      rcases List.mem_cons.1 h2 with e | e
      · rw [← e]; exact Int.le_refl _
      · unfold SS at hs
        rw [List.pairwise_cons] at hs
        have := kl_iff.1 (hs.1 _ e)
        have h5 : (lst t).ka < r.a ∨ ((lst t).ka = r.a ∧ (lst t).ki < r.id) := this
        omega
    omega
theorem nxt_has {t : Tr} {L : List Rw} (h : TM t L) : nxt t = 9223372036854775808 ∨ ∃ r ∈ L, nxt t = r.a := by
  unfold nxt
  cases hn : isN t with
  | true => exact .inl rfl
  | false =>
    simp only [Bool.false_eq_true, if_false]
    obtain ⟨L', hL⟩ := lst_hd t hn
    unfold mnn
    split
    · exact .inl rfl
    · obtain ⟨r, hr, e⟩ := (h (lst t)).1 (by rw [hL]; simp)
      exact .inr ⟨r, hr, by rw [e]; rfl⟩
/-- The least second tick. -/
def ftt (t : Tr) : Int := if (belL 18446744073709551615 (tl t)).isSome = true then mnn (fv (belL 18446744073709551615 (tl t))).va 9223372036854775808 else 9223372036854775808
theorem ftt_le {t : Tr} {L : List Rw} (h : TM t L) (hs : SS (tl t)) (hb : ∀ r ∈ L, r.a ≤ 18446744073709551615) : ftt t ≤ 9223372036854775808 ∧ ∀ r ∈ L, ftt t ≤ r.b := by
  unfold ftt
  have h1 := bel_mn 18446744073709551615 (tl t) hs
  cases ho : belL 18446744073709551615 (tl t) with
  | none =>
    rw [ho] at h1
    exact ⟨by simp, fun r hr => absurd (hb r hr) (h1 r.it ((h _).2 ⟨r, hr, rfl⟩))⟩
  | some m =>
    rw [ho] at h1
    obtain ⟨h2, h3, h4⟩ := h1
    simp only [Option.isSome_some, if_true, fv, Option.getD_some]
    have h5 := (mnn_le _ _ _).1 (Int.le_refl (mnn m.va 9223372036854775808))
    refine ⟨h5.2, fun r hr => ?_⟩
    rcases h4 r.it ((h _).2 ⟨r, hr, rfl⟩) (hb r hr) with e | e
    · have : m.va = r.b := by rw [← e]; rfl
      omega
    · have h6 : m.va ≤ r.b := ahd_va e
      omega
theorem ftt_has {t : Tr} {L : List Rw} (h : TM t L) (hs : SS (tl t)) : ftt t = 9223372036854775808 ∨ ∃ r ∈ L, ftt t = r.b := by
  unfold ftt
  have h1 := bel_mn 18446744073709551615 (tl t) hs
  cases ho : belL 18446744073709551615 (tl t) with
  | none => exact .inl rfl
  | some m =>
    rw [ho] at h1
    obtain ⟨h2, h3, h4⟩ := h1
    simp only [Option.isSome_some, if_true, fv, Option.getD_some]
    unfold mnn
    split
    · exact .inl rfl
    · obtain ⟨r, hr, e⟩ := (h m).1 h2
      exact .inr ⟨r, hr, by rw [e]; rfl⟩
/-- An act. -/
structure Bc where
  kd : Int
  id : Int
  a : Int
  b : Int
  tk : Int
instance : Inhabited Bc := ⟨⟨0, 0, 0, 0, 0⟩⟩
def Bc.cells (x : Bc) : List Value := [.int .i64 x.kd, .int .i64 x.id, .int .u64 x.a, .int .u64 x.b, .int .u64 x.tk]
def Bc.rw (x : Bc) : Rw := ⟨x.id, x.a, x.b⟩
def nthB (l : List Bc) (j : Nat) : Bc := l.getD j default
theorem u64_le {a : Int} (h : (Lit.int .u64 a).wf = true) : a ≤ 18446744073709551615 := (bounds_u64 h).2
theorem bcs_of {w : World} {v : Value} (h : Op.FlatSlice w 5 [.int .i64, .int .i64, .int .u64, .int .u64, .int .u64] v) :
    ∃ a, ∃ l : List Bc, ∃ cap, v = .slice a l.length cap ∧ RwV Bc.cells 5 w a l ∧ ∀ j, j < l.length → iok (nthB l j).id ∧ (nthB l j).a ≤ 18446744073709551615 := by
  rcases h with h | ⟨a, cap, h, hc⟩ | ⟨b, o, n, cap, css, h0, rfl, h3, h4, hlt, hn, hi⟩
  · exact ⟨none, [], 0, h, RwV.nil _ _, fun j hj => by simp at hj⟩
  · exact ⟨some a, [], cap, h, RwV.nil _ _, fun j hj => by simp at hj⟩
  · have h1 : ∀ i, i < n → ∃ q : Bc, w.rangeAt b (o + i * 5) q.cells ∧ iok q.id ∧ q.a ≤ 18446744073709551615 := fun i hin => by
      obtain ⟨hf, he⟩ := hi i (by omega)
      obtain ⟨_, _, e0, ⟨x0, rfl, w0⟩, _, _, rfl, ⟨x1, rfl, w1⟩, _, _, rfl, ⟨x2, rfl, w2⟩, _, _, rfl, ⟨x3, rfl, w3⟩, _, _, rfl, ⟨x4, rfl, w4⟩, rfl⟩ := hf
      rw [e0] at he
      exact ⟨⟨x0, x1, x2, x3, x4⟩, fun j x hx => he j x hx, w1, u64_le w2⟩
    obtain ⟨qs, hqs⟩ := Go.Deep.choose_lt h1
    refine ⟨some ⟨b, o, none⟩, (List.range n).map qs, cap, by simp, fun k hk => ?_, fun j hj => ?_⟩
    · have := (hqs k (by simpa using hk)).1
      exact ⟨b, o, rfl, hlt, by simpa using this⟩
    · have hj' : j < n := by simpa using hj
      have := (hqs j hj').2
      have e : nthB ((List.range n).map qs) j = qs j := by unfold nthB; rw [List.getD_eq_getElem?_getD, List.getElem?_map, List.getElem?_range hj']; rfl
      rw [e]; exact this
theorem bc_cells {w : World} {ad : Option Addr} {l : List Bc} (h : RwV Bc.cells 5 w ad l) {i : Nat} (hi : i < l.length) : ∃ b o, ad = some ⟨b, o, none⟩ ∧ b < w.heap.size ∧ w.cell? ⟨b, o + i * 5, none⟩ = some (.int .i64 (nthB l i).kd) ∧ w.cell? ⟨b, o + i * 5 + 1, none⟩ = some (.int .i64 (nthB l i).id) ∧ w.cell? ⟨b, o + i * 5 + 2, none⟩ = some (.int .u64 (nthB l i).a) ∧ w.cell? ⟨b, o + i * 5 + 3, none⟩ = some (.int .u64 (nthB l i).b) ∧ w.cell? ⟨b, o + i * 5 + 4, none⟩ = some (.int .u64 (nthB l i).tk) := by
  obtain ⟨b, o, h1, h2, h3⟩ := h i hi
  have e : nthB l i = l[i] := by unfold nthB; rw [List.getD_eq_getElem?_getD, List.getElem?_eq_getElem hi]; rfl
  rw [e]
  exact ⟨b, o, h1, h2, h3 0 _ rfl, h3 1 _ rfl, h3 2 _ rfl, h3 3 _ rfl, h3 4 _ rfl⟩
end Go.Proofs.Ytikmdkmejbcmmaa
