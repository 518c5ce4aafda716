/- Acts, two trees of the call's own, lists with the same members. -/
import Derived.Test.YtikmdkmejbcmmaaAv18
import Derived.Test.YtikmdkmejbcmmaaOpenA
import Derived.OpenShut
namespace Go.Proofs.Ytikmdkmejbcmmaa
set_option linter.unusedVariables false
set_option linter.unusedSimpArgs false
set_option maxRecDepth 100000
open Go.RowKit Fg Reg
attribute [local irreducible] Reg.wE NT

theorem ss_same : ∀ (A B : List It), SS A → SS B → (∀ x, x ∈ A ↔ x ∈ B) → A = B
  | [], [], _, _, _ => rfl
  | [], b :: B, _, _, h => by have := (h b).2 (by simp); simp at this
  | a :: A, [], _, _, h => by have := (h a).1 (by simp); simp at this
  | a :: A, b :: B, hA, hB, h => by
    unfold SS at hA hB
    rw [List.pairwise_cons] at hA hB
    have hab : a = b := by
      rcases List.mem_cons.1 ((h a).1 (by simp)) with e | e
      · exact e
      · rcases List.mem_cons.1 ((h b).2 (by simp)) with f | f
        · exact f.symm
        · have := kl_asym (hA.1 b f)
          rw [hB.1 a e] at this
          exact absurd this (by simp)
    subst hab
    have ha : a ∉ A := fun g => by have := hA.1 a g; rw [kl_irr] at this; exact absurd this (by simp)
    have hb : a ∉ B := fun g => by have := hB.1 a g; rw [kl_irr] at this; exact absurd this (by simp)
    rw [ss_same A B hA.2 hB.2 fun x => by
      constructor
      · intro hx
        rcases List.mem_cons.1 ((h x).1 (by simp [hx])) with e | e
        · subst e; exact absurd hx ha
        · exact e
      · intro hx
        rcases List.mem_cons.1 ((h x).2 (by simp [hx])) with e | e
        · subst e; exact absurd hx hb
        · exact e]
theorem hgt_len : ∀ t : Tr, hgt t ≤ (tl t).length
  | .nil => by simp [hgt]
  | .node b x l r => by
    have h1 := hgt_len l
    have h2 := hgt_len r
    rw [hgt_node]
    simp only [tl, List.length_append, List.length_cons]
    omega
structure Ac where
  kd : Int
  ka : Int
  ki : Int
  va : Int
  vi : Int
  tk : Int
instance : Inhabited Ac := ⟨⟨0, 0, 0, 0, 0, 0⟩⟩
def Ac.cells (x : Ac) : List Value := [.int .i64 x.kd, .int .u64 x.ka, .int .i64 x.ki, .int .u64 x.va, .int .i64 x.vi, .int .u64 x.tk]
theorem acs_of {w : World} {v : Value} (h : Op.FlatSlice w 6 [.int .i64, .int .u64, .int .i64, .int .u64, .int .i64, .int .u64] v) :
    ∃ a, ∃ l : List Ac, ∃ cap, v = .slice a l.length cap ∧ RwV Ac.cells 6 w a l := by
  rcases h with h | ⟨a, cap, h, hc⟩ | ⟨b, o, n, cap, css, h0, rfl, h3, h4, hlt, hn, hi⟩
  · exact ⟨none, [], 0, h, RwV.nil _ _⟩
  · exact ⟨some a, [], cap, h, RwV.nil _ _⟩
  · have h1 : ∀ i, i < n → ∃ q : Ac, w.rangeAt b (o + i * 6) q.cells := fun i hin => by
      obtain ⟨hf, he⟩ := hi i (by omega)
      obtain ⟨_, _, e0, ⟨x0, rfl, w0⟩, _, _, rfl, ⟨x1, rfl, w1⟩, _, _, rfl, ⟨x2, rfl, w2⟩, _, _, rfl, ⟨x3, rfl, w3⟩, _, _, rfl, ⟨x4, rfl, w4⟩, _, _, rfl, ⟨x5, rfl, w5⟩, rfl⟩ := hf
      rw [e0] at he
      exact ⟨⟨x0, x1, x2, x3, x4, x5⟩, fun j x hx => he j x hx⟩
    obtain ⟨qs, hqs⟩ := Go.Deep.choose_lt h1
    refine ⟨some ⟨b, o, none⟩, (List.range n).map qs, cap, by simp, fun k hk => ?_⟩
    have := hqs k (by simpa using hk)
    exact ⟨b, o, rfl, hlt, by simpa using this⟩
def nth (l : List Ac) (j : Nat) : Ac := l.getD j default
/-- The item of a place. -/
def im (l : List Ac) (j : Nat) : It := ⟨(nth l j).ka, j, (nth l j).va, (nth l j).vi⟩
def MB (l : List Ac) (P : Nat → Prop) (L : List It) : Prop := ∀ x, x ∈ L ↔ ∃ j, P j ∧ x = im l j
theorem MB.none {l : List Ac} {P : Nat → Prop} {L : List It} (h : MB l P L) {i : Nat} (hP : ¬ P i) : fndL (im l i) L = none := fnd_no fun y hy => by
  obtain ⟨j, hj, rfl⟩ := (h y).1 hy
  cases hk : ke (im l j) (im l i)
  · rfl
  · have := (ke_iff.1 hk).2
    have hji : (j : Int) = (i : Int) := this
    have : j = i := by omega
    subst this
    exact absurd hj hP
theorem MB.some {l : List Ac} {P : Nat → Prop} {L : List It} (h : MB l P L) {i : Nat} (hP : P i) : ∃ y, fndL (im l i) L = some y := by
  cases hf : fndL (im l i) L with
  | some y => exact ⟨y, rfl⟩
  | none =>
    have := fnd_none hf (im l i) ((h _).2 ⟨i, hP, rfl⟩)
    rw [ke_iff.2 ⟨rfl, rfl⟩] at this
    exact absurd this (by simp)
theorem MB.ins {l : List Ac} {P Q : Nat → Prop} {L : List It} (h : MB l P L) {i : Nat} (hQ : ∀ j, Q j ↔ j = i ∨ P j) : MB l Q (insL (im l i) L) := fun x => by
  rw [insL_mem, h x]
  constructor
  · rintro (e | ⟨j, hj, e⟩)
    · exact ⟨i, (hQ i).2 (.inl rfl), e⟩
    · exact ⟨j, (hQ j).2 (.inr hj), e⟩
  · rintro ⟨j, hj, e⟩
    rcases (hQ j).1 hj with g | g
    · subst g; exact .inl e
    · exact .inr ⟨j, g, e⟩
theorem MB.rem {l : List Ac} {P Q : Nat → Prop} {L : List It} (h : MB l P L) {i : Nat} (hQ : ∀ j, Q j ↔ j ≠ i ∧ P j) : MB l Q (remL (im l i) L) := fun x => by
  unfold remL
  rw [List.mem_filter, h x]
  constructor
  · rintro ⟨⟨j, hj, e⟩, hk⟩
    refine ⟨j, (hQ j).2 ⟨fun g => ?_, hj⟩, e⟩
    subst g e
    rw [ke_iff.2 ⟨rfl, rfl⟩] at hk
    exact absurd hk (by simp)
  · rintro ⟨j, hj, e⟩
    obtain ⟨g1, g2⟩ := (hQ j).1 hj
    refine ⟨⟨j, g2, e⟩, ?_⟩
    cases hk : ke x (im l i)
    · rfl
    · subst e
      have := (ke_iff.1 hk).2
      have hji : (j : Int) = (i : Int) := this
      exact absurd (by omega) g1
theorem MB.congr {l : List Ac} {P Q : Nat → Prop} {L : List It} (h : MB l P L) (hQ : ∀ j, Q j ↔ P j) : MB l Q L := fun x => by
  rw [h x]
  constructor
  · rintro ⟨j, hj, e⟩; exact ⟨j, (hQ j).2 hj, e⟩
  · rintro ⟨j, hj, e⟩; exact ⟨j, (hQ j).1 hj, e⟩
/-- Two trees of the call's own. -/
structure S2 (w wc : World) (a b : Nat) (t u : Tr) : Prop where
  s1 : ST w wc a t
  s2 : ST w wc b u
  ap : ∀ k, (k = a ∨ k ∈ fp t) → ¬ (k = b ∨ k ∈ fp u)
theorem ST.lt {w wc : World} {a : Nat} {t : Tr} (h : ST w wc a t) : ∀ k, k = a ∨ k ∈ fp t → k < wc.heap.size := fun k hk => by
  rcases hk with rfl | hk
  · exact h.tr.lt
  · exact NT.lt h.tr.nt k hk
theorem S2.step {w wc wz : World} {a b : Nat} {t u : Tr} (h : S2 w wc a b t u) (hb : Below wc.heap.size wc wz) : S2 w wz a b t u := ⟨h.s1.step hb, h.s2.step hb, h.ap⟩
theorem S2.ins1 {w wc wz : World} {a b nb : Nat} {t u : Tr} {x : It} (h : S2 w wc a b t u) (hn : wc.heap.size ≤ nb) (hT : TR wz a (putT nb x t)) (hO : Only (fun k => k = a ∨ k ∈ fp t) wc wz) : S2 w wz a b (putT nb x t) u := by
  have h1 := h.s1.ins hn hT hO
  refine ⟨h1, ⟨h1.hb, h.s2.tr.only hO fun k hk hk2 => h.ap k hk2 hk, h.s2.fr⟩, fun k hk hk2 => ?_⟩
  rcases hk with hk | hk
  · exact h.ap k (.inl hk) hk2
  · rcases (putT_mem x t h.s1.tr.bl h.s1.tr.ss nb (fun h9 => by have := NT.lt h.s1.tr.nt _ h9; omega) k).1 hk with g | g
    · have := h.s2.lt k hk2; omega
    · exact h.ap k (.inr g) hk2
theorem S2.ins2 {w wc wz : World} {a b nb : Nat} {t u : Tr} {x : It} (h : S2 w wc a b t u) (hn : wc.heap.size ≤ nb) (hT : TR wz b (putT nb x u)) (hO : Only (fun k => k = b ∨ k ∈ fp u) wc wz) : S2 w wz a b t (putT nb x u) := by
  have h1 := h.s2.ins hn hT hO
  refine ⟨⟨h1.hb, h.s1.tr.only hO fun k hk hk2 => h.ap k hk hk2, h.s1.fr⟩, h1, fun k hk2 hk => ?_⟩
  rcases hk with hk | hk
  · exact h.ap k hk2 (.inl hk)
  · rcases (putT_mem x u h.s2.tr.bl h.s2.tr.ss nb (fun h9 => by have := NT.lt h.s2.tr.nt _ h9; omega) k).1 hk with g | g
    · have := h.s1.lt k hk2; omega
    · exact h.ap k hk2 (.inr g)
theorem S2.del1 {w wc wz : World} {a b : Nat} {t u : Tr} {k y : It} (h : S2 w wc a b t u) (hf : fndL k (tl t) = some y) (hT : TR wz a (cutT k t)) (hO : Only (fun k => k = a ∨ k ∈ fp t) wc wz) : S2 w wz a b (cutT k t) u := by
  have h1 := h.s1.del hf hT hO
  refine ⟨h1, ⟨h1.hb, h.s2.tr.only hO fun k hk hk2 => h.ap k hk2 hk, h.s2.fr⟩, fun j hk hk2 => ?_⟩
  rcases hk with hk | hk
  · exact h.ap j (.inl hk) hk2
  · exact h.ap j (.inr (cnt_mem (cutT_all k t h.s1.tr.bl h.s1.tr.ss (fnd_some hf)).2.2.2.1 j hk)) hk2
theorem S2.del2 {w wc wz : World} {a b : Nat} {t u : Tr} {k y : It} (h : S2 w wc a b t u) (hf : fndL k (tl u) = some y) (hT : TR wz b (cutT k u)) (hO : Only (fun k => k = b ∨ k ∈ fp u) wc wz) : S2 w wz a b t (cutT k u) := by
  have h1 := h.s2.del hf hT hO
  refine ⟨⟨h1.hb, h.s1.tr.only hO fun k hk hk2 => h.ap k hk hk2, h.s1.fr⟩, h1, fun j hk2 hk => ?_⟩
  rcases hk with hk | hk
  · exact h.ap j hk2 (.inl hk)
  · exact h.ap j hk2 (.inr (cnt_mem (cutT_all k u h.s2.tr.bl h.s2.tr.ss (fnd_some hf)).2.2.2.1 j hk))
theorem tl_put {w : World} {a nb : Nat} {t : Tr} {x : It} (h : TR w a t) (hn : w.heap.size ≤ nb) : tl (putT nb x t) = insL x (tl t) := (putT_all nb x t h.bl h.ss (fun h9 => by have := NT.lt h.nt _ h9; omega)).2.2.2.2
theorem tl_cut {w : World} {a : Nat} {t : Tr} {k y : It} (h : TR w a t) (hf : fndL k (tl t) = some y) : tl (cutT k t) = remL k (tl t) := (cutT_all k t h.bl h.ss (fnd_some hf)).2.2.2.2
theorem insO_c (l : List Ac) (P : Nat → Prop) (i : Nat) (a : Nat) (t : Tr) (w : World) (h : TR w a t) (hP : MB l P (tl t)) (hi : ¬ P i) (hl : (tl t).length ≤ 80) :
    Calls Try.prog 18 #[.pointer (some ⟨a, 0, none⟩), .agg #[.int .u64 (nth l i).ka, .int .i64 i], .agg #[.int .u64 (nth l i).va, .int .i64 (nth l i).vi]] w fun e w' => ∃ nb, w.heap.size ≤ nb ∧ e = .returned (.int .i64 0) ∧ TR w' a (putT nb (im l i) t) ∧ Only (fun k => k = a ∨ k ∈ fp t) w w' :=
  ins_c a t (im l i) ⟨(nth l i).va, (nth l i).vi, 0, 0⟩ w h (hP.none hi) (by have := hgt_len t; omega) (by omega)
theorem delO_c (l : List Ac) (i : Nat) (a : Nat) (t : Tr) (y : It) (w : World) (h : TR w a t) (hf : fndL (im l i) (tl t) = some y) (hl : (tl t).length ≤ 80) :
    Calls Try.prog 16 #[.pointer (some ⟨a, 0, none⟩), .agg #[.int .u64 (nth l i).ka, .int .i64 i]] w fun e w' => e = .returned (.int .i64 0) ∧ TR w' a (cutT (im l i) t) ∧ Only (fun k => k = a ∨ k ∈ fp t) w w' :=
  del_c a t (im l i) y w h hf (by have := hgt_len t; omega) (by omega)
theorem ac_cells {w : World} {ad : Option Addr} {l : List Ac} (h : RwV Ac.cells 6 w ad l) {i : Nat} (hi : i < l.length) : ∃ b o, ad = some ⟨b, o, none⟩ ∧ b < w.heap.size ∧ w.cell? ⟨b, o + i * 6, none⟩ = some (.int .i64 (nth l i).kd) ∧ w.cell? ⟨b, o + i * 6 + 1, none⟩ = some (.int .u64 (nth l i).ka) ∧ w.cell? ⟨b, o + i * 6 + 2, none⟩ = some (.int .i64 (nth l i).ki) ∧ w.cell? ⟨b, o + i * 6 + 3, none⟩ = some (.int .u64 (nth l i).va) ∧ w.cell? ⟨b, o + i * 6 + 4, none⟩ = some (.int .i64 (nth l i).vi) ∧ w.cell? ⟨b, o + i * 6 + 5, none⟩ = some (.int .u64 (nth l i).tk) := by
  obtain ⟨b, o, h1, h2, h3⟩ := h i hi
  have e : nth l i = l[i] := by unfold nth; rw [List.getD_eq_getElem?_getD, List.getElem?_eq_getElem hi]; rfl
  rw [e]
  exact ⟨b, o, h1, h2, h3 0 _ rfl, h3 1 _ rfl, h3 2 _ rfl, h3 3 _ rfl, h3 4 _ rfl, h3 5 _ rfl⟩
end Go.Proofs.Ytikmdkmejbcmmaa
