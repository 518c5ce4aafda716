/- Below. -/
import Derived.Test.YtikmdkmejbcmmaaAv12
namespace Go.Proofs.Ytikmdkmejbcmmaa
set_option linter.unusedVariables false
set_option linter.unusedSimpArgs false
set_option maxRecDepth 100000
open Go.RowKit Fg Reg
attribute [local irreducible] Reg.wE

def Mn (at' : Int) (L : List It) : Option It → Prop
  | none => ∀ x ∈ L, ¬ x.ka ≤ at'
  | some m => m ∈ L ∧ m.ka ≤ at' ∧ ∀ x ∈ L, x.ka ≤ at' → x = m ∨ ahd m x = true
def stp (o : Option It) (x : It) : Option It :=
  match o with
  | none => some x
  | some m => if ahd x m = true then some x else some m
theorem it_ext {a b : It} (h : ke a b = true) (h1 : a.va = b.va) (h2 : a.vi = b.vi) : a = b := by
  rw [ke_iff] at h
  cases a; cases b
  simp_all
theorem ahd_tot2 (a b : It) : ahd a b = true ∨ a = b ∨ ahd b a = true := by
  rcases ahd_tot a b with h | h | ⟨h1, h2, h3⟩
  · exact .inl h
  · exact .inr (.inr h)
  · exact .inr (.inl (it_ext h1 h2 h3))
theorem ahd_va {a b : It} (h : ahd a b = true) : a.va ≤ b.va := by
  unfold ahd at h
  split at h
  · omega
  · simp only [decide_eq_true_eq] at h; omega
theorem Mn.uniq {a : Int} {L : List It} {o o' : Option It} (h : Mn a L o) (h' : Mn a L o') : o = o' := by
  cases o with
  | none =>
    cases o' with
    | none => rfl
    | some m => exact absurd h'.2.1 (h m h'.1)
  | some m =>
    cases o' with
    | none => exact absurd h.2.1 (h' m h.1)
    | some n =>
      rcases h.2.2 n h'.1 h'.2.1 with e | e
      · rw [e]
      · rcases h'.2.2 m h.1 h.2.1 with e2 | e2
        · rw [e2]
        · have := ahd_asym e; rw [e2] at this; exact absurd this (by simp)
/-- A better one, of a list that it is the best one of. -/
theorem Mn.step {a : Int} {L K : List It} {o : Option It} {x : It} (h : Mn a L o) (hx : x ∈ K) (hK : ∀ z ∈ K, z.ka ≤ a ∧ (z = x ∨ ahd x z = true)) : Mn a (K ++ L) (stp o x) := by
  cases o with
  | none =>
    refine ⟨by simp [hx], (hK x hx).1, fun z hz hza => ?_⟩
    rcases List.mem_append.1 hz with g | g
    · exact (hK z g).2
    · exact absurd hza (h z g)
  | some m =>
    show Mn a (K ++ L) (if ahd x m = true then some x else some m)
    split
    · rename_i hxm
      refine ⟨by simp [hx], (hK x hx).1, fun z hz hza => ?_⟩
      rcases List.mem_append.1 hz with g | g
      · exact (hK z g).2
      · rcases h.2.2 z g hza with e | e
        · subst e; exact .inr hxm
        · exact .inr (ahd_trans hxm e)
    · rename_i hxm
      have hmx : x = m ∨ ahd m x = true := by
        rcases ahd_tot2 x m with g | g | g
        · exact absurd g hxm
        · exact .inl g
        · exact .inr g
      refine ⟨by simp [h.1], h.2.1, fun z hz hza => ?_⟩
      rcases List.mem_append.1 hz with g | g
      · rcases (hK z g).2 with e | e
        · subst e; exact hmx
        · rcases hmx with e2 | e2
          · subst e2; exact .inr e
          · exact .inr (ahd_trans e2 e)
      · exact h.2.2 z g hza
theorem Mn.cover {a : Int} {L K : List It} {o : Option It} (h : Mn a L o) (h1 : ∀ x ∈ L, x ∈ K) (h2 : ∀ x ∈ K, x.ka ≤ a → x ∈ L) : Mn a K o := by
  cases o with
  | none => exact fun x hx hxa => h x (h2 x hx hxa) hxa
  | some m => exact ⟨h1 m h.1, h.2.1, fun x hx hxa => h.2.2 x (h2 x hx hxa) hxa⟩
theorem btr_nil (m q : It) : btr m true q = m := by unfold btr; simp
theorem bst_min : ∀ t, isN t = false → bst t ∈ tl t ∧ ∀ z ∈ tl t, z = bst t ∨ ahd (bst t) z = true
  | .nil, h => by simp [isN] at h
  | .node b x l r, _ => by
    have key : ∀ (m : It) (t : Tr) (K : List It), (isN t = false → bst t ∈ tl t ∧ ∀ z ∈ tl t, z = bst t ∨ ahd (bst t) z = true) → m ∈ K → (∀ z ∈ K, z = m ∨ ahd m z = true) →
        btr m (isN t) (bst t) ∈ tl t ++ K ∧ ∀ z ∈ tl t ++ K, z = btr m (isN t) (bst t) ∨ ahd (btr m (isN t) (bst t)) z = true := fun m t K ht hm hK => by
      cases hn : isN t with
      | true =>
        have := isN_nil hn
        subst this
        rw [btr_nil]
        simpa [tl] using And.intro hm hK
      | false =>
        obtain ⟨q1, q2⟩ := ht hn
        unfold btr
        by_cases hq : ahd (bst t) m = true
        · rw [if_pos (by simp [hq])]
          refine ⟨by simp [q1], fun z hz => ?_⟩
          rcases List.mem_append.1 hz with g | g
          · exact q2 z g
          · rcases hK z g with e | e
            · subst e; exact .inr hq
            · exact .inr (ahd_trans hq e)
        · rw [if_neg (by simp [hq])]
          have hmq : bst t = m ∨ ahd m (bst t) = true := by
            rcases ahd_tot2 (bst t) m with g | g | g
            · exact absurd g hq
            · exact .inl g
            · exact .inr g
          refine ⟨by simp [hm], fun z hz => ?_⟩
          rcases List.mem_append.1 hz with g | g
          · rcases q2 z g with e | e
            · rw [e]; exact hmq
            · rcases hmq with e2 | e2
              · rw [← e2]; exact .inr e
              · exact .inr (ahd_trans e2 e)
          · exact hK z g
    obtain ⟨a1, a2⟩ := key x l [x] (bst_min l) (List.mem_singleton.2 rfl) (fun z hz => .inl (List.mem_singleton.1 hz))
    obtain ⟨c1, c2⟩ := key _ r _ (bst_min r) a1 a2
    show btr (btr x (isN l) (bst l)) (isN r) (bst r) ∈ tl l ++ x :: tl r ∧ _
    refine ⟨?_, fun z hz => c2 z ?_⟩
    · simp only [List.mem_append, List.mem_cons, List.not_mem_nil, or_false] at c1 ⊢
      rcases c1 with g | g | g <;> first | exact .inl g | exact .inr (.inl g) | exact .inr (.inr g)
    · have hz' : z ∈ tl l ++ x :: tl r := hz
      simp only [List.mem_append, List.mem_cons, List.not_mem_nil, or_false] at hz' ⊢
      rcases hz' with g | g | g <;> first | exact .inl g | exact .inr (.inl g) | exact .inr (.inr g)
/-- What the reference finds. -/
def bstp (a : Int) (o : Option It) (x : It) : Option It := if x.ka ≤ a ∧ (∀ m, o = some m → decide (x.va < m.va ∨ (x.va = m.va ∧ x.vi < m.vi)) = true) then some x else o
def belL (a : Int) (L : List It) : Option It := L.foldl (bstp a) none
theorem bel_go (a : Int) : ∀ (B A : List It) (o : Option It), SS (A ++ B) → Mn a A o → Mn a (A ++ B) (B.foldl (bstp a) o)
  | [], A, o, _, h => by simpa using h
  | x :: B, A, o, hs, h => by
    rw [List.foldl_cons, show A ++ x :: B = (A ++ [x]) ++ B by simp]
    refine bel_go a B (A ++ [x]) _ (by simpa using hs) ?_
    have hAx : ∀ z ∈ A, kl z x = true := (ss_parts hs).2.2.1
    unfold bstp
    by_cases hxa : x.ka ≤ a
    · cases o with
      | none =>
        rw [if_pos ⟨hxa, by simp⟩]
        exact ⟨by simp, hxa, fun z hz hza => by
          rcases List.mem_append.1 hz with g | g
          · exact absurd hza (h z g)
          · exact .inl (by simpa using g)⟩
      | some m =>
        by_cases hv : x.va < m.va ∨ (x.va = m.va ∧ x.vi < m.vi)
        · rw [if_pos ⟨hxa, fun q hq => by injection hq with hq; subst hq; exact decide_eq_true hv⟩]
          have hxm : ahd x m = true := by unfold ahd; rw [if_neg (by omega)]; exact decide_eq_true hv
          refine ⟨by simp, hxa, fun z hz hza => ?_⟩
          rcases List.mem_append.1 hz with g | g
          · rcases h.2.2 z g hza with e | e
            · subst e; exact .inr hxm
            · exact .inr (ahd_trans hxm e)
          · exact .inl (by simpa using g)
        · rw [if_neg (fun g => hv (of_decide_eq_true (g.2 m rfl)))]
          refine ⟨by simp [h.1], h.2.1, fun z hz hza => ?_⟩
          rcases List.mem_append.1 hz with g | g
          · exact h.2.2 z g hza
          · have : z = x := by simpa using g
            subst this
            refine .inr ?_
            have hmz := hAx m h.1
            unfold ahd
            split
            · exact hmz
            · exact decide_eq_true (by omega)
    · rw [if_neg (fun g => hxa g.1)]
      cases o with
      | none =>
        intro z hz hza
        rcases List.mem_append.1 hz with g | g
        · exact h z g hza
        · have : z = x := by simpa using g
          subst this; exact hxa hza
      | some m => exact ⟨by simp [h.1], h.2.1, fun z hz hza => by
          rcases List.mem_append.1 hz with g | g
          · exact h.2.2 z g hza
          · have : z = x := by simpa using g
            subst this; exact absurd hza hxa⟩
theorem bel_mn (a : Int) (L : List It) (hs : SS L) : Mn a L (belL a L) := by
  have := bel_go a L [] none (by simpa using hs) (by intro x hx; simp at hx)
  exact this

def fv (o : Option It) : It := o.getD ⟨0, 0, 0, 0⟩
def FO (z : World) (fb ob : Nat) (o : Option It) : Prop :=
  (z.cell? ⟨fb, 0, none⟩ = some (.int .u64 ((fv o)).ka) ∧ z.cell? ⟨fb, 1, none⟩ = some (.int .i64 ((fv o)).ki) ∧ z.cell? ⟨fb, 2, none⟩ = some (.int .u64 ((fv o)).va) ∧ z.cell? ⟨fb, 3, none⟩ = some (.int .i64 ((fv o)).vi) ∧ fb < z.heap.size) ∧ (z.frozen? ⟨fb, 0, none⟩ = false ∧ z.frozen? ⟨fb, 1, none⟩ = false ∧ z.frozen? ⟨fb, 2, none⟩ = false ∧ z.frozen? ⟨fb, 3, none⟩ = false) ∧ z.cell? ⟨ob, 0, none⟩ = some (.bool o.isSome) ∧ z.frozen? ⟨ob, 0, none⟩ = false ∧ ob < z.heap.size
theorem FO.below {z z' : World} {fb ob : Nat} {o : Option It} (h : FO z fb ob o) (hb : Below z.heap.size z z') : FO z' fb ob o := by
  obtain ⟨⟨a0, a1, a2, a3, a4⟩, ⟨b0, b1, b2, b3⟩, c0, c1, c2⟩ := h
  exact ⟨⟨(hb.cell a4).trans a0, (hb.cell a4).trans a1, (hb.cell a4).trans a2, (hb.cell a4).trans a3, Nat.lt_of_lt_of_le a4 hb.size⟩, ⟨(hb.frozen a4).trans b0, (hb.frozen a4).trans b1, (hb.frozen a4).trans b2, (hb.frozen a4).trans b3⟩, (hb.cell c2).trans c0, (hb.frozen c2).trans c1, Nat.lt_of_lt_of_le c2 hb.size⟩
theorem only_below {S : Nat → Prop} {B : Nat} {w w' : World} (h : Only S w w') (hS : ∀ k, S k → B ≤ k) : (∀ k, k < B → k < w.heap.size) → Below B w w' := fun hk =>
  ⟨h.os, h.tape, h.output, h.size, fun k hkB => h.block k (hk k hkB) fun hs => by have := hS k hs; omega⟩
set_option maxHeartbeats 4000000 in
theorem take_c (x : It) (o : Option It) (fb ob : Nat) (w : World) (h : FO w fb ob o) (hne : fb ≠ ob) : Calls Try.prog 61 #[.agg #[.int .u64 (x).ka, .int .i64 (x).ki, .int .u64 (x).va, .int .i64 (x).vi], .pointer (some ⟨ob, 0, none⟩), .pointer (some ⟨fb, 0, none⟩)] w fun e w' => e = .returned (.tuple #[]) ∧ FO w' fb ob (stp o x) ∧ Only (fun k => k = fb ∨ k = ob) w w' := by
  obtain ⟨⟨p0, p1, p2, p3, a4⟩, ⟨b0, b1, b2, b3⟩, q0, c1, c2⟩ := h
  have hne2 : ¬ ob = fb := fun h => hne h.symm
  cases o with
  | none =>
    have c0 : w.cell? ⟨ob, 0, none⟩ = some (.bool false) := q0
    have a0 : w.cell? ⟨fb, 0, none⟩ = some (.int .u64 0) := p0
    have a1 : w.cell? ⟨fb, 1, none⟩ = some (.int .i64 0) := p1
    have a2 : w.cell? ⟨fb, 2, none⟩ = some (.int .u64 0) := p2
    have a3 : w.cell? ⟨fb, 3, none⟩ = some (.int .i64 0) := p3
    clear p0 p1 p2 p3 q0
    go_enter Try.func61, Try.ntmps61
    go_wp2
    refine bodyPost_end (v := .tuple #[]) (by simp [results, Try.results61]) rfl (And.intro rfl (And.intro (And.intro ⟨?_, ?_, ?_, ?_, ?_⟩ (And.intro ⟨?_, ?_, ?_, ?_⟩ ⟨?_, ?_, ?_⟩)) ?_))
    all_goals first | (simp [go_sem, fv, stp, *]; done) | (simp [go_sem, fv, stp, *]; omega) | skip
    (repeat' (first | assumption | exact Only.refl _ _ | refine Only.setCell ?_ (by simp) _ | refine Only.alloc ?_ _ | refine Only.drew ?_))
  | some m =>
    have c0 : w.cell? ⟨ob, 0, none⟩ = some (.bool true) := q0
    have a0 : w.cell? ⟨fb, 0, none⟩ = some (.int .u64 m.ka) := p0
    have a1 : w.cell? ⟨fb, 1, none⟩ = some (.int .i64 m.ki) := p1
    have a2 : w.cell? ⟨fb, 2, none⟩ = some (.int .u64 m.va) := p2
    have a3 : w.cell? ⟨fb, 3, none⟩ = some (.int .i64 m.vi) := p3
    clear p0 p1 p2 p3 q0
    have ka := fun z => ahd_c x m z
    have es : stp (some m) x = if ahd x m = true then some x else some m := rfl
    rw [es]
    cases hxm : ahd x m with
    | true =>
      rw [hxm] at ka
      have KA := Lib.hid ka
      rw [if_pos rfl]
      clear ka es
      go_enter Try.func61, Try.ntmps61
      go_wp2_with (go_at_call 62; ((with_reducible refine (KA.out _).mono ?_); rintro e w1 ⟨rfl, hbel⟩; obtain ⟨hcc, hff⟩ := bcell hbel; have hsz := hbel.size; (try simp at hsz); have hF : (w1.cell? ⟨fb, 0, none⟩ = some (.int .u64 (m).ka) ∧ w1.cell? ⟨fb, 1, none⟩ = some (.int .i64 (m).ki) ∧ w1.cell? ⟨fb, 2, none⟩ = some (.int .u64 (m).va) ∧ w1.cell? ⟨fb, 3, none⟩ = some (.int .i64 (m).vi) ∧ fb < w1.heap.size) ∧ (w1.frozen? ⟨fb, 0, none⟩ = false ∧ w1.frozen? ⟨fb, 1, none⟩ = false ∧ w1.frozen? ⟨fb, 2, none⟩ = false ∧ w1.frozen? ⟨fb, 3, none⟩ = false) ∧ w1.cell? ⟨ob, 0, none⟩ = some (.bool true) ∧ w1.frozen? ⟨ob, 0, none⟩ = false ∧ ob < w1.heap.size ∧ (w1.cell? ⟨w.heap.size, 0, none⟩ = some (.int .u64 (x).ka) ∧ w1.cell? ⟨w.heap.size, 1, none⟩ = some (.int .i64 (x).ki) ∧ w1.cell? ⟨w.heap.size, 2, none⟩ = some (.int .u64 (x).va) ∧ w1.cell? ⟨w.heap.size, 3, none⟩ = some (.int .i64 (x).vi) ∧ w.heap.size < w1.heap.size) ∧ Below w.heap.size w w1 := (by ((repeat' apply And.intro) <;> first | (simp [go_sem, *]; done) | omega | (repeat' (first | with_reducible exact Below.refl _ _ | with_reducible assumption | ((with_reducible refine Below.drew ?_)) | ((with_reducible refine below_drewN ?_ _)) | ((with_reducible refine Below.alloc ?_ ?_ _); rotate_left; focus (first | omega | (simp; done) | (simp; omega))) | ((with_reducible refine Below.setCell ?_ ?_ _); rotate_left; focus (first | omega | (simp; done) | (simp; omega))) | ((with_reducible refine Below.trans ?_ (Below.mono (by with_reducible assumption) ?_)); rotate_left; focus (first | omega | (simp; done) | (simp; omega))))))); go_split_ands; clear hcc hff hbel))
      refine bodyPost_end (v := .tuple #[]) (by simp [results, Try.results61]) rfl (And.intro rfl (And.intro (And.intro ⟨?_, ?_, ?_, ?_, ?_⟩ (And.intro ⟨?_, ?_, ?_, ?_⟩ ⟨?_, ?_, ?_⟩)) ?_))
      all_goals first | (simp [go_sem, fv, *]; done) | (simp [go_sem, fv, *]; omega) | skip
      have hb : Only (fun k => k = fb ∨ k = ob) w w1 := Only.of_below (by assumption)
      (repeat' (first | assumption | exact Only.refl _ _ | refine Only.setCell ?_ (by simp) _ | refine Only.alloc ?_ _ | refine Only.drew ?_))
    | false =>
      rw [hxm] at ka
      have KA := Lib.hid ka
      rw [if_neg (by simp)]
      clear ka es
      go_enter Try.func61, Try.ntmps61
      go_wp2_with (go_at_call 62; ((with_reducible refine (KA.out _).mono ?_); rintro e w1 ⟨rfl, hbel⟩; obtain ⟨hcc, hff⟩ := bcell hbel; have hsz := hbel.size; (try simp at hsz); have hF : (w1.cell? ⟨fb, 0, none⟩ = some (.int .u64 (m).ka) ∧ w1.cell? ⟨fb, 1, none⟩ = some (.int .i64 (m).ki) ∧ w1.cell? ⟨fb, 2, none⟩ = some (.int .u64 (m).va) ∧ w1.cell? ⟨fb, 3, none⟩ = some (.int .i64 (m).vi) ∧ fb < w1.heap.size) ∧ (w1.frozen? ⟨fb, 0, none⟩ = false ∧ w1.frozen? ⟨fb, 1, none⟩ = false ∧ w1.frozen? ⟨fb, 2, none⟩ = false ∧ w1.frozen? ⟨fb, 3, none⟩ = false) ∧ w1.cell? ⟨ob, 0, none⟩ = some (.bool true) ∧ w1.frozen? ⟨ob, 0, none⟩ = false ∧ ob < w1.heap.size ∧ (w1.cell? ⟨w.heap.size, 0, none⟩ = some (.int .u64 (x).ka) ∧ w1.cell? ⟨w.heap.size, 1, none⟩ = some (.int .i64 (x).ki) ∧ w1.cell? ⟨w.heap.size, 2, none⟩ = some (.int .u64 (x).va) ∧ w1.cell? ⟨w.heap.size, 3, none⟩ = some (.int .i64 (x).vi) ∧ w.heap.size < w1.heap.size) ∧ Below w.heap.size w w1 := (by ((repeat' apply And.intro) <;> first | (simp [go_sem, *]; done) | omega | (repeat' (first | with_reducible exact Below.refl _ _ | with_reducible assumption | ((with_reducible refine Below.drew ?_)) | ((with_reducible refine below_drewN ?_ _)) | ((with_reducible refine Below.alloc ?_ ?_ _); rotate_left; focus (first | omega | (simp; done) | (simp; omega))) | ((with_reducible refine Below.setCell ?_ ?_ _); rotate_left; focus (first | omega | (simp; done) | (simp; omega))) | ((with_reducible refine Below.trans ?_ (Below.mono (by with_reducible assumption) ?_)); rotate_left; focus (first | omega | (simp; done) | (simp; omega))))))); go_split_ands; clear hcc hff hbel))
      refine bodyPost_end (v := .tuple #[]) (by simp [results, Try.results61]) rfl (And.intro rfl (And.intro (And.intro ⟨?_, ?_, ?_, ?_, ?_⟩ (And.intro ⟨?_, ?_, ?_, ?_⟩ ⟨?_, ?_, ?_⟩)) ?_))
      all_goals first | (simp [go_sem, fv, *]; done) | (simp [go_sem, fv, *]; omega) | skip
      have hb : Only (fun k => k = fb ∨ k = ob) w w1 := Only.of_below (by assumption)
      (repeat' (first | assumption | exact Only.refl _ _ | refine Only.setCell ?_ (by simp) _ | refine Only.alloc ?_ _ | refine Only.drew ?_))
end Go.Proofs.Ytikmdkmejbcmmaa
