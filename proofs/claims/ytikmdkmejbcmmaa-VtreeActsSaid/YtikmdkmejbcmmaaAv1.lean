/- Balanced trees of items with keys and values: the mathematics. -/
import Derived.Test.YtikmdkmejbcmmaaBaseA
namespace Go.Proofs.Ytikmdkmejbcmmaa
set_option linter.unusedVariables false
set_option linter.unusedSimpArgs false
set_option maxRecDepth 100000

/-- An item: its key, its value. -/
structure It where
  ka : Int
  ki : Int
  va : Int
  vi : Int
  deriving DecidableEq
instance : Inhabited It := ⟨⟨0, 0, 0, 0⟩⟩
/-- Does a key come ahead of another one? -/
def kl (a b : It) : Bool := decide (a.ka < b.ka ∨ (a.ka = b.ka ∧ a.ki < b.ki))
def ke (a b : It) : Bool := decide (a.ka = b.ka ∧ a.ki = b.ki)
/-- Is a value ahead, or the key beside the same value? -/
def ahd (a b : It) : Bool := if a.va = b.va ∧ a.vi = b.vi then kl a b else decide (a.va < b.va ∨ (a.va = b.va ∧ a.vi < b.vi))
theorem kl_iff {a b : It} : kl a b = true ↔ a.ka < b.ka ∨ (a.ka = b.ka ∧ a.ki < b.ki) := by unfold kl; simp
theorem ke_iff {a b : It} : ke a b = true ↔ a.ka = b.ka ∧ a.ki = b.ki := by unfold ke; simp
theorem kl_not {a b : It} : kl a b = false ↔ ¬ (a.ka < b.ka ∨ (a.ka = b.ka ∧ a.ki < b.ki)) := by rw [← kl_iff]; simp
theorem kl_trans {a b c : It} (h : kl a b = true) (k : kl b c = true) : kl a c = true := by rw [kl_iff] at *; omega
theorem kl_irr (a : It) : kl a a = false := by rw [kl_not]; omega
theorem kl_tri (a b : It) : kl a b = true ∨ ke a b = true ∨ kl b a = true := by rw [kl_iff, kl_iff, ke_iff]; omega
theorem kl_asym {a b : It} (h : kl a b = true) : kl b a = false := by rw [kl_iff] at h; rw [kl_not]; omega
theorem ke_kl {a b : It} (h : ke a b = true) : kl a b = false ∧ kl b a = false := by rw [ke_iff] at h; rw [kl_not, kl_not]; omega
theorem ahd_tot (a b : It) : ahd a b = true ∨ ahd b a = true ∨ (ke a b = true ∧ a.va = b.va ∧ a.vi = b.vi) := by
  unfold ahd
  by_cases h : a.va = b.va ∧ a.vi = b.vi
  · rw [if_pos h, if_pos ⟨h.1.symm, h.2.symm⟩]
    rcases kl_tri a b with g | g | g
    · exact .inl g
    · exact .inr (.inr ⟨g, h⟩)
    · exact .inr (.inl g)
  · rw [if_neg h, if_neg (fun g => h ⟨g.1.symm, g.2.symm⟩)]
    simp only [decide_eq_true_eq]
    omega
theorem ahd_trans {a b c : It} (h : ahd a b = true) (k : ahd b c = true) : ahd a c = true := by
  unfold ahd at *
  split at h <;> split at k <;> split <;> simp only [decide_eq_true_eq, kl_iff] at * <;> omega
theorem ahd_irr (a : It) : ahd a a = false := by unfold ahd; rw [if_pos ⟨rfl, rfl⟩]; exact kl_irr a
theorem ahd_asym {a b : It} (h : ahd a b = true) : ahd b a = false := by
  cases hb : ahd b a
  · rfl
  · exact absurd (ahd_trans h hb) (by rw [ahd_irr]; simp)

inductive Tr where
  | nil : Tr
  | node (b : Nat) (x : It) (l r : Tr) : Tr
def hgt : Tr → Nat
  | .nil => 0
  | .node _ _ l r => 1 + max (hgt l) (hgt r)
def tl : Tr → List It
  | .nil => []
  | .node _ x l r => tl l ++ x :: tl r
def fp : Tr → List Nat
  | .nil => []
  | .node b _ l r => b :: (fp l ++ fp r)
def isN : Tr → Bool
  | .nil => true
  | .node .. => false
/-- The better one of an item and of what a tree knows. -/
def btr (m : It) (n : Bool) (q : It) : It := if (!n && ahd q m) = true then q else m
def bst : Tr → It
  | .nil => default
  | .node _ x l r => btr (btr x (isN l) (bst l)) (isN r) (bst r)
def bal : Tr → Prop
  | .nil => True
  | .node _ _ l r => hgt l ≤ hgt r + 1 ∧ hgt r ≤ hgt l + 1 ∧ bal l ∧ bal r

theorem hgt_node (b : Nat) (x : It) (l r : Tr) : hgt (.node b x l r) = 1 + max (hgt l) (hgt r) := rfl
/-- A node whose side high is on the left, or on the right. -/
def mk (s : Bool) (b : Nat) (x : It) (p q : Tr) : Tr := if s then .node b x p q else .node b x q p
theorem mk_hgt (s : Bool) (b : Nat) (x : It) (p q : Tr) : hgt (mk s b x p q) = 1 + max (hgt p) (hgt q) := by
  cases s <;> simp [mk, hgt, Nat.max_comm]
theorem mk_bal (s : Bool) (b : Nat) (x : It) (p q : Tr) : bal (mk s b x p q) ↔ hgt p ≤ hgt q + 1 ∧ hgt q ≤ hgt p + 1 ∧ bal p ∧ bal q := by
  cases s <;> simp [mk, bal]
  constructor <;> (rintro ⟨a, b, c, d⟩; exact ⟨b, a, d, c⟩)
theorem mk_not (s : Bool) (b : Nat) (x : It) (p q : Tr) : mk (!s) b x p q = mk s b x q p := by cases s <;> rfl
theorem mk_fp (s : Bool) (b : Nat) (x : It) (p q : Tr) : (fp (mk s b x p q)).Perm (b :: (fp p ++ fp q)) := by
  cases s
  · exact List.Perm.cons _ List.perm_append_comm
  · exact List.Perm.refl _
theorem mk_tl (s : Bool) (b : Nat) (x : It) (p q : Tr) : tl (mk s b x p q) = if s then tl p ++ x :: tl q else tl q ++ x :: tl p := by cases s <;> rfl
theorem mk_isN (s : Bool) (b : Nat) (x : It) (p q : Tr) : isN (mk s b x p q) = false := by cases s <;> rfl
/-- What a tree is on the side s. -/
theorem as_mk (s : Bool) : ∀ t : Tr, hgt t ≠ 0 → ∃ b x p q, t = mk s b x p q
  | .nil, h => absurd rfl h
  | .node b x l r, _ => by
    cases s
    · exact ⟨b, x, r, l, rfl⟩
    · exact ⟨b, x, l, r, rfl⟩
def kid (s : Bool) : Tr → Tr
  | .nil => .nil
  | .node _ _ l r => if s then l else r
theorem kid_mk (s : Bool) (b : Nat) (x : It) (p q : Tr) : kid s (mk s b x p q) = p ∧ kid (!s) (mk s b x p q) = q := by cases s <;> exact ⟨rfl, rfl⟩

/-- The node on the side s comes in the place of b. -/
def trn (s : Bool) (b : Nat) (x : It) (r : Tr) : Tr → Tr
  | .nil => .nil
  | .node c y l' r' => mk s c y (if s then l' else r') (mk s b x (if s then r' else l') r)
theorem trn_mk (s : Bool) (b : Nat) (x : It) (r : Tr) (c : Nat) (y : It) (p q : Tr) : trn s b x r (mk s c y p q) = mk s c y p (mk s b x q r) := by
  cases s <;> rfl
/-- The inner tree, if it is the higher one, is turned outwards first. -/
def twi (s : Bool) : Tr → Tr
  | .nil => .nil
  | .node c y l' r' => if hgt (if s then l' else r') < hgt (if s then r' else l') then trn (!s) c y (if s then l' else r') (if s then r' else l') else .node c y l' r'
theorem twi_mk (s : Bool) (c : Nat) (y : It) (p q : Tr) : twi s (mk s c y p q) = if hgt p < hgt q then trn (!s) c y p q else mk s c y p q := by
  cases s <;> rfl
def low (s : Bool) (b : Nat) (x : It) (p q : Tr) : Tr := trn s b x q (twi s p)
def blc (b : Nat) (x : It) (l r : Tr) : Tr :=
  if hgt r + 1 < hgt l then low true b x l r else if hgt l + 1 < hgt r then low false b x r l else .node b x l r

theorem low_all (s : Bool) (b : Nat) (x : It) (p q : Tr) (hp : bal p) (hq : bal q) (hd : hgt p = hgt q + 2) :
    bal (low s b x p q) ∧ hgt p ≤ hgt (low s b x p q) ∧ hgt (low s b x p q) ≤ hgt p + 1 ∧ (fp (low s b x p q)).Perm (b :: (fp p ++ fp q)) ∧ tl (low s b x p q) = tl (mk s b x p q) := by
  obtain ⟨c, y, u, v, rfl⟩ := as_mk s p (by omega)
  rw [mk_bal] at hp
  rw [mk_hgt] at hd ⊢
  unfold low
  rw [twi_mk]
  by_cases h : hgt u < hgt v
  · rw [if_pos h]
    obtain ⟨e, z, m, n, rfl⟩ := as_mk (!s) v (by omega)
    rw [trn_mk, mk_not, trn_mk]
    simp only [mk_hgt, mk_bal] at hp h hd ⊢
    have h2 := hp.2.2.2
    refine ⟨⟨by omega, by omega, ⟨by omega, by omega, h2.2.2.2, hp.2.2.1⟩, ⟨by omega, by omega, h2.2.2.1, hq⟩⟩, by omega, by omega, ?_, ?_⟩
    · refine (mk_fp _ _ _ _ _).trans ?_
      have p1 := mk_fp (!s) c y n u
      have p2 := mk_fp s b x m q
      have p3 := mk_fp s c y u (mk (!s) e z m n)
      have p4 := mk_fp (!s) e z m n
      rw [List.perm_iff_count] at *
      intro k
      have q1 := p1 k; have q2 := p2 k; have q3 := p3 k; have q4 := p4 k
      simp only [List.count_cons, List.count_append] at *
      omega
    · cases s <;> simp [mk, tl]
  · rw [if_neg h, trn_mk]
    simp only [mk_hgt, mk_bal]
    refine ⟨⟨by omega, by omega, hp.2.2.1, ⟨by omega, by omega, hp.2.2.2, hq⟩⟩, by omega, by omega, ?_, ?_⟩
    · refine (mk_fp _ _ _ _ _).trans ?_
      have p2 := mk_fp s b x v q
      have p3 := mk_fp s c y u v
      rw [List.perm_iff_count] at *
      intro k
      have q2 := p2 k; have q3 := p3 k
      simp only [List.count_cons, List.count_append] at *
      omega
    · cases s <;> simp [mk, tl]
theorem blc_all (b : Nat) (x : It) (l r : Tr) (hl : bal l) (hr : bal r) (h1 : hgt l ≤ hgt r + 2) (h2 : hgt r ≤ hgt l + 2) :
    bal (blc b x l r) ∧ max (hgt l) (hgt r) ≤ hgt (blc b x l r) ∧ hgt (blc b x l r) ≤ max (hgt l) (hgt r) + 1 ∧ (hgt l ≤ hgt r + 1 → hgt r ≤ hgt l + 1 → hgt (blc b x l r) = max (hgt l) (hgt r) + 1) ∧
      (fp (blc b x l r)).Perm (b :: (fp l ++ fp r)) ∧ tl (blc b x l r) = tl l ++ x :: tl r := by
  unfold blc
  split
  · obtain ⟨a1, a2, a3, a4, a5⟩ := low_all true b x l r hl hr (by omega)
    exact ⟨a1, by omega, by omega, by omega, a4, a5⟩
  · split
    · obtain ⟨a1, a2, a3, a4, a5⟩ := low_all false b x r l hr hl (by omega)
      exact ⟨a1, by omega, by omega, by omega, a4.trans (List.Perm.cons _ List.perm_append_comm), a5⟩
    · exact ⟨⟨by omega, by omega, hl, hr⟩, by first | (rw [hgt_node]; omega) | (rw [hgt_node]), by first | (rw [hgt_node]; omega) | (rw [hgt_node]), fun _ _ => by first | (rw [hgt_node]; omega) | (rw [hgt_node]), List.Perm.refl _, rfl⟩

/-! ### Put and cut. -/
def putT (nb : Nat) (x : It) : Tr → Tr
  | .nil => .node nb x .nil .nil
  | .node b y l r => if kl x y then blc b y (putT nb x l) r else blc b y l (putT nb x r)
def lst : Tr → It
  | .nil => default
  | .node _ x l _ => if isN l then x else lst l
def cutT : It → Tr → Tr
  | _, .nil => .nil
  | k, .node b y l r => if kl k y then blc b y (cutT k l) r else if kl y k then blc b y l (cutT k r) else if isN l then r else if isN r then l else blc b (lst r) l (cutT (lst r) r)
def SS (l : List It) : Prop := l.Pairwise fun a b => kl a b = true
def insL (x : It) : List It → List It
  | [] => [x]
  | y :: l => if kl x y then x :: y :: l else y :: insL x l
theorem isN_hgt {t : Tr} : isN t = true ↔ hgt t = 0 := by cases t <;> simp [isN, hgt]
theorem isN_nil {t : Tr} (h : isN t = true) : t = .nil := by cases t <;> simp [isN] at h; rfl
theorem insL_left (x y : It) (A B : List It) (h : kl x y = true) : insL x (A ++ y :: B) = insL x A ++ y :: B := by
  induction A with
  | nil => simp [insL, h]
  | cons a A ih => simp only [List.cons_append, insL]; split <;> simp [ih]
theorem insL_right (x y : It) (A B : List It) (hA : ∀ a ∈ A, kl a y = true) (h : kl x y = false) : insL x (A ++ y :: B) = A ++ y :: insL x B := by
  induction A with
  | nil => simp [insL, h]
  | cons a A ih =>
    have ha : kl x a = false := by
      cases g : kl x a
      · rfl
      · have := kl_trans g (hA a (by simp)); rw [h] at this; exact absurd this (by simp)
    simp only [List.cons_append, insL, ha]
    rw [ih (fun b hb => hA b (by simp [hb]))]
    simp
theorem ss_parts {A B : List It} {y : It} (h : SS (A ++ y :: B)) : SS A ∧ SS B ∧ (∀ a ∈ A, kl a y = true) ∧ (∀ b ∈ B, kl y b = true) ∧ ∀ a ∈ A, ∀ b ∈ B, kl a b = true := by
  unfold SS at *
  rw [List.pairwise_append] at h
  obtain ⟨h1, h2, h3⟩ := h
  rw [List.pairwise_cons] at h2
  exact ⟨h1, h2.2, fun a ha => h3 a ha y (by simp), h2.1, fun a ha b hb => h3 a ha b (by simp [hb])⟩
theorem putT_all (nb : Nat) (x : It) : ∀ t, bal t → SS (tl t) → nb ∉ fp t →
    bal (putT nb x t) ∧ hgt t ≤ hgt (putT nb x t) ∧ hgt (putT nb x t) ≤ hgt t + 1 ∧ (fp (putT nb x t)).Perm (nb :: fp t) ∧ tl (putT nb x t) = insL x (tl t)
  | .nil, _, _, _ => ⟨⟨by simp [hgt], by simp [hgt], trivial, trivial⟩, by simp [putT, hgt], by simp [putT, hgt], List.Perm.refl _, rfl⟩
  | .node b y l r, hb, hs, hn => by
    obtain ⟨b1, b2, b3, b4⟩ := hb
    obtain ⟨s1, s2, s3, s4, s5⟩ := ss_parts hs
    have hn1 : nb ∉ fp l := fun h => hn (by simp [fp, h])
    have hn2 : nb ∉ fp r := fun h => hn (by simp [fp, h])
    unfold putT
    cases h : kl x y
    · obtain ⟨i1, i2, i3, i4, i5⟩ := putT_all nb x r b4 s2 hn2
      obtain ⟨a1, a2, a3, a4, a5, a6⟩ := blc_all b y l (putT nb x r) b3 i1 (by omega) (by omega)
      simp only [Bool.false_eq_true, if_false]
      refine ⟨a1, by first | (rw [hgt_node]; omega) | (rw [hgt_node]), by first | (rw [hgt_node]; omega) | (rw [hgt_node]), a5.trans ?_, ?_⟩
      · rw [List.perm_iff_count] at *
        intro k
        have q := i4 k
        simp only [fp, List.count_cons, List.count_append] at *
        omega
      · rw [a6, i5]
        show _ = insL x (tl l ++ y :: tl r)
        rw [insL_right x y _ _ s3 h]
    · obtain ⟨i1, i2, i3, i4, i5⟩ := putT_all nb x l b3 s1 hn1
      obtain ⟨a1, a2, a3, a4, a5, a6⟩ := blc_all b y (putT nb x l) r i1 b4 (by omega) (by omega)
      simp only [if_true]
      refine ⟨a1, by first | (rw [hgt_node]; omega) | (rw [hgt_node]), by first | (rw [hgt_node]; omega) | (rw [hgt_node]), a5.trans ?_, ?_⟩
      · rw [List.perm_iff_count] at *
        intro k
        have q := i4 k
        simp only [fp, List.count_cons, List.count_append] at *
        omega
      · rw [a6, i5]
        show _ = insL x (tl l ++ y :: tl r)
        rw [insL_left x y _ _ h]
theorem lst_hd : ∀ t, isN t = false → ∃ L, tl t = lst t :: L
  | .nil, h => by simp [isN] at h
  | .node b x l r, _ => by
    unfold lst
    cases hl : isN l
    · obtain ⟨L, hL⟩ := lst_hd l hl
      exact ⟨L ++ x :: tl r, by simp [tl, hL]⟩
    · rw [isN_nil hl]; exact ⟨tl r, by simp [tl]⟩
def remL (k : It) (l : List It) : List It := l.filter fun y => !ke y k
theorem remL_no {k : It} {l : List It} (h : ∀ y ∈ l, ke y k = false) : remL k l = l := by
  unfold remL
  rw [List.filter_eq_self]
  intro y hy
  rw [h y hy]; rfl
theorem ke_comm (a b : It) : ke a b = ke b a := by
  cases h : ke a b
  · cases g : ke b a
    · rfl
    · rw [ke_iff] at g; have : ke a b = true := ke_iff.2 ⟨g.1.symm, g.2.symm⟩; rw [h] at this; exact this
  · rw [ke_iff] at h; exact (ke_iff.2 ⟨h.1.symm, h.2.symm⟩).symm
theorem kl_ke_l {a b c : It} (h : ke a b = true) : kl a c = kl b c := by
  rw [ke_iff] at h; unfold kl; rw [h.1, h.2]
theorem kl_ke_r {a b c : It} (h : ke a b = true) : kl c a = kl c b := by
  rw [ke_iff] at h; unfold kl; rw [h.1, h.2]
theorem kl_nke {a b : It} (h : kl a b = true) : ke a b = false ∧ ke b a = false := by
  constructor
  · cases g : ke a b
    · rfl
    · have := (ke_kl g).1; rw [h] at this; exact absurd this (by simp)
  · cases g : ke b a
    · rfl
    · have := (ke_kl g).2; rw [h] at this; exact absurd this (by simp)
theorem cutT_all (k : It) : ∀ t, bal t → SS (tl t) → (∃ y ∈ tl t, ke y k = true) →
    bal (cutT k t) ∧ hgt (cutT k t) ≤ hgt t ∧ hgt t ≤ hgt (cutT k t) + 1 ∧ (∀ j, (fp (cutT k t)).count j ≤ (fp t).count j) ∧ tl (cutT k t) = remL k (tl t)
  | .nil, _, _, ⟨y, hy, _⟩ => by simp [tl] at hy
  | .node b y l r, hb, hs, ⟨q, hq, hqk⟩ => by
    obtain ⟨b1, b2, b3, b4⟩ := hb
    obtain ⟨s1, s2, s3, s4, s5⟩ := ss_parts hs
    have hrem : ∀ A B : List It, ∀ z, remL k (A ++ z :: B) = remL k A ++ (if ke z k then remL k B else z :: remL k B) := fun A B z => by
      unfold remL
      rw [List.filter_append, List.filter_cons]
      cases ke z k <;> simp
    have hq' : q ∈ tl l ∨ q = y ∨ q ∈ tl r := by simpa [tl] using hq
    unfold cutT
    show _ ∧ _ ∧ _ ∧ _ ∧ _ = remL k (tl l ++ y :: tl r)
    rw [hrem]
    cases h : kl k y
    · cases h2 : kl y k
      · have hyk : ke y k = true := by
          rcases kl_tri y k with g | g | g
          · rw [h2] at g; exact absurd g (by simp)
          · exact g
          · rw [h] at g; exact absurd g (by simp)
        have hl0 : remL k (tl l) = tl l := remL_no fun z hz => (kl_nke (show kl z k = true by rw [← kl_ke_r hyk]; exact s3 z hz)).1
        have hr0 : remL k (tl r) = tl r := remL_no fun z hz => (kl_nke (show kl k z = true by rw [← kl_ke_l hyk]; exact s4 z hz)).2
        simp only [Bool.false_eq_true, if_false]
        rw [if_pos hyk, hl0, hr0]
        cases hnl : isN l
        · cases hnr : isN r
          · simp only [Bool.false_eq_true, if_false]
            obtain ⟨L, hL⟩ := lst_hd r hnr
            obtain ⟨i1, i2, i3, i4, i5⟩ := cutT_all (lst r) r b4 s2 ⟨lst r, by rw [hL]; simp, ke_iff.2 ⟨rfl, rfl⟩⟩
            obtain ⟨a1, a2, a3, a4, a5, a6⟩ := blc_all b (lst r) l (cutT (lst r) r) b3 i1 (by omega) (by omega)
            refine ⟨a1, by first | (rw [hgt_node]; omega) | (rw [hgt_node]), by first | (rw [hgt_node]; omega) | (rw [hgt_node]), fun j => ?_, ?_⟩
            · rw [List.perm_iff_count.1 a5 j]
              have := i4 j
              simp only [fp, List.count_cons, List.count_append] at *
              omega
            · rw [a6, i5]
              have hLs : SS (lst r :: L) := hL ▸ s2
              unfold SS at hLs
              rw [List.pairwise_cons] at hLs
              have : remL (lst r) (tl r) = L := by
                rw [hL]
                have e1 : remL (lst r) (lst r :: L) = remL (lst r) L := by
                  unfold remL
                  rw [List.filter_cons, if_neg (by rw [show ke (lst r) (lst r) = true from ke_iff.2 ⟨rfl, rfl⟩]; simp)]
                rw [e1]
                exact remL_no fun z hz => (kl_nke (hLs.1 z hz)).2
              rw [this, hL]
          · simp only [Bool.false_eq_true, if_false, if_true]
            have := isN_nil hnr
            subst this
            have hz : hgt Tr.nil = 0 := rfl
            refine ⟨b3, by first | (rw [hgt_node]; omega) | (rw [hgt_node]), by first | (rw [hgt_node]; omega) | (rw [hgt_node]), fun j => ?_, by simp [tl]⟩
            simp only [fp, List.count_cons, List.count_append]
            omega
        · simp only [if_true]
          have := isN_nil hnl
          subst this
          have hz : hgt Tr.nil = 0 := rfl
          refine ⟨b4, by first | (rw [hgt_node]; omega) | (rw [hgt_node]), by first | (rw [hgt_node]; omega) | (rw [hgt_node]), fun j => ?_, by simp [tl]⟩
          simp only [fp, List.count_cons, List.count_append]
          omega
      · have hkey : ∃ z ∈ tl r, ke z k = true := by
          rcases hq' with g | g | g
          · have g1 := s3 q g
            have g2 := kl_trans g1 h2
            rw [(kl_nke g2).1] at hqk; exact absurd hqk (by simp)
          · subst g; rw [(kl_nke h2).1] at hqk; exact absurd hqk (by simp)
          · exact ⟨q, g, hqk⟩
        have hl0 : remL k (tl l) = tl l := remL_no fun z hz => (kl_nke (kl_trans (s3 z hz) h2)).1
        obtain ⟨i1, i2, i3, i4, i5⟩ := cutT_all k r b4 s2 hkey
        obtain ⟨a1, a2, a3, a4, a5, a6⟩ := blc_all b y l (cutT k r) b3 i1 (by omega) (by omega)
        simp only [Bool.false_eq_true, if_false, if_true]
        rw [if_neg (by rw [(kl_nke h2).1]; simp), hl0]
        refine ⟨a1, by first | (rw [hgt_node]; omega) | (rw [hgt_node]), by first | (rw [hgt_node]; omega) | (rw [hgt_node]), fun j => ?_, by rw [a6, i5]⟩
        rw [List.perm_iff_count.1 a5 j]
        have := i4 j
        simp only [fp, List.count_cons, List.count_append] at *
        omega
    · have hkey : ∃ z ∈ tl l, ke z k = true := by
        rcases hq' with g | g | g
        · exact ⟨q, g, hqk⟩
        · subst g; rw [(kl_nke h).2] at hqk; exact absurd hqk (by simp)
        · have g2 := kl_trans h (s4 q g)
          rw [(kl_nke g2).2] at hqk; exact absurd hqk (by simp)
      have hr0 : remL k (tl r) = tl r := remL_no fun z hz => (kl_nke (kl_trans h (s4 z hz))).2
      obtain ⟨i1, i2, i3, i4, i5⟩ := cutT_all k l b3 s1 hkey
      obtain ⟨a1, a2, a3, a4, a5, a6⟩ := blc_all b y (cutT k l) r i1 b4 (by omega) (by omega)
      simp only [if_true]
      rw [if_neg (by rw [(kl_nke h).2]; simp), hr0]
      refine ⟨a1, by first | (rw [hgt_node]; omega) | (rw [hgt_node]), by first | (rw [hgt_node]; omega) | (rw [hgt_node]), fun j => ?_, by rw [a6, i5]⟩
      rw [List.perm_iff_count.1 a5 j]
      have := i4 j
      simp only [fp, List.count_cons, List.count_append] at *
      omega
end Go.Proofs.Ytikmdkmejbcmmaa
