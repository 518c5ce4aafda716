/- Joined texts. -/
import Derived.Test.YtffaahipgabkhaaGreatJn0
import Derived.Test.YtffaahipgabkhaaGreatJn32
set_option linter.unusedVariables false
set_option linter.unusedSimpArgs false
set_option maxRecDepth 100000
set_option maxHeartbeats 16000000
section
namespace Go.Proofs.YtffaahipgabkhaaGreat
open Fg
theorem kind_rng (a b c : Int) : 0 ≤ kind a b c ∧ kind a b c ≤ 4 := by
 unfold kind
 split
 ·omega
 ·split
  ·omega
  ·split
   ·omega
   ·split
    ·omega
    ·split <;> omega
def bend (c : Cv) : Bool := decide (3 ≤ kind c.m1 c.d c.m2)
def rawk (l : List Cv) : List Int := (l.filter bend).map (·.d)
def kns (l : List Cv) : List Int := Go.Lib.compactUpTo (srt (rawk l)).toArray (srt (rawk l)).toArray.size
theorem rawk_app (l r : List Cv) : rawk (l ++ r) = rawk l ++ rawk r := by simp [rawk]
theorem rawk_succ (l : List Cv) (k : Nat) (h : k < l.length) : rawk (l.take (k + 1)) = if bend l[k] then rawk (l.take k) ++ [l[k].d] else rawk (l.take k) := by
 rw [List.take_succ_eq_append_getElem h, rawk_app]
 unfold rawk
 by_cases hb : bend l[k] <;> simp [hb]
theorem rawk_len (l : List Cv) : (rawk l).length ≤ l.length := by
 unfold rawk
 simpa using List.length_filter_le bend l
theorem mem_rawk (l : List Cv) (x : Int) : x ∈ rawk l ↔ ∃ c ∈ l, bend c = true ∧ c.d = x := by
 unfold rawk
 simp only [List.mem_map, List.mem_filter]
 constructor
 ·rintro ⟨c, ⟨h1, h2⟩, h3⟩; exact ⟨c, h1, h2, h3⟩
 ·rintro ⟨c, h1, h2, h3⟩; exact ⟨c, ⟨h1, h2⟩, h3⟩
theorem ss_eq : ∀ (a b : List Int), a.Pairwise (· < ·) → b.Pairwise (· < ·) → (∀ x, x ∈ a ↔ x ∈ b) → a = b
 | [], [], _, _, _ => rfl
 | [], y :: b, _, _, h => by have := (h y).2 (by simp); simp at this
 | x :: a, [], _, _, h => by have := (h x).1 (by simp); simp at this
 | x :: a, y :: b, ha, hb, h => by
  rw [List.pairwise_cons] at ha hb
  have hxy : x = y := by
   have h1 : x ∈ y :: b := (h x).1 (by simp)
   have h2 : y ∈ x :: a := (h y).2 (by simp)
   rw [List.mem_cons] at h1 h2
   rcases h1 with h1 | h1
   ·exact h1
   ·rcases h2 with h2 | h2
    ·exact h2.symm
    ·have := hb.1 x h1; have := ha.1 y h2; omega
  subst hxy
  congr 1
  refine ss_eq a b ha.2 hb.2 fun z => ?_
  constructor
  ·intro hz
   have h1 : z ∈ x :: b := (h z).1 (by simp [hz])
   rw [List.mem_cons] at h1
   rcases h1 with h1 | h1
   ·have := ha.1 z hz; omega
   ·exact h1
  ·intro hz
   have h1 : z ∈ x :: a := (h z).2 (by simp [hz])
   rw [List.mem_cons] at h1
   rcases h1 with h1 | h1
   ·have := hb.1 z hz; omega
   ·exact h1
theorem compact_ss (D : Array Int) (hs : ∀ i j, i ≤ j → j < D.size → D[i]! ≤ D[j]!) : ∀ m, m ≤ D.size → (Go.Lib.compactUpTo D m).Pairwise (· < ·) ∧ ∀ x, x ∈ Go.Lib.compactUpTo D m ↔ ∃ i, i < m ∧ D[i]! = x
 | 0, _ => by simp [Go.Lib.compactUpTo]
 | m + 1, hm => by
  obtain ⟨h1, h2⟩ := compact_ss D hs m (by omega)
  rw [Go.Lib.compactUpTo_succ]
  cases hk : Go.Lib.keeps D m
  ·simp only [Bool.false_eq_true, if_false, List.append_nil]
   refine ⟨h1, fun x => ?_⟩
   rw [h2 x]
   have hk2 : ¬ (m = 0 ∨ D[m]! ≠ D[m - 1]!) := by simpa [Go.Lib.keeps] using hk
   have hm0 : m ≠ 0 := fun h => hk2 (.inl h)
   have hme : D[m]! = D[m - 1]! := Classical.byContradiction fun h => hk2 (.inr h)
   constructor
   ·rintro ⟨i, h, e⟩; exact ⟨i, by omega, e⟩
   ·rintro ⟨i, h, e⟩
    by_cases him : i = m
    ·subst him; exact ⟨i - 1, by omega, by rw [← hme]; exact e⟩
    ·exact ⟨i, by omega, e⟩
  ·simp only [if_true]
   refine ⟨?_, fun x => ?_⟩
   ·rw [List.pairwise_append]
    refine ⟨h1, by simp, fun x hx y hy => ?_⟩
    simp at hy
    subst hy
    obtain ⟨i, hi, rfl⟩ := (h2 x).1 hx
    have hk2 : m = 0 ∨ D[m]! ≠ D[m - 1]! := by simpa [Go.Lib.keeps] using hk
    have a1 := hs i (m - 1) (by omega) (by omega)
    have a2 := hs (m - 1) m (by omega) (by omega)
    rcases hk2 with hk2 | hk2 <;> omega
   ·rw [List.mem_append, h2 x]
    constructor
    ·rintro (⟨i, h, e⟩ | h)
     ·exact ⟨i, by omega, e⟩
     ·simp at h; exact ⟨m, by omega, h.symm⟩
    ·rintro ⟨i, h, e⟩
     by_cases him : i = m
     ·subst him; exact .inr (by simp [e])
     ·exact .inl ⟨i, by omega, e⟩
theorem srt_pw (zs : List Int) : (srt zs).Pairwise (· ≤ ·) := by
 have h := List.pairwise_mergeSort (le := fun x y : Int => decide (x ≤ y)) (fun a b c h1 h2 => by simp at *; omega) (fun a b => by simp; omega) zs
 unfold srt
 exact h.imp (fun hab => by simpa using hab)
theorem srt_get (zs : List Int) : ∀ i j, i ≤ j → j < (srt zs).toArray.size → (srt zs).toArray[i]! ≤ (srt zs).toArray[j]! := fun i j hij hj => by
 have hj' : j < (srt zs).length := by simpa using hj
 have h := List.pairwise_iff_getElem.1 (srt_pw zs)
 rw [getElem!_pos _ i (by simp; omega), getElem!_pos _ j hj]
 simp only [List.getElem_toArray]
 rcases Nat.lt_or_ge i j with h1 | h1
 ·exact h i j (by omega) hj' h1
 ·obtain rfl : i = j := by omega
  exact Int.le_refl _
theorem mem_srt (zs : List Int) (x : Int) : x ∈ srt zs ↔ x ∈ zs := by unfold srt; exact List.mem_mergeSort
theorem kns_ss (l : List Cv) : (kns l).Pairwise (· < ·) := (compact_ss _ (srt_get _) _ (Nat.le_refl _)).1
theorem mem_kns (l : List Cv) (x : Int) : x ∈ kns l ↔ ∃ c ∈ l, bend c = true ∧ c.d = x := by
 rw [← mem_rawk, ← mem_srt (rawk l) x]
 unfold kns
 rw [(compact_ss _ (srt_get _) _ (Nat.le_refl _)).2 x]
 constructor
 ·rintro ⟨i, h, rfl⟩
  have hi : i < (srt (rawk l)).length := by simpa using h
  rw [getElem!_pos _ i h]
  simp only [List.getElem_toArray]
  exact List.getElem_mem hi
 ·intro h
  obtain ⟨i, hi, rfl⟩ := List.getElem_of_mem h
  have hi2 : i < (srt (rawk l)).toArray.size := by simpa using hi
  exact ⟨i, hi2, by rw [getElem!_pos _ i hi2]; simp⟩
theorem kns_len (l : List Cv) : (kns l).length ≤ l.length := by
 unfold kns Go.Lib.compactUpTo
 have h1 := List.length_filter_le (Go.Lib.keeps (srt (rawk l)).toArray) (List.range (srt (rawk l)).toArray.size)
 have h2 := srt_len (rawk l)
 have h3 := rawk_len l
 rw [List.length_map]
 rw [List.length_range] at h1
 have h4 : (srt (rawk l)).toArray.size = (srt (rawk l)).length := by simp
 omega
def stp (x : Int) (s : List Int × Bool) (y : Int) : List Int × Bool :=
 let s1 := if (!s.2 && decide (x ≤ y)) = true then (s.1 ++ [x], true) else s
 if y = x then s1 else (s1.1 ++ [y], s1.2)
def insl (x : Int) (R : List Int) : List Int :=
 let s := R.foldl (stp x) ([], false)
 if s.2 = true then s.1 else s.1 ++ [x]
def rkn (l : List Cv) : List Int := l.foldl (fun R c => if bend c then insl c.d R else R) []
theorem stp_succ (x : Int) (R : List Int) (k : Nat) (h : k < R.length) : (R.take (k + 1)).foldl (stp x) ([], false) = stp x ((R.take k).foldl (stp x) ([], false)) R[k] := by
 rw [List.take_succ_eq_append_getElem h, List.foldl_append]; rfl
theorem rkn_succ (l : List Cv) (k : Nat) (h : k < l.length) : rkn (l.take (k + 1)) = if bend l[k] then insl l[k].d (rkn (l.take k)) else rkn (l.take k) := by
 unfold rkn
 rw [List.take_succ_eq_append_getElem h, List.foldl_append]; rfl
theorem pw_snoc (m : List Int) (y : Int) (h : m.Pairwise (· < ·)) (hy : ∀ z ∈ m, z < y) : (m ++ [y]).Pairwise (· < ·) := by
 rw [List.pairwise_append]
 exact ⟨h, by simp, fun a ha b hb => by simp at hb; subst hb; exact hy a ha⟩
theorem stp_inv (x : Int) (R : List Int) (hR : R.Pairwise (· < ·)) : ∀ k, k ≤ R.length →
  let s := (R.take k).foldl (stp x) ([], false)
  (s.1.Pairwise (· < ·)) ∧ (∀ z, z ∈ s.1 ↔ (z ∈ R.take k ∨ (s.2 = true ∧ z = x))) ∧ (s.2 = false → ∀ z ∈ R.take k, z < x) ∧ (s.2 = true → ∃ z ∈ R.take k, x ≤ z)
 | 0, _ => by simp
 | k + 1, hk => by
  have hlt : k < R.length := by omega
  have ih := stp_inv x R hR k (by omega)
  rw [stp_succ x R k hlt]
  obtain ⟨⟨s1, s2⟩, hs⟩ : ∃ s, (R.take k).foldl (stp x) ([], false) = s := ⟨_, rfl⟩
  rw [hs] at ih ⊢
  clear hs
  dsimp only at ih ⊢
  obtain ⟨i1, i2, i3, i4⟩ := ih
  have hab : ∀ z ∈ R.take k, z < R[k] := by
   intro z hz
   obtain ⟨j, hj, rfl⟩ := List.getElem_of_mem hz
   rw [List.getElem_take]
   exact List.pairwise_iff_getElem.1 hR j k (by simp at hj; omega) hlt (by simp at hj; omega)
  have hmem : ∀ z, z ∈ R.take (k + 1) ↔ z ∈ R.take k ∨ z = R[k] := fun z => by simp only [List.take_succ_eq_append_getElem hlt, List.mem_append, List.mem_singleton]
  generalize R[k] = y at *
  unfold stp
  cases s2
  ·by_cases hxy : x ≤ y
   ·simp only [Bool.not_false, Bool.true_and, decide_eq_true_eq, hxy, if_true]
    have j3 := i3 rfl
    have hs1 : ∀ z ∈ s1, z < x := fun z hz => by
     rcases (i2 z).1 hz with h | h
     ·exact j3 z h
     ·exact absurd h.1 (by simp)
    have p1 := pw_snoc s1 x i1 hs1
    by_cases hyx : y = x
    ·subst hyx
     simp only [if_true]
     refine ⟨p1, fun z => ?_, fun h => absurd h (by simp), fun _ => ⟨y, (hmem y).2 (.inr rfl), Int.le_refl _⟩⟩
     rw [List.mem_append, i2 z, hmem z]; simp
    ·simp only [hyx, if_false]
     refine ⟨pw_snoc _ y p1 (fun z hz => ?_), fun z => ?_, fun h => absurd h (by simp), fun _ => ⟨y, (hmem y).2 (.inr rfl), hxy⟩⟩
     ·rw [List.mem_append] at hz
      rcases hz with hz | hz
      ·have := hs1 z hz; omega
      ·simp at hz; omega
     ·rw [List.mem_append, List.mem_append, i2 z, hmem z]
      simp
      constructor
      ·rintro ((h | h) | h)
       ·exact .inl (.inl h)
       ·exact .inr h
       ·exact .inl (.inr h)
      ·rintro ((h | h) | h)
       ·exact .inl (.inl h)
       ·exact .inr h
       ·exact .inl (.inr h)
   ·simp only [Bool.not_false, Bool.true_and, decide_eq_true_eq, hxy, if_false]
    have hyx : y ≠ x := by omega
    simp only [hyx, if_false]
    have j3 := i3 rfl
    refine ⟨pw_snoc s1 y i1 (fun z hz => ?_), fun z => ?_, fun _ z hz => ?_, fun h => absurd h (by simp)⟩
    ·rcases (i2 z).1 hz with h | h
     ·exact hab z h
     ·exact absurd h.1 (by simp)
    ·rw [List.mem_append, i2 z, hmem z]; simp
    ·rcases (hmem z).1 hz with h | h
     ·exact j3 z h
     ·omega
  ·obtain ⟨q, hq, hxq⟩ := i4 rfl
   have hqy := hab q hq
   have hyx : y ≠ x := by omega
   simp only [Bool.not_true, Bool.false_and, hyx, if_false, Bool.false_eq_true]
   refine ⟨pw_snoc s1 y i1 (fun z hz => ?_), fun z => ?_, fun h => absurd h (by simp), fun _ => ⟨q, (hmem q).2 (.inl hq), hxq⟩⟩
   ·rcases (i2 z).1 hz with h | h
    ·exact hab z h
    ·have := h.2; omega
   ·rw [List.mem_append, i2 z, hmem z]
    simp
    constructor
    ·rintro ((h | h) | h)
     ·exact .inl (.inl h)
     ·exact .inr h
     ·exact .inl (.inr h)
    ·rintro ((h | h) | h)
     ·exact .inl (.inl h)
     ·exact .inr h
     ·exact .inl (.inr h)
theorem insl_ss (x : Int) (R : List Int) (hR : R.Pairwise (· < ·)) : (insl x R).Pairwise (· < ·) ∧ ∀ z, z ∈ insl x R ↔ z ∈ R ∨ z = x := by
 have h := stp_inv x R hR R.length (Nat.le_refl _)
 rw [List.take_length] at h
 unfold insl
 obtain ⟨⟨s1, s2⟩, hs⟩ : ∃ s, R.foldl (stp x) ([], false) = s := ⟨_, rfl⟩
 rw [hs] at h ⊢
 clear hs
 dsimp only at h ⊢
 obtain ⟨i1, i2, i3, i4⟩ := h
 cases s2
 ·simp only [Bool.false_eq_true, if_false]
  have hs : ∀ z, z ∈ s1 ↔ z ∈ R := fun z => by rw [i2 z]; simp
  exact ⟨pw_snoc s1 x i1 (fun z hz => i3 rfl z ((hs z).1 hz)), fun z => by rw [List.mem_append, hs z]; simp⟩
 ·simp only [if_true]
  exact ⟨i1, fun z => by rw [i2 z]; simp⟩
theorem rkn_ss (l : List Cv) : ∀ k, k ≤ l.length → (rkn (l.take k)).Pairwise (· < ·) ∧ ∀ z, z ∈ rkn (l.take k) ↔ ∃ c ∈ l.take k, bend c = true ∧ c.d = z
 | 0, _ => by simp [rkn]
 | k + 1, hk => by
  have hlt : k < l.length := by omega
  obtain ⟨i1, i2⟩ := rkn_ss l k (by omega)
  rw [rkn_succ l k hlt]
  have hmem : ∀ c, c ∈ l.take (k + 1) ↔ c ∈ l.take k ∨ c = l[k] := fun z => by simp only [List.take_succ_eq_append_getElem hlt, List.mem_append, List.mem_singleton]
  cases hb : bend l[k]
  ·simp only [Bool.false_eq_true, if_false]
   refine ⟨i1, fun z => ?_⟩
   rw [i2 z]
   constructor
   ·rintro ⟨c, h1, h2⟩; exact ⟨c, (hmem c).2 (.inl h1), h2⟩
   ·rintro ⟨c, h1, h2⟩
    rcases (hmem c).1 h1 with h | h
    ·exact ⟨c, h, h2⟩
    ·subst h; rw [hb] at h2; exact absurd h2.1 (by simp)
  ·simp only [if_true]
   obtain ⟨j1, j2⟩ := insl_ss l[k].d _ i1
   refine ⟨j1, fun z => ?_⟩
   rw [j2 z, i2 z]
   constructor
   ·rintro (⟨c, h1, h2⟩ | h)
    ·exact ⟨c, (hmem c).2 (.inl h1), h2⟩
    ·exact ⟨l[k], (hmem _).2 (.inr rfl), hb, h.symm⟩
   ·rintro ⟨c, h1, h2⟩
    rcases (hmem c).1 h1 with h | h
    ·exact .inl ⟨c, h, h2⟩
    ·subst h; exact .inr h2.2.symm
theorem rkn_eq (l : List Cv) : rkn l = kns l := by
 have h := rkn_ss l l.length (Nat.le_refl _)
 rw [List.take_length] at h
 exact ss_eq _ _ h.1 (kns_ss l) fun x => by rw [h.2 x, mem_kns l x]
end Go.Proofs.YtffaahipgabkhaaGreat
end
