/- Sums over curves: the mathematics. -/
import Derived.Test.YtpabidiggehmnaaCurveA
namespace Go.Proofs.Ytpabidiggehmnaa
set_option linter.unusedVariables false
set_option linter.unusedSimpArgs false
set_option maxRecDepth 100000
namespace Fg

structure Cv where
  m1 : Int
  d : Int
  m2 : Int
def Cv.cells (c : Cv) : List Value := [.int .u64 c.m1, .int .u64 c.d, .int .u64 c.m2]
structure Cv.ok (c : Cv) : Prop where
  h1 : In c.m1
  h2 : In c.d
  h3 : In c.m2
/-- The slope in the end, and the steepest one. -/
def csl (c : Cv) : Int := if kind c.m1 c.d c.m2 = 0 then 0 else c.m2
def cst (c : Cv) : Int := if kind c.m1 c.d c.m2 = 0 then 0 else if c.m2 > c.m1 then c.m2 else c.m1
def csv (t : Int) (c : Cv) : Int := srv c.m1 c.d c.m2 t
def tots (f : Cv → Int) : List Cv → Int
  | [] => 0
  | c :: l => f c + tots f l
theorem tots_app (f : Cv → Int) (l r : List Cv) : tots f (l ++ r) = tots f l + tots f r := by
  induction l with
  | nil => simp [tots]
  | cons c l ih => simp only [List.cons_append, tots, ih]; omega
theorem tots_succ (f : Cv → Int) (l : List Cv) (k : Nat) (h : k < l.length) : tots f (l.take (k + 1)) = tots f (l.take k) + f l[k] := by
  rw [List.take_succ_eq_append_getElem h, tots_app]
  simp [tots]
theorem tots_bd (f : Cv → Int) (B : Int) (l : List Cv) (h : ∀ c ∈ l, 0 ≤ f c ∧ f c ≤ B) : 0 ≤ tots f l ∧ tots f l ≤ l.length * B := by
  induction l with
  | nil => simp [tots]
  | cons c l ih =>
    have h1 := h c (by simp)
    have h2 := ih (fun x hx => h x (by simp [hx]))
    simp only [tots, List.length_cons]
    have : ((l.length + 1 : Nat) : Int) * B = l.length * B + B := by rw [Int.natCast_add, Int.add_mul]; simp
    omega
theorem tots_le (f g : Cv → Int) (l : List Cv) (h : ∀ c ∈ l, f c ≤ g c) : tots f l ≤ tots g l := by
  induction l with
  | nil => simp [tots]
  | cons c l ih =>
    have h1 := h c (by simp)
    have h2 := ih (fun x hx => h x (by simp [hx]))
    simp only [tots]; omega
theorem tots_mul (f : Cv → Int) (t : Int) (l : List Cv) : tots (fun c => f c * t) l = tots f l * t := by
  induction l with
  | nil => simp [tots]
  | cons c l ih => simp only [tots, ih, Int.add_mul]
theorem csl_bd {c : Cv} (h : c.ok) : 0 ≤ csl c ∧ csl c ≤ 4294967295 := by
  unfold csl
  split
  · omega
  · rename_i hk
    have := okc h.h1 h.h2 h.h3 hk
    exact ⟨h.h3.1, this.b3⟩
theorem cst_bd {c : Cv} (h : c.ok) : 0 ≤ cst c ∧ cst c ≤ 4294967295 := by
  unfold cst
  split
  · omega
  · rename_i hk
    have h' := okc h.h1 h.h2 h.h3 hk
    have a1 := h.h1.1
    have a2 := h.h3.1
    have a3 := h'.b1
    have a4 := h'.b3
    split <;> omega
theorem csv_bd {c : Cv} (h : c.ok) {t : Int} (ht : In t) : 0 ≤ csv t c ∧ csv t c ≤ 79228162532711081662980096000 := by
  unfold csv
  rcases Classical.em (kind c.m1 c.d c.m2 = 0) with hk | hk
  · rw [srv_no hk]; omega
  · rw [srv_ok hk]
    have h' := okc h.h1 h.h2 h.h3 hk
    exact ⟨sv_nn h' ht.1, sv_lt h' ht⟩
/-- No service is above the steepest slope's. -/
theorem csv_le {c : Cv} (h : c.ok) {t : Int} (ht : 0 ≤ t) : csv t c ≤ cst c * t := by
  unfold csv cst
  rcases Classical.em (kind c.m1 c.d c.m2 = 0) with hk | hk
  · rw [srv_no hk, if_pos hk]; omega
  · rw [srv_ok hk, if_neg hk]
    have h' := okc h.h1 h.h2 h.h3 hk
    have a1 := h'.n1
    have a3 := h.h3.1
    have a2 := h.h2.1
    generalize c.m1 = m1 at *
    generalize c.m2 = m2 at *
    generalize c.d = d at *
    unfold sv
    obtain ⟨M, hM, l1, l2⟩ : ∃ M, M = (if m2 > m1 then m2 else m1) ∧ m1 ≤ M ∧ m2 ≤ M := ⟨_, rfl, by split <;> omega, by split <;> omega⟩
    rw [← hM]
    clear hM
    split
    · exact Int.mul_le_mul_of_nonneg_right l1 ht
    · have e1 := Int.mul_le_mul_of_nonneg_right l1 a2
      have e2 := Int.mul_le_mul_of_nonneg_right l2 (show 0 ≤ t - d by omega)
      have e3 : M * t = M * d + M * (t - d) := by rw [← Int.mul_add]; congr 1; omega
      omega
end Fg
end Go.Proofs.Ytpabidiggehmnaa
