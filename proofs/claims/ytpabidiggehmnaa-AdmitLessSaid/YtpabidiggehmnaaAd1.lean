/- What a link carries: the mathematics. -/
import Derived.Test.YtpabidiggehmnaaSu33
namespace Go.Proofs.Ytpabidiggehmnaa
set_option linter.unusedVariables false
set_option linter.unusedSimpArgs false
set_option maxRecDepth 100000
open Fg

/-- Is a link full at a knee? -/
def fk (T : Int) (l : List Cv) (k : Int) : Bool := decide (65536 * k < tots (csv k) l * T)
def fe (T : Int) (l : List Cv) : Bool := decide (65536 < tots csl l * T)
def fullv (T : Int) (l : List Cv) : Int × Bool := ((kns l).find? (fk T l)).elim (0, fe T l) (fun k => (k, true))
def lok (l : List Cv) : Bool := l.all fun c => decide (kind c.m1 c.d c.m2 ≠ 0)
def tok (T : Int) : Bool := decide (1 ≤ T ∧ T ≤ 65536)
def fullr (T : Int) (l : List Cv) : Int × Bool := if (tok T && lok l) = true then fullv T l else (0, false)
def fitr (T : Int) (l : List Cv) : Int := if tok T = false then 1 else if lok l = false then 21 else if (fullv T l).2 = true then 22 else 0
/-- All is carried. -/
structure Adm (T : Int) (l : List Cv) : Prop where
  t1 : 1 ≤ T
  t2 : T ≤ 65536
  ok : lok l = true
  kn : ∀ k ∈ kns l, tots (csv k) l * T ≤ 65536 * k
  en : tots csl l * T ≤ 65536
theorem fullv_none {T : Int} {l : List Cv} (h : ∀ k ∈ kns l, tots (csv k) l * T ≤ 65536 * k) : fullv T l = (0, fe T l) := by
  unfold fullv
  rw [List.find?_eq_none.2 (fun k hk => by unfold fk; have := h k hk; simp; omega)]
  rfl
theorem fullv_some {T : Int} {l : List Cv} {k : Int} (hk : k ∈ kns l) (h : 65536 * k < tots (csv k) l * T) : (fullv T l).2 = true := by
  unfold fullv
  cases hf : (kns l).find? (fk T l) with
  | none => have := List.find?_eq_none.1 hf k hk; unfold fk at this; simp at this; omega
  | some q => rfl
theorem fullv_at {T : Int} {l : List Cv} {k : Int} (h : (kns l).find? (fk T l) = some k) : k ∈ kns l ∧ 65536 * k < tots (csv k) l * T := by
  have h1 := List.find?_some h
  unfold fk at h1
  exact ⟨List.mem_of_find?_eq_some h, by simpa using h1⟩
theorem fit_adm {T : Int} {l : List Cv} : fitr T l = 0 ↔ Adm T l := by
  unfold fitr
  constructor
  · intro h
    split at h
    · omega
    · rename_i h1
      split at h
      · omega
      · rename_i h2
        split at h
        · omega
        · rename_i h3
          have ht : 1 ≤ T ∧ T ≤ 65536 := by unfold tok at h1; simpa using h1
          have hkn : ∀ k ∈ kns l, tots (csv k) l * T ≤ 65536 * k := fun k hk => Classical.byContradiction fun hn => h3 (fullv_some hk (by omega))
          have hfe : ¬ fe T l = true := by rw [fullv_none hkn] at h3; exact h3
          exact ⟨ht.1, ht.2, by simpa using h2, hkn, by unfold fe at hfe; simpa using hfe⟩
  · intro h
    have h1 : tok T = true := by unfold tok; simp [h.t1, h.t2]
    rw [if_neg (by simp [h1]), if_neg (by simp [h.ok]), fullv_none h.kn, if_neg (by unfold fe; have := h.en; simp; omega)]
theorem fit_22 {T : Int} {l : List Cv} (h1 : tok T = true) (h2 : lok l = true) (h3 : (fullv T l).2 = true) : fitr T l = 22 := by
  unfold fitr
  rw [if_neg (by simp [h1]), if_neg (by simp [h2]), if_pos h3]

/-! ### Between knees. -/
theorem bend_d {c : Cv} (h : bend c = true) (h2 : 0 ≤ c.d) : 0 < c.d ∧ c.d ≤ 1048576 := by
  unfold bend kind at h
  simp only [decide_eq_true_eq] at h
  split at h
  · omega
  · rename_i g
    split at h
    · omega
    · split at h
      · omega
      · split at h
        · omega
        · split at h <;> omega
theorem kns_pos {l : List Cv} (hok : ∀ c ∈ l, c.ok) {k : Int} (hk : k ∈ kns l) : 0 < k ∧ k ≤ 1048576 := by
  obtain ⟨c, hc, hb, rfl⟩ := (mem_kns l k).1 hk
  exact bend_d hb (hok c hc).h2.1
theorem tots_zero (l : List Cv) (hok : ∀ c ∈ l, c.ok) : tots (csv 0) l = 0 := by
  induction l with
  | nil => rfl
  | cons c l ih =>
    have h : csv 0 c = 0 := by
      unfold csv
      by_cases hk : kind c.m1 c.d c.m2 = 0
      · exact srv_no hk 0
      · rw [srv_ok hk]; unfold sv; rw [if_pos (hok c (by simp)).h2.1]; simp
    simp only [tots, h, ih (fun x hx => hok x (by simp [hx]))]; rfl
theorem holds_nat {T : Int} {l : List Cv} (hok : ∀ c ∈ l, c.ok) (h : Adm T l) : ∀ x : Nat, tots (csv x) l * T ≤ 65536 * x := by
  intro x
  induction x with
  | zero => rw [show ((0 : Nat) : Int) = 0 from rfl, tots_zero l hok]; simp
  | succ x ih =>
    apply Classical.byContradiction
    intro hn
    have hstep : ∀ y : Nat, tots (csv ((y + 1 : Nat) : Int)) l = tots (csv y) l + tots (rse y) l := fun y => by
      rw [show ((y + 1 : Nat) : Int) = (y : Int) + 1 by omega]; exact tots_next l hok (by omega)
    have hD : 65536 < tots (rse x) l * T := by
      have := hstep x
      rw [this, Int.add_mul] at hn
      omega
    have hall : ∀ n : Nat, 65536 * ((x + 1 + n : Nat) : Int) < tots (csv ((x + 1 + n : Nat) : Int)) l * T ∧ tots (rse ((x + n : Nat) : Int)) l = tots (rse x) l := by
      intro n
      induction n with
      | zero => exact ⟨by simpa using hn, rfl⟩
      | succ n ihn =>
        obtain ⟨i1, i2⟩ := ihn
        have hsame : tots (rse ((x + (n + 1) : Nat) : Int)) l = tots (rse ((x + n : Nat) : Int)) l := by
          refine rise_same l hok (by omega) (by omega) fun k hk hh => ?_
          have : k = ((x + 1 + n : Nat) : Int) := by omega
          subst this
          have := h.kn _ hk
          omega
        refine ⟨?_, hsame.trans i2⟩
        have e := hstep (x + 1 + n)
        rw [show x + 1 + (n + 1) = x + 1 + n + 1 by omega, e, Int.add_mul, show x + 1 + n = x + (n + 1) by omega, hsame.trans i2]
        rw [show x + 1 + n = x + (n + 1) by omega] at i1
        omega
    have hlast : ∀ k ∈ kns l, k ≤ x := fun k hk => Classical.byContradiction fun hk2 => by
      obtain ⟨n, hn⟩ : ∃ n : Nat, k = ((x + 1 + n : Nat) : Int) := ⟨(k - (x + 1)).toNat, by omega⟩
      have h1 := (hall n).1
      have h2 := h.kn k hk
      rw [hn] at h2
      omega
    rw [rise_last l hok (by omega) hlast] at hD
    have := h.en
    omega
theorem holds_ok {T : Int} {l : List Cv} (hok : ∀ c ∈ l, c.ok) (h : Adm T l) {x : Int} (hx : 0 ≤ x) : tots (csv x) l * T ≤ 65536 * x := by
  obtain ⟨n, rfl⟩ : ∃ n : Nat, x = n := ⟨x.toNat, by omega⟩
  exact holds_nat hok h n
theorem tots_far {l : List Cv} (hok : ∀ c ∈ l, c.ok) (K : Int) (hK : 0 ≤ K) (h : ∀ k ∈ kns l, k ≤ K) : ∀ n : Nat, tots (csv (K + n)) l = tots (csv K) l + tots csl l * n
  | 0 => by simp
  | n + 1 => by
    have ih := tots_far hok K hK h n
    have e := tots_next l hok (t := K + n) (by omega)
    rw [rise_last l hok (by omega) (fun k hk => by have := h k hk; omega)] at e
    rw [show K + ((n + 1 : Nat) : Int) = K + n + 1 by omega, e, ih, show ((n + 1 : Nat) : Int) = (n : Int) + 1 by omega, Int.mul_add]
    omega
theorem csv_nn {c : Cv} (h : c.ok) {t : Int} (ht : 0 ≤ t) : 0 ≤ csv t c := by
  unfold csv
  by_cases hk : kind c.m1 c.d c.m2 = 0
  · rw [srv_no hk]; omega
  · rw [srv_ok hk]; exact sv_nn (okc h.h1 h.h2 h.h3 hk) ht
theorem tots_nn (f : Cv → Int) (l : List Cv) (h : ∀ c ∈ l, 0 ≤ f c) : 0 ≤ tots f l := by
  induction l with
  | nil => simp [tots]
  | cons c l ih => simp only [tots]; have := h c (by simp); have := ih (fun x hx => h x (by simp [hx])); omega
/-- In the end it is above, far out. -/
theorem end_far {T : Int} {l : List Cv} (hok : ∀ c ∈ l, c.ok) (hT : 1 ≤ T) (h : 65536 < tots csl l * T) : 65536 * 4611686018427387904 < tots (csv 4611686018427387904) l * T := by
  have e := tots_far hok 1048576 (by omega) (fun k hk => (kns_pos hok hk).2) 4611686018426339328
  rw [show (1048576 : Int) + ((4611686018426339328 : Nat) : Int) = 4611686018427387904 by decide] at e
  rw [e, Int.add_mul]
  have h0 := tots_nn (csv 1048576) l (fun c hc => csv_nn (hok c hc) (by omega))
  have h1 : 0 ≤ tots (csv 1048576) l * T := Int.mul_nonneg h0 (by omega)
  have h2 : tots csl l * ((4611686018426339328 : Nat) : Int) * T = (tots csl l * T) * 4611686018426339328 := by
    rw [Int.mul_assoc, Int.mul_comm ((4611686018426339328 : Nat) : Int) T, ← Int.mul_assoc]; rfl
  rw [h2]
  generalize tots csl l * T = q at *
  generalize tots (csv 1048576) l * T = p at *
  omega

/-! ### Fewer curves, another order. -/
theorem fullv_congr {T : Int} {l m : List Cv} (h1 : kns m = kns l) (h2 : ∀ f, tots f m = tots f l) : fullv T m = fullv T l := by
  unfold fullv
  have e1 : fk T m = fk T l := by funext k; unfold fk; rw [h2]
  have e2 : fe T m = fe T l := by unfold fe; rw [h2]
  rw [h1, e1, e2]
theorem rot_kns (l : List Cv) (n : Nat) : kns (l.drop n ++ l.take n) = kns l := by
  refine ss_eq _ _ (kns_ss _) (kns_ss _) fun x => ?_
  rw [mem_kns, mem_kns]
  have hm : ∀ c, c ∈ l.drop n ++ l.take n ↔ c ∈ l := fun c => by
    rw [List.mem_append, Or.comm, ← List.mem_append, List.take_append_drop]
  constructor
  · rintro ⟨c, h1, h2⟩; exact ⟨c, (hm c).1 h1, h2⟩
  · rintro ⟨c, h1, h2⟩; exact ⟨c, (hm c).2 h1, h2⟩
theorem rot_tots (l : List Cv) (n : Nat) (f : Cv → Int) : tots f (l.drop n ++ l.take n) = tots f l := by
  rw [tots_app, Int.add_comm, ← tots_app, List.take_append_drop]
theorem rot_lok (l : List Cv) (n : Nat) : lok (l.drop n ++ l.take n) = lok l := by
  unfold lok
  rw [List.all_append, Bool.and_comm, ← List.all_append, List.take_append_drop]
theorem rot_fit (T : Int) (l : List Cv) (n : Nat) : fitr T (l.drop n ++ l.take n) = fitr T l := by
  unfold fitr
  rw [rot_lok, fullv_congr (rot_kns l n) (rot_tots l n)]
theorem tail_adm {T : Int} {c : Cv} {r : List Cv} (hok : ∀ x ∈ c :: r, x.ok) (h : Adm T (c :: r)) : Adm T r := by
  have hl : lok r = true := by have := h.ok; unfold lok at this ⊢; rw [List.all_cons, Bool.and_eq_true] at this; exact this.2
  refine ⟨h.t1, h.t2, hl, fun k hk => ?_, ?_⟩
  · have hk2 : k ∈ kns (c :: r) := by
      obtain ⟨x, hx, h1⟩ := (mem_kns r k).1 hk
      exact (mem_kns _ k).2 ⟨x, by simp [hx], h1⟩
    have h1 := h.kn k hk2
    have h2 := csv_nn (hok c (by simp)) (t := k) (by have := (kns_pos hok hk2).1; omega)
    simp only [tots, Int.add_mul] at h1
    have h3 := Int.mul_nonneg h2 (show 0 ≤ T by have := h.t1; omega)
    omega
  · have h1 := h.en
    simp only [tots, Int.add_mul] at h1
    have h3 := Int.mul_nonneg (csl_bd (hok c (by simp))).1 (show 0 ≤ T by have := h.t1; omega)
    omega

/-! ### Room. -/
def rest (T : Int) (l : List Cv) (k : Int) : Int := (65536 * k / T - tots (csv k) l) / k
def mn (a b : Int) : Int := if b < a then b else a
def room (T : Int) (l : List Cv) (K : List Int) : Int := K.foldl (fun r k => mn r (rest T l k)) (65536 / T - tots csl l)
def linc (n : Int) : Cv := ⟨n, 0, n⟩
theorem lin_kind {n : Int} (h0 : 0 ≤ n) (h1 : n ≤ 65537) : kind n 0 n = 1 ∨ kind n 0 n = 2 := by
  unfold kind
  rw [if_neg (by omega)]
  by_cases h : n = 0
  · rw [if_pos (by omega)]; exact .inl rfl
  · rw [if_neg (by omega), if_pos (by omega)]; exact .inr rfl
theorem lin_csv {n : Int} (h0 : 0 ≤ n) (h1 : n ≤ 65537) {t : Int} (ht : 0 ≤ t) : csv t (linc n) = n * t := by
  unfold csv linc
  dsimp only
  rw [srv_ok (by rcases lin_kind h0 h1 with h | h <;> omega)]
  unfold sv
  split
  · rfl
  · simp
theorem lin_csl {n : Int} (h0 : 0 ≤ n) (h1 : n ≤ 65537) : csl (linc n) = n := by
  unfold csl linc
  dsimp only
  rw [if_neg (by rcases lin_kind h0 h1 with h | h <;> omega)]
theorem lin_kns (l : List Cv) {n : Int} (h0 : 0 ≤ n) (h1 : n ≤ 65537) : kns (l ++ [linc n]) = kns l := by
  refine ss_eq _ _ (kns_ss _) (kns_ss _) fun x => ?_
  rw [mem_kns, mem_kns]
  have hb : bend (linc n) = false := by
    unfold bend linc
    dsimp only
    rcases lin_kind h0 h1 with h | h <;> rw [h] <;> rfl
  constructor
  · rintro ⟨c, h1, h2⟩
    rw [List.mem_append, List.mem_singleton] at h1
    rcases h1 with h1 | h1
    · exact ⟨c, h1, h2⟩
    · subst h1; rw [hb] at h2; exact absurd h2.1 (by simp)
  · rintro ⟨c, h1, h2⟩; exact ⟨c, by simp [h1], h2⟩
theorem lin_lok (l : List Cv) (hl : lok l = true) {n : Int} (h0 : 0 ≤ n) (h1 : n ≤ 65537) : lok (l ++ [linc n]) = true := by
  unfold lok at hl ⊢
  rw [List.all_append, hl]
  have : kind (linc n).m1 (linc n).d (linc n).m2 ≠ 0 := by unfold linc; dsimp only; rcases lin_kind h0 h1 with h | h <;> omega
  simp [this]
theorem room_le (T : Int) (l : List Cv) : ∀ (K : List Int) (r0 : Int), let r := K.foldl (fun r k => mn r (rest T l k)) r0
    r ≤ r0 ∧ (∀ k ∈ K, r ≤ rest T l k) ∧ (r = r0 ∨ ∃ k ∈ K, r = rest T l k)
  | [], r0 => by simp
  | k :: K, r0 => by
    have ih := room_le T l K (mn r0 (rest T l k))
    dsimp only at ih ⊢
    rw [List.foldl_cons]
    generalize K.foldl (fun r k => mn r (rest T l k)) (mn r0 (rest T l k)) = r at *
    obtain ⟨i1, i2, i3⟩ := ih
    have hm : mn r0 (rest T l k) ≤ r0 ∧ mn r0 (rest T l k) ≤ rest T l k ∧ (mn r0 (rest T l k) = r0 ∨ mn r0 (rest T l k) = rest T l k) := by
      unfold mn; split <;> omega
    refine ⟨by omega, fun q hq => ?_, ?_⟩
    · rw [List.mem_cons] at hq
      rcases hq with rfl | hq
      · omega
      · exact i2 q hq
    · rcases i3 with i3 | ⟨q, hq, hr⟩
      · rcases hm.2.2 with hm | hm
        · exact .inl (i3.trans hm)
        · exact .inr ⟨k, by simp, i3.trans hm⟩
      · exact .inr ⟨q, by simp [hq], hr⟩
theorem le_div {a b c : Int} (hc : 0 < c) : a ≤ b / c ↔ a * c ≤ b := Int.le_ediv_iff_mul_le hc
theorem room_facts {T : Int} {l : List Cv} (hok : ∀ c ∈ l, c.ok) (h : Adm T l) :
    0 ≤ room T l (kns l) ∧ room T l (kns l) ≤ 65536 ∧ Adm T (l ++ [linc (room T l (kns l))]) ∧ fitr T (l ++ [linc (room T l (kns l) + 1)]) = 22 := by
  have hT := h.t1
  have hr := room_le T l (kns l) (65536 / T - tots csl l)
  have hrm : room T l (kns l) = (kns l).foldl (fun r k => mn r (rest T l k)) (65536 / T - tots csl l) := rfl
  dsimp only at hr
  rw [← hrm] at hr
  clear hrm
  obtain ⟨r1, r2, r3⟩ := hr
  have hSn := tots_nn csl l (fun c hc => (csl_bd (hok c hc)).1)
  have hS : tots csl l ≤ 65536 / T := (le_div (by omega)).2 h.en
  have hT6 : 65536 / T ≤ 65536 := Int.ediv_le_self _ (by omega)
  have hkk : ∀ k ∈ kns l, 0 < k ∧ 0 ≤ rest T l k := fun k hk => by
    have hp := (kns_pos hok hk).1
    have := (le_div (a := tots (csv k) l) (b := 65536 * k) (show 0 < T by omega)).2 (h.kn k hk)
    exact ⟨hp, Int.ediv_nonneg (by omega) (by omega)⟩
  have hr0 : 0 ≤ room T l (kns l) := by
    rcases r3 with r3 | ⟨k, hk, r3⟩
    · omega
    · rw [r3]; exact (hkk k hk).2
  have hr6 : room T l (kns l) ≤ 65536 := by omega
  generalize room T l (kns l) = R at *
  have hlin : ∀ n, 0 ≤ n → n ≤ 65537 → ∀ k ∈ kns l, tots (csv k) (l ++ [linc n]) = tots (csv k) l + n * k := fun n h0 h1 k hk => by
    rw [tots_app]
    have := lin_csv h0 h1 (t := k) (by have := (hkk k hk).1; omega)
    simp only [tots, this]; omega
  have hline : ∀ n, 0 ≤ n → n ≤ 65537 → tots csl (l ++ [linc n]) = tots csl l + n := fun n h0 h1 => by
    rw [tots_app]
    have := lin_csl h0 h1
    simp only [tots, this]; omega
  refine ⟨hr0, hr6, ⟨hT, h.t2, lin_lok l h.ok hr0 (by omega), fun k hk => ?_, ?_⟩, ?_⟩
  · rw [lin_kns l hr0 (by omega)] at hk
    rw [hlin R hr0 (by omega) k hk]
    have h1 := r2 k hk
    unfold rest at h1
    have h2 := (le_div (hkk k hk).1).1 h1
    exact (le_div (show 0 < T by omega)).1 (by omega)
  · rw [hline R hr0 (by omega)]
    exact (le_div (show 0 < T by omega)).1 (by omega)
  · refine fit_22 (by unfold tok; simp [hT, h.t2]) (lin_lok l h.ok (by omega) (by omega)) ?_
    rcases r3 with r3 | ⟨k, hk, r3⟩
    · by_cases hkn : ∀ k ∈ kns (l ++ [linc (R + 1)]), tots (csv k) (l ++ [linc (R + 1)]) * T ≤ 65536 * k
      · rw [fullv_none hkn]
        show fe T _ = true
        unfold fe
        rw [hline (R + 1) (by omega) (by omega)]
        have : ¬ (tots csl l + (R + 1)) * T ≤ 65536 := fun hh => by
          have := (le_div (show 0 < T by omega)).2 hh
          omega
        simp; omega
      · have ⟨k, hk, hh⟩ : ∃ k, k ∈ kns (l ++ [linc (R + 1)]) ∧ ¬ tots (csv k) (l ++ [linc (R + 1)]) * T ≤ 65536 * k := by
          apply Classical.byContradiction
          intro hx
          exact hkn fun k hk => Classical.byContradiction fun h1 => hx ⟨k, hk, h1⟩
        exact fullv_some hk (by omega)
    · have hk2 : k ∈ kns (l ++ [linc (R + 1)]) := by rw [lin_kns l (by omega) (by omega)]; exact hk
      refine fullv_some hk2 ?_
      rw [hlin (R + 1) (by omega) (by omega) k hk]
      have h1 : ¬ R + 1 ≤ rest T l k := by omega
      unfold rest at h1
      have h2 : ¬ (R + 1) * k ≤ 65536 * k / T - tots (csv k) l := fun hh => h1 ((le_div (hkk k hk).1).2 hh)
      have h3 : ¬ (tots (csv k) l + (R + 1) * k) * T ≤ 65536 * k := fun hh => by
        have := (le_div (show 0 < T by omega)).2 hh
        omega
      omega
end Go.Proofs.Ytpabidiggehmnaa
