/- Joined texts. -/
import Derived.Test.YtffaahipgabkhaaGreatQ11
import Derived.Test.YtffaahipgabkhaaGreatQ40
section
namespace Go.Proofs.YtffaahipgabkhaaGreat
set_option linter.unusedVariables false
set_option linter.unusedSimpArgs false
set_option maxRecDepth 100000
open Go.RowKit Fg Reg Go.Sort Go.Shelf
attribute [local irreducible] Reg.wE Holds
def srt (zs : List Int) : List Int := zs.mergeSort fun x y => decide (x ≤ y)
theorem srt_len (zs : List Int) : (srt zs).length = zs.length := List.length_mergeSort zs
theorem sort_eq (zs : List Int) : pdq ltInt zs.toArray 0 zs.length (bitsLen zs.length) true true = (srt zs).toArray := by
  have h := sortInt zs
  have h2 : Sort.sort ltInt zs.toArray = (zs.mergeSort fun x y => decide (x ≤ y)).toArray := by rw [← h]
  rw [← show Sort.sort ltInt zs.toArray = pdq ltInt zs.toArray 0 zs.length (bitsLen zs.length) true true from by unfold Sort.sort; simp]
  exact h2
theorem sort64_c (blk off cap : Nat) (zs : List Int) (w : World) (hH : Holds (Value.int .u64) (w) blk off (zs.toArray)) (hl : blk < w.heap.size) (hsz : zs.length ≤ 100000) :
    Calls Tryz.prog 111 #[.slice (some ⟨blk, off, none⟩) zs.length cap] w fun e w' => e = .returned (.tuple #[]) ∧ Holds (Value.int .u64) (w') blk off ((srt zs).toArray) ∧ Only (fun k => k = blk) w w' := by
  obtain ⟨n, hn⟩ : ∃ n, n = zs.length := ⟨_, rfl⟩
  have hb17 : bitsLen n ≤ 17 := (bitsLen_le_iff n 17).2 (by omega)
  have c2 := pdq64_c blk off cap n (by omega) (n + 1) 0 n (bitsLen n) zs.toArray w (by omega) hH hl (by omega) (by simp [hn]) (by simp [hn]) (by omega) (.inl rfl)
  rw [show pdq ltInt zs.toArray 0 n (bitsLen n) true true = (srt zs).toArray from by rw [hn]; exact sort_eq zs] at c2
  rw [← hn]
  have K1 := Lib.hid (fun z => lenu_c n (by omega) z)
  have K2 := Lib.hid (show Calls Tryz.prog 129 #[.slice (some ⟨blk, off, none⟩) n cap, .int .i64 0, .int .i64 n, .int .i64 (bitsLen n : Nat)] w _ from c2)
  have hn1 : n ≤ 100000 := by omega
  clear c2 hn hb17 hH
  go_enter Tryz.func111, Tryz.ntmps111
  go_wp2_with (first
    | (go_at_call 65; (with_reducible refine (K1.out _).mono ?_); rintro e w' ⟨rfl, rfl⟩))
  with_reducible refine K2.out.mono ?_
  rintro e w9 ⟨rfl, hh9, ho9⟩
  go_wp2
  refine bodyPost_end (v := .tuple #[]) (by simp [results, Tryz.results111]) rfl ⟨rfl, hh9, ho9⟩
theorem insn_n (w : World) : Calls Tryz.prog 137 #[.slice none 0 0, .int .i64 0, .int .i64 0] w fun ee w' => ee = .returned (.tuple #[]) ∧ Below w.heap.size w w' := by
  go_enter Tryz.func137, Tryz.ntmps137
  go_wp2
  refine wp_loop_rounds 1 ?_
  rw [rounds_succ]
  go_wp2
  refine bodyPost_end (v := .tuple #[]) (by simp [results, Tryz.results137]) rfl ⟨rfl, ?_⟩
  ((repeat' (first | with_reducible exact Below.refl _ _ | with_reducible assumption | ((with_reducible refine Below.drew ?_)) | ((with_reducible refine below_drewN ?_ _)) | ((with_reducible refine Below.alloc ?_ ?_ _); rotate_left; focus (first | omega | (simp; done) | (simp; omega))) | ((with_reducible refine Below.setCell ?_ ?_ _); rotate_left; focus (first | omega | (simp; done) | (simp; omega))) | ((with_reducible refine Below.trans ?_ (Below.mono (by with_reducible assumption) ?_)); rotate_left; focus (first | omega | (simp; done) | (simp; omega))))); done)
theorem pdqn_n (w : World) : Calls Tryz.prog 129 #[.slice none 0 0, .int .i64 0, .int .i64 0, .int .i64 0] w fun ee w' => ee = .returned (.tuple #[]) ∧ Below w.heap.size w w' := by
  have K1 := Lib.hid insn_n
  go_enter Tryz.func129, Tryz.ntmps129
  go_wp2
  refine wp_loop_rounds 2 ?_
  rw [rounds_succ]
  go_wp2_with (go_at_call 137; ((with_reducible refine (K1.out _).mono ?_); rintro e w1 ⟨rfl, hbel⟩; obtain ⟨hcc, hff⟩ := bcell hbel; have hsz := hbel.size; (try simp at hsz); have hF : Below w.heap.size w w1 := (by ((repeat' apply And.intro) <;> first | (simp [go_sem, *]; done) | omega | (repeat' (first | with_reducible exact Below.refl _ _ | with_reducible assumption | ((with_reducible refine Below.drew ?_)) | ((with_reducible refine below_drewN ?_ _)) | ((with_reducible refine Below.alloc ?_ ?_ _); rotate_left; focus (first | omega | (simp; done) | (simp; omega))) | ((with_reducible refine Below.setCell ?_ ?_ _); rotate_left; focus (first | omega | (simp; done) | (simp; omega))) | ((with_reducible refine Below.trans ?_ (Below.mono (by with_reducible assumption) ?_)); rotate_left; focus (first | omega | (simp; done) | (simp; omega))))))); go_split_ands; clear hcc hff hbel))
  refine bodyPost_ret (v := .tuple #[]) (by simp [results, Tryz.results129]) rfl ⟨rfl, by assumption⟩
theorem sortn_n (w : World) : Calls Tryz.prog 111 #[.slice none 0 0] w fun ee w' => ee = .returned (.tuple #[]) ∧ Below w.heap.size w w' := by
  have K1 := Lib.hid (fun z => (show Calls Tryz.prog 65 #[.int .u64 0] z fun e w' => e = .returned (.int .i64 0) ∧ z = w' from (lenu_c 0 (by omega) z).mono (fun _ _ h => ⟨h.1, h.2.symm⟩)))
  have K2 := Lib.hid pdqn_n
  go_enter Tryz.func111, Tryz.ntmps111
  go_wp2_with (first
    | (go_at_call 65; (with_reducible refine (K1.out _).mono ?_); rintro e w' ⟨rfl, rfl⟩)
    | (go_at_call 129; ((with_reducible refine (K2.out _).mono ?_); rintro e w2 ⟨rfl, hbel⟩; obtain ⟨hcc, hff⟩ := bcell hbel; have hsz := hbel.size; (try simp at hsz); have hF : Below w.heap.size w w2 := (by ((repeat' apply And.intro) <;> first | (simp [go_sem, *]; done) | omega | (repeat' (first | with_reducible exact Below.refl _ _ | with_reducible assumption | ((with_reducible refine Below.drew ?_)) | ((with_reducible refine below_drewN ?_ _)) | ((with_reducible refine Below.alloc ?_ ?_ _); rotate_left; focus (first | omega | (simp; done) | (simp; omega))) | ((with_reducible refine Below.setCell ?_ ?_ _); rotate_left; focus (first | omega | (simp; done) | (simp; omega))) | ((with_reducible refine Below.trans ?_ (Below.mono (by with_reducible assumption) ?_)); rotate_left; focus (first | omega | (simp; done) | (simp; omega))))))); go_split_ands; clear hcc hff hbel)))
  refine bodyPost_end (v := .tuple #[]) (by simp [results, Tryz.results111]) rfl ⟨rfl, ?_⟩
  ((repeat' (first | with_reducible exact Below.refl _ _ | with_reducible assumption | ((with_reducible refine Below.drew ?_)) | ((with_reducible refine below_drewN ?_ _)) | ((with_reducible refine Below.alloc ?_ ?_ _); rotate_left; focus (first | omega | (simp; done) | (simp; omega))) | ((with_reducible refine Below.setCell ?_ ?_ _); rotate_left; focus (first | omega | (simp; done) | (simp; omega))) | ((with_reducible refine Below.trans ?_ (Below.mono (by with_reducible assumption) ?_)); rotate_left; focus (first | omega | (simp; done) | (simp; omega))))); done)
theorem compn_n (w : World) : Calls Tryz.prog 112 #[.slice none 0 0] w fun ee w' => ee = .returned (.slice none 0 0) ∧ Below w.heap.size w w' := by
  go_enter Tryz.func112, Tryz.ntmps112
  go_wp2
  (go_ret; refine ⟨?_, ?_⟩; (focus (exact rfl)); ((repeat' (first | with_reducible exact Below.refl _ _ | with_reducible assumption | ((with_reducible refine Below.drew ?_)) | ((with_reducible refine below_drewN ?_ _)) | ((with_reducible refine Below.alloc ?_ ?_ _); rotate_left; focus (first | omega | (simp; done) | (simp; omega))) | ((with_reducible refine Below.setCell ?_ ?_ _); rotate_left; focus (first | omega | (simp; done) | (simp; omega))) | ((with_reducible refine Below.trans ?_ (Below.mono (by with_reducible assumption) ?_)); rotate_left; focus (first | omega | (simp; done) | (simp; omega))))); done))
theorem only_putRow {enc : Int → Value} (w : World) (blk off : Nat) (d : Array Int) : Only (fun k => k = blk) w (putRow enc w blk off d) :=
  ⟨rfl, rfl, rfl, by simp, fun k hk hn => by simp [putRow, mapBlock, Array.getElem?_modify, show ¬ blk = k from fun h => hn h.symm]⟩
theorem one64 : OneCell (Value.int .u64) := fun _ => rfl
section
attribute [local semireducible] Holds
theorem hu_pre {blk off : Nat} {z : World} (l r : List Int) (h : Holds (Value.int .u64) (z) blk off ((l ++ r).toArray)) : Holds (Value.int .u64) (z) blk off (l.toArray) := fun j hj => by
  have hj' : j < l.length := by simpa using hj
  have := h j (by simp; omega)
  rw [show (l ++ r).toArray[j]! = l.toArray[j]! by simp [hj', List.getElem?_append]] at this
  exact this
end
theorem comp64_c (blk off cap : Nat) (d : Array Int) (w : World) (hH : Holds (Value.int .u64) (w) blk off (d)) (hl : blk < w.heap.size) (hsz : d.size ≤ 100000) (hcap : d.size ≤ cap) :
    Calls Tryz.prog 112 #[.slice (some ⟨blk, off, none⟩) d.size cap] w fun e w' => e = .returned (.slice (some ⟨blk, off, none⟩) (Go.Lib.compactUpTo d d.size).length cap) ∧ Holds (Value.int .u64) (w') blk off ((Go.Lib.compactUpTo d d.size).toArray) ∧ Only (fun k => k = blk) w w' := by
  have h := AnyE.slices_Compact lcmp (Value.int .u64) one64 (EqlAt.intD _ _ _) (NeqAt.intD _ _ _) 0 (fun w => by kernel_rfl) blk off cap d w hH (by omega) hcap
  have hle : (Go.Lib.compactUpTo d d.size).length ≤ d.size := by
    unfold Go.Lib.compactUpTo
    have := List.length_filter_le (Go.Lib.keeps d) (List.range d.size)
    simpa using this
  refine Calls.mono h ?_
  rintro e w' ⟨rfl, q, rfl⟩
  refine ⟨rfl, hu_pre _ _ (holds_putRow _ _ _ _ d _ (holds_ahead _ _ q _ _ _ hH) (by simp; omega)), (only_drewN w q).trans (only_putRow _ _ _ _)⟩
end Go.Proofs.YtffaahipgabkhaaGreat
end
section
namespace Go.Proofs.YtffaahipgabkhaaGreat
set_option linter.unusedVariables false
set_option linter.unusedSimpArgs false
set_option maxRecDepth 100000
namespace Fg
structure Cv where
  m1 : Int
  d : Int
  m2 : Int
def Cv.cells (c : Cv) : List Value := [.int .u64 c.m1, .int .u64 c.d, .int .u64 c.m2]
structure Cv.ok (c : Cv) : Prop where
  h1 : In c.m1
  h2 : In c.d
  h3 : In c.m2
def csl (c : Cv) : Int := if kind c.m1 c.d c.m2 = 0 then 0 else c.m2
def cst (c : Cv) : Int := if kind c.m1 c.d c.m2 = 0 then 0 else if c.m2 > c.m1 then c.m2 else c.m1
def csv (t : Int) (c : Cv) : Int := srv c.m1 c.d c.m2 t
def tots (f : Cv → Int) : List Cv → Int
  | [] => 0
  | c :: l => f c + tots f l
theorem tots_app (f : Cv → Int) (l r : List Cv) : tots f (l ++ r) = tots f l + tots f r := by
  induction l with
  | nil => simp [tots]
  | cons c l ih => simp only [List.cons_append, tots, ih]; omega
theorem tots_succ (f : Cv → Int) (l : List Cv) (k : Nat) (h : k < l.length) : tots f (l.take (k + 1)) = tots f (l.take k) + f l[k] := by
  rw [List.take_succ_eq_append_getElem h, tots_app]
  simp [tots]
theorem tots_bd (f : Cv → Int) (B : Int) (l : List Cv) (h : ∀ c ∈ l, 0 ≤ f c ∧ f c ≤ B) : 0 ≤ tots f l ∧ tots f l ≤ l.length * B := by
  induction l with
  | nil => simp [tots]
  | cons c l ih =>
    have h1 := h c (by simp)
    have h2 := ih (fun x hx => h x (by simp [hx]))
    simp only [tots, List.length_cons]
    have : ((l.length + 1 : Nat) : Int) * B = l.length * B + B := by rw [Int.natCast_add, Int.add_mul]; simp
    omega
theorem csl_bd {c : Cv} (h : c.ok) : 0 ≤ csl c ∧ csl c ≤ 4294967295 := by
  unfold csl
  split
  · omega
  · rename_i hk
    have := okc h.h1 h.h2 h.h3 hk
    exact ⟨h.h3.1, this.b3⟩
theorem csv_bd {c : Cv} (h : c.ok) {t : Int} (ht : In t) : 0 ≤ csv t c ∧ csv t c ≤ 79228162532711081662980096000 := by
  unfold csv
  rcases Classical.em (kind c.m1 c.d c.m2 = 0) with hk | hk
  · rw [srv_no hk]; omega
  · rw [srv_ok hk]
    have h' := okc h.h1 h.h2 h.h3 hk
    exact ⟨sv_nn h' ht.1, sv_lt h' ht⟩
end Fg
end Go.Proofs.YtffaahipgabkhaaGreat
end
section
namespace Go.Proofs.YtffaahipgabkhaaGreat
set_option linter.unusedVariables false
set_option linter.unusedSimpArgs false
set_option maxRecDepth 100000
open Fg
theorem kind_rng (a b c : Int) : 0 ≤ kind a b c ∧ kind a b c ≤ 4 := by
  unfold kind
  split
  · omega
  · split
    · omega
    · split
      · omega
      · split
        · omega
        · split <;> omega
def bend (c : Cv) : Bool := decide (3 ≤ kind c.m1 c.d c.m2)
def rawk (l : List Cv) : List Int := (l.filter bend).map (·.d)
def kns (l : List Cv) : List Int := Go.Lib.compactUpTo (srt (rawk l)).toArray (srt (rawk l)).toArray.size
theorem rawk_app (l r : List Cv) : rawk (l ++ r) = rawk l ++ rawk r := by simp [rawk]
theorem rawk_succ (l : List Cv) (k : Nat) (h : k < l.length) : rawk (l.take (k + 1)) = if bend l[k] then rawk (l.take k) ++ [l[k].d] else rawk (l.take k) := by
  rw [List.take_succ_eq_append_getElem h, rawk_app]
  unfold rawk
  by_cases hb : bend l[k] <;> simp [hb]
theorem rawk_len (l : List Cv) : (rawk l).length ≤ l.length := by
  unfold rawk
  simpa using List.length_filter_le bend l
theorem mem_rawk (l : List Cv) (x : Int) : x ∈ rawk l ↔ ∃ c ∈ l, bend c = true ∧ c.d = x := by
  unfold rawk
  simp only [List.mem_map, List.mem_filter]
  constructor
  · rintro ⟨c, ⟨h1, h2⟩, h3⟩; exact ⟨c, h1, h2, h3⟩
  · rintro ⟨c, h1, h2, h3⟩; exact ⟨c, ⟨h1, h2⟩, h3⟩
theorem compact_ss (D : Array Int) (hs : ∀ i j, i ≤ j → j < D.size → D[i]! ≤ D[j]!) : ∀ m, m ≤ D.size → (Go.Lib.compactUpTo D m).Pairwise (· < ·) ∧ ∀ x, x ∈ Go.Lib.compactUpTo D m ↔ ∃ i, i < m ∧ D[i]! = x
  | 0, _ => by simp [Go.Lib.compactUpTo]
  | m + 1, hm => by
    obtain ⟨h1, h2⟩ := compact_ss D hs m (by omega)
    rw [Go.Lib.compactUpTo_succ]
    cases hk : Go.Lib.keeps D m
    · simp only [Bool.false_eq_true, if_false, List.append_nil]
      refine ⟨h1, fun x => ?_⟩
      rw [h2 x]
      have hk2 : ¬ (m = 0 ∨ D[m]! ≠ D[m - 1]!) := by simpa [Go.Lib.keeps] using hk
      have hm0 : m ≠ 0 := fun h => hk2 (.inl h)
      have hme : D[m]! = D[m - 1]! := Classical.byContradiction fun h => hk2 (.inr h)
      constructor
      · rintro ⟨i, h, e⟩; exact ⟨i, by omega, e⟩
      · rintro ⟨i, h, e⟩
        by_cases him : i = m
        · subst him; exact ⟨i - 1, by omega, by rw [← hme]; exact e⟩
        · exact ⟨i, by omega, e⟩
    · simp only [if_true]
      refine ⟨?_, fun x => ?_⟩
      · rw [List.pairwise_append]
        refine ⟨h1, by simp, fun x hx y hy => ?_⟩
        simp at hy
        subst hy
        obtain ⟨i, hi, rfl⟩ := (h2 x).1 hx
        have hk2 : m = 0 ∨ D[m]! ≠ D[m - 1]! := by simpa [Go.Lib.keeps] using hk
        have a1 := hs i (m - 1) (by omega) (by omega)
        have a2 := hs (m - 1) m (by omega) (by omega)
        rcases hk2 with hk2 | hk2 <;> omega
      · rw [List.mem_append, h2 x]
        constructor
        · rintro (⟨i, h, e⟩ | h)
          · exact ⟨i, by omega, e⟩
          · simp at h; exact ⟨m, by omega, h.symm⟩
        · rintro ⟨i, h, e⟩
          by_cases him : i = m
          · subst him; exact .inr (by simp [e])
          · exact .inl ⟨i, by omega, e⟩
theorem srt_pw (zs : List Int) : (srt zs).Pairwise (· ≤ ·) := by
  have h := List.pairwise_mergeSort (le := fun x y : Int => decide (x ≤ y)) (fun a b c h1 h2 => by simp at *; omega) (fun a b => by simp; omega) zs
  unfold srt
  exact h.imp (fun hab => by simpa using hab)
theorem srt_get (zs : List Int) : ∀ i j, i ≤ j → j < (srt zs).toArray.size → (srt zs).toArray[i]! ≤ (srt zs).toArray[j]! := fun i j hij hj => by
  have hj' : j < (srt zs).length := by simpa using hj
  have h := List.pairwise_iff_getElem.1 (srt_pw zs)
  rw [getElem!_pos _ i (by simp; omega), getElem!_pos _ j hj]
  simp only [List.getElem_toArray]
  rcases Nat.lt_or_ge i j with h1 | h1
  · exact h i j (by omega) hj' h1
  · obtain rfl : i = j := by omega
    exact Int.le_refl _
theorem mem_srt (zs : List Int) (x : Int) : x ∈ srt zs ↔ x ∈ zs := by unfold srt; exact List.mem_mergeSort
theorem mem_kns (l : List Cv) (x : Int) : x ∈ kns l ↔ ∃ c ∈ l, bend c = true ∧ c.d = x := by
  rw [← mem_rawk, ← mem_srt (rawk l) x]
  unfold kns
  rw [(compact_ss _ (srt_get _) _ (Nat.le_refl _)).2 x]
  constructor
  · rintro ⟨i, h, rfl⟩
    have hi : i < (srt (rawk l)).length := by simpa using h
    rw [getElem!_pos _ i h]
    simp only [List.getElem_toArray]
    exact List.getElem_mem hi
  · intro h
    obtain ⟨i, hi, rfl⟩ := List.getElem_of_mem h
    have hi2 : i < (srt (rawk l)).toArray.size := by simpa using hi
    exact ⟨i, hi2, by rw [getElem!_pos _ i hi2]; simp⟩
theorem kns_len (l : List Cv) : (kns l).length ≤ l.length := by
  unfold kns Go.Lib.compactUpTo
  have h1 := List.length_filter_le (Go.Lib.keeps (srt (rawk l)).toArray) (List.range (srt (rawk l)).toArray.size)
  have h2 := srt_len (rawk l)
  have h3 := rawk_len l
  rw [List.length_map]
  rw [List.length_range] at h1
  have h4 : (srt (rawk l)).toArray.size = (srt (rawk l)).length := by simp
  omega
def stp (x : Int) (s : List Int × Bool) (y : Int) : List Int × Bool :=
  let s1 := if (!s.2 && decide (x ≤ y)) = true then (s.1 ++ [x], true) else s
  if y = x then s1 else (s1.1 ++ [y], s1.2)
def insl (x : Int) (R : List Int) : List Int :=
  let s := R.foldl (stp x) ([], false)
  if s.2 = true then s.1 else s.1 ++ [x]
def rkn (l : List Cv) : List Int := l.foldl (fun R c => if bend c then insl c.d R else R) []
end Go.Proofs.YtffaahipgabkhaaGreat
end
