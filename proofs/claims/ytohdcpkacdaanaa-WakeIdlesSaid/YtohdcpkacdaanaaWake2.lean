import Derived.Test.YtohdcpkacdaanaaWake1
namespace Go.Proofs.Ytohdcpkacdaanaa
set_option linter.unusedVariables false
set_option linter.unusedSimpArgs false
set_option maxRecDepth 100000
open Go.RowKit Fg Reg

theorem grt2_c (f a e : Int) (b c : Nat) (hf : In f) (ha : In a) (he : In e) (w : World) (h0 : w.cell? ⟨b, 0, none⟩ = some (.int .u64 a)) (h1 : w.cell? ⟨b, 1, none⟩ = some (.int .u64 e)) :
    Calls Try.prog 58 #[.int .u64 f, .slice (some ⟨b, 0, none⟩) 2 c] w fun ee w' => ee = .returned (.int .u64 (max f (max a e))) ∧ Below w.heap.size w w' := by
  have := grt_c f [a, e] b 0 c hf (fun k h => by match k, h with | 0, _ => exact ha | 1, _ => exact he) (by simp) w (fun k h => by match k, h with | 0, _ => simpa using h0 | 1, _ => simpa using h1)
  refine this.mono fun ee w' ⟨h, h'⟩ => ?_
  subst h h'
  exact ⟨by simp [grt, lst, Int.max_assoc, Int.min_assoc], Below.refl _ _⟩
theorem grt1_c (f a : Int) (b c : Nat) (hf : In f) (ha : In a) (w : World) (h0 : w.cell? ⟨b, 0, none⟩ = some (.int .u64 a)) :
    Calls Try.prog 58 #[.int .u64 f, .slice (some ⟨b, 0, none⟩) 1 c] w fun ee w' => ee = .returned (.int .u64 (max f a)) ∧ Below w.heap.size w w' := by
  have := grt_c f [a] b 0 c hf (fun k h => by match k, h with | 0, _ => exact ha) (by simp) w (fun k h => by match k, h with | 0, _ => simpa using h0)
  refine this.mono fun ee w' ⟨h, h'⟩ => ?_
  subst h h'
  exact ⟨by simp [grt, lst, Int.max_assoc, Int.min_assoc], Below.refl _ _⟩
theorem lst2_c (a e : Int) (b c : Nat) (ha : In a) (he : In e) (w : World) (h0 : w.cell? ⟨b, 0, none⟩ = some (.int .u64 a)) (h1 : w.cell? ⟨b, 1, none⟩ = some (.int .u64 e)) :
    Calls Try.prog 57 #[.slice (some ⟨b, 0, none⟩) 2 c] w fun ee w' => ee = .returned (.int .u64 (min 9223372036854775808 (min a e))) ∧ Below w.heap.size w w' := by
  have := lst_c [a, e] b 0 c (fun k h => by match k, h with | 0, _ => exact ha | 1, _ => exact he) (by simp) w (fun k h => by match k, h with | 0, _ => simpa using h0 | 1, _ => simpa using h1)
  refine this.mono fun ee w' ⟨h, h'⟩ => ?_
  subst h h'
  exact ⟨by simp [grt, lst, Int.max_assoc, Int.min_assoc], Below.refl _ _⟩
theorem lst1_c (a : Int) (b c : Nat) (ha : In a) (w : World) (h0 : w.cell? ⟨b, 0, none⟩ = some (.int .u64 a)) :
    Calls Try.prog 57 #[.slice (some ⟨b, 0, none⟩) 1 c] w fun ee w' => ee = .returned (.int .u64 (min 9223372036854775808 a)) ∧ Below w.heap.size w w' := by
  have := lst_c [a] b 0 c (fun k h => by match k, h with | 0, _ => exact ha) (by simp) w (fun k h => by match k, h with | 0, _ => simpa using h0)
  refine this.mono fun ee w' ⟨h, h'⟩ => ?_
  subst h h'
  exact ⟨by simp [grt, lst, Int.max_assoc, Int.min_assoc], Below.refl _ _⟩

/-- When the next pick comes. -/
def nx (n u d : Int) : Int := min 9223372036854775808 (max n (max u d))
theorem nx_in {n u d : Int} (hn : In n) (hu : In u) (hd : In d) : In (nx n u d) := by unfold nx In at *; omega
theorem max_in {n u : Int} (hn : In n) (hu : In u) : In (max n u) := by unfold In at *; omega
theorem next_c (n u d : Int) (hn : In n) (hu : In u) (hd : In d) (w : World) : Calls Try.prog 45 #[.int .u64 n, .int .u64 u, .int .u64 d] w fun ee w' => ee = .returned (.int .u64 (nx n u d)) ∧ Below w.heap.size w w' := by
  have hm := max_in hn (max_in hu hd)
  go_enter Try.func45, Try.ntmps45
  go_wp2_with (first | (go_at_call 58; ((with_reducible refine (grt2_c n u d _ _ hn hu hd _ (by simp [go_sem, *]) (by simp [go_sem, *])).mono ?_); rintro e w1 ⟨rfl, hbel⟩; obtain ⟨hcc, hff⟩ := bcell hbel; have hsz := hbel.size; (try simp at hsz); have hF : Below w.heap.size w w1 := (by ((repeat' apply And.intro) <;> first | (simp [go_sem, *]; done) | omega | (repeat' (first | with_reducible exact Below.refl _ _ | with_reducible assumption | ((with_reducible refine Below.drew ?_)) | ((with_reducible refine below_drewN ?_ _)) | ((with_reducible refine Below.alloc ?_ ?_ _); rotate_left; focus (first | omega | (simp; done) | (simp; omega))) | ((with_reducible refine Below.setCell ?_ ?_ _); rotate_left; focus (first | omega | (simp; done) | (simp; omega))) | ((with_reducible refine Below.trans ?_ (Below.mono (by with_reducible assumption) ?_)); rotate_left; focus (first | omega | (simp; done) | (simp; omega))))))); go_split_ands; clear hcc hff hbel)) | (go_at_call 57; ((with_reducible refine (lst1_c _ _ _ hm _ (by simp [go_sem, *])).mono ?_); rintro e w2 ⟨rfl, hbel⟩; obtain ⟨hcc, hff⟩ := bcell hbel; have hsz := hbel.size; (try simp at hsz); have hF : Below w.heap.size w w2 := (by ((repeat' apply And.intro) <;> first | (simp [go_sem, *]; done) | omega | (repeat' (first | with_reducible exact Below.refl _ _ | with_reducible assumption | ((with_reducible refine Below.drew ?_)) | ((with_reducible refine below_drewN ?_ _)) | ((with_reducible refine Below.alloc ?_ ?_ _); rotate_left; focus (first | omega | (simp; done) | (simp; omega))) | ((with_reducible refine Below.setCell ?_ ?_ _); rotate_left; focus (first | omega | (simp; done) | (simp; omega))) | ((with_reducible refine Below.trans ?_ (Below.mono (by with_reducible assumption) ?_)); rotate_left; focus (first | omega | (simp; done) | (simp; omega))))))); go_split_ands; clear hcc hff hbel)))
  (go_ret; refine ⟨?_, ?_⟩; (focus (exact rfl)); ((repeat' (first | with_reducible exact Below.refl _ _ | with_reducible assumption | ((with_reducible refine Below.drew ?_)) | ((with_reducible refine below_drewN ?_ _)) | ((with_reducible refine Below.alloc ?_ ?_ _); rotate_left; focus (first | omega | (simp; done) | (simp; omega))) | ((with_reducible refine Below.setCell ?_ ?_ _); rotate_left; focus (first | omega | (simp; done) | (simp; omega))) | ((with_reducible refine Below.trans ?_ (Below.mono (by with_reducible assumption) ?_)); rotate_left; focus (first | omega | (simp; done) | (simp; omega))))); done))

theorem bsub_c (a b : Int) (ha : In a) (hb : In b) (w : World) : Calls Try.prog 59 #[.int .u64 a, .int .u64 b] w fun ee w' => ee = .returned (.tuple #[.int .u64 (if b ≤ a then a - b else 0), .int .i64 (if b ≤ a then 0 else 20)]) ∧ Below w.heap.size w w' := by
  by_cases h : b ≤ a
  · rw [if_pos h, if_pos h]
    refine (bsub_ok a b ha hb h w).mono fun ee w' ⟨h, h'⟩ => ?_
    subst h h'
    exact ⟨rfl, Below.refl _ _⟩
  · rw [if_neg h, if_neg h]
    refine (bsub_no a b ha hb (by omega) w).mono fun ee w' ⟨h, h'⟩ => ?_
    subst h h'
    exact ⟨rfl, Below.refl _ _⟩
/-- In how many ticks. -/
def wt (n u d : Int) : Int := if nx n u d = 9223372036854775808 ∨ nx n u d < n then 9223372036854775808 else nx n u d - n
theorem wait_c (n u d : Int) (hn : In n) (hu : In u) (hd : In d) (w : World) : Calls Try.prog 49 #[.int .u64 n, .int .u64 u, .int .u64 d] w fun ee w' => ee = .returned (.int .u64 (wt n u d)) ∧ Below w.heap.size w w' := by
  have k1 := next_c n u d hn hu hd
  have hx := nx_in hn hu hd
  unfold wt
  generalize nx n u d = x at *
  have k2 := bsub_c x n hx hn
  have K1 := Lib.hid k1
  have K2 := Lib.hid k2
  clear k1 k2
  by_cases h : n ≤ x
  · rw [if_pos h, if_pos h] at K2
    by_cases h2 : x = 9223372036854775808
    · subst h2
      rw [if_pos (.inl rfl)]
      go_enter Try.func49, Try.ntmps49
      go_wp2_with (first | (go_at_call 45; ((with_reducible refine (K1.out _).mono ?_); rintro e w1 ⟨rfl, hbel⟩; obtain ⟨hcc, hff⟩ := bcell hbel; have hsz := hbel.size; (try simp at hsz); have hF : Below w.heap.size w w1 := (by ((repeat' apply And.intro) <;> first | (simp [go_sem, *]; done) | omega | (repeat' (first | with_reducible exact Below.refl _ _ | with_reducible assumption | ((with_reducible refine Below.drew ?_)) | ((with_reducible refine below_drewN ?_ _)) | ((with_reducible refine Below.alloc ?_ ?_ _); rotate_left; focus (first | omega | (simp; done) | (simp; omega))) | ((with_reducible refine Below.setCell ?_ ?_ _); rotate_left; focus (first | omega | (simp; done) | (simp; omega))) | ((with_reducible refine Below.trans ?_ (Below.mono (by with_reducible assumption) ?_)); rotate_left; focus (first | omega | (simp; done) | (simp; omega))))))); go_split_ands; clear hcc hff hbel)) | (go_at_call 59; ((with_reducible refine (K2.out _).mono ?_); rintro e w2 ⟨rfl, hbel⟩; obtain ⟨hcc, hff⟩ := bcell hbel; have hsz := hbel.size; (try simp at hsz); have hF : Below w.heap.size w w2 := (by ((repeat' apply And.intro) <;> first | (simp [go_sem, *]; done) | omega | (repeat' (first | with_reducible exact Below.refl _ _ | with_reducible assumption | ((with_reducible refine Below.drew ?_)) | ((with_reducible refine below_drewN ?_ _)) | ((with_reducible refine Below.alloc ?_ ?_ _); rotate_left; focus (first | omega | (simp; done) | (simp; omega))) | ((with_reducible refine Below.setCell ?_ ?_ _); rotate_left; focus (first | omega | (simp; done) | (simp; omega))) | ((with_reducible refine Below.trans ?_ (Below.mono (by with_reducible assumption) ?_)); rotate_left; focus (first | omega | (simp; done) | (simp; omega))))))); go_split_ands; clear hcc hff hbel)))
      (go_ret; refine ⟨?_, ?_⟩; (focus (exact rfl)); ((repeat' (first | with_reducible exact Below.refl _ _ | with_reducible assumption | ((with_reducible refine Below.drew ?_)) | ((with_reducible refine below_drewN ?_ _)) | ((with_reducible refine Below.alloc ?_ ?_ _); rotate_left; focus (first | omega | (simp; done) | (simp; omega))) | ((with_reducible refine Below.setCell ?_ ?_ _); rotate_left; focus (first | omega | (simp; done) | (simp; omega))) | ((with_reducible refine Below.trans ?_ (Below.mono (by with_reducible assumption) ?_)); rotate_left; focus (first | omega | (simp; done) | (simp; omega))))); done))
    · rw [if_neg (by omega)]
      go_enter Try.func49, Try.ntmps49
      go_wp2_with (first | (go_at_call 45; ((with_reducible refine (K1.out _).mono ?_); rintro e w1 ⟨rfl, hbel⟩; obtain ⟨hcc, hff⟩ := bcell hbel; have hsz := hbel.size; (try simp at hsz); have hF : Below w.heap.size w w1 := (by ((repeat' apply And.intro) <;> first | (simp [go_sem, *]; done) | omega | (repeat' (first | with_reducible exact Below.refl _ _ | with_reducible assumption | ((with_reducible refine Below.drew ?_)) | ((with_reducible refine below_drewN ?_ _)) | ((with_reducible refine Below.alloc ?_ ?_ _); rotate_left; focus (first | omega | (simp; done) | (simp; omega))) | ((with_reducible refine Below.setCell ?_ ?_ _); rotate_left; focus (first | omega | (simp; done) | (simp; omega))) | ((with_reducible refine Below.trans ?_ (Below.mono (by with_reducible assumption) ?_)); rotate_left; focus (first | omega | (simp; done) | (simp; omega))))))); go_split_ands; clear hcc hff hbel)) | (go_at_call 59; ((with_reducible refine (K2.out _).mono ?_); rintro e w2 ⟨rfl, hbel⟩; obtain ⟨hcc, hff⟩ := bcell hbel; have hsz := hbel.size; (try simp at hsz); have hF : Below w.heap.size w w2 := (by ((repeat' apply And.intro) <;> first | (simp [go_sem, *]; done) | omega | (repeat' (first | with_reducible exact Below.refl _ _ | with_reducible assumption | ((with_reducible refine Below.drew ?_)) | ((with_reducible refine below_drewN ?_ _)) | ((with_reducible refine Below.alloc ?_ ?_ _); rotate_left; focus (first | omega | (simp; done) | (simp; omega))) | ((with_reducible refine Below.setCell ?_ ?_ _); rotate_left; focus (first | omega | (simp; done) | (simp; omega))) | ((with_reducible refine Below.trans ?_ (Below.mono (by with_reducible assumption) ?_)); rotate_left; focus (first | omega | (simp; done) | (simp; omega))))))); go_split_ands; clear hcc hff hbel)))
      (go_ret; refine ⟨?_, ?_⟩; (focus (exact rfl)); ((repeat' (first | with_reducible exact Below.refl _ _ | with_reducible assumption | ((with_reducible refine Below.drew ?_)) | ((with_reducible refine below_drewN ?_ _)) | ((with_reducible refine Below.alloc ?_ ?_ _); rotate_left; focus (first | omega | (simp; done) | (simp; omega))) | ((with_reducible refine Below.setCell ?_ ?_ _); rotate_left; focus (first | omega | (simp; done) | (simp; omega))) | ((with_reducible refine Below.trans ?_ (Below.mono (by with_reducible assumption) ?_)); rotate_left; focus (first | omega | (simp; done) | (simp; omega))))); done))
  · rw [if_neg h, if_neg h] at K2
    rw [if_pos (by omega)]
    have h2 : (x == 9223372036854775808 || true) = true := by simp
    go_enter Try.func49, Try.ntmps49
    go_wp2_with (first | (go_at_call 45; ((with_reducible refine (K1.out _).mono ?_); rintro e w1 ⟨rfl, hbel⟩; obtain ⟨hcc, hff⟩ := bcell hbel; have hsz := hbel.size; (try simp at hsz); have hF : Below w.heap.size w w1 := (by ((repeat' apply And.intro) <;> first | (simp [go_sem, *]; done) | omega | (repeat' (first | with_reducible exact Below.refl _ _ | with_reducible assumption | ((with_reducible refine Below.drew ?_)) | ((with_reducible refine below_drewN ?_ _)) | ((with_reducible refine Below.alloc ?_ ?_ _); rotate_left; focus (first | omega | (simp; done) | (simp; omega))) | ((with_reducible refine Below.setCell ?_ ?_ _); rotate_left; focus (first | omega | (simp; done) | (simp; omega))) | ((with_reducible refine Below.trans ?_ (Below.mono (by with_reducible assumption) ?_)); rotate_left; focus (first | omega | (simp; done) | (simp; omega))))))); go_split_ands; clear hcc hff hbel)) | (go_at_call 59; ((with_reducible refine (K2.out _).mono ?_); rintro e w2 ⟨rfl, hbel⟩; obtain ⟨hcc, hff⟩ := bcell hbel; have hsz := hbel.size; (try simp at hsz); have hF : Below w.heap.size w w2 := (by ((repeat' apply And.intro) <;> first | (simp [go_sem, *]; done) | omega | (repeat' (first | with_reducible exact Below.refl _ _ | with_reducible assumption | ((with_reducible refine Below.drew ?_)) | ((with_reducible refine below_drewN ?_ _)) | ((with_reducible refine Below.alloc ?_ ?_ _); rotate_left; focus (first | omega | (simp; done) | (simp; omega))) | ((with_reducible refine Below.setCell ?_ ?_ _); rotate_left; focus (first | omega | (simp; done) | (simp; omega))) | ((with_reducible refine Below.trans ?_ (Below.mono (by with_reducible assumption) ?_)); rotate_left; focus (first | omega | (simp; done) | (simp; omega))))))); go_split_ands; clear hcc hff hbel)))
    all_goals (go_ret; refine ⟨?_, ?_⟩; (focus (exact rfl)); ((repeat' (first | with_reducible exact Below.refl _ _ | with_reducible assumption | ((with_reducible refine Below.drew ?_)) | ((with_reducible refine below_drewN ?_ _)) | ((with_reducible refine Below.alloc ?_ ?_ _); rotate_left; focus (first | omega | (simp; done) | (simp; omega))) | ((with_reducible refine Below.setCell ?_ ?_ _); rotate_left; focus (first | omega | (simp; done) | (simp; omega))) | ((with_reducible refine Below.trans ?_ (Below.mono (by with_reducible assumption) ?_)); rotate_left; focus (first | omega | (simp; done) | (simp; omega))))); done))
/-- In how many ticks the link is free and nothing is picked. -/
def idl (n u d e : Int) : Int := if max n u ≤ min 9223372036854775808 (min e (nx n u d)) then min 9223372036854775808 (min e (nx n u d)) - max n u else 0
theorem idle_c (n u d e : Int) (hn : In n) (hu : In u) (hd : In d) (he : In e) (w : World) : Calls Try.prog 47 #[.int .u64 n, .int .u64 u, .int .u64 d, .int .u64 e] w fun ee w' => ee = .returned (.int .u64 (idl n u d e)) ∧ Below w.heap.size w w' := by
  have k1 := next_c n u d hn hu hd
  have hx := nx_in hn hu hd
  unfold idl
  generalize nx n u d = x at *
  have hm := max_in hn hu
  have hl : In (min 9223372036854775808 (min e x)) := by unfold In at *; omega
  have k2 := bsub_c (min 9223372036854775808 (min e x)) (max n u) hl hm
  have K1 := Lib.hid k1
  have K2 := Lib.hid k2
  clear k1 k2
  generalize (if max n u ≤ min 9223372036854775808 (min e x) then min 9223372036854775808 (min e x) - max n u else 0) = z at *
  generalize (if max n u ≤ min 9223372036854775808 (min e x) then (0 : Int) else 20) = z2 at *
  go_enter Try.func47, Try.ntmps47
  go_wp2_with (first | (go_at_call 45; ((with_reducible refine (K1.out _).mono ?_); rintro e w1 ⟨rfl, hbel⟩; obtain ⟨hcc, hff⟩ := bcell hbel; have hsz := hbel.size; (try simp at hsz); have hF : Below w.heap.size w w1 := (by ((repeat' apply And.intro) <;> first | (simp [go_sem, *]; done) | omega | (repeat' (first | with_reducible exact Below.refl _ _ | with_reducible assumption | ((with_reducible refine Below.drew ?_)) | ((with_reducible refine below_drewN ?_ _)) | ((with_reducible refine Below.alloc ?_ ?_ _); rotate_left; focus (first | omega | (simp; done) | (simp; omega))) | ((with_reducible refine Below.setCell ?_ ?_ _); rotate_left; focus (first | omega | (simp; done) | (simp; omega))) | ((with_reducible refine Below.trans ?_ (Below.mono (by with_reducible assumption) ?_)); rotate_left; focus (first | omega | (simp; done) | (simp; omega))))))); go_split_ands; clear hcc hff hbel)) | (go_at_call 57; ((with_reducible refine (lst2_c e x _ _ he hx _ (by simp [go_sem, *]) (by simp [go_sem, *])).mono ?_); rintro e w2 ⟨rfl, hbel⟩; obtain ⟨hcc, hff⟩ := bcell hbel; have hsz := hbel.size; (try simp at hsz); have hF : Below w.heap.size w w2 := (by ((repeat' apply And.intro) <;> first | (simp [go_sem, *]; done) | omega | (repeat' (first | with_reducible exact Below.refl _ _ | with_reducible assumption | ((with_reducible refine Below.drew ?_)) | ((with_reducible refine below_drewN ?_ _)) | ((with_reducible refine Below.alloc ?_ ?_ _); rotate_left; focus (first | omega | (simp; done) | (simp; omega))) | ((with_reducible refine Below.setCell ?_ ?_ _); rotate_left; focus (first | omega | (simp; done) | (simp; omega))) | ((with_reducible refine Below.trans ?_ (Below.mono (by with_reducible assumption) ?_)); rotate_left; focus (first | omega | (simp; done) | (simp; omega))))))); go_split_ands; clear hcc hff hbel)) | (go_at_call 58; ((with_reducible refine (grt1_c n u _ _ hn hu _ (by simp [go_sem, *])).mono ?_); rintro e w3 ⟨rfl, hbel⟩; obtain ⟨hcc, hff⟩ := bcell hbel; have hsz := hbel.size; (try simp at hsz); have hF : Below w.heap.size w w3 := (by ((repeat' apply And.intro) <;> first | (simp [go_sem, *]; done) | omega | (repeat' (first | with_reducible exact Below.refl _ _ | with_reducible assumption | ((with_reducible refine Below.drew ?_)) | ((with_reducible refine below_drewN ?_ _)) | ((with_reducible refine Below.alloc ?_ ?_ _); rotate_left; focus (first | omega | (simp; done) | (simp; omega))) | ((with_reducible refine Below.setCell ?_ ?_ _); rotate_left; focus (first | omega | (simp; done) | (simp; omega))) | ((with_reducible refine Below.trans ?_ (Below.mono (by with_reducible assumption) ?_)); rotate_left; focus (first | omega | (simp; done) | (simp; omega))))))); go_split_ands; clear hcc hff hbel)) | (go_at_call 59; ((with_reducible refine (K2.out _).mono ?_); rintro e w4 ⟨rfl, hbel⟩; obtain ⟨hcc, hff⟩ := bcell hbel; have hsz := hbel.size; (try simp at hsz); have hF : Below w.heap.size w w4 := (by ((repeat' apply And.intro) <;> first | (simp [go_sem, *]; done) | omega | (repeat' (first | with_reducible exact Below.refl _ _ | with_reducible assumption | ((with_reducible refine Below.drew ?_)) | ((with_reducible refine below_drewN ?_ _)) | ((with_reducible refine Below.alloc ?_ ?_ _); rotate_left; focus (first | omega | (simp; done) | (simp; omega))) | ((with_reducible refine Below.setCell ?_ ?_ _); rotate_left; focus (first | omega | (simp; done) | (simp; omega))) | ((with_reducible refine Below.trans ?_ (Below.mono (by with_reducible assumption) ?_)); rotate_left; focus (first | omega | (simp; done) | (simp; omega))))))); go_split_ands; clear hcc hff hbel)))
  (go_ret; refine ⟨?_, ?_⟩; (focus (exact rfl)); ((repeat' (first | with_reducible exact Below.refl _ _ | with_reducible assumption | ((with_reducible refine Below.drew ?_)) | ((with_reducible refine below_drewN ?_ _)) | ((with_reducible refine Below.alloc ?_ ?_ _); rotate_left; focus (first | omega | (simp; done) | (simp; omega))) | ((with_reducible refine Below.setCell ?_ ?_ _); rotate_left; focus (first | omega | (simp; done) | (simp; omega))) | ((with_reducible refine Below.trans ?_ (Below.mono (by with_reducible assumption) ?_)); rotate_left; focus (first | omega | (simp; done) | (simp; omega))))); done))
end Go.Proofs.Ytohdcpkacdaanaa
