import Derived.Test.YtldkgnfplldnaaaBound2
import Derived.Test.YtldkgnfplldnaaaOpenS
namespace Go.Proofs.Ytldkgnfplldnaaa
set_option linter.unusedVariables false
set_option linter.unusedSimpArgs false
open Go.RowKit Fg Reg

theorem lst_le_never (zs : List Int) : lst zs ≤ 9223372036854775808 := by
  unfold lst
  suffices h : ∀ (l : List Int) (a : Int), l.foldl min a ≤ a from h zs _
  intro l
  induction l with
  | nil => intro a; exact Int.le_refl _
  | cons x l ih => intro a; exact Int.le_trans (ih _) (Int.min_le_left _ _)
theorem foldl_min_mono (l : List Int) : ∀ (a x : Int), x ∈ l → l.foldl min a ≤ x := by
  induction l with
  | nil => intro a x h; cases h
  | cons y l ih =>
    intro a x h
    have low : ∀ (l : List Int) (a : Int), l.foldl min a ≤ a := by
      intro l
      induction l with
      | nil => intro a; exact Int.le_refl _
      | cons x l ih => intro a; exact Int.le_trans (ih _) (Int.min_le_left _ _)
    rcases List.mem_cons.1 h with rfl | h
    · exact Int.le_trans (low l _) (Int.min_le_right a _)
    · exact ih _ _ h
theorem lst_le (zs : List Int) (k : Nat) (h : k < zs.length) : lst zs ≤ zs[k] := foldl_min_mono zs _ _ (List.getElem_mem h)
theorem lst_mem (zs : List Int) : lst zs = 9223372036854775808 ∨ lst zs ∈ zs := by
  unfold lst
  suffices h : ∀ (l : List Int) (a : Int), l.foldl min a = a ∨ l.foldl min a ∈ l from h zs _
  intro l
  induction l with
  | nil => intro a; exact .inl rfl
  | cons x l ih =>
    intro a
    simp only [List.foldl_cons, List.mem_cons]
    rcases ih (min a x) with h | h
    · rw [h, Int.min_def]; split
      · exact .inl rfl
      · exact .inr (.inl rfl)
    · exact .inr (.inr h)
theorem lst_nn (zs : List Int) (h : ∀ k (h : k < zs.length), In zs[k]) : 0 ≤ lst zs := by
  rcases lst_mem zs with e | e
  · rw [e]; decide
  · obtain ⟨k, hk, e'⟩ := List.mem_iff_getElem.1 e
    rw [← e']; exact (h k hk).1
/-- Is the least of all one of the first k, or Never? -/
def seen (zs : List Int) (k : Nat) : Bool := lst zs == 9223372036854775808 || (zs.take k).any (· == lst zs)
theorem seen_succ (zs : List Int) (k : Nat) (h : k < zs.length) : seen zs (k + 1) = (seen zs k || zs[k] == lst zs) := by
  unfold seen
  rw [take_snoc' zs k h, List.any_append]
  simp [Bool.or_assoc]
theorem seen_all (zs : List Int) : seen zs zs.length = true := by
  unfold seen
  rw [List.take_length]
  rcases lst_mem zs with e | e
  · simp [e]
  · simp only [Bool.or_eq_true, List.any_eq_true]
    exact .inr ⟨_, e, by simp⟩

theorem lst_empty (a : Addr) (c : Nat) (w : World) : Calls Try.prog 19 #[.slice (some a) 0 c] w fun ee w' => ee = .returned (.int .u64 9223372036854775808) ∧ w = w' := by
  go_enter Try.func19, Try.ntmps19
  go_wp2_with fail
  refine wp_loop_rounds 1 ?_
  rw [rounds_succ]
  go_wp2
  go_ret
  exact ⟨rfl, rfl⟩

theorem boundLeast_nil (w : World) : Calls Try.prog 7 #[.slice none 0 0] w fun e w' => e = .returned (.bool true) ∧ Below w.heap.size w w' := by
  go_enter Try.func7, Try.ntmps7
  go_wp2_with (go_at_call 19; ((with_reducible refine (lst_nil _).mono ?_); rintro e w' ⟨rfl, rfl⟩))
  refine wp_loop_rounds 1 ?_
  rw [rounds_succ]
  go_wp2_with (go_at_call 14; ((with_reducible refine (over_c _).mono ?_); rintro e w5 ⟨rfl, hbel⟩; obtain ⟨hcc, hff⟩ := bcell hbel; have hsz := hbel.size; (try simp at hsz); have hF : Below w.heap.size w w5 := (by ((repeat' apply And.intro) <;> first | (simp [go_sem, *]; done) | omega | (repeat' (first | with_reducible exact Below.refl _ _ | with_reducible assumption | ((with_reducible refine Below.drew ?_)) | ((with_reducible refine below_drewN ?_ _)) | ((with_reducible refine Below.alloc ?_ ?_ _); rotate_left; focus (first | omega | (simp; done) | (simp; omega))) | ((with_reducible refine Below.setCell ?_ ?_ _); rotate_left; focus (first | omega | (simp; done) | (simp; omega))) | ((with_reducible refine Below.trans ?_ (Below.mono (by with_reducible assumption) ?_)); rotate_left; focus (first | omega | (simp; done) | (simp; omega))))))); go_split_ands; clear hcc hff hbel))
  (go_ret; refine ⟨?_, ?_⟩; (focus (exact rfl)); ((repeat' (first | with_reducible exact Below.refl _ _ | with_reducible assumption | ((with_reducible refine Below.drew ?_)) | ((with_reducible refine below_drewN ?_ _)) | ((with_reducible refine Below.alloc ?_ ?_ _); rotate_left; focus (first | omega | (simp; done) | (simp; omega))) | ((with_reducible refine Below.setCell ?_ ?_ _); rotate_left; focus (first | omega | (simp; done) | (simp; omega))) | ((with_reducible refine Below.trans ?_ (Below.mono (by with_reducible assumption) ?_)); rotate_left; focus (first | omega | (simp; done) | (simp; omega))))); done))
theorem boundLeast_empty (a : Addr) (c : Nat) (w : World) : Calls Try.prog 7 #[.slice (some a) 0 c] w fun e w' => e = .returned (.bool true) ∧ Below w.heap.size w w' := by
  go_enter Try.func7, Try.ntmps7
  go_wp2_with (go_at_call 19; ((with_reducible refine (lst_empty _ _ _).mono ?_); rintro e w' ⟨rfl, rfl⟩))
  refine wp_loop_rounds 1 ?_
  rw [rounds_succ]
  go_wp2_with (go_at_call 14; ((with_reducible refine (over_c _).mono ?_); rintro e w5 ⟨rfl, hbel⟩; obtain ⟨hcc, hff⟩ := bcell hbel; have hsz := hbel.size; (try simp at hsz); have hF : Below w.heap.size w w5 := (by ((repeat' apply And.intro) <;> first | (simp [go_sem, *]; done) | omega | (repeat' (first | with_reducible exact Below.refl _ _ | with_reducible assumption | ((with_reducible refine Below.drew ?_)) | ((with_reducible refine below_drewN ?_ _)) | ((with_reducible refine Below.alloc ?_ ?_ _); rotate_left; focus (first | omega | (simp; done) | (simp; omega))) | ((with_reducible refine Below.setCell ?_ ?_ _); rotate_left; focus (first | omega | (simp; done) | (simp; omega))) | ((with_reducible refine Below.trans ?_ (Below.mono (by with_reducible assumption) ?_)); rotate_left; focus (first | omega | (simp; done) | (simp; omega))))))); go_split_ands; clear hcc hff hbel))
  (go_ret; refine ⟨?_, ?_⟩; (focus (exact rfl)); ((repeat' (first | with_reducible exact Below.refl _ _ | with_reducible assumption | ((with_reducible refine Below.drew ?_)) | ((with_reducible refine below_drewN ?_ _)) | ((with_reducible refine Below.alloc ?_ ?_ _); rotate_left; focus (first | omega | (simp; done) | (simp; omega))) | ((with_reducible refine Below.setCell ?_ ?_ _); rotate_left; focus (first | omega | (simp; done) | (simp; omega))) | ((with_reducible refine Below.trans ?_ (Below.mono (by with_reducible assumption) ?_)); rotate_left; focus (first | omega | (simp; done) | (simp; omega))))); done))
theorem boundLeast_long (a : Addr) (n c : Nat) (h : 100 < n) (w : World) : Calls Try.prog 7 #[.slice (some a) n c] w fun e w' => e = .returned (.bool true) ∧ Below w.heap.size w w' := by
  go_enter Try.func7, Try.ntmps7
  go_wp2_with (go_at_call 14; ((with_reducible refine (over_c _).mono ?_); rintro e w5 ⟨rfl, hbel⟩; obtain ⟨hcc, hff⟩ := bcell hbel; have hsz := hbel.size; (try simp at hsz); have hF : Below w.heap.size w w5 := (by ((repeat' apply And.intro) <;> first | (simp [go_sem, *]; done) | omega | (repeat' (first | with_reducible exact Below.refl _ _ | with_reducible assumption | ((with_reducible refine Below.drew ?_)) | ((with_reducible refine below_drewN ?_ _)) | ((with_reducible refine Below.alloc ?_ ?_ _); rotate_left; focus (first | omega | (simp; done) | (simp; omega))) | ((with_reducible refine Below.setCell ?_ ?_ _); rotate_left; focus (first | omega | (simp; done) | (simp; omega))) | ((with_reducible refine Below.trans ?_ (Below.mono (by with_reducible assumption) ?_)); rotate_left; focus (first | omega | (simp; done) | (simp; omega))))))); go_split_ands; clear hcc hff hbel))
  (go_ret; refine ⟨?_, ?_⟩; (focus (exact rfl)); ((repeat' (first | with_reducible exact Below.refl _ _ | with_reducible assumption | ((with_reducible refine Below.drew ?_)) | ((with_reducible refine below_drewN ?_ _)) | ((with_reducible refine Below.alloc ?_ ?_ _); rotate_left; focus (first | omega | (simp; done) | (simp; omega))) | ((with_reducible refine Below.setCell ?_ ?_ _); rotate_left; focus (first | omega | (simp; done) | (simp; omega))) | ((with_reducible refine Below.trans ?_ (Below.mono (by with_reducible assumption) ?_)); rotate_left; focus (first | omega | (simp; done) | (simp; omega))))); done))

set_option maxHeartbeats 1000000 in
theorem boundLeast_some (zs : List Int) (b o c : Nat) (hz : ∀ k (h : k < zs.length), In zs[k]) (hn : zs.length ≤ 100) (w : World) (hc : ∀ k (h : k < zs.length), w.cell? ⟨b, o + k, none⟩ = some (.int .u64 zs[k])) :
    Calls Try.prog 7 #[.slice (some ⟨b, o, none⟩) zs.length c] w fun e w' => e = .returned (.bool true) ∧ Below w.heap.size w w' := by
  have K1 := Lib.hid (lst_c zs b o c hz (by omega) w hc)
  have h1 := lst_le_never zs
  have h0 := lst_nn zs hz
  have HC := Lib.hid hc
  have HL := Lib.hid (lst_le zs)
  have HZ := Lib.hid hz
  clear hc hz
  have e0 : (lst zs == 9223372036854775808) = seen zs 0 := by simp [seen]
  have HS := Lib.hid e0
  clear e0
  obtain ⟨L, hL⟩ : ∃ L, L = lst zs := ⟨_, rfl⟩
  rw [← hL] at h1 h0
  have HLL := Lib.hid hL
  clear hL
  go_enter Try.func7, Try.ntmps7
  go_wp2_with (go_at_call 19; (refine (K1.out).mono ?_); rw [← HLL.out]; rintro e w' ⟨rfl, rfl⟩)
  rw [show Value.bool (L == 9223372036854775808) = Value.bool (seen zs 0) by rw [← HS.out, HLL.out]]
  go_loop [4, 17] (fun s i => ∃ k : Nat, k ≤ zs.length ∧ i = .int .i64 k ∧ s = .bool (seen zs k)) (fun _ i => zs.length - (intOf i).toNat)
  case atStart => exact ⟨0, Nat.zero_le _, rfl, rfl⟩
  case round =>
    obtain ⟨k, hk, rfl, rfl⟩ := hrel
    by_cases hlt : k < zs.length
    · have hcell := HC.out k hlt
      have hle := HL.out k hlt
      rw [← HLL.out] at hle
      have hs := Lib.hid (seen_succ zs k hlt)
      have hi := HZ.out k hlt
      cases hsk : seen zs k with
      | true =>
        rw [hsk] at hs
        clear hsk
        go_wp2
        go_round
        case rel => exact ⟨k + 1, by omega, by go_num, by rw [hs.out]; rfl⟩
        case measure => simp [intOf]; omega
      | false =>
        rw [hsk, ← HLL.out] at hs
        clear hsk
        go_wp2
        all_goals
          go_round
          case rel => exact ⟨k + 1, by omega, by go_num, by rw [hs.out]; simp⟩
          case measure => simp [intOf]; omega
    · obtain rfl : k = zs.length := by omega
      rw [seen_all]
      go_wp2_with (go_at_call 14; ((with_reducible refine (over_c _).mono ?_); rintro e w5 ⟨rfl, hbel⟩; obtain ⟨hcc, hff⟩ := bcell hbel; have hsz := hbel.size; (try simp at hsz); have hF : Below w.heap.size w w5 := (by ((repeat' apply And.intro) <;> first | (simp [go_sem, *]; done) | omega | (repeat' (first | with_reducible exact Below.refl _ _ | with_reducible assumption | ((with_reducible refine Below.drew ?_)) | ((with_reducible refine below_drewN ?_ _)) | ((with_reducible refine Below.alloc ?_ ?_ _); rotate_left; focus (first | omega | (simp; done) | (simp; omega))) | ((with_reducible refine Below.setCell ?_ ?_ _); rotate_left; focus (first | omega | (simp; done) | (simp; omega))) | ((with_reducible refine Below.trans ?_ (Below.mono (by with_reducible assumption) ?_)); rotate_left; focus (first | omega | (simp; done) | (simp; omega))))))); go_split_ands; clear hcc hff hbel))
      (go_ret; refine ⟨?_, ?_⟩; (focus (exact rfl)); ((repeat' (first | with_reducible exact Below.refl _ _ | with_reducible assumption | ((with_reducible refine Below.drew ?_)) | ((with_reducible refine below_drewN ?_ _)) | ((with_reducible refine Below.alloc ?_ ?_ _); rotate_left; focus (first | omega | (simp; done) | (simp; omega))) | ((with_reducible refine Below.setCell ?_ ?_ _); rotate_left; focus (first | omega | (simp; done) | (simp; omega))) | ((with_reducible refine Below.trans ?_ (Below.mono (by with_reducible assumption) ?_)); rotate_left; focus (first | omega | (simp; done) | (simp; omega))))); done))

theorem boundLeast_law (v : Value) {w : World} (hs : Op.FlatSlice w 1 [.int .u64] v) : Calls Try.prog 7 #[v] w fun e w' => e = .returned (.bool true) ∧ Below w.heap.size w w' := by
  rcases hs.ints with rfl | ⟨a, c, rfl, _⟩ | ⟨b, o, cap, zs, h0, rfl, h2, h3, h4, h5, h6⟩
  · exact boundLeast_nil w
  · exact boundLeast_empty a c w
  · rcases Nat.lt_or_ge 100 zs.length with h | h
    · exact boundLeast_long _ _ _ h w
    · exact boundLeast_some zs b o cap (fun k hk => in_wf (h6 k hk)) h w h5
end Go.Proofs.Ytldkgnfplldnaaa
