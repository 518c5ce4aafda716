import Derived.Test.YtohdcpkacdaanaaRing4
import Derived.Test.YtohdcpkacdaanaaRingS3
import Derived.Test.YtohdcpkacdaanaaOpenS
namespace Go.Proofs.Ytohdcpkacdaanaa
set_option linter.unusedVariables false
set_option linter.unusedSimpArgs false
set_option maxRecDepth 100000
open Go.RowKit Fg Reg

theorem ato_eq (f j n : Nat) (hf : f < n) (hj : j ≤ n) : ato f j n = if f + j < n then f + j else f + j - n := by
  unfold ato
  split
  · exact Nat.mod_eq_of_lt (by omega)
  · rw [Nat.mod_eq_sub_mod (by omega)]
    exact Nat.mod_eq_of_lt (by omega)
/-- The ring holds so many things of a row, from one on. -/
def QU (xs : Nat → Value) (f m n a : Nat) (g : Nat → Value) : Prop := ∀ j, j < m → xs (ato f j n) = g (a + j)
theorem QU.push {xs : Nat → Value} {f m n a : Nat} {g : Nat → Value} (h : QU xs f m n a g) (hf : f < n) (hm : m < n) (v : Value) (hv : v = g (a + m)) : QU (upd xs (ato f m n) v) f (m + 1) n a g := fun j hj => by
  unfold upd
  rw [ato_eq f j n hf (by omega), ato_eq f m n hf (by omega)]
  by_cases hjm : j = m
  · subst hjm; rw [if_pos rfl, hv]
  · have := h j (by omega)
    rw [ato_eq f j n hf (by omega)] at this
    rw [if_neg (by split <;> split <;> omega), this]
theorem QU.head {xs : Nat → Value} {f m n a : Nat} {g : Nat → Value} (h : QU xs f m n a g) (hf : f < n) (hm : 0 < m) : xs f = g a := by
  have := h 0 hm
  rwa [ato_zero f n hf] at this
theorem QU.pop {xs : Nat → Value} {f m n a : Nat} {g : Nat → Value} (h : QU xs f m n a g) (hf : f < n) (hm : 0 < m) (hn : m ≤ n) (z : Value) : QU (upd xs f z) (ato f 1 n) (m - 1) n (a + 1) g := fun j hj => by
  have e1 := ato_eq f 1 n hf (by omega)
  have h1 : ato f 1 n < n := ato_lt f 1 n (by omega)
  have := h (j + 1) (by omega)
  unfold upd
  rw [ato_eq (ato f 1 n) j n h1 (by omega), e1]
  rw [ato_eq f (j + 1) n hf (by omega)] at this
  have e2 : (if (if f + 1 < n then f + 1 else f + 1 - n) + j < n then (if f + 1 < n then f + 1 else f + 1 - n) + j else (if f + 1 < n then f + 1 else f + 1 - n) + j - n) = (if f + (j + 1) < n then f + (j + 1) else f + (j + 1) - n) := by
    split <;> split <;> split <;> omega
  rw [e2, if_neg (by split <;> omega), this]
  congr 1
  omega
theorem TR.f_lt {w z : World} {x s n f m : Nat} {xs : Nat → Value} (h : TR w z x s n f m xs) : f < n := h.1.2.2.2.2.1

/-- The texts that a slice holds. -/
def TextsAt (w : World) (sb so len : Nat) (ss : Nat → ByteArray) : Prop := sb < w.heap.size ∧ ∀ k, k < len → w.cell? ⟨sb, so + k, none⟩ = some (.string (ss k))
theorem texts_of {w : World} {v : Value} (h : Op.FlatSlice w 1 [.str] v) :
    v = .slice none 0 0 ∨ (∃ a cap, v = .slice (some a) 0 cap) ∨ ∃ (sb so len cap : Nat) (ss : Nat → ByteArray), 0 < len ∧ v = .slice (some ⟨sb, so, none⟩) len cap ∧ TextsAt w sb so len ss := by
  rcases h with h | ⟨a, cap, h, _⟩ | ⟨b, o, n, cap, css, h0, rfl, h3, h4, hlt, hn, hi⟩
  · exact .inl h
  · exact .inr (.inl ⟨a, cap, h⟩)
  · have h1 : ∀ i, i < n → ∃ z : ByteArray, w.cell? ⟨b, o + i, none⟩ = some (.string z) := fun i hin => by
      obtain ⟨⟨v, vs, e, ⟨z, rfl, hz⟩, e2⟩, h2⟩ := hi i (by omega)
      refine ⟨z, ?_⟩
      have := h2 0 (.string z) (by rw [e]; rfl)
      simpa using this
    obtain ⟨zs, hzs⟩ := Go.Deep.choose_lt h1
    exact .inr (.inr ⟨b, o, n, cap, zs, h0, rfl, hlt, hzs⟩)

theorem ringTexts_out (t : Int) (v : Value) (len : Nat) (hv : v = .slice none 0 0 ∧ len = 0 ∨ ∃ a c, v = .slice (some a) len c) (h : 200 < len ∨ (len ≤ 200 ∧ t < 1) ∨ (len ≤ 200 ∧ 1 ≤ t ∧ 64 < t)) (w : World) : Calls Try.prog 7 #[.int .i64 t, v] w fun e w' => e = .returned (.bool true) ∧ Below w.heap.size w w' := by
  rcases hv with ⟨rfl, rfl⟩ | ⟨ad, c, rfl⟩
  · rcases h with h | ⟨_, h⟩ | ⟨_, h', h⟩
    · omega
    all_goals
      go_enter Try.func7, Try.ntmps7
      go_wp2_with (go_at_call 22; ((with_reducible refine (pair_c _).mono ?_); rintro e w1 ⟨rfl, hbel⟩; obtain ⟨hcc, hff⟩ := bcell hbel; have hsz := hbel.size; (try simp at hsz); have hF : Below w.heap.size w w1 := (by ((repeat' apply And.intro) <;> first | (simp [go_sem, *]; done) | omega | (repeat' (first | with_reducible exact Below.refl _ _ | with_reducible assumption | ((with_reducible refine Below.drew ?_)) | ((with_reducible refine below_drewN ?_ _)) | ((with_reducible refine Below.alloc ?_ ?_ _); rotate_left; focus (first | omega | (simp; done) | (simp; omega))) | ((with_reducible refine Below.setCell ?_ ?_ _); rotate_left; focus (first | omega | (simp; done) | (simp; omega))) | ((with_reducible refine Below.trans ?_ (Below.mono (by with_reducible assumption) ?_)); rotate_left; focus (first | omega | (simp; done) | (simp; omega))))))); go_split_ands; clear hcc hff hbel))
      (go_ret; refine ⟨?_, ?_⟩; (focus (exact rfl)); ((repeat' (first | with_reducible exact Below.refl _ _ | with_reducible assumption | ((with_reducible refine Below.drew ?_)) | ((with_reducible refine below_drewN ?_ _)) | ((with_reducible refine Below.alloc ?_ ?_ _); rotate_left; focus (first | omega | (simp; done) | (simp; omega))) | ((with_reducible refine Below.setCell ?_ ?_ _); rotate_left; focus (first | omega | (simp; done) | (simp; omega))) | ((with_reducible refine Below.trans ?_ (Below.mono (by with_reducible assumption) ?_)); rotate_left; focus (first | omega | (simp; done) | (simp; omega))))); done))
  · rcases h with h | ⟨h1, h⟩ | ⟨h1, h', h⟩
    all_goals
      go_enter Try.func7, Try.ntmps7
      go_wp2_with (go_at_call 22; ((with_reducible refine (pair_c _).mono ?_); rintro e w1 ⟨rfl, hbel⟩; obtain ⟨hcc, hff⟩ := bcell hbel; have hsz := hbel.size; (try simp at hsz); have hF : Below w.heap.size w w1 := (by ((repeat' apply And.intro) <;> first | (simp [go_sem, *]; done) | omega | (repeat' (first | with_reducible exact Below.refl _ _ | with_reducible assumption | ((with_reducible refine Below.drew ?_)) | ((with_reducible refine below_drewN ?_ _)) | ((with_reducible refine Below.alloc ?_ ?_ _); rotate_left; focus (first | omega | (simp; done) | (simp; omega))) | ((with_reducible refine Below.setCell ?_ ?_ _); rotate_left; focus (first | omega | (simp; done) | (simp; omega))) | ((with_reducible refine Below.trans ?_ (Below.mono (by with_reducible assumption) ?_)); rotate_left; focus (first | omega | (simp; done) | (simp; omega))))))); go_split_ands; clear hcc hff hbel))
      (go_ret; refine ⟨?_, ?_⟩; (focus (exact rfl)); ((repeat' (first | with_reducible exact Below.refl _ _ | with_reducible assumption | ((with_reducible refine Below.drew ?_)) | ((with_reducible refine below_drewN ?_ _)) | ((with_reducible refine Below.alloc ?_ ?_ _); rotate_left; focus (first | omega | (simp; done) | (simp; omega))) | ((with_reducible refine Below.setCell ?_ ?_ _); rotate_left; focus (first | omega | (simp; done) | (simp; omega))) | ((with_reducible refine Below.trans ?_ (Below.mono (by with_reducible assumption) ?_)); rotate_left; focus (first | omega | (simp; done) | (simp; omega))))); done))
theorem ringTexts_empty (n : Nat) (v : Value) (hv : v = .slice none 0 0 ∨ ∃ a c, v = .slice (some a) 0 c) (h1 : 1 ≤ n) (h2 : n ≤ 64) (w : World) : Calls Try.prog 7 #[.int .i64 n, v] w fun e w' => e = .returned (.bool true) ∧ Below w.heap.size w w' := by
  have K0 := Lib.hid (snewT n h1 h2 w)
  have K1 := Lib.hid (fun z hT => slenT (w := w) (z := z) (x := w.heap.size + 1) (s := w.heap.size) (n := n) (f := 0) (m := 0) (xs := fun _ => .string ⟨#[]⟩) hT)
  rcases hv with rfl | ⟨ad, c, rfl⟩
  all_goals
    go_enter Try.func7, Try.ntmps7
    go_wp2_with (go_at_call 29; (with_reducible refine (K0.out).mono ?_); rintro e w1 ⟨rfl, hT⟩)
    refine wp_loop_rounds 1 ?_
    rw [rounds_succ]
    go_wp2_with (go_at_call 33; (with_reducible refine (K1.out _ hT).mono ?_); clear hT; rintro e w2 ⟨rfl, hT⟩)
    refine wp_loop_rounds 1 ?_
    rw [rounds_succ]
    go_wp2_with (go_at_call 22; (with_reducible refine (pair_c _).mono ?_); rintro e w3 ⟨rfl, hb⟩; replace hT := hT.below hb; clear hb)
    go_ret
    exact ⟨rfl, hT.bel⟩
end Go.Proofs.Ytohdcpkacdaanaa
