import Derived.Test.YtohdcpkacdaanaaRing6
import Derived.Test.YtohdcpkacdaanaaQSlice
namespace Go.Proofs.Ytohdcpkacdaanaa
set_option linter.unusedVariables false
set_option linter.unusedSimpArgs false
set_option maxRecDepth 100000
open Go.RowKit Fg Reg

theorem TR.above {w z z' : World} {x s n f m B : Nat} {xs : Nat → Value} (h : TR w z x s n f m xs) (ho : Only (fun k => B ≤ k) z z') (hx : x < B) (hs : s < B) (hw : w.heap.size ≤ B) : TR w z' x s n f m xs := by
  have h1 := h.2.1.size
  exact ⟨h.1.keep ho (by omega) (by omega), (ho.below (h.2.1.mono (Nat.le_refl _)) h1 (fun k hk => by omega)), h.2.2⟩
theorem pushO {w z : World} {x s n f m : Nat} {v : Int} {xs : Nat → Value} {g : Nat → Value} (hT : TR w z x s n f m xs) (hQ : QU xs f m n 0 g) (h : m < n) : Calls Try.prog 25 #[.pointer (some ⟨x, 0, none⟩), .int .i64 v] z fun e z' => e = .returned (.int .i64 0) ∧ (∃ xs', TR w z' x s n f (m + 1) xs' ∧ QU xs' f (m + 1) n 0 (fun j => if j = m then .int .i64 v else g j)) ∧ Only (fun k => k = x ∨ k = s) z z' :=
  (rpush_ok x s n f m v xs z hT.1 h).mono fun e z' ⟨h1, h2, h3⟩ => ⟨h1, ⟨_, hT.only h2 h3, QU.push (fun j hj => by rw [hQ j hj]; show g (0 + j) = if 0 + j = m then _ else g (0 + j); rw [if_neg (by omega)]) hT.f_lt h _ (by show _ = if 0 + m = m then _ else _; rw [if_pos (by omega)])⟩, h3⟩
theorem popO {w z : World} {x s n f m : Nat} {xs : Nat → Value} {g : Nat → Value} (u : Value) (hT : TR w z x s n f m xs) (hQ : QU xs f m n 0 g) (h : 0 < m) (hu : u = g 0) : Calls Try.prog 24 #[.pointer (some ⟨x, 0, none⟩)] z fun e z' => e = .returned (.tuple #[u, .int .i64 0]) ∧ (∃ f' xs', TR w z' x s n f' (m - 1) xs' ∧ QU xs' f' (m - 1) n 0 (fun j => g (j + 1))) ∧ Only (fun k => k = x ∨ k = s) z z' :=
  (rpop_ok x s n f m xs z hT.1 h).mono fun e z' ⟨h1, h2, h3⟩ => ⟨by rw [h1, hu, hQ.head hT.f_lt h], ⟨_, _, hT.only h2 h3, fun j hj => by
    have := hQ.pop hT.f_lt h hT.1.2.2.2.2.2.1 (.int .i64 0) j hj
    rw [this]; show g (0 + 1 + j) = g (0 + j + 1); congr 1; omega⟩, h3⟩
/-- The numbers that a slice holds. -/
def NumsAt (w : World) (sb so len : Nat) (zs : Nat → Int) : Prop := sb < w.heap.size ∧ ∀ k, k < len → w.cell? ⟨sb, so + k, none⟩ = some (.int .i64 (zs k)) ∧ -9223372036854775808 ≤ zs k ∧ zs k ≤ 9223372036854775807
theorem nums_of {w : World} {v : Value} (h : Op.FlatSlice w 1 [.int .i64] v) :
    v = .slice none 0 0 ∨ (∃ a cap, v = .slice (some a) 0 cap) ∨ ∃ (sb so len cap : Nat) (zs : Nat → Int), 0 < len ∧ v = .slice (some ⟨sb, so, none⟩) len cap ∧ NumsAt w sb so len zs := by
  rcases h.ints with h | ⟨a, cap, h, _⟩ | ⟨b, o, cap, zs, h0, rfl, h3, h4, hlt, hc, hw⟩
  · exact .inl h
  · exact .inr (.inl ⟨a, cap, h⟩)
  · refine .inr (.inr ⟨b, o, _, cap, fun k => zs.getD k 0, h0, rfl, hlt, fun k hk => ?_⟩)
    have b1 := bounds_i64 (hw k hk)
    simp only [List.getD, List.getElem?_eq_getElem hk, Option.getD_some]
    exact ⟨hc k hk, b1.1, b1.2⟩

theorem ringActs_long (t : Int) (a : Addr) (len c : Nat) (h : 200 < len) (w : World) : Calls Try.prog 6 #[.int .i64 t, .slice (some a) len c] w fun e w' => e = .returned (.bool true) ∧ Below w.heap.size w w' := by
  go_enter Try.func6, Try.ntmps6
  go_wp2_with (go_at_call 22; ((with_reducible refine (pair_c _).mono ?_); rintro e w1 ⟨rfl, hbel⟩; obtain ⟨hcc, hff⟩ := bcell hbel; have hsz := hbel.size; (try simp at hsz); have hF : Below w.heap.size w w1 := (by ((repeat' apply And.intro) <;> first | (simp [go_sem, *]; done) | omega | (repeat' (first | with_reducible exact Below.refl _ _ | with_reducible assumption | ((with_reducible refine Below.drew ?_)) | ((with_reducible refine below_drewN ?_ _)) | ((with_reducible refine Below.alloc ?_ ?_ _); rotate_left; focus (first | omega | (simp; done) | (simp; omega))) | ((with_reducible refine Below.setCell ?_ ?_ _); rotate_left; focus (first | omega | (simp; done) | (simp; omega))) | ((with_reducible refine Below.trans ?_ (Below.mono (by with_reducible assumption) ?_)); rotate_left; focus (first | omega | (simp; done) | (simp; omega))))))); go_split_ands; clear hcc hff hbel))
  (go_ret; refine ⟨?_, ?_⟩; (focus (exact rfl)); ((repeat' (first | with_reducible exact Below.refl _ _ | with_reducible assumption | ((with_reducible refine Below.drew ?_)) | ((with_reducible refine below_drewN ?_ _)) | ((with_reducible refine Below.alloc ?_ ?_ _); rotate_left; focus (first | omega | (simp; done) | (simp; omega))) | ((with_reducible refine Below.setCell ?_ ?_ _); rotate_left; focus (first | omega | (simp; done) | (simp; omega))) | ((with_reducible refine Below.trans ?_ (Below.mono (by with_reducible assumption) ?_)); rotate_left; focus (first | omega | (simp; done) | (simp; omega))))); done))
theorem ringActs_no (t : Int) (v : Value) (len : Nat) (hv : v = .slice none 0 0 ∧ len = 0 ∨ ∃ a c, v = .slice (some a) len c) (hl : len ≤ 200) (h : t < 1 ∨ (1 ≤ t ∧ 64 < t)) (w : World) : Calls Try.prog 6 #[.int .i64 t, v] w fun e w' => e = .returned (.bool true) ∧ Below w.heap.size w w' := by
  have K := Lib.hid (rnew_no t (by omega))
  rcases hv with ⟨rfl, rfl⟩ | ⟨ad, c, rfl⟩ <;> rcases h with h | ⟨h', h⟩
  all_goals
    go_enter Try.func6, Try.ntmps6
    go_wp2_with (first | (go_at_call 23; ((with_reducible refine (K.out _).mono ?_); rintro e w1 ⟨rfl, hbel⟩; obtain ⟨hcc, hff⟩ := bcell hbel; have hsz := hbel.size; (try simp at hsz); have hF : Below w.heap.size w w1 := (by ((repeat' apply And.intro) <;> first | (simp [go_sem, *]; done) | omega | (repeat' (first | with_reducible exact Below.refl _ _ | with_reducible assumption | ((with_reducible refine Below.drew ?_)) | ((with_reducible refine below_drewN ?_ _)) | ((with_reducible refine Below.alloc ?_ ?_ _); rotate_left; focus (first | omega | (simp; done) | (simp; omega))) | ((with_reducible refine Below.setCell ?_ ?_ _); rotate_left; focus (first | omega | (simp; done) | (simp; omega))) | ((with_reducible refine Below.trans ?_ (Below.mono (by with_reducible assumption) ?_)); rotate_left; focus (first | omega | (simp; done) | (simp; omega))))))); go_split_ands; clear hcc hff hbel)) | (go_at_call 22; ((with_reducible refine (pair_c _).mono ?_); rintro e w2 ⟨rfl, hbel⟩; obtain ⟨hcc, hff⟩ := bcell hbel; have hsz := hbel.size; (try simp at hsz); have hF : Below w.heap.size w w2 := (by ((repeat' apply And.intro) <;> first | (simp [go_sem, *]; done) | omega | (repeat' (first | with_reducible exact Below.refl _ _ | with_reducible assumption | ((with_reducible refine Below.drew ?_)) | ((with_reducible refine below_drewN ?_ _)) | ((with_reducible refine Below.alloc ?_ ?_ _); rotate_left; focus (first | omega | (simp; done) | (simp; omega))) | ((with_reducible refine Below.setCell ?_ ?_ _); rotate_left; focus (first | omega | (simp; done) | (simp; omega))) | ((with_reducible refine Below.trans ?_ (Below.mono (by with_reducible assumption) ?_)); rotate_left; focus (first | omega | (simp; done) | (simp; omega))))))); go_split_ands; clear hcc hff hbel)))
    (go_ret; refine ⟨?_, ?_⟩; (focus (exact rfl)); ((repeat' (first | with_reducible exact Below.refl _ _ | with_reducible assumption | ((with_reducible refine Below.drew ?_)) | ((with_reducible refine below_drewN ?_ _)) | ((with_reducible refine Below.alloc ?_ ?_ _); rotate_left; focus (first | omega | (simp; done) | (simp; omega))) | ((with_reducible refine Below.setCell ?_ ?_ _); rotate_left; focus (first | omega | (simp; done) | (simp; omega))) | ((with_reducible refine Below.trans ?_ (Below.mono (by with_reducible assumption) ?_)); rotate_left; focus (first | omega | (simp; done) | (simp; omega))))); done))
end Go.Proofs.Ytohdcpkacdaanaa
