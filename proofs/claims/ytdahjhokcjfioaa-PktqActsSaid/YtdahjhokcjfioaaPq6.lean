import Derived.Test.YtdahjhokcjfioaaPq5
import Derived.Laws.AppendOwn
import Derived.Test.YtdahjhokcjfioaaOpenA
namespace Go.Proofs.Ytdahjhokcjfioaa
set_option linter.unusedVariables false
set_option linter.unusedSimpArgs false
set_option maxRecDepth 100000
open Go.RowKit Fg Reg

theorem own_only {S : Nat → Prop} {w w' : World} {base : Nat} {e : TypeId} {size n : Nat} {v : Value} {xs : List Value} (h : w.ownsRow base e size v n xs) (ho : Only S w w') (hS : ∀ k, S k → k < base) : w'.ownsRow base e size v n xs := by
  refine ⟨h.1, ?_⟩
  rcases h.2 with h' | ⟨g, cap, cur, h1, h2, h3, h4⟩
  · exact .inl h'
  · refine .inr ⟨g, cap, cur, h1, h2, ?_, h4⟩
    have hlt : g < w.heap.size := by
      rcases Nat.lt_or_ge g w.heap.size with h | h
      · exact h
      · rw [Array.getElem?_eq_none h] at h3; cases h3
    exact (ho.block g hlt (fun e => by have := hS g e; omega)).trans h3
theorem own_bel {w w' : World} {base : Nat} {e : TypeId} {size n : Nat} {v : Value} {xs : List Value} (h : w.ownsRow base e size v n xs) (hb : Below w.heap.size w w') : w'.ownsRow base e size v n xs :=
  own_only (S := fun _ => False) h (Only.of_below hb) (fun _ h => h.elim)
theorem only_of_grown {w w' : World} {row : Option Nat} {B : Nat} (h : w.grownBy w' row) (hr : ∀ k, row = some k → B ≤ k) : Only (fun k => B ≤ k) w w' :=
  ⟨h.os, h.tape, h.output, h.size, fun k hk hn => h.block k hk fun e => hn (hr k e.symm)⟩
theorem TQ.above {w z z' : World} {q s n f m B : Nat} {xs : Nat → Pk} {c0 c1 c2 c3 c4 c5 mo bs : Int} (h : TQ w z q s n f m xs c0 c1 c2 c3 c4 c5 mo bs) (ho : Only (fun k => B ≤ k) z z') (hB : q < B) : TQ w z' q s n f m xs c0 c1 c2 c3 c4 c5 mo bs := by
  have hq := h.hq
  exact ⟨h.pq.keep ho (by omega) (by omega) (by omega), ho.below h.bel h.bel.size (fun k hk => by omega), hq⟩
/-- The cells of so many packets. -/
def pcs (g : Nat → Pk) : Nat → List Value
  | 0 => []
  | m + 1 => pcs g m ++ [Value.int .u64 (g m).i, Value.int .i64 (g m).n, Value.int .u16 (g m).a, Value.int .u16 (g m).b, Value.int .u16 (g m).c, Value.int .u16 (g m).d]
theorem pcs_len (g : Nat → Pk) (m : Nat) : (pcs g m).length = m * 6 := by
  induction m with
  | zero => rfl
  | succ m ih => simp [pcs, ih]; omega
theorem pcs_congr {g g' : Nat → Pk} (m : Nat) (h : ∀ j, j < m → g j = g' j) : pcs g m = pcs g' m := by
  induction m with
  | zero => rfl
  | succ m ih => rw [pcs, pcs, ih (fun j hj => h j (by omega)), h m (by omega)]
theorem pcs_get (g : Nat → Pk) (m j : Nat) (hj : j < m) : (pcs g m)[j * 6]? = some (.int .u64 (g j).i) ∧ (pcs g m)[j * 6 + 1]? = some (.int .i64 (g j).n) ∧ (pcs g m)[j * 6 + 2]? = some (.int .u16 (g j).a) ∧ (pcs g m)[j * 6 + 3]? = some (.int .u16 (g j).b) ∧ (pcs g m)[j * 6 + 4]? = some (.int .u16 (g j).c) ∧ (pcs g m)[j * 6 + 5]? = some (.int .u16 (g j).d) := by
  induction m with
  | zero => omega
  | succ m ih =>
    have hl := pcs_len g m
    by_cases h : j < m
    · have := ih h
      rw [pcs]
      rw [List.getElem?_append_left (by omega), List.getElem?_append_left (by omega), List.getElem?_append_left (by omega), List.getElem?_append_left (by omega), List.getElem?_append_left (by omega), List.getElem?_append_left (by omega)]
      exact this
    · obtain rfl : j = m := by omega
      rw [pcs]
      rw [List.getElem?_append_right (by omega), List.getElem?_append_right (by omega), List.getElem?_append_right (by omega), List.getElem?_append_right (by omega), List.getElem?_append_right (by omega), List.getElem?_append_right (by omega), hl]
      simp [show j * 6 + 1 - j * 6 = 1 by omega, show j * 6 + 2 - j * 6 = 2 by omega, show j * 6 + 3 - j * 6 = 3 by omega, show j * 6 + 4 - j * 6 = 4 by omega, show j * 6 + 5 - j * 6 = 5 by omega]
theorem own_row {z : World} {B m : Nat} {e : TypeId} {v : Value} {g : Nat → Pk} (h : z.ownsRow B e 6 v m (pcs g m)) : (v = .slice none 0 0 ∧ m = 0) ∨ ∃ b cap, v = .slice (some ⟨b, 0, none⟩) m cap ∧ PRow z b m g := by
  rcases h.2 with ⟨h1, h2⟩ | ⟨b, cap, cur, rfl, h2, h3, h4⟩
  · exact .inl ⟨h1, h2⟩
  · refine .inr ⟨b, cap, rfl, ?_, fun j hj => ?_⟩
    · rcases Nat.lt_or_ge b z.heap.size with h | h
      · exact h
      · rw [Array.getElem?_eq_none h] at h3; cases h3
    · have hc := h.cells (g := b) rfl
      have ha : ∀ o, (⟨b, 0, none⟩ : Addr).add o = ⟨b, o, none⟩ := fun o => by unfold Addr.add; split <;> simp_all
      simp only [ha] at hc
      obtain ⟨g0, g1, g2, g3, g4, g5⟩ := pcs_get g m j hj
      exact ⟨hc _ _ g0, hc _ _ g1, hc _ _ g2, hc _ _ g3, hc _ _ g4, hc _ _ g5⟩
/-- The bytes of so many packets. -/
def psum (g : Nat → Pk) : Nat → Int
  | 0 => 0
  | m + 1 => psum g m + (g m).n
theorem psum_congr {g g' : Nat → Pk} (m : Nat) (h : ∀ j, j < m → g j = g' j) : psum g m = psum g' m := by
  induction m with
  | zero => rfl
  | succ m ih => rw [psum, psum, ih (fun j hj => h j (by omega)), h m (by omega)]
theorem psum_le {g : Nat → Pk} {m : Nat} (h : ∀ j, j < m → 1 ≤ (g j).n) : ∀ c, c ≤ m → psum g c ≤ psum g m := by
  induction m with
  | zero =>
    intro c hc
    obtain rfl : c = 0 := by omega
    exact Int.le_refl _
  | succ m ih =>
    intro c hc
    by_cases e : c = m + 1
    · subst e; exact Int.le_refl _
    · have h1 := ih (fun j hj => h j (by omega)) c (by omega)
      have h2 := h m (by omega)
      rw [psum]; omega
theorem ato_eq' (f j n : Nat) (hf : f < n) (hj : j ≤ n) : ato f j n = if f + j < n then f + j else f + j - n := by
  unfold ato
  split
  · exact Nat.mod_eq_of_lt (by omega)
  · rw [Nat.mod_eq_sub_mod (by omega)]
    exact Nat.mod_eq_of_lt (by omega)
/-- The ring holds so many packets of a row, from one on. -/
def QP (xs : Nat → Pk) (f m n a : Nat) (g : Nat → Pk) : Prop := ∀ j, j < m → xs (ato f j n) = g (a + j)
theorem QP.push {xs : Nat → Pk} {f m n a : Nat} {g : Nat → Pk} (h : QP xs f m n a g) (hf : f < n) (hm : m < n) (v : Pk) (hv : v = g (a + m)) : QP (updp xs (ato f m n) v) f (m + 1) n a g := fun j hj => by
  unfold updp
  by_cases e : j = m
  · subst e; rw [if_pos rfl, hv]
  · rw [if_neg, h j (by omega)]
    rw [ato_eq' f j n hf (by omega), ato_eq' f m n hf (by omega)]
    split <;> split <;> omega
theorem QP.pop {xs : Nat → Pk} {f m n a : Nat} {g : Nat → Pk} (h : QP xs f m n a g) (hf : f < n) (hm : 0 < m) (hn : m ≤ n) (z : Pk) : QP (updp xs f z) (ato f 1 n) (m - 1) n (a + 1) g := fun j hj => by
  have h1 := h (j + 1) (by omega)
  have hlt : ato f 1 n < n := ato_lt f 1 n (by omega)
  have e1 : ato (ato f 1 n) j n = ato f (j + 1) n := by
    rw [ato_eq' (ato f 1 n) j n hlt (by omega), ato_eq' f 1 n hf (by omega), ato_eq' f (j + 1) n hf (by omega)]
    split <;> split <;> (try split) <;> omega
  rw [e1]
  unfold updp
  rw [if_neg, h1]
  · congr 1; omega
  · rw [ato_eq' f (j + 1) n hf (by omega)]
    split <;> omega
/-- The packets that a slice holds. -/
def PktsAt (w : World) (sb so len : Nat) : Prop := sb < w.heap.size ∧ ∀ k, k < len → ∃ i n a b c d : Int, (-9223372036854775808 ≤ n ∧ n ≤ 9223372036854775807) ∧
  w.cell? ⟨sb, so + k * 6, none⟩ = some (.int .u64 i) ∧ w.cell? ⟨sb, so + k * 6 + 1, none⟩ = some (.int .i64 n) ∧ w.cell? ⟨sb, so + k * 6 + 2, none⟩ = some (.int .u16 a) ∧
  w.cell? ⟨sb, so + k * 6 + 3, none⟩ = some (.int .u16 b) ∧ w.cell? ⟨sb, so + k * 6 + 4, none⟩ = some (.int .u16 c) ∧ w.cell? ⟨sb, so + k * 6 + 5, none⟩ = some (.int .u16 d)
theorem pkts_of {w : World} {v : Value} (h : Op.FlatSlice w 6 [.int .u64, .int .i64, .int .u16, .int .u16, .int .u16, .int .u16] v) :
    v = .slice none 0 0 ∨ (∃ a cap, v = .slice (some a) 0 cap) ∨ ∃ sb so len cap : Nat, 0 < len ∧ v = .slice (some ⟨sb, so, none⟩) len cap ∧ PktsAt w sb so len := by
  rcases h with h | ⟨a, cap, h, _⟩ | ⟨b, o, n, cap, css, h0, rfl, h3, h4, hlt, hn, hi⟩
  · exact .inl h
  · exact .inr (.inl ⟨a, cap, h⟩)
  · refine .inr (.inr ⟨b, o, n, cap, h0, rfl, hlt, fun k hk => ?_⟩)
    obtain ⟨hf, he⟩ := hi k (by omega)
    obtain ⟨_, _, e0, ⟨i, rfl, w1⟩, _, _, rfl, ⟨n', rfl, w2⟩, _, _, rfl, ⟨a, rfl, w3⟩, _, _, rfl, ⟨b', rfl, w4⟩, _, _, rfl, ⟨c, rfl, w5⟩, _, _, rfl, ⟨d, rfl, w6⟩, rfl⟩ := hf
    rw [e0] at he
    have b2 := bounds_i64 w2
    exact ⟨i, n', a, b', c, d, b2, by simpa using he 0 _ rfl, he 1 _ rfl, he 2 _ rfl, he 3 _ rfl, he 4 _ rfl, he 5 _ rfl⟩
end Go.Proofs.Ytdahjhokcjfioaa
