import Derived.Test.YtohdcpkacdaanaaRing5
namespace Go.Proofs.Ytohdcpkacdaanaa
set_option linter.unusedVariables false
set_option linter.unusedSimpArgs false
set_option maxRecDepth 100000
open Go.RowKit Fg Reg

/-- A pop of what is known to come. -/
theorem spopQ {w z : World} {x s n f m a : Nat} {xs : Nat → Value} {g : Nat → Value} (u : Value) (hT : TR w z x s n f m xs) (hQ : QU xs f m n a g) (h : 0 < m) (hu : u = g a) :
    Calls Try.prog 31 #[.pointer (some ⟨x, 0, none⟩)] z fun e z' => e = .returned (.tuple #[u, .int .i64 0]) ∧ ∃ f' xs', TR w z' x s n f' (m - 1) xs' ∧ QU xs' f' (m - 1) n (a + 1) g :=
  (spopT hT h).mono fun e z' ⟨h1, h2⟩ => ⟨by rw [h1, hu, hQ.head hT.f_lt h], _, _, h2, hQ.pop hT.f_lt h hT.1.2.2.2.2.2.1 _⟩
theorem spushQ {w z : World} {x s n f m a : Nat} {xs : Nat → Value} {g : Nat → Value} (v : ByteArray) (hT : TR w z x s n f m xs) (hQ : QU xs f m n a g) (h : m < n) (hv : Value.string v = g (a + m)) :
    Calls Try.prog 32 #[.pointer (some ⟨x, 0, none⟩), .string v] z fun e z' => e = .returned (.int .i64 0) ∧ ∃ f' xs', TR w z' x s n f' (m + 1) xs' ∧ QU xs' f' (m + 1) n a g :=
  (spushT hT h).mono fun e z' ⟨h1, h2⟩ => ⟨h1, _, _, h2, hQ.push hT.f_lt h _ hv⟩

set_option maxHeartbeats 8000000 in
theorem ringTexts_some (n sb so len cap : Nat) (ss : Nat → ByteArray) (h1 : 1 ≤ n) (h2 : n ≤ 64) (h0 : 0 < len) (hn : len ≤ 200) (w : World) (hc : TextsAt w sb so len ss) : Calls Try.prog 7 #[.int .i64 n, .slice (some ⟨sb, so, none⟩) len cap] w fun e w' => e = .returned (.bool true) ∧ Below w.heap.size w w' := by
  have HC := Lib.hid hc.2
  have hsb : sb < w.heap.size := hc.1
  clear hc
  have K0 := Lib.hid (snewT n h1 h2 w)
  go_enter Try.func7, Try.ntmps7
  go_wp2_with (go_at_call 29; (with_reducible refine (K0.out).mono ?_); rintro e w1 ⟨rfl, hT⟩)
  go_loopw [7, 33] (fun av i wr => ∃ (k a m f : Nat) (xs : Nat → Value), k ≤ len ∧ i = .int .i64 k ∧ av = .int .i64 a ∧ a + m = k ∧ m ≤ n ∧ TR w wr (w.heap.size + 1) w.heap.size n f m xs ∧ QU xs f m n a (fun i => Value.string (ss i))) (fun _ i _ => len - (intOf i).toNat)
  case atStart => exact ⟨0, 0, 0, 0, _, Nat.zero_le _, rfl, rfl, rfl, Nat.zero_le _, hT, fun j hj => absurd hj (by omega)⟩
  case round =>
    clear hT
    obtain ⟨k, a, m, f, xs, hk, rfl, rfl, ham, hmn, hT, hQ⟩ := hrel
    by_cases hlt : k < len
    · have hck : wr.cell? ⟨sb, so + k, none⟩ = some (.string (ss k)) := (hT.bel.cell (p := ⟨_, _, _⟩) hsb).trans (HC.out k hlt)
      by_cases hfull : m = n
      · subst hfull
        have K1 := Lib.hid (fun z hT => sroomT (w := w) (z := z) (x := (w.heap.size + 1)) (s := w.heap.size) (n := m) (f := f) (m := m) (xs := xs) hT)
        have K2 := Lib.hid (fun z hT => spopQ (w := w) (z := z) (x := (w.heap.size + 1)) (s := w.heap.size) (n := m) (f := f) (m := m) (xs := xs) (.string (ss a)) hT hQ (by omega) rfl)
        have K3 := Lib.hid (fun z f' xs' hT hQ => spushQ (w := w) (z := z) (x := (w.heap.size + 1)) (s := w.heap.size) (n := m) (f := f') (m := m - 1) (xs := xs') (a := a + 1) (g := (fun i => Value.string (ss i))) (ss k) hT hQ (by omega) (by show Value.string (ss k) = Value.string (ss _); congr 2; omega))
        clear hQ
        have e0 : (m : Int) - m = 0 := by omega
        go_wp2_with (first
          | (go_at_call 30; (with_reducible refine (K1.out _ hT).mono ?_); clear hT; rintro e w2 ⟨rfl, hT⟩)
          | (go_at_call 31; (with_reducible refine (K2.out _ hT).mono ?_); clear hT; rintro e w3 ⟨rfl, f', xs', hT, hQ⟩; have hca : w3.cell? ⟨sb, so + a, none⟩ = some (.string (ss a)) := (hT.bel.cell (p := ⟨_, _, _⟩) hsb).trans (HC.out a (by omega)))
          | (go_at_call 32; (with_reducible refine (K3.out _ _ _ hT hQ).mono ?_); clear hT hQ; rintro e w4 ⟨rfl, f'', xs'', hT, hQ⟩))
        go_roundw
        case rel => exact ⟨k + 1, a + 1, m - 1 + 1, f'', xs'', by omega, by go_num, by go_num, by omega, by omega, hT, hQ⟩
        case measure => simp [intOf]; omega
      · have K1 := Lib.hid (fun z hT => sroomT (w := w) (z := z) (x := (w.heap.size + 1)) (s := w.heap.size) (n := n) (f := f) (m := m) (xs := xs) hT)
        have K3 := Lib.hid (fun z hT => spushQ (w := w) (z := z) (x := (w.heap.size + 1)) (s := w.heap.size) (n := n) (f := f) (m := m) (xs := xs) (a := a) (g := (fun i => Value.string (ss i))) (ss k) hT hQ (by omega) (by show Value.string (ss k) = Value.string (ss _); rw [ham]))
        clear hQ
        have e0 : ((n : Int) - m == 0) = false := by simp; omega
        go_wp2_with (first
          | (go_at_call 30; (with_reducible refine (K1.out _ hT).mono ?_); clear hT; rintro e w2 ⟨rfl, hT⟩)
          | (go_at_call 32; (with_reducible refine (K3.out _ hT).mono ?_); clear hT; rintro e w4 ⟨rfl, f'', xs'', hT, hQ⟩))
        go_roundw
        case rel => exact ⟨k + 1, a, m + 1, f'', xs'', by omega, by go_num, rfl, by omega, by omega, hT, hQ⟩
        case measure => simp [intOf]; omega
    · obtain rfl : k = len := by omega
      clear hlt
      have K1 := Lib.hid (fun z hT => slenT (w := w) (z := z) (x := (w.heap.size + 1)) (s := w.heap.size) (n := n) (f := f) (m := m) (xs := xs) hT)
      go_wp2_with (go_at_call 33; (with_reducible refine (K1.out _ hT).mono ?_); clear hT; rintro e w2 ⟨rfl, hT⟩)
      go_loopw [7, 64] (fun av i wr => ∃ (c a' m' f : Nat) (xs : Nat → Value), c ≤ m ∧ i = .int .i64 c ∧ av = .int .i64 a' ∧ a' + m' = k ∧ m' + c = m ∧ TR w wr (w.heap.size + 1) w.heap.size n f m' xs ∧ QU xs f m' n a' (fun i => Value.string (ss i))) (fun _ i _ => m - (intOf i).toNat)
      case atStart => exact ⟨0, a, m, f, xs, Nat.zero_le _, rfl, rfl, ham, rfl, hT, hQ⟩
      case round =>
        clear hT hQ
        obtain ⟨c, a', m', f', xs', hcm, rfl, rfl, ham', hm', hT, hQ⟩ := hrel
        by_cases hlt : c < m
        · have K2 := Lib.hid (fun z hT => spopQ (w := w) (z := z) (x := (w.heap.size + 1)) (s := w.heap.size) (n := n) (f := f') (m := m') (xs := xs') (.string (ss a')) hT hQ (by omega) rfl)
          clear hQ
          have hak : a' < k := by omega
          go_wp2_with (go_at_call 31; (with_reducible refine (K2.out _ hT).mono ?_); clear hT; rintro e w3 ⟨rfl, f2, xs2, hT, hQ⟩; have hca : w3.cell? ⟨sb, so + a', none⟩ = some (.string (ss a')) := (hT.bel.cell (p := ⟨_, _, _⟩) hsb).trans (HC.out a' (by omega)))
          go_roundw
          case rel => exact ⟨c + 1, a' + 1, m' - 1, f2, xs2, by omega, by go_num, by go_num, by omega, by omega, hT, hQ⟩
          case measure => simp [intOf]; omega
        · obtain rfl : c = m := by omega
          obtain rfl : a' = k := by omega
          clear hQ hlt
          go_wp2_with (go_at_call 22; (with_reducible refine (pair_c _).mono ?_); rintro e w3 ⟨rfl, hb⟩; replace hT := hT.below hb; clear hb)
          go_ret
          exact ⟨rfl, hT.bel⟩

theorem ringTexts_law (t : Int) (v : Value) (wt : (Lit.int .i64 t).wf = true) {w : World} (hs : Op.FlatSlice w 1 [.str] v) : Calls Try.prog 7 #[.int .i64 t, v] w fun e w' => e = .returned (.bool true) ∧ Below w.heap.size w w' := by
  by_cases ht : 1 ≤ t ∧ t ≤ 64
  · obtain ⟨n, rfl⟩ : ∃ n : Nat, t = (n : Int) := ⟨t.toNat, by omega⟩
    rcases texts_of hs with rfl | ⟨ad, cap, rfl⟩ | ⟨sb, so, len, cap, ss, h0, rfl, hc⟩
    · exact ringTexts_empty n _ (.inl rfl) (by omega) (by omega) w
    · exact ringTexts_empty n _ (.inr ⟨_, _, rfl⟩) (by omega) (by omega) w
    · by_cases hl : len ≤ 200
      · exact ringTexts_some n sb so len cap ss (by omega) (by omega) h0 hl w hc
      · exact ringTexts_out _ _ len (.inr ⟨_, _, rfl⟩) (by omega) w
  · rcases texts_of hs with rfl | ⟨ad, cap, rfl⟩ | ⟨sb, so, len, cap, ss, h0, rfl, hc⟩
    · exact ringTexts_out t _ 0 (.inl ⟨rfl, rfl⟩) (by omega) w
    · exact ringTexts_out t _ 0 (.inr ⟨_, _, rfl⟩) (by omega) w
    · exact ringTexts_out t _ len (.inr ⟨_, _, rfl⟩) (by omega) w
end Go.Proofs.Ytohdcpkacdaanaa
