import Derived.Test.YtohdcpkacdaanaaRing7
namespace Go.Proofs.Ytohdcpkacdaanaa
set_option linter.unusedVariables false
set_option linter.unusedSimpArgs false
set_option maxRecDepth 100000
open Go.RowKit Fg Reg

theorem QS.slice {z : World} {B m : Nat} {v : Value} {g : Nat → Value} (h : QS z B v m g) : ∃ (ao : Option Addr) (cap : Nat), v = .slice ao m cap := by
  rcases h with ⟨rfl, rfl⟩ | ⟨b, o, cap, rfl, _⟩
  · exact ⟨none, 0, rfl⟩
  · exact ⟨_, cap, rfl⟩
theorem QS.some {z : World} {B m : Nat} {v : Value} {g : Nat → Value} (h : QS z B v m g) (hm : 0 < m) : ∃ b o cap, v = .slice (some ⟨b, o, none⟩) m cap ∧ m ≤ cap ∧ cap ≤ maxLen ∧ QC z B b o cap m g := by
  rcases h with ⟨rfl, rfl⟩ | h
  · omega
  · exact h
/-- What the law knows at a round. -/
def AR (w z : World) (n m f : Nat) (v : Value) (xs : Nat → Value) (gi : Nat → Int) : Prop :=
  TR w z (w.heap.size + 1) w.heap.size n f m xs ∧ QS z (w.heap.size + 2) v m (fun i => Value.int .i64 (gi i)) ∧ QU xs f m n 0 (fun i => Value.int .i64 (gi i))
theorem AR.tr {w z : World} {n m f : Nat} {v : Value} {xs : Nat → Value} {gi : Nat → Int} (h : AR w z n m f v xs gi) : TR w z (w.heap.size + 1) w.heap.size n f m xs := h.1
theorem AR.below {w z z' : World} {n m f : Nat} {v : Value} {xs : Nat → Value} {gi : Nat → Int} (h : AR w z n m f v xs gi) (hb : Below z.heap.size z z') : AR w z' n m f v xs gi := ⟨h.1.below hb, h.2.1.below hb, h.2.2⟩
theorem AR.bel {w z : World} {n m f : Nat} {v : Value} {xs : Nat → Value} {gi : Nat → Int} (h : AR w z n m f v xs gi) : Below w.heap.size w z := h.1.bel
theorem AR.size {w z : World} {n m f : Nat} {v : Value} {xs : Nat → Value} {gi : Nat → Int} (h : AR w z n m f v xs gi) : (w.heap.size + 2) ≤ z.heap.size := h.1.1.size.1
theorem lenA {w z : World} {n m f : Nat} {v : Value} {xs : Nat → Value} {gi : Nat → Int} (h : AR w z n m f v xs gi) : Calls Try.prog 26 #[.pointer (some ⟨(w.heap.size + 1), 0, none⟩)] z fun e z' => e = .returned (.int .i64 m) ∧ AR w z' n m f v xs gi :=
  (rlen_c _ _ n f m xs z h.1.1).mono fun e z' ⟨h1, h2⟩ => ⟨h1, h.below h2⟩
theorem roomA {w z : World} {n m f : Nat} {v : Value} {xs : Nat → Value} {gi : Nat → Int} (h : AR w z n m f v xs gi) : Calls Try.prog 27 #[.pointer (some ⟨(w.heap.size + 1), 0, none⟩)] z fun e z' => e = .returned (.int .i64 ((n : Int) - m)) ∧ AR w z' n m f v xs gi :=
  (rroom_c _ _ n f m xs z h.1.1).mono fun e z' ⟨h1, h2⟩ => ⟨h1, h.below h2⟩
theorem noneA {w z : World} {n f : Nat} {v : Value} {xs : Nat → Value} {gi : Nat → Int} (h : AR w z n 0 f v xs gi) : Calls Try.prog 24 #[.pointer (some ⟨(w.heap.size + 1), 0, none⟩)] z fun e z' => e = .returned (.tuple #[.int .i64 0, .int .i64 6]) ∧ AR w z' n 0 f v xs gi :=
  (rpop_none _ _ n f xs z h.1.1).mono fun e z' ⟨h1, h2⟩ => ⟨h1, h.below h2⟩
theorem fullA {w z : World} {n f : Nat} {u : Value} {v : Int} {xs : Nat → Value} {gi : Nat → Int} (h : AR w z n n f u xs gi) : Calls Try.prog 25 #[.pointer (some ⟨(w.heap.size + 1), 0, none⟩), .int .i64 v] z fun e z' => e = .returned (.int .i64 5) ∧ AR w z' n n f u xs gi :=
  (rpush_full _ _ n f v xs z h.1.1).mono fun e z' ⟨h1, h2⟩ => ⟨h1, h.below h2⟩
theorem atA {w z : World} {n m f : Nat} {v : Value} {xs : Nat → Value} {gi : Nat → Int} (i : Nat) (h : AR w z n m f v xs gi) (hi : i < m) : Calls Try.prog 28 #[.pointer (some ⟨(w.heap.size + 1), 0, none⟩), .int .i64 i] z fun e z' => e = .returned (.tuple #[.int .i64 (gi i), .int .i64 0]) ∧ AR w z' n m f v xs gi :=
  (rat_ok _ _ n f m i xs z h.1.1 hi).mono fun e z' ⟨h1, h2⟩ => ⟨by rw [h1, h.2.2 i hi]; show _ = Ending.returned (.tuple #[.int .i64 (gi i), .int .i64 0]); rw [show 0 + i = i by omega], h.below h2⟩
theorem atnoA {w z : World} {n m f : Nat} {v : Value} {xs : Nat → Value} {gi : Nat → Int} (i : Int) (h : AR w z n m f v xs gi) (hi : i < 0 ∨ (0 ≤ i ∧ (m : Int) ≤ i)) : Calls Try.prog 28 #[.pointer (some ⟨(w.heap.size + 1), 0, none⟩), .int .i64 i] z fun e z' => e = .returned (.tuple #[.int .i64 0, .int .i64 6]) ∧ AR w z' n m f v xs gi :=
  (rat_no _ _ n f m i xs z h.1.1 hi).mono fun e z' ⟨h1, h2⟩ => ⟨h1, h.below h2⟩
/-- Behind a pop: the slice is still to be cut. -/
theorem popA {w z : World} {n m f : Nat} {v : Value} {xs : Nat → Value} {gi : Nat → Int} (h : AR w z n m f v xs gi) (hm : 0 < m) : Calls Try.prog 24 #[.pointer (some ⟨(w.heap.size + 1), 0, none⟩)] z fun e z' => e = .returned (.tuple #[.int .i64 (gi 0), .int .i64 0]) ∧ (∃ f' xs', TR w z' (w.heap.size + 1) w.heap.size n f' (m - 1) xs' ∧ QU xs' f' (m - 1) n 0 (fun i => Value.int .i64 (gi (i + 1)))) ∧ QS z' (w.heap.size + 2) v m (fun i => Value.int .i64 (gi i)) :=
  (popO (.int .i64 (gi 0)) h.1 h.2.2 hm rfl).mono fun e z' ⟨h1, h2, h3⟩ => ⟨h1, h2, h.2.1.only h3 (fun k hk => by rcases hk with rfl | rfl <;> omega)⟩
theorem ite_int (m : Nat) (v : Int) (gi : Nat → Int) : (fun j => if j = m then Value.int .i64 v else Value.int .i64 (gi j)) = fun j => Value.int .i64 (if j = m then v else gi j) := by funext j; split <;> rfl
/-- Behind a push: the slice is still to grow. -/
theorem pushA {w z : World} {n m f : Nat} {u : Value} {v : Int} {xs : Nat → Value} {gi : Nat → Int} (h : AR w z n m f u xs gi) (hm : m < n) : Calls Try.prog 25 #[.pointer (some ⟨(w.heap.size + 1), 0, none⟩), .int .i64 v] z fun e z' => e = .returned (.int .i64 0) ∧ (∃ xs', TR w z' (w.heap.size + 1) w.heap.size n f (m + 1) xs' ∧ QU xs' f (m + 1) n 0 (fun j => Value.int .i64 (if j = m then v else gi j))) ∧ QS z' (w.heap.size + 2) u m (fun i => Value.int .i64 (gi i)) :=
  (pushO (v := v) h.1 h.2.2 hm).mono fun e z' ⟨h1, ⟨xs', h2, h2'⟩, h3⟩ => ⟨h1, ⟨xs', h2, by rw [← ite_int]; exact h2'⟩, h.2.1.only h3 (fun k hk => by rcases hk with rfl | rfl <;> omega)⟩

set_option maxHeartbeats 16000000 in
theorem ringActs_some (n : Nat) (vv : Value) (zs : Nat → Int) (len : Nat) (h1 : 1 ≤ n) (h2 : n ≤ 64) (hn : len ≤ 200) (w : World) (hv : (vv = .slice none 0 0 ∧ len = 0) ∨ (∃ a c, vv = .slice (some a) 0 c ∧ len = 0) ∨ ∃ sb so cap, vv = .slice (some ⟨sb, so, none⟩) len cap ∧ NumsAt w sb so len zs) : Calls Try.prog 6 #[.int .i64 n, vv] w fun e w' => e = .returned (.bool true) ∧ Below w.heap.size w w' := by
  obtain ⟨ao, cap, rfl⟩ : ∃ ao cap, vv = .slice ao len cap := by
    rcases hv with ⟨rfl, rfl⟩ | ⟨a, c, rfl, rfl⟩ | ⟨sb, so, cap, rfl, _⟩
    · exact ⟨_, _, rfl⟩
    · exact ⟨_, _, rfl⟩
    · exact ⟨_, _, rfl⟩
  have hc : 0 < len → ∃ sb so, ao = some ⟨sb, so, none⟩ ∧ NumsAt w sb so len zs := fun h0 => by
    rcases hv with ⟨_, h⟩ | ⟨_, _, _, h⟩ | ⟨sb, so, cap', h, h'⟩
    · omega
    · omega
    · simp only [Value.slice.injEq] at h
      exact ⟨sb, so, h.1, h'⟩
  clear hv
  have HC := Lib.hid hc
  have K0 := Lib.hid (newT n h1 h2 w)
  have i0 : (Try.prog.info? 3).map (fun i => (i.zero, i.size, i.bytes)) = some (some (.int .i64 0), 1, 8) := by kernel_rfl
  obtain ⟨ie, hi0, hz0, hz1, hz2⟩ := info_parts i0
  clear hc i0
  have HI := Lib.hid hi0
  have HZ0 := Lib.hid hz0
  have HZ1 := Lib.hid hz1
  have HZ2 := Lib.hid hz2
  clear hi0 hz0 hz1 hz2
  go_enter Try.func6, Try.ntmps6
  go_wp2_with (go_at_call 23; (with_reducible refine (K0.out).mono ?_); rintro e w1 ⟨rfl, hT⟩)
  go_loopw [7, 46] (fun v i wr => ∃ (k m f : Nat) (xs : Nat → Value) (gi : Nat → Int), k ≤ len ∧ i = .int .i64 k ∧ m ≤ n ∧ m ≤ k ∧ AR w wr n m f v xs gi) (fun _ i _ => len - (intOf i).toNat)
  case atStart => exact ⟨0, 0, 0, _, fun _ => 0, Nat.zero_le _, rfl, Nat.zero_le _, Nat.le_refl _, hT, QS.nil _ _ _, fun j hj => absurd hj (by omega)⟩
  case round =>
    clear hT
    obtain ⟨k, m, f, xs, gi, hk, rfl, hmn, hmk, hA⟩ := hrel
    by_cases hlt : k < len
    · obtain ⟨sb, so, rfl, hsb, hnums⟩ := HC.out (by omega)
      obtain ⟨hck, hz1, hz2⟩ := hnums k hlt
      rw [← hA.bel.cell (p := ⟨sb, so + k, none⟩) hsb] at hck
      clear hnums
      generalize zs k = z at *
      obtain ⟨vao, vcap, rfl⟩ := hA.2.1.slice
      by_cases hneg : z < 0
      · by_cases hm0 : m = 0
        · subst hm0
          have K1 := Lib.hid (fun y h => noneA (w := w) (z := y) (n := n) (f := f) (v := .slice vao 0 vcap) (xs := xs) (gi := gi) h)
          have K2 := Lib.hid (fun y h => lenA (w := w) (z := y) (n := n) (m := 0) (f := f) (v := .slice vao 0 vcap) (xs := xs) (gi := gi) h)
          have K3 := Lib.hid (fun y h => roomA (w := w) (z := y) (n := n) (m := 0) (f := f) (v := .slice vao 0 vcap) (xs := xs) (gi := gi) h)
          go_wp2_with (first
            | (go_at_call 24; (with_reducible refine (K1.out _ hA).mono ?_); clear hA; rintro e w2 ⟨rfl, hA⟩)
            | (go_at_call 26; (with_reducible refine (K2.out _ hA).mono ?_); clear hA; rintro e w3 ⟨rfl, hA⟩)
            | (go_at_call 27; (with_reducible refine (K3.out _ hA).mono ?_); clear hA; rintro e w4 ⟨rfl, hA⟩))
          go_roundw
          case rel => exact ⟨k + 1, 0, f, xs, gi, by omega, by go_num, by omega, by omega, hA⟩
          case measure => simp [intOf]; omega
        · obtain ⟨b, o, cp, ev, hmc, hcm, hQC⟩ := hA.2.1.some (by omega)
          simp only [Value.slice.injEq] at ev
          obtain ⟨rfl, _, rfl⟩ := ev
          have K1 := Lib.hid (fun y h => popA (w := w) (z := y) (n := n) (m := m) (f := f) (v := .slice (some ⟨b, o, none⟩) m vcap) (xs := xs) (gi := gi) h (by omega))
          have K2 := Lib.hid (fun y f' v' xs' h => lenA (w := w) (z := y) (n := n) (m := m - 1) (f := f') (v := v') (xs := xs') (gi := fun i => gi (i + 1)) h)
          have K3 := Lib.hid (fun y f' v' xs' h => roomA (w := w) (z := y) (n := n) (m := m - 1) (f := f') (v := v') (xs := xs') (gi := fun i => gi (i + 1)) h)
          have em : ((m : Int) == 0) = false := by simp; omega
          have em2 : ¬ (m : Int) = 0 := by omega
          have hQT := Lib.hid (fun (y : World) (h : QC y (w.heap.size + 2) b o vcap m (fun i => Value.int .i64 (gi i))) => h.tail (by omega) hmc hcm)
          clear hQC
          go_wp2_with (first
            | (go_at_call 24; (with_reducible refine (K1.out _ hA).mono ?_); clear hA; rintro e w2 ⟨rfl, ⟨f', xs', hT, hQ⟩, hS⟩; obtain ⟨b', o', cp', ev, _, _, hQC⟩ := hS.some (by omega); simp only [Value.slice.injEq, Option.some.injEq, Addr.mk.injEq] at ev; obtain ⟨⟨rfl, rfl, _⟩, _, rfl⟩ := ev; have hc0 := hQC.2.2.2 0 (by omega); simp only [Nat.add_zero] at hc0; have hS' := hQT.out _ hQC; have hA : AR w w2 n (m - 1) f' _ xs' (fun i => gi (i + 1)) := ⟨hT, hS', hQ⟩; clear hT hQ hS hQC hS')
            | (go_at_call 26; (with_reducible refine (K2.out _ _ _ _ hA).mono ?_); clear hA; rintro e w3 ⟨rfl, hA⟩)
            | (go_at_call 27; (with_reducible refine (K3.out _ _ _ _ hA).mono ?_); clear hA; rintro e w4 ⟨rfl, hA⟩))
          go_roundw
          case rel => exact ⟨k + 1, m - 1, _, _, _, by omega, by go_num, by omega, by omega, hA⟩
          case measure => simp [intOf]; omega
      · by_cases hmn0 : m = n
        · subst hmn0
          have K1 := Lib.hid (fun y h => fullA (w := w) (z := y) (n := m) (f := f) (u := .slice vao m vcap) (v := z) (xs := xs) (gi := gi) h)
          have K2 := Lib.hid (fun y h => lenA (w := w) (z := y) (n := m) (m := m) (f := f) (v := .slice vao m vcap) (xs := xs) (gi := gi) h)
          have K3 := Lib.hid (fun y h => roomA (w := w) (z := y) (n := m) (m := m) (f := f) (v := .slice vao m vcap) (xs := xs) (gi := gi) h)
          go_wp2_with (first
            | (go_at_call 25; (with_reducible refine (K1.out _ hA).mono ?_); clear hA; rintro e w2 ⟨rfl, hA⟩)
            | (go_at_call 26; (with_reducible refine (K2.out _ hA).mono ?_); clear hA; rintro e w3 ⟨rfl, hA⟩)
            | (go_at_call 27; (with_reducible refine (K3.out _ hA).mono ?_); clear hA; rintro e w4 ⟨rfl, hA⟩))
          go_roundw
          case rel => exact ⟨k + 1, m, f, xs, gi, by omega, by go_num, by omega, by omega, hA⟩
          case measure => simp [intOf]; omega
        · have hmlt : m < n := by omega
          have K1 := Lib.hid (fun y h => pushA (w := w) (z := y) (n := n) (m := m) (f := f) (u := .slice vao m vcap) (v := z) (xs := xs) (gi := gi) h hmlt)
          have K2 := Lib.hid (fun y v' xs' h => lenA (w := w) (z := y) (n := n) (m := m + 1) (f := f) (v := v') (xs := xs') (gi := fun j => if j = m then z else gi j) h)
          have K3 := Lib.hid (fun y v' xs' h => roomA (w := w) (z := y) (n := n) (m := m + 1) (f := f) (v := v') (xs := xs') (gi := fun j => if j = m then z else gi j) h)
          have e1 : ((m : Int) == n) = false := by simp; omega
          have e2 : ¬ (m : Int) = n := by omega
          go_wp2_with (first
            | (go_at_call 25; (with_reducible refine (K1.out _ hA).mono ?_); clear hA; rintro e w2 ⟨rfl, ⟨xs', hT, hQ⟩, hS⟩)
            | (at_builtin; refine wpList_append_q rfl _ _ 44 rfl (w.heap.size + 2) 3 ie (.int .i64 0) 8 Try.underlying44 HI.out HZ0.out HZ1.out HZ2.out rfl _ m (fun i => Value.int .i64 (gi i)) rfl (hS.below (Below.alloc (Below.refl _ _) (Nat.le_refl _) _)) _ _ (.int .i64 z) rfl (by simp [go_sem]) rfl (by unfold maxLen; omega) (by omega) (by have := hT.1.size.1; simp; omega) ?_; intro v' w5 hq' ho'; have hA : AR w w5 n (m + 1) f v' xs' (fun j => if j = m then z else gi j) := ⟨(hT.below (Below.alloc (Below.refl _ _) (Nat.le_refl _) _)).above ho' (by omega) (by omega) (by omega), by rw [ite_int] at hq'; exact hq', hQ⟩; clear hT hS hQ ho' hq'; obtain ⟨b, o, cp, rfl, _, _, _⟩ := hA.2.1.some (by omega))
            | (go_at_call 26; (with_reducible refine (K2.out _ _ _ hA).mono ?_); clear hA; rintro e w3 ⟨rfl, hA⟩)
            | (go_at_call 27; (with_reducible refine (K3.out _ _ _ hA).mono ?_); clear hA; rintro e w4 ⟨rfl, hA⟩))
          go_roundw
          case rel => exact ⟨k + 1, m + 1, f, _, _, by omega, by go_num, by omega, by omega, hA⟩
          case measure => simp [intOf]; omega
    · obtain rfl : k = len := by omega
      obtain ⟨vao, vcap, rfl⟩ := hA.2.1.slice
      have H1 := Lib.hid (fun y h => atnoA (w := w) (z := y) (n := n) (m := m) (f := f) (v := .slice vao m vcap) (xs := xs) (gi := gi) (m : Int) h (by omega))
      have H2 := Lib.hid (fun y h => atnoA (w := w) (z := y) (n := n) (m := m) (f := f) (v := .slice vao m vcap) (xs := xs) (gi := gi) (-1) h (by omega))
      clear hlt
      go_wp2_with fail
      go_loopw [110] (fun i wr => ∃ j : Nat, j ≤ m ∧ i = .int .i64 j ∧ AR w wr n m f (.slice vao m vcap) xs gi) (fun i _ => m - (intOf i).toNat)
      case atStart => exact ⟨0, Nat.zero_le _, rfl, hA⟩
      case round =>
        clear hA
        obtain ⟨j, hj, rfl, hA⟩ := hrel
        by_cases hlt : j < m
        · obtain ⟨b, o, cp, ev, _, _, hQC⟩ := hA.2.1.some (by omega)
          simp only [Value.slice.injEq] at ev
          obtain ⟨rfl, _, rfl⟩ := ev
          have hcj := hQC.2.2.2 j hlt
          have K1 := Lib.hid (fun y h => atA (w := w) (z := y) (n := n) (m := m) (f := f) (v := .slice (some ⟨b, o, none⟩) m vcap) (xs := xs) (gi := gi) j h hlt)
          clear hQC
          go_wp2_with (go_at_call 28; (with_reducible refine (K1.out _ hA).mono ?_); clear hA; rintro e w2 ⟨rfl, hA⟩)
          go_roundw
          case rel => exact ⟨j + 1, by omega, by go_num, hA⟩
          case measure => simp [intOf]; omega
        · obtain rfl : j = m := by omega
          go_wp2_with (first
            | (go_at_call 28; first | ((with_reducible refine (H1.out _ hA).mono ?_); clear hA; rintro e w2 ⟨rfl, hA⟩) | ((with_reducible refine (H2.out _ hA).mono ?_); clear hA; rintro e w3 ⟨rfl, hA⟩))
            | (go_at_call 22; (with_reducible refine (pair_c _).mono ?_); rintro e w4 ⟨rfl, hb⟩; replace hA := hA.below hb; clear hb))
          go_ret
          exact ⟨rfl, hA.bel⟩

theorem ringActs_law (t : Int) (v : Value) (wt : (Lit.int .i64 t).wf = true) {w : World} (hs : Op.FlatSlice w 1 [.int .i64] v) : Calls Try.prog 6 #[.int .i64 t, v] w fun e w' => e = .returned (.bool true) ∧ Below w.heap.size w w' := by
  rcases nums_of hs with rfl | ⟨ad, cap, rfl⟩ | ⟨sb, so, len, cap, zs, h0, rfl, hc⟩
  · by_cases ht : 1 ≤ t ∧ t ≤ 64
    · obtain ⟨n, rfl⟩ : ∃ n : Nat, t = (n : Int) := ⟨t.toNat, by omega⟩
      exact ringActs_some n _ (fun _ => 0) 0 (by omega) (by omega) (by omega) w (.inl ⟨rfl, rfl⟩)
    · exact ringActs_no t _ 0 (.inl ⟨rfl, rfl⟩) (by omega) (by omega) w
  · by_cases ht : 1 ≤ t ∧ t ≤ 64
    · obtain ⟨n, rfl⟩ : ∃ n : Nat, t = (n : Int) := ⟨t.toNat, by omega⟩
      exact ringActs_some n _ (fun _ => 0) 0 (by omega) (by omega) (by omega) w (.inr (.inl ⟨_, _, rfl, rfl⟩))
    · exact ringActs_no t _ 0 (.inr ⟨_, _, rfl⟩) (by omega) (by omega) w
  · by_cases hl : len ≤ 200
    · by_cases ht : 1 ≤ t ∧ t ≤ 64
      · obtain ⟨n, rfl⟩ : ∃ n : Nat, t = (n : Int) := ⟨t.toNat, by omega⟩
        exact ringActs_some n _ zs len (by omega) (by omega) hl w (.inr (.inr ⟨_, _, _, rfl, hc⟩))
      · exact ringActs_no t _ len (.inr ⟨_, _, rfl⟩) hl (by omega) w
    · exact ringActs_long t _ len _ (by omega) w
end Go.Proofs.Ytohdcpkacdaanaa
