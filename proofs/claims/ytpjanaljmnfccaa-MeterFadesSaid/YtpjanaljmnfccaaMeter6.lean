import Derived.Test.YtpjanaljmnfccaaMeter5
namespace Go.Proofs.Ytpjanaljmnfccaa
set_option linter.unusedVariables false
set_option linter.unusedSimpArgs false
set_option maxRecDepth 100000
open Go.RowKit Fg Reg

theorem meterFades_out (W s : Int) (v : Value) (len : Nat) (hv : v = .slice none 0 0 ∧ len = 0 ∨ ∃ a c, v = .slice (some a) len c) (h : 60 < len ∨ (len ≤ 60 ∧ mok W s = false)) (w : World) : Calls Try.prog 4 #[.int .u64 W, .int .i64 s, v] w fun e w' => e = .returned (.bool true) ∧ Below w.heap.size w w' := by
  have k1 := fun w => mmay_c W s w
  rcases hv with ⟨rfl, rfl⟩ | ⟨ad, c, rfl⟩
  · obtain h : mok W s = false := by rcases h with h | ⟨_, h⟩; omega; exact h
    rw [h] at k1
    have K1 := Lib.hid k1
    clear k1
    go_enter Try.func4, Try.ntmps4
    go_wp2_with (first | (go_at_call 17; ((with_reducible refine (eighty_c _).mono ?_); rintro e w1 ⟨rfl, hbel⟩; obtain ⟨hcc, hff⟩ := bcell hbel; have hsz := hbel.size; (try simp at hsz); have hF : Below w.heap.size w w1 := (by ((repeat' apply And.intro) <;> first | (simp [go_sem, *]; done) | omega | (repeat' (first | with_reducible exact Below.refl _ _ | with_reducible assumption | ((with_reducible refine Below.drew ?_)) | ((with_reducible refine below_drewN ?_ _)) | ((with_reducible refine Below.alloc ?_ ?_ _); rotate_left; focus (first | omega | (simp; done) | (simp; omega))) | ((with_reducible refine Below.setCell ?_ ?_ _); rotate_left; focus (first | omega | (simp; done) | (simp; omega))) | ((with_reducible refine Below.trans ?_ (Below.mono (by with_reducible assumption) ?_)); rotate_left; focus (first | omega | (simp; done) | (simp; omega))) | with_reducible exact Only.refl _ _ | (with_reducible refine Only.drew ?_) | (with_reducible refine Only.setOne ?_ _ _ _) | (with_reducible refine Only.alloc ?_ _) | (with_reducible refine Only.drewN ?_ _) | (with_reducible refine Only.of_below ?_) )))); go_split_ands; clear hcc hff hbel)) | (go_at_call 18; ((with_reducible refine (K1.out _).mono ?_); rintro e w2 ⟨rfl, hbel⟩; obtain ⟨hcc, hff⟩ := bcell hbel; have hsz := hbel.size; (try simp at hsz); have hF : Below w.heap.size w w2 := (by ((repeat' apply And.intro) <;> first | (simp [go_sem, *]; done) | omega | (repeat' (first | with_reducible exact Below.refl _ _ | with_reducible assumption | ((with_reducible refine Below.drew ?_)) | ((with_reducible refine below_drewN ?_ _)) | ((with_reducible refine Below.alloc ?_ ?_ _); rotate_left; focus (first | omega | (simp; done) | (simp; omega))) | ((with_reducible refine Below.setCell ?_ ?_ _); rotate_left; focus (first | omega | (simp; done) | (simp; omega))) | ((with_reducible refine Below.trans ?_ (Below.mono (by with_reducible assumption) ?_)); rotate_left; focus (first | omega | (simp; done) | (simp; omega))) | with_reducible exact Only.refl _ _ | (with_reducible refine Only.drew ?_) | (with_reducible refine Only.setOne ?_ _ _ _) | (with_reducible refine Only.alloc ?_ _) | (with_reducible refine Only.drewN ?_ _) | (with_reducible refine Only.of_below ?_) )))); go_split_ands; clear hcc hff hbel)))
    (go_ret; refine ⟨?_, ?_⟩; (focus (exact rfl)); ((repeat' (first | with_reducible exact Below.refl _ _ | with_reducible assumption | ((with_reducible refine Below.drew ?_)) | ((with_reducible refine below_drewN ?_ _)) | ((with_reducible refine Below.alloc ?_ ?_ _); rotate_left; focus (first | omega | (simp; done) | (simp; omega))) | ((with_reducible refine Below.setCell ?_ ?_ _); rotate_left; focus (first | omega | (simp; done) | (simp; omega))) | ((with_reducible refine Below.trans ?_ (Below.mono (by with_reducible assumption) ?_)); rotate_left; focus (first | omega | (simp; done) | (simp; omega))) | with_reducible exact Only.refl _ _ | (with_reducible refine Only.drew ?_) | (with_reducible refine Only.setOne ?_ _ _ _) | (with_reducible refine Only.alloc ?_ _) | (with_reducible refine Only.drewN ?_ _) | (with_reducible refine Only.of_below ?_) )); done))
  · rcases h with h | ⟨h1, h⟩
    · clear k1
      go_enter Try.func4, Try.ntmps4
      go_wp2_with (go_at_call 17; ((with_reducible refine (eighty_c _).mono ?_); rintro e w1 ⟨rfl, hbel⟩; obtain ⟨hcc, hff⟩ := bcell hbel; have hsz := hbel.size; (try simp at hsz); have hF : Below w.heap.size w w1 := (by ((repeat' apply And.intro) <;> first | (simp [go_sem, *]; done) | omega | (repeat' (first | with_reducible exact Below.refl _ _ | with_reducible assumption | ((with_reducible refine Below.drew ?_)) | ((with_reducible refine below_drewN ?_ _)) | ((with_reducible refine Below.alloc ?_ ?_ _); rotate_left; focus (first | omega | (simp; done) | (simp; omega))) | ((with_reducible refine Below.setCell ?_ ?_ _); rotate_left; focus (first | omega | (simp; done) | (simp; omega))) | ((with_reducible refine Below.trans ?_ (Below.mono (by with_reducible assumption) ?_)); rotate_left; focus (first | omega | (simp; done) | (simp; omega))) | with_reducible exact Only.refl _ _ | (with_reducible refine Only.drew ?_) | (with_reducible refine Only.setOne ?_ _ _ _) | (with_reducible refine Only.alloc ?_ _) | (with_reducible refine Only.drewN ?_ _) | (with_reducible refine Only.of_below ?_) )))); go_split_ands; clear hcc hff hbel))
      (go_ret; refine ⟨?_, ?_⟩; (focus (exact rfl)); ((repeat' (first | with_reducible exact Below.refl _ _ | with_reducible assumption | ((with_reducible refine Below.drew ?_)) | ((with_reducible refine below_drewN ?_ _)) | ((with_reducible refine Below.alloc ?_ ?_ _); rotate_left; focus (first | omega | (simp; done) | (simp; omega))) | ((with_reducible refine Below.setCell ?_ ?_ _); rotate_left; focus (first | omega | (simp; done) | (simp; omega))) | ((with_reducible refine Below.trans ?_ (Below.mono (by with_reducible assumption) ?_)); rotate_left; focus (first | omega | (simp; done) | (simp; omega))) | with_reducible exact Only.refl _ _ | (with_reducible refine Only.drew ?_) | (with_reducible refine Only.setOne ?_ _ _ _) | (with_reducible refine Only.alloc ?_ _) | (with_reducible refine Only.drewN ?_ _) | (with_reducible refine Only.of_below ?_) )); done))
    · rw [h] at k1
      have K1 := Lib.hid k1
      clear k1
      go_enter Try.func4, Try.ntmps4
      go_wp2_with (first | (go_at_call 17; ((with_reducible refine (eighty_c _).mono ?_); rintro e w1 ⟨rfl, hbel⟩; obtain ⟨hcc, hff⟩ := bcell hbel; have hsz := hbel.size; (try simp at hsz); have hF : Below w.heap.size w w1 := (by ((repeat' apply And.intro) <;> first | (simp [go_sem, *]; done) | omega | (repeat' (first | with_reducible exact Below.refl _ _ | with_reducible assumption | ((with_reducible refine Below.drew ?_)) | ((with_reducible refine below_drewN ?_ _)) | ((with_reducible refine Below.alloc ?_ ?_ _); rotate_left; focus (first | omega | (simp; done) | (simp; omega))) | ((with_reducible refine Below.setCell ?_ ?_ _); rotate_left; focus (first | omega | (simp; done) | (simp; omega))) | ((with_reducible refine Below.trans ?_ (Below.mono (by with_reducible assumption) ?_)); rotate_left; focus (first | omega | (simp; done) | (simp; omega))) | with_reducible exact Only.refl _ _ | (with_reducible refine Only.drew ?_) | (with_reducible refine Only.setOne ?_ _ _ _) | (with_reducible refine Only.alloc ?_ _) | (with_reducible refine Only.drewN ?_ _) | (with_reducible refine Only.of_below ?_) )))); go_split_ands; clear hcc hff hbel)) | (go_at_call 18; ((with_reducible refine (K1.out _).mono ?_); rintro e w2 ⟨rfl, hbel⟩; obtain ⟨hcc, hff⟩ := bcell hbel; have hsz := hbel.size; (try simp at hsz); have hF : Below w.heap.size w w2 := (by ((repeat' apply And.intro) <;> first | (simp [go_sem, *]; done) | omega | (repeat' (first | with_reducible exact Below.refl _ _ | with_reducible assumption | ((with_reducible refine Below.drew ?_)) | ((with_reducible refine below_drewN ?_ _)) | ((with_reducible refine Below.alloc ?_ ?_ _); rotate_left; focus (first | omega | (simp; done) | (simp; omega))) | ((with_reducible refine Below.setCell ?_ ?_ _); rotate_left; focus (first | omega | (simp; done) | (simp; omega))) | ((with_reducible refine Below.trans ?_ (Below.mono (by with_reducible assumption) ?_)); rotate_left; focus (first | omega | (simp; done) | (simp; omega))) | with_reducible exact Only.refl _ _ | (with_reducible refine Only.drew ?_) | (with_reducible refine Only.setOne ?_ _ _ _) | (with_reducible refine Only.alloc ?_ _) | (with_reducible refine Only.drewN ?_ _) | (with_reducible refine Only.of_below ?_) )))); go_split_ands; clear hcc hff hbel)))
      (go_ret; refine ⟨?_, ?_⟩; (focus (exact rfl)); ((repeat' (first | with_reducible exact Below.refl _ _ | with_reducible assumption | ((with_reducible refine Below.drew ?_)) | ((with_reducible refine below_drewN ?_ _)) | ((with_reducible refine Below.alloc ?_ ?_ _); rotate_left; focus (first | omega | (simp; done) | (simp; omega))) | ((with_reducible refine Below.setCell ?_ ?_ _); rotate_left; focus (first | omega | (simp; done) | (simp; omega))) | ((with_reducible refine Below.trans ?_ (Below.mono (by with_reducible assumption) ?_)); rotate_left; focus (first | omega | (simp; done) | (simp; omega))) | with_reducible exact Only.refl _ _ | (with_reducible refine Only.drew ?_) | (with_reducible refine Only.setOne ?_ _ _ _) | (with_reducible refine Only.alloc ?_ _) | (with_reducible refine Only.drewN ?_ _) | (with_reducible refine Only.of_below ?_) )); done))
theorem fades_end {W n a b : Int} {s : Nat} (h1 : 1 ≤ W) (h2 : W ≤ 4294967296) (h4 : s ≤ 8) (hI : Inv a n b) (hn : n ≤ 1048576) :
    0 ≤ (n + 1048576) * W ∧ (n + 1048576) * W ≤ 9007199254740992 ∧ ∃ A n' b' : Int, avgs W (2 ^ s) a n b ((n + 1048576) * W) = (A, 0, A, n', b') ∧ 0 ≤ A ∧ A < 2 ^ s := by
  have n0 := hI.n0
  have p0 : 0 ≤ (n + 1048576) * W := Int.mul_nonneg (by omega) (by omega)
  have p1 : (n + 1048576) * W ≤ 2097152 * 4294967296 := Int.mul_le_mul (by omega) h2 (by omega) (by omega)
  have e : (n + 1048576) * W / W = n + 1048576 := Int.mul_ediv_cancel _ (by omega)
  refine ⟨p0, by omega, mrun (2 ^ s) (n + 1048576 - n).toNat a b, n + 1048576, mby (n + 1048576 - n).toNat b, ?_, ?_, ?_⟩
  · unfold avgs mayb
    rw [e, if_neg (by simp; omega)]
  · exact (mrun_bd (M := 72057594037927936) (Int.pow_pos (by omega)) _ hI.a0 hI.b0 hI.a1 (by have := hI.b1; omega)).1
  · exact mrun_fades h4 hI.a0 hI.a1 hI.b0 hI.b1 (by omega)
theorem two_sh {s : Nat} (h4 : s ≤ 8) : (2 : Int) ^ min s 64 % 18446744073709551616 = 2 ^ s := by
  rcases (by omega : s = 0 ∨ s = 1 ∨ s = 2 ∨ s = 3 ∨ s = 4 ∨ s = 5 ∨ s = 6 ∨ s = 7 ∨ s = 8) with rfl | rfl | rfl | rfl | rfl | rfl | rfl | rfl | rfl <;> rfl
set_option maxHeartbeats 2000000 in
theorem meterFades_empty (W : Int) (s : Nat) (v : Value) (hv : v = .slice none 0 0 ∨ ∃ a c, v = .slice (some a) 0 c) (h1 : 1 ≤ W) (h2 : W ≤ 4294967296) (h4 : s ≤ 8) (w : World) : Calls Try.prog 4 #[.int .u64 W, .int .i64 s, v] w fun e w' => e = .returned (.bool true) ∧ Below w.heap.size w w' := by
  have K1 := Lib.hid (fun w => mmay_yes W s h1 h2 (by omega) (by omega) w)
  have K2 := Lib.hid (fun w => mnew_ok W s h1 h2 (by omega) (by omega) w)
  have i0 : Inv 0 0 0 := by constructor <;> omega
  obtain ⟨p0, p1, A, n', b', hav, hA0, hA1⟩ := fades_end h1 h2 h4 i0 (by omega)
  have K4 := Lib.hid (fun w x z hT => open_c' x W s 0 0 0 w z hT)
  have K5 := Lib.hid (fun w x => avg_is (x := x) (w := w) (W := W) (s := s) (t := (0 + 1048576) * W) (by omega) h4 i0 p0 A 0 A n' b' hav)
  have hsh := two_sh h4
  simp only [Int.zero_add] at p0 p1 K5
  have hd : decide (A < 2 ^ s) = true := by simpa using hA1
  clear hav i0
  rcases hv with rfl | ⟨ad, c, rfl⟩
  all_goals
    go_enter Try.func4, Try.ntmps4
    go_wp2_with (first
      | (go_at_call 18; ((with_reducible refine (K1.out _).mono ?_); rintro e w1 ⟨rfl, hb1⟩))
      | (go_at_call 19; (with_reducible refine (K2.out _).mono ?_); rintro e w2 ⟨rfl, hL, hb2⟩; have hT : TM w w2 w1.heap.size W s 0 0 0 := ⟨hL, hb1.trans (hb2.mono hb1.size), hb1.size⟩; clear hL hb2))
    refine wp_loop_rounds 1 ?_
    rw [rounds_succ]
    go_wp2_with (first
      | (go_at_call 15; ((with_reducible refine (K4.out _ _ _ hT).mono ?_); clear hT; rintro e w4 ⟨rfl, hT, ho⟩; clear ho))
      | (go_at_call 14; ((with_reducible refine (K5.out _ _ _ hT).mono ?_); clear hT; rintro e w5 ⟨rfl, hT, ho⟩; clear ho))
      | (go_at_call 17; (with_reducible refine (eighty_c _).mono ?_); rintro e w7 ⟨rfl, hb7⟩))
    go_ret
    exact ⟨rfl, (hT.below hb7).bl⟩

set_option maxHeartbeats 8000000 in
theorem meterFades_some (W : Int) (s sb so len cap : Nat) (h1 : 1 ≤ W) (h2 : W ≤ 4294967296) (h4 : s ≤ 8) (h0 : 0 < len) (hn : len ≤ 60) (w : World) (hc : CallsAt w sb so len) : Calls Try.prog 4 #[.int .u64 W, .int .i64 s, .slice (some ⟨sb, so, none⟩) len cap] w fun e w' => e = .returned (.bool true) ∧ Below w.heap.size w w' := by
  have HC := Lib.hid hc.2
  have hsb : sb < w.heap.size := hc.1
  clear hc
  have K1 := Lib.hid (fun w => mmay_yes W s h1 h2 (by omega) (by omega) w)
  have K2 := Lib.hid (fun w => mnew_ok W s h1 h2 (by omega) (by omega) w)
  go_enter Try.func4, Try.ntmps4
  go_wp2_with (first
    | (go_at_call 18; ((with_reducible refine (K1.out _).mono ?_); rintro e w1 ⟨rfl, hb1⟩; have hsz1 := hb1.size))
    | (go_at_call 19; (with_reducible refine (K2.out _).mono ?_); rintro e w2 ⟨rfl, hL, hb2⟩; have hT : TM w w2 w1.heap.size W s 0 0 0 := ⟨hL, hb1.trans (hb2.mono hb1.size), hsz1⟩; clear hL hb2))
  go_loopw [33] (fun i wr => ∃ (k : Nat) (a n b : Int), k ≤ len ∧ i = .int .i64 k ∧ TM w wr w1.heap.size W s a n b ∧ Inv a n b) (fun i _ => len - (intOf i).toNat)
  case atStart => exact ⟨0, 0, 0, 0, Nat.zero_le _, rfl, hT, by constructor <;> omega⟩
  case round =>
    obtain ⟨k, a, n, b, hk, rfl, hW, hI⟩ := hrel
    by_cases hlt : k < len
    · obtain ⟨kd, t, m, ht, hm, hkd, c0, c1, c2⟩ := HC.out k hlt
      have hB := hW.bl
      have hsz := hB.size
      have hxx := hW.mt.size
      rw [← hB.cell (p := ⟨sb, so + k * 3, none⟩) hsb] at c0
      rw [← hB.cell (p := ⟨sb, so + k * 3 + 1, none⟩) hsb] at c1
      rw [← hB.cell (p := ⟨sb, so + k * 3 + 2, none⟩) hsb] at c2
      clear hB hT hb1
      have hT := hW.below (Below.alloc (Below.refl _ _) (Nat.le_refl _) (Obj.cells #[.int .i64 kd, .int .u64 t, .int .i64 m] 24))
      clear hW
      have e1 : ¬ wr.heap.size = w1.heap.size := by omega
      have i' := inv_adds (W := W) (t := t) (m := m) (s := s) hI
      have k3 := add_is (x := w1.heap.size) (w := w) (W := W) (s := s) (t := t) (m := m) (by omega) h4 hI ht.1 hm.2 (adds W (2 ^ s) a n b t m).1 (adds W (2 ^ s) a n b t m).2.1 (adds W (2 ^ s) a n b t m).2.2.1 (adds W (2 ^ s) a n b t m).2.2.2 rfl
      generalize (adds W (2 ^ s) a n b t m).1 = E' at *
      generalize (adds W (2 ^ s) a n b t m).2.1 = a' at *
      generalize (adds W (2 ^ s) a n b t m).2.2.1 = n' at *
      generalize (adds W (2 ^ s) a n b t m).2.2.2 = b' at *
      have K3 := Lib.hid k3
      have I' := Lib.hid i'
      clear k3 i' hI
      go_wp2_with (go_at_call 16; ((with_reducible refine (K3.out _ hT).mono ?_); clear hT; rintro e w3 ⟨rfl, hT, ho⟩; clear ho))
      go_roundw
      case rel => exact ⟨k + 1, a', n', b', by omega, by go_num, hT, I'.out⟩
      case measure => simp [intOf]; omega
    · obtain rfl : k = len := by omega
      clear hT
      have hT := hW
      clear hW
      have K4 := Lib.hid (fun z hT => open_c' w1.heap.size W s a n b w z hT)
      by_cases hn2 : n ≤ 1048576
      · obtain ⟨p0, p1, A, n', b', hav, hA0, hA1⟩ := fades_end h1 h2 h4 hI hn2
        have K5 := Lib.hid (avg_is (x := w1.heap.size) (w := w) (W := W) (s := s) (t := (n + 1048576) * W) (by omega) h4 hI p0 A 0 A n' b' hav)
        have hsh := two_sh h4
        have hd : decide (A < 2 ^ s) = true := by simpa using hA1
        have n0 := hI.n0
        clear hav hI
        go_wp2_with (first
          | (go_at_call 15; ((with_reducible refine (K4.out _ hT).mono ?_); clear hT; rintro e w4 ⟨rfl, hT, ho⟩; clear ho))
          | (go_at_call 14; ((with_reducible refine (K5.out _ hT).mono ?_); clear hT; rintro e w5 ⟨rfl, hT, ho⟩; clear ho))
          | (go_at_call 17; (with_reducible refine (eighty_c _).mono ?_); rintro e w7 ⟨rfl, hb7⟩))
        go_ret
        exact ⟨rfl, (hT.below hb7).bl⟩
      · clear hI
        have hn3 : 1048576 < n := by omega
        clear hn2
        go_wp2_with (first
          | (go_at_call 15; ((with_reducible refine (K4.out _ hT).mono ?_); clear hT; rintro e w4 ⟨rfl, hT, ho⟩; clear ho))
          | (go_at_call 17; (with_reducible refine (eighty_c _).mono ?_); rintro e w7 ⟨rfl, hb7⟩))
        go_ret
        exact ⟨rfl, (hT.below hb7).bl⟩

theorem meterFades_law (W s : Int) (v : Value) (w0 : (Lit.int .u64 W).wf = true) (w1 : (Lit.int .i64 s).wf = true) {w : World} (hs : Op.FlatSlice w 3 [.int .i64, .int .u64, .int .i64] v) : Calls Try.prog 4 #[.int .u64 W, .int .i64 s, v] w fun e w' => e = .returned (.bool true) ∧ Below w.heap.size w w' := by
  have key : mok W s = true → 1 ≤ W ∧ W ≤ 4294967296 ∧ 0 ≤ s ∧ s ≤ 8 := fun h => by unfold mok at h; simpa using h
  rcases calls_of hs with rfl | ⟨ad, cap, rfl⟩ | ⟨sb, so, len, cap, h0, rfl, hc⟩
  · cases hm : mok W s with
    | false => exact meterFades_out W s _ 0 (.inl ⟨rfl, rfl⟩) (.inr ⟨by omega, hm⟩) w
    | true => obtain ⟨a, b, c, d⟩ := key hm; obtain ⟨sn, rfl⟩ : ∃ sn : Nat, s = sn := ⟨s.toNat, by omega⟩; exact meterFades_empty W sn _ (.inl rfl) a b (by omega) w
  · cases hm : mok W s with
    | false => exact meterFades_out W s _ 0 (.inr ⟨_, _, rfl⟩) (.inr ⟨by omega, hm⟩) w
    | true => obtain ⟨a, b, c, d⟩ := key hm; obtain ⟨sn, rfl⟩ : ∃ sn : Nat, s = sn := ⟨s.toNat, by omega⟩; exact meterFades_empty W sn _ (.inr ⟨_, _, rfl⟩) a b (by omega) w
  · rcases Nat.lt_or_ge 60 len with hl | hl
    · exact meterFades_out W s _ len (.inr ⟨_, _, rfl⟩) (.inl hl) w
    · cases hm : mok W s with
      | false => exact meterFades_out W s _ len (.inr ⟨_, _, rfl⟩) (.inr ⟨hl, hm⟩) w
      | true =>
        obtain ⟨a, b, c, d⟩ := key hm
        obtain ⟨sn, rfl⟩ : ∃ sn : Nat, s = sn := ⟨s.toNat, by omega⟩
        exact meterFades_some W sn sb so len cap a b (by omega) h0 hl w hc
end Go.Proofs.Ytpjanaljmnfccaa
