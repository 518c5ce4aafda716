import Derived.Test.YtpjanaljmnfccaaMeter4
namespace Go.Proofs.Ytpjanaljmnfccaa
set_option linter.unusedVariables false
set_option linter.unusedSimpArgs false
set_option maxRecDepth 100000
open Go.RowKit Fg Reg

theorem open_c' (x : Nat) (W s a n b : Int) (w z : World) (hT : TM w z x W s a n b) : Calls Try.prog 15 #[.pointer (some ⟨x, 0, none⟩)] z fun e w' => e = .returned (.tuple #[.int .u64 n, .int .u64 b]) ∧ TM w w' x W s a n b ∧ Only (fun k => k = x) z w' :=
  (open_c x W s a n b z hT.mt).mono fun e w' ⟨he, hb⟩ => ⟨he, hT.below hb, Only.of_below hb⟩
def mok (W s : Int) : Bool := decide (1 ≤ W ∧ W ≤ 4294967296 ∧ 0 ≤ s ∧ s ≤ 8)
theorem mmay_yes (W s : Int) (h1 : 1 ≤ W) (h2 : W ≤ 4294967296) (h3 : 0 ≤ s) (h4 : s ≤ 8) (w : World) : Calls Try.prog 18 #[.int .u64 W, .int .i64 s] w fun ee w' => ee = .returned (.bool true) ∧ Below w.heap.size w w' := by
  go_enter Try.func18, Try.ntmps18
  go_wp2
  go_ret
  refine ⟨?_, (by repeat' (first | with_reducible exact Below.refl _ _ | with_reducible assumption | ((with_reducible refine Below.drew ?_)) | ((with_reducible refine below_drewN ?_ _)) | ((with_reducible refine Below.alloc ?_ ?_ _); rotate_left; focus (first | omega | (simp; done) | (simp; omega))) | ((with_reducible refine Below.setCell ?_ ?_ _); rotate_left; focus (first | omega | (simp; done) | (simp; omega))) | ((with_reducible refine Below.trans ?_ (Below.mono (by with_reducible assumption) ?_)); rotate_left; focus (first | omega | (simp; done) | (simp; omega))) | with_reducible exact Only.refl _ _ | (with_reducible refine Only.drew ?_) | (with_reducible refine Only.setOne ?_ _ _ _) | (with_reducible refine Only.alloc ?_ _) | (with_reducible refine Only.drewN ?_ _) | (with_reducible refine Only.of_below ?_) ))⟩
  simp [*]
theorem mmay_c (W s : Int) (w : World) : Calls Try.prog 18 #[.int .u64 W, .int .i64 s] w fun ee w' => ee = .returned (.bool (mok W s)) ∧ Below w.heap.size w w' := by
  go_enter Try.func18, Try.ntmps18
  go_wp2
  all_goals
    go_ret
    refine ⟨?_, (by repeat' (first | with_reducible exact Below.refl _ _ | with_reducible assumption | ((with_reducible refine Below.drew ?_)) | ((with_reducible refine below_drewN ?_ _)) | ((with_reducible refine Below.alloc ?_ ?_ _); rotate_left; focus (first | omega | (simp; done) | (simp; omega))) | ((with_reducible refine Below.setCell ?_ ?_ _); rotate_left; focus (first | omega | (simp; done) | (simp; omega))) | ((with_reducible refine Below.trans ?_ (Below.mono (by with_reducible assumption) ?_)); rotate_left; focus (first | omega | (simp; done) | (simp; omega))) | with_reducible exact Only.refl _ _ | (with_reducible refine Only.drew ?_) | (with_reducible refine Only.setOne ?_ _ _ _) | (with_reducible refine Only.alloc ?_ _) | (with_reducible refine Only.drewN ?_ _) | (with_reducible refine Only.of_below ?_) ))⟩
    unfold mok
    simp_all
    try omega
/-- The calls that a slice holds. -/
def CallsAt (w : World) (sb so len : Nat) : Prop := sb < w.heap.size ∧ ∀ k, k < len → ∃ kd t m : Int, (0 ≤ t ∧ t ≤ 18446744073709551615) ∧ (-9223372036854775808 ≤ m ∧ m ≤ 9223372036854775807) ∧ (-9223372036854775808 ≤ kd ∧ kd ≤ 9223372036854775807) ∧
  w.cell? ⟨sb, so + k * 3, none⟩ = some (.int .i64 kd) ∧ w.cell? ⟨sb, so + k * 3 + 1, none⟩ = some (.int .u64 t) ∧ w.cell? ⟨sb, so + k * 3 + 2, none⟩ = some (.int .i64 m)
theorem calls_of {w : World} {v : Value} (h : Op.FlatSlice w 3 [.int .i64, .int .u64, .int .i64] v) :
    v = .slice none 0 0 ∨ (∃ a cap, v = .slice (some a) 0 cap) ∨ ∃ sb so len cap : Nat, 0 < len ∧ v = .slice (some ⟨sb, so, none⟩) len cap ∧ CallsAt w sb so len := by
  rcases h with h | ⟨a, cap, h, _⟩ | ⟨b, o, n, cap, css, h0, rfl, h3, h4, hlt, hn, hi⟩
  · exact .inl h
  · exact .inr (.inl ⟨a, cap, h⟩)
  · refine .inr (.inr ⟨b, o, n, cap, h0, rfl, hlt, fun k hk => ?_⟩)
    obtain ⟨hf, he⟩ := hi k (by omega)
    obtain ⟨_, _, e0, ⟨kd, rfl, w0⟩, _, _, rfl, ⟨t, rfl, w1⟩, _, _, rfl, ⟨m, rfl, w2⟩, rfl⟩ := hf
    rw [e0] at he
    exact ⟨kd, t, m, bounds_u64 w1, bounds_i64 w2, bounds_i64 w0, by simpa using he 0 _ rfl, he 1 _ rfl, he 2 _ rfl⟩

theorem meterMost_out (W s : Int) (v : Value) (len : Nat) (hv : v = .slice none 0 0 ∧ len = 0 ∨ ∃ a c, v = .slice (some a) len c) (h : 60 < len ∨ (len ≤ 60 ∧ mok W s = false)) (w : World) : Calls Try.prog 5 #[.int .u64 W, .int .i64 s, v] w fun e w' => e = .returned (.bool true) ∧ Below w.heap.size w w' := by
  have k1 := fun w => mmay_c W s w
  rcases hv with ⟨rfl, rfl⟩ | ⟨ad, c, rfl⟩
  · obtain h : mok W s = false := by rcases h with h | ⟨_, h⟩; omega; exact h
    rw [h] at k1
    have K1 := Lib.hid k1
    clear k1
    go_enter Try.func5, Try.ntmps5
    go_wp2_with (first | (go_at_call 17; ((with_reducible refine (eighty_c _).mono ?_); rintro e w1 ⟨rfl, hbel⟩; obtain ⟨hcc, hff⟩ := bcell hbel; have hsz := hbel.size; (try simp at hsz); have hF : Below w.heap.size w w1 := (by ((repeat' apply And.intro) <;> first | (simp [go_sem, *]; done) | omega | (repeat' (first | with_reducible exact Below.refl _ _ | with_reducible assumption | ((with_reducible refine Below.drew ?_)) | ((with_reducible refine below_drewN ?_ _)) | ((with_reducible refine Below.alloc ?_ ?_ _); rotate_left; focus (first | omega | (simp; done) | (simp; omega))) | ((with_reducible refine Below.setCell ?_ ?_ _); rotate_left; focus (first | omega | (simp; done) | (simp; omega))) | ((with_reducible refine Below.trans ?_ (Below.mono (by with_reducible assumption) ?_)); rotate_left; focus (first | omega | (simp; done) | (simp; omega))) | with_reducible exact Only.refl _ _ | (with_reducible refine Only.drew ?_) | (with_reducible refine Only.setOne ?_ _ _ _) | (with_reducible refine Only.alloc ?_ _) | (with_reducible refine Only.drewN ?_ _) | (with_reducible refine Only.of_below ?_) )))); go_split_ands; clear hcc hff hbel)) | (go_at_call 18; ((with_reducible refine (K1.out _).mono ?_); rintro e w2 ⟨rfl, hbel⟩; obtain ⟨hcc, hff⟩ := bcell hbel; have hsz := hbel.size; (try simp at hsz); have hF : Below w.heap.size w w2 := (by ((repeat' apply And.intro) <;> first | (simp [go_sem, *]; done) | omega | (repeat' (first | with_reducible exact Below.refl _ _ | with_reducible assumption | ((with_reducible refine Below.drew ?_)) | ((with_reducible refine below_drewN ?_ _)) | ((with_reducible refine Below.alloc ?_ ?_ _); rotate_left; focus (first | omega | (simp; done) | (simp; omega))) | ((with_reducible refine Below.setCell ?_ ?_ _); rotate_left; focus (first | omega | (simp; done) | (simp; omega))) | ((with_reducible refine Below.trans ?_ (Below.mono (by with_reducible assumption) ?_)); rotate_left; focus (first | omega | (simp; done) | (simp; omega))) | with_reducible exact Only.refl _ _ | (with_reducible refine Only.drew ?_) | (with_reducible refine Only.setOne ?_ _ _ _) | (with_reducible refine Only.alloc ?_ _) | (with_reducible refine Only.drewN ?_ _) | (with_reducible refine Only.of_below ?_) )))); go_split_ands; clear hcc hff hbel)))
    (go_ret; refine ⟨?_, ?_⟩; (focus (exact rfl)); ((repeat' (first | with_reducible exact Below.refl _ _ | with_reducible assumption | ((with_reducible refine Below.drew ?_)) | ((with_reducible refine below_drewN ?_ _)) | ((with_reducible refine Below.alloc ?_ ?_ _); rotate_left; focus (first | omega | (simp; done) | (simp; omega))) | ((with_reducible refine Below.setCell ?_ ?_ _); rotate_left; focus (first | omega | (simp; done) | (simp; omega))) | ((with_reducible refine Below.trans ?_ (Below.mono (by with_reducible assumption) ?_)); rotate_left; focus (first | omega | (simp; done) | (simp; omega))) | with_reducible exact Only.refl _ _ | (with_reducible refine Only.drew ?_) | (with_reducible refine Only.setOne ?_ _ _ _) | (with_reducible refine Only.alloc ?_ _) | (with_reducible refine Only.drewN ?_ _) | (with_reducible refine Only.of_below ?_) )); done))
  · rcases h with h | ⟨h1, h⟩
    · clear k1
      go_enter Try.func5, Try.ntmps5
      go_wp2_with (go_at_call 17; ((with_reducible refine (eighty_c _).mono ?_); rintro e w1 ⟨rfl, hbel⟩; obtain ⟨hcc, hff⟩ := bcell hbel; have hsz := hbel.size; (try simp at hsz); have hF : Below w.heap.size w w1 := (by ((repeat' apply And.intro) <;> first | (simp [go_sem, *]; done) | omega | (repeat' (first | with_reducible exact Below.refl _ _ | with_reducible assumption | ((with_reducible refine Below.drew ?_)) | ((with_reducible refine below_drewN ?_ _)) | ((with_reducible refine Below.alloc ?_ ?_ _); rotate_left; focus (first | omega | (simp; done) | (simp; omega))) | ((with_reducible refine Below.setCell ?_ ?_ _); rotate_left; focus (first | omega | (simp; done) | (simp; omega))) | ((with_reducible refine Below.trans ?_ (Below.mono (by with_reducible assumption) ?_)); rotate_left; focus (first | omega | (simp; done) | (simp; omega))) | with_reducible exact Only.refl _ _ | (with_reducible refine Only.drew ?_) | (with_reducible refine Only.setOne ?_ _ _ _) | (with_reducible refine Only.alloc ?_ _) | (with_reducible refine Only.drewN ?_ _) | (with_reducible refine Only.of_below ?_) )))); go_split_ands; clear hcc hff hbel))
      (go_ret; refine ⟨?_, ?_⟩; (focus (exact rfl)); ((repeat' (first | with_reducible exact Below.refl _ _ | with_reducible assumption | ((with_reducible refine Below.drew ?_)) | ((with_reducible refine below_drewN ?_ _)) | ((with_reducible refine Below.alloc ?_ ?_ _); rotate_left; focus (first | omega | (simp; done) | (simp; omega))) | ((with_reducible refine Below.setCell ?_ ?_ _); rotate_left; focus (first | omega | (simp; done) | (simp; omega))) | ((with_reducible refine Below.trans ?_ (Below.mono (by with_reducible assumption) ?_)); rotate_left; focus (first | omega | (simp; done) | (simp; omega))) | with_reducible exact Only.refl _ _ | (with_reducible refine Only.drew ?_) | (with_reducible refine Only.setOne ?_ _ _ _) | (with_reducible refine Only.alloc ?_ _) | (with_reducible refine Only.drewN ?_ _) | (with_reducible refine Only.of_below ?_) )); done))
    · rw [h] at k1
      have K1 := Lib.hid k1
      clear k1
      go_enter Try.func5, Try.ntmps5
      go_wp2_with (first | (go_at_call 17; ((with_reducible refine (eighty_c _).mono ?_); rintro e w1 ⟨rfl, hbel⟩; obtain ⟨hcc, hff⟩ := bcell hbel; have hsz := hbel.size; (try simp at hsz); have hF : Below w.heap.size w w1 := (by ((repeat' apply And.intro) <;> first | (simp [go_sem, *]; done) | omega | (repeat' (first | with_reducible exact Below.refl _ _ | with_reducible assumption | ((with_reducible refine Below.drew ?_)) | ((with_reducible refine below_drewN ?_ _)) | ((with_reducible refine Below.alloc ?_ ?_ _); rotate_left; focus (first | omega | (simp; done) | (simp; omega))) | ((with_reducible refine Below.setCell ?_ ?_ _); rotate_left; focus (first | omega | (simp; done) | (simp; omega))) | ((with_reducible refine Below.trans ?_ (Below.mono (by with_reducible assumption) ?_)); rotate_left; focus (first | omega | (simp; done) | (simp; omega))) | with_reducible exact Only.refl _ _ | (with_reducible refine Only.drew ?_) | (with_reducible refine Only.setOne ?_ _ _ _) | (with_reducible refine Only.alloc ?_ _) | (with_reducible refine Only.drewN ?_ _) | (with_reducible refine Only.of_below ?_) )))); go_split_ands; clear hcc hff hbel)) | (go_at_call 18; ((with_reducible refine (K1.out _).mono ?_); rintro e w2 ⟨rfl, hbel⟩; obtain ⟨hcc, hff⟩ := bcell hbel; have hsz := hbel.size; (try simp at hsz); have hF : Below w.heap.size w w2 := (by ((repeat' apply And.intro) <;> first | (simp [go_sem, *]; done) | omega | (repeat' (first | with_reducible exact Below.refl _ _ | with_reducible assumption | ((with_reducible refine Below.drew ?_)) | ((with_reducible refine below_drewN ?_ _)) | ((with_reducible refine Below.alloc ?_ ?_ _); rotate_left; focus (first | omega | (simp; done) | (simp; omega))) | ((with_reducible refine Below.setCell ?_ ?_ _); rotate_left; focus (first | omega | (simp; done) | (simp; omega))) | ((with_reducible refine Below.trans ?_ (Below.mono (by with_reducible assumption) ?_)); rotate_left; focus (first | omega | (simp; done) | (simp; omega))) | with_reducible exact Only.refl _ _ | (with_reducible refine Only.drew ?_) | (with_reducible refine Only.setOne ?_ _ _ _) | (with_reducible refine Only.alloc ?_ _) | (with_reducible refine Only.drewN ?_ _) | (with_reducible refine Only.of_below ?_) )))); go_split_ands; clear hcc hff hbel)))
      (go_ret; refine ⟨?_, ?_⟩; (focus (exact rfl)); ((repeat' (first | with_reducible exact Below.refl _ _ | with_reducible assumption | ((with_reducible refine Below.drew ?_)) | ((with_reducible refine below_drewN ?_ _)) | ((with_reducible refine Below.alloc ?_ ?_ _); rotate_left; focus (first | omega | (simp; done) | (simp; omega))) | ((with_reducible refine Below.setCell ?_ ?_ _); rotate_left; focus (first | omega | (simp; done) | (simp; omega))) | ((with_reducible refine Below.trans ?_ (Below.mono (by with_reducible assumption) ?_)); rotate_left; focus (first | omega | (simp; done) | (simp; omega))) | with_reducible exact Only.refl _ _ | (with_reducible refine Only.drew ?_) | (with_reducible refine Only.setOne ?_ _ _ _) | (with_reducible refine Only.alloc ?_ _) | (with_reducible refine Only.drewN ?_ _) | (with_reducible refine Only.of_below ?_) )); done))
theorem meterMost_empty (W s : Int) (v : Value) (hv : v = .slice none 0 0 ∨ ∃ a c, v = .slice (some a) 0 c) (h1 : 1 ≤ W) (h2 : W ≤ 4294967296) (h3 : 0 ≤ s) (h4 : s ≤ 8) (w : World) : Calls Try.prog 5 #[.int .u64 W, .int .i64 s, v] w fun e w' => e = .returned (.bool true) ∧ Below w.heap.size w w' := by
  have K1 := Lib.hid (fun w => mmay_yes W s h1 h2 h3 h4 w)
  have K2 := Lib.hid (fun w => mnew_ok W s h1 h2 h3 h4 w)
  rcases hv with rfl | ⟨ad, c, rfl⟩
  all_goals
    go_enter Try.func5, Try.ntmps5
    go_wp2_with (first
      | (go_at_call 18; ((with_reducible refine (K1.out _).mono ?_); rintro e w1 ⟨rfl, hb1⟩))
      | (go_at_call 19; (with_reducible refine (K2.out _).mono ?_); rintro e w2 ⟨rfl, hL, hb2⟩))
    refine wp_loop_rounds 1 ?_
    rw [rounds_succ]
    go_wp2_with (go_at_call 17; (with_reducible refine (eighty_c _).mono ?_); rintro e w7 ⟨rfl, hb7⟩)
    go_ret
    exact ⟨rfl, (hb1.trans (hb2.mono hb1.size)).trans (hb7.mono (Nat.le_trans hb1.size hb2.size))⟩

set_option maxHeartbeats 8000000 in
theorem meterMost_some (W : Int) (s sb so len cap : Nat) (h1 : 1 ≤ W) (h2 : W ≤ 4294967296) (h4 : s ≤ 8) (h0 : 0 < len) (hn : len ≤ 60) (w : World) (hc : CallsAt w sb so len) : Calls Try.prog 5 #[.int .u64 W, .int .i64 s, .slice (some ⟨sb, so, none⟩) len cap] w fun e w' => e = .returned (.bool true) ∧ Below w.heap.size w w' := by
  have HC := Lib.hid hc.2
  have hsb : sb < w.heap.size := hc.1
  clear hc
  have K1 := Lib.hid (fun w => mmay_yes W s h1 h2 (by omega) (by omega) w)
  have K2 := Lib.hid (fun w => mnew_ok W s h1 h2 (by omega) (by omega) w)
  go_enter Try.func5, Try.ntmps5
  go_wp2_with (first
    | (go_at_call 18; ((with_reducible refine (K1.out _).mono ?_); rintro e w1 ⟨rfl, hb1⟩; have hsz1 := hb1.size))
    | (go_at_call 19; (with_reducible refine (K2.out _).mono ?_); rintro e w2 ⟨rfl, hL, hb2⟩; have hT : TM w w2 w1.heap.size W s 0 0 0 := ⟨hL, hb1.trans (hb2.mono hb1.size), hsz1⟩; clear hL hb2))
  go_loopw [9, 34] (fun mo i wr => ∃ (k : Nat) (M a n b : Int), k ≤ len ∧ i = .int .i64 k ∧ mo = .int .u64 M ∧ TM w wr w1.heap.size W s a n b ∧ Inv a n b ∧ a ≤ M * 65536 ∧ b ≤ M ∧ M ≤ 1099511627776) (fun _ i _ => len - (intOf i).toNat)
  case atStart => exact ⟨0, 0, 0, 0, 0, Nat.zero_le _, rfl, rfl, hT, by constructor <;> omega, by omega, by omega, by omega⟩
  case round =>
    obtain ⟨k, M, a, n, b, hk, rfl, rfl, hW, hI, ha, hb, hM⟩ := hrel
    by_cases hlt : k < len
    · obtain ⟨kd, t, m, ht, hm, hkd, c0, c1, c2⟩ := HC.out k hlt
      have hB := hW.bl
      have hsz := hB.size
      have hxx := hW.mt.size
      rw [← hB.cell (p := ⟨sb, so + k * 3, none⟩) hsb] at c0
      rw [← hB.cell (p := ⟨sb, so + k * 3 + 1, none⟩) hsb] at c1
      rw [← hB.cell (p := ⟨sb, so + k * 3 + 2, none⟩) hsb] at c2
      clear hB hT hb1
      have hT := hW.below (Below.alloc (Below.refl _ _) (Nat.le_refl _) (Obj.cells #[.int .i64 kd, .int .u64 t, .int .i64 m] 24))
      clear hW
      have e1 : ¬ wr.heap.size = w1.heap.size := by omega
      have hM0 : 0 ≤ M := by have := hI.b0; omega
      by_cases hkd0 : kd = 0
      · subst hkd0
        have i' := inv_avgs (W := W) (t := t) (s := s) hI
        have hle : (avgs W (2 ^ s) a n b t).2.2.1 ≤ M * 65536 ∧ (avgs W (2 ^ s) a n b t).2.2.2.2 ≤ M ∧ ((avgs W (2 ^ s) a n b t).2.1 = 0 → (avgs W (2 ^ s) a n b t).1 ≤ M * 65536) := by
          have hq : (0 : Int) < 2 ^ s := Int.pow_pos (by omega)
          have z := mrun_bd (M := M * 65536) hq (t / W - n).toNat hI.a0 hI.b0 ha (by omega)
          have z2 := mby_bd hI.b0 (t / W - n).toNat
          unfold avgs
          split
          · exact ⟨ha, hb, fun h => by simp at h⟩
          · exact ⟨z.2, by dsimp only; omega, fun _ => z.2⟩
        have k3 := avg_is (x := w1.heap.size) (w := w) (W := W) (s := s) (t := t) (by omega) h4 hI ht.1 (avgs W (2 ^ s) a n b t).1 (avgs W (2 ^ s) a n b t).2.1 (avgs W (2 ^ s) a n b t).2.2.1 (avgs W (2 ^ s) a n b t).2.2.2.1 (avgs W (2 ^ s) a n b t).2.2.2.2 rfl
        generalize (avgs W (2 ^ s) a n b t).1 = v' at *
        generalize (avgs W (2 ^ s) a n b t).2.1 = E' at *
        generalize (avgs W (2 ^ s) a n b t).2.2.1 = a' at *
        generalize (avgs W (2 ^ s) a n b t).2.2.2.1 = n' at *
        generalize (avgs W (2 ^ s) a n b t).2.2.2.2 = b' at *
        have K3 := Lib.hid k3
        obtain ⟨l1, l2, l3⟩ := hle
        have I' := Lib.hid i'
        have hM9 : M * 65536 ≤ 72057594037927936 := by omega
        have hM8 : 0 ≤ M * 65536 := by omega
        clear k3 i' hI
        by_cases hE : E' = 0
        · subst hE
          have l4 : v' ≤ M * 65536 := l3 rfl
          have l5 : decide (v' > M * 65536) = false := by simp; omega
          clear l3
          go_wp2_with (go_at_call 14; ((with_reducible refine (K3.out _ hT).mono ?_); clear hT; rintro e w3 ⟨rfl, hT, ho⟩; clear ho))
          go_roundw
          case rel => exact ⟨k + 1, M, a', n', b', by omega, by go_num, rfl, hT, I'.out, l1, l2, hM⟩
          case measure => simp [intOf]; omega
        · have hE' : (E' == 0) = false := by simpa using hE
          clear l3
          go_wp2_with (go_at_call 14; ((with_reducible refine (K3.out _ hT).mono ?_); clear hT; rintro e w3 ⟨rfl, hT, ho⟩; clear ho))
          go_roundw
          case rel => exact ⟨k + 1, M, a', n', b', by omega, by go_num, rfl, hT, I'.out, l1, l2, hM⟩
          case measure => simp [intOf]; omega
      · have hkd' : (kd == 0) = false := by simpa using hkd0
        have i' := inv_adds (W := W) (t := t) (m := m) (s := s) hI
        have hle : (adds W (2 ^ s) a n b t m).2.1 ≤ M * 65536 := by
          have hq : (0 : Int) < 2 ^ s := Int.pow_pos (by omega)
          have z := mrun_bd (M := M * 65536) hq (t / W - n).toNat hI.a0 hI.b0 ha (by omega)
          unfold adds
          split
          · exact ha
          · split
            · exact ha
            · exact z.2
        have k3 := add_is (x := w1.heap.size) (w := w) (W := W) (s := s) (t := t) (m := m) (by omega) h4 hI ht.1 hm.2 (adds W (2 ^ s) a n b t m).1 (adds W (2 ^ s) a n b t m).2.1 (adds W (2 ^ s) a n b t m).2.2.1 (adds W (2 ^ s) a n b t m).2.2.2 rfl
        generalize (adds W (2 ^ s) a n b t m).1 = E' at *
        generalize (adds W (2 ^ s) a n b t m).2.1 = a' at *
        generalize (adds W (2 ^ s) a n b t m).2.2.1 = n' at *
        generalize (adds W (2 ^ s) a n b t m).2.2.2 = b' at *
        have K3 := Lib.hid k3
        have K4 := Lib.hid (fun z hT => open_c' w1.heap.size W s a' n' b' w z hT)
        have hmx : ∀ w : World, (Builtin.max_ #[22, 22] 22 #[.int .u64 M, .int .u64 b']).run Try.prog w = .ok (.int .u64 (if b' > M then b' else M)) w := fun w => by simp [Builtin.max_, Builtin.max2]
        have hq : (if b' > M then b' else M) = b' ∧ M ≤ b' ∨ (if b' > M then b' else M) = M ∧ b' ≤ M := by split <;> omega
        generalize (if b' > M then b' else M) = M' at *
        have I' := Lib.hid i'
        have HQ := Lib.hid hq
        have b1 := i'.b1
        clear k3 i' hI hq
        have hkd2 := hkd0
        clear hkd0
        go_wp2_with (first
          | (go_at_call 16; ((with_reducible refine (K3.out _ hT).mono ?_); clear hT; rintro e w3 ⟨rfl, hT, ho⟩; clear ho))
          | (go_at_call 15; ((with_reducible refine (K4.out _ hT).mono ?_); clear hT; rintro e w4 ⟨rfl, hT, ho⟩; clear ho)))
        go_roundw
        case rel => exact ⟨k + 1, M', a', n', b', by omega, by go_num, rfl, hT, I'.out, by have := HQ.out; omega, by have := HQ.out; omega, by have := HQ.out; omega⟩
        case measure => simp [intOf]; omega
    · obtain rfl : k = len := by omega
      clear hT
      go_wp2_with (go_at_call 17; (with_reducible refine (eighty_c _).mono ?_); rintro e w7 ⟨rfl, hb7⟩)
      go_ret
      exact ⟨rfl, (hW.below hb7).bl⟩

theorem meterMost_law (W s : Int) (v : Value) (w0 : (Lit.int .u64 W).wf = true) (w1 : (Lit.int .i64 s).wf = true) {w : World} (hs : Op.FlatSlice w 3 [.int .i64, .int .u64, .int .i64] v) : Calls Try.prog 5 #[.int .u64 W, .int .i64 s, v] w fun e w' => e = .returned (.bool true) ∧ Below w.heap.size w w' := by
  have key : mok W s = true → 1 ≤ W ∧ W ≤ 4294967296 ∧ 0 ≤ s ∧ s ≤ 8 := fun h => by unfold mok at h; simpa using h
  rcases calls_of hs with rfl | ⟨ad, cap, rfl⟩ | ⟨sb, so, len, cap, h0, rfl, hc⟩
  · cases hm : mok W s with
    | false => exact meterMost_out W s _ 0 (.inl ⟨rfl, rfl⟩) (.inr ⟨by omega, hm⟩) w
    | true => obtain ⟨a, b, c, d⟩ := key hm; exact meterMost_empty W s _ (.inl rfl) a b c d w
  · cases hm : mok W s with
    | false => exact meterMost_out W s _ 0 (.inr ⟨_, _, rfl⟩) (.inr ⟨by omega, hm⟩) w
    | true => obtain ⟨a, b, c, d⟩ := key hm; exact meterMost_empty W s _ (.inr ⟨_, _, rfl⟩) a b c d w
  · rcases Nat.lt_or_ge 60 len with hl | hl
    · exact meterMost_out W s _ len (.inr ⟨_, _, rfl⟩) (.inl hl) w
    · cases hm : mok W s with
      | false => exact meterMost_out W s _ len (.inr ⟨_, _, rfl⟩) (.inr ⟨hl, hm⟩) w
      | true =>
        obtain ⟨a, b, c, d⟩ := key hm
        obtain ⟨sn, rfl⟩ : ∃ sn : Nat, s = sn := ⟨s.toNat, by omega⟩
        exact meterMost_some W sn sb so len cap a b (by omega) h0 hl w hc
end Go.Proofs.Ytpjanaljmnfccaa
