import Derived.Test.YtdahjhokcjfioaaMeter3
import Derived.Test.YtdahjhokcjfioaaOpenA
namespace Go.Proofs.Ytdahjhokcjfioaa
set_option linter.unusedVariables false
set_option linter.unusedSimpArgs false
set_option maxRecDepth 100000
open Go.RowKit Fg Reg

/-- What the law knows of its meter at a world. -/
def TM (w z : World) (x : Nat) (W s a n b : Int) : Prop := MT z x W s a n b ∧ Below w.heap.size w z ∧ w.heap.size ≤ x
theorem TM.mt {w z : World} {x : Nat} {W s a n b : Int} (h : TM w z x W s a n b) : MT z x W s a n b := h.1
theorem TM.bl {w z : World} {x : Nat} {W s a n b : Int} (h : TM w z x W s a n b) : Below w.heap.size w z := h.2.1
theorem TM.below {w z z' : World} {x : Nat} {W s a n b : Int} (h : TM w z x W s a n b) (hb : Below z.heap.size z z') : TM w z' x W s a n b :=
  ⟨h.1.below hb, h.2.1.trans (hb.mono h.2.1.size), h.2.2⟩
theorem TM.only {w z z' : World} {x : Nat} {W s a n b a' n' b' : Int} (h : TM w z x W s a n b) (hL : MT z' x W s a' n' b') (ho : Only (fun k => k = x) z z') : TM w z' x W s a' n' b' :=
  ⟨hL, ho.below h.2.1 (Nat.le_trans h.2.2 (Nat.le_of_lt h.1.size)) (fun k hk => by subst hk; exact h.2.2), h.2.2⟩

/-- What a call of Add comes to: an error, and the meter behind it. -/
def adds (W q a n b t m : Int) : Int × Int × Int × Int :=
  if m < 0 then (26, a, n, b) else if mayb W n t = false then (27, a, n, b) else (0, mrun q (t / W - n).toNat a b, t / W, madd (mby (t / W - n).toNat b) m)
/-- .. of Average: the average, an error, and the meter. -/
def avgs (W q a n b t : Int) : Int × Int × Int × Int × Int :=
  if mayb W n t = false then (0, 27, a, n, b) else (mrun q (t / W - n).toNat a b, 0, mrun q (t / W - n).toNat a b, t / W, mby (t / W - n).toNat b)
structure Inv (a n b : Int) : Prop where
  a0 : 0 ≤ a
  a1 : a ≤ 72057594037927936
  n0 : 0 ≤ n
  b0 : 0 ≤ b
  b1 : b ≤ 1099511627776
theorem inv_step {W a n b t : Int} {s : Nat} (h : Inv a n b) (h2 : mayb W n t = true) : Inv (mrun (2 ^ s) (t / W - n).toNat a b) (t / W) (mby (t / W - n).toNat b) := by
  have hq : (0 : Int) < 2 ^ s := Int.pow_pos (by omega)
  have h3 := mrun_bd (M := 72057594037927936) hq (t / W - n).toNat h.a0 h.b0 h.a1 (by have := h.b1; omega)
  have h4 := mby_bd h.b0 (t / W - n).toNat
  have h5 := mayb_spec h2
  have := h.b1
  have := h.n0
  exact ⟨h3.1, h3.2, by omega, h4.1, by omega⟩
theorem inv_adds {W a n b t m : Int} {s : Nat} (h : Inv a n b) : Inv (adds W (2 ^ s) a n b t m).2.1 (adds W (2 ^ s) a n b t m).2.2.1 (adds W (2 ^ s) a n b t m).2.2.2 := by
  unfold adds
  split
  · exact h
  · split
    · exact h
    · rename_i h1 h2
      have h2 : mayb W n t = true := by simpa using h2
      have i := inv_step (s := s) h h2
      have j := madd_bd i.b0 i.b1 (show 0 ≤ m by omega)
      exact ⟨i.a0, i.a1, i.n0, j.1, j.2⟩
theorem inv_avgs {W a n b t : Int} {s : Nat} (h : Inv a n b) : Inv (avgs W (2 ^ s) a n b t).2.2.1 (avgs W (2 ^ s) a n b t).2.2.2.1 (avgs W (2 ^ s) a n b t).2.2.2.2 := by
  unfold avgs
  split
  · exact h
  · rename_i h2
    exact inv_step h (by simpa using h2)
theorem add_any (x : Nat) (W a n b t m : Int) (s : Nat) (w z : World) (hT : TM w z x W s a n b) (h1 : 0 < W) (hs : s ≤ 8) (hI : Inv a n b) (ht : 0 ≤ t) (hm2 : m ≤ 9223372036854775807) :
    Calls Try.prog 123 #[.pointer (some ⟨x, 0, none⟩), .int .u64 t, .int .i64 m] z fun e w' => e = .returned (.int .i64 (adds W (2 ^ s) a n b t m).1) ∧ TM w w' x W s (adds W (2 ^ s) a n b t m).2.1 (adds W (2 ^ s) a n b t m).2.2.1 (adds W (2 ^ s) a n b t m).2.2.2 ∧ Only (fun k => k = x) z w' := by
  unfold adds
  split
  · exact (add_len x W s a n b t m z hT.mt h1 (by assumption)).mono fun e w' ⟨he, hb⟩ => ⟨he, hT.below hb, Only.of_below hb⟩
  · split
    · exact (add_clock x W s a n b t m z hT.mt h1 (by omega) ht (by assumption)).mono fun e w' ⟨he, hb⟩ => ⟨he, hT.below hb, Only.of_below hb⟩
    · rename_i h2
      exact (add_ok x W a n b t m s z hT.mt h1 hs ⟨hI.a0, hI.a1⟩ ⟨hI.b0, hI.b1⟩ hI.n0 ht (by omega) hm2 (by simpa using h2)).mono fun e w' ⟨he, hM, hO⟩ => ⟨he, hT.only hM hO, hO⟩
theorem avg_any (x : Nat) (W a n b t : Int) (s : Nat) (w z : World) (hT : TM w z x W s a n b) (h1 : 0 < W) (hs : s ≤ 8) (hI : Inv a n b) (ht : 0 ≤ t) :
    Calls Try.prog 124 #[.pointer (some ⟨x, 0, none⟩), .int .u64 t] z fun e w' => e = .returned (.tuple #[.int .u64 ((avgs W (2 ^ s) a n b t).1), .int .i64 ((avgs W (2 ^ s) a n b t).2.1)]) ∧ TM w w' x W s (avgs W (2 ^ s) a n b t).2.2.1 (avgs W (2 ^ s) a n b t).2.2.2.1 (avgs W (2 ^ s) a n b t).2.2.2.2 ∧ Only (fun k => k = x) z w' := by
  unfold avgs
  split
  · exact (avg_clock x W s a n b t z hT.mt h1 ht (by assumption)).mono fun e w' ⟨he, hb⟩ => ⟨he, hT.below hb, Only.of_below hb⟩
  · rename_i h2
    exact (avg_ok x W a n b t s z hT.mt h1 hs ⟨hI.a0, hI.a1⟩ ⟨hI.b0, hI.b1⟩ hI.n0 ht (by simpa using h2)).mono fun e w' ⟨he, hM, hO⟩ => ⟨he, hT.only hM hO, hO⟩
theorem add_is {x : Nat} {W a n b t m : Int} {s : Nat} {w : World} (h1 : 0 < W) (hs : s ≤ 8) (hI : Inv a n b) (ht : 0 ≤ t) (hm2 : m ≤ 9223372036854775807) (E a' n' b' : Int) (he : adds W (2 ^ s) a n b t m = (E, a', n', b')) (z : World) (hT : TM w z x W s a n b) :
    Calls Try.prog 123 #[.pointer (some ⟨x, 0, none⟩), .int .u64 t, .int .i64 m] z fun e w' => e = .returned (.int .i64 E) ∧ TM w w' x W s a' n' b' ∧ Only (fun k => k = x) z w' := by
  have h := add_any x W a n b t m s w z hT h1 hs hI ht hm2
  rw [he] at h
  exact h
theorem avg_is {x : Nat} {W a n b t : Int} {s : Nat} {w : World} (h1 : 0 < W) (hs : s ≤ 8) (hI : Inv a n b) (ht : 0 ≤ t) (v E a' n' b' : Int) (he : avgs W (2 ^ s) a n b t = (v, E, a', n', b')) (z : World) (hT : TM w z x W s a n b) :
    Calls Try.prog 124 #[.pointer (some ⟨x, 0, none⟩), .int .u64 t] z fun e w' => e = .returned (.tuple #[.int .u64 (v), .int .i64 (E)]) ∧ TM w w' x W s a' n' b' ∧ Only (fun k => k = x) z w' := by
  have h := avg_any x W a n b t s w z hT h1 hs hI ht
  rw [he] at h
  exact h

set_option maxHeartbeats 1000000 in
theorem eighty_c (w : World) : Calls Try.prog 66 #[] w fun ee w' => ee = .returned (.bool true) ∧ Below w.heap.size w w' := by
  have i0 : Inv 0 0 0 := by constructor <;> omega
  have i1 : Inv 0 0 80 := by constructor <;> omega
  have i2 : Inv 2621440 1 0 := by constructor <;> omega
  have i3 : Inv 1310720 2 0 := by constructor <;> omega
  have h4 : ∃ A, avgs 100 (2 ^ 1) 1310720 2 0 4611686018427387904 = (A, 0, A, 46116860184273879, 0) ∧ 0 ≤ A ∧ A < 2 := by
    refine ⟨mrun (2 ^ 1) (46116860184273879 - 2 : Int).toNat 1310720 0, ?_, ?_, ?_⟩
    · unfold avgs
      rw [if_neg (by decide), show (4611686018427387904 : Int) / 100 = 46116860184273879 by decide]
      obtain ⟨k, hk⟩ : ∃ k, (46116860184273879 - 2 : Int).toNat = k + 1 := ⟨46116860184273876, by decide⟩
      rw [hk]
      rfl
    · exact (mrun_bd (M := 72057594037927936) (by omega) _ (by omega) (by omega) (by omega) (by omega)).1
    · exact mrun_fades (s := 1) (by omega) (by omega) (by omega) (by omega) (by omega) (by omega)
  obtain ⟨A, h4, hA0, hA1⟩ := h4
  have i4 : Inv A 46116860184273879 0 := by constructor <;> omega
  have K1 := Lib.hid (add_is (x := w.heap.size) (w := w) (W := 100) (s := 1) (t := 10) (m := 80) (by omega) (by omega) i0 (by omega) (by omega) 0 0 0 80 (by decide))
  have K2 := Lib.hid (avg_is (x := w.heap.size) (w := w) (W := 100) (s := 1) (t := 150) (by omega) (by omega) i1 (by omega) 2621440 0 2621440 1 0 (by decide))
  have K3 := Lib.hid (avg_is (x := w.heap.size) (w := w) (W := 100) (s := 1) (t := 250) (by omega) (by omega) i2 (by omega) 1310720 0 1310720 2 0 (by decide))
  have K4 := Lib.hid (avg_is (x := w.heap.size) (w := w) (W := 100) (s := 1) (t := 4611686018427387904) (by omega) (by omega) i3 (by omega) A 0 A 46116860184273879 0 h4)
  have K5 := Lib.hid (add_is (x := w.heap.size) (w := w) (W := 100) (s := 1) (t := 5) (m := 1) (by omega) (by omega) i4 (by omega) (by omega) 27 A 46116860184273879 0 (by unfold adds; rw [if_neg (by omega), if_pos (by decide)]))
  clear h4 i0 i1 i2 i3 i4
  have hA2 : decide (A < 4) = true := by simp; omega
  go_enter Try.func66, Try.ntmps66
  go_wp2_with (first
    | (go_at_call 122; (with_reducible refine (mnew_ok 100 1 (by omega) (by omega) (by omega) (by omega) _).mono ?_); rintro e w1 ⟨rfl, hL, hb⟩; have hT : TM w w1 w.heap.size 100 ((1 : Nat) : Int) 0 0 0 := ⟨hL, hb, Nat.le_refl _⟩; clear hL hb)
    | (go_at_call 123; first
      | ((with_reducible refine (K1.out _ hT).mono ?_); clear hT; rintro e w2 ⟨rfl, hT, ho⟩; clear ho)
      | ((with_reducible refine (K5.out _ hT).mono ?_); clear hT; rintro e w6 ⟨rfl, hT, ho⟩; clear ho))
    | (go_at_call 124; first
      | ((with_reducible refine (K2.out _ hT).mono ?_); clear hT; rintro e w3 ⟨rfl, hT, ho⟩; clear ho)
      | ((with_reducible refine (K3.out _ hT).mono ?_); clear hT; rintro e w4 ⟨rfl, hT, ho⟩; clear ho)
      | ((with_reducible refine (K4.out _ hT).mono ?_); clear hT; rintro e w5 ⟨rfl, hT, ho⟩; clear ho)))
  go_ret
  exact ⟨rfl, hT.bl⟩

end Go.Proofs.Ytdahjhokcjfioaa
