import Derived.Test.YtohdcpkacdaanaaRing2
namespace Go.Proofs.Ytohdcpkacdaanaa
set_option linter.unusedVariables false
set_option linter.unusedSimpArgs false
set_option maxRecDepth 100000
open Go.RowKit Fg Reg

/-- What the law knows of its ring at a world. -/
def TR (w z : World) (x s n f m : Nat) (xs : Nat → Value) : Prop := RG z x s n f m xs ∧ Below w.heap.size w z ∧ w.heap.size ≤ x ∧ w.heap.size ≤ s
theorem TR.rg {w z : World} {x s n f m : Nat} {xs : Nat → Value} (h : TR w z x s n f m xs) : RG z x s n f m xs := h.1
theorem TR.bel {w z : World} {x s n f m : Nat} {xs : Nat → Value} (h : TR w z x s n f m xs) : Below w.heap.size w z := h.2.1
theorem RG.size {z : World} {x s n f m : Nat} {xs : Nat → Value} (h : RG z x s n f m xs) : x < z.heap.size ∧ s < z.heap.size := ⟨h.1.2.2.2.2.2.2.1, h.1.2.2.2.2.2.2.2⟩
theorem TR.below {w z z' : World} {x s n f m : Nat} {xs : Nat → Value} (h : TR w z x s n f m xs) (hb : Below z.heap.size z z') : TR w z' x s n f m xs :=
  ⟨h.1.below hb, h.2.1.trans (hb.mono h.2.1.size), h.2.2⟩
theorem TR.only {w z z' : World} {x s n f m f' m' : Nat} {xs xs' : Nat → Value} (h : TR w z x s n f m xs) (hL : RG z' x s n f' m' xs') (ho : Only (fun k => k = x ∨ k = s) z z') : TR w z' x s n f' m' xs' :=
  ⟨hL, ho.below h.2.1 (Nat.le_trans h.2.2.1 (Nat.le_of_lt h.1.size.1)) (fun k hk => by rcases hk with rfl | rfl; exact h.2.2.1; exact h.2.2.2), h.2.2⟩
theorem TR.congr {w z : World} {x s n f m f' m' : Nat} {xs : Nat → Value} (h : TR w z x s n f m xs) (hf : f = f') (hm : m = m') : TR w z x s n f' m' xs := by
  subst hf hm; exact h

theorem pushT {w z : World} {x s n f m : Nat} {v : Int} {xs : Nat → Value} (hT : TR w z x s n f m xs) (h : m < n) : Calls Try.prog 25 #[.pointer (some ⟨x, 0, none⟩), .int .i64 v] z fun e z' => e = .returned (.int .i64 0) ∧ TR w z' x s n f (m + 1) (upd xs (ato f m n) (.int .i64 v)) :=
  (rpush_ok x s n f m v xs z hT.1 h).mono fun e z' ⟨h1, h2, h3⟩ => ⟨h1, hT.only h2 h3⟩
theorem fullT {w z : World} {x s n f : Nat} {v : Int} {xs : Nat → Value} (hT : TR w z x s n f n xs) : Calls Try.prog 25 #[.pointer (some ⟨x, 0, none⟩), .int .i64 v] z fun e z' => e = .returned (.int .i64 5) ∧ TR w z' x s n f n xs :=
  (rpush_full x s n f v xs z hT.1).mono fun e z' ⟨h1, h2⟩ => ⟨h1, hT.below h2⟩
theorem popT {w z : World} {x s n f m : Nat} {xs : Nat → Value} (hT : TR w z x s n f m xs) (h : 0 < m) : Calls Try.prog 24 #[.pointer (some ⟨x, 0, none⟩)] z fun e z' => e = .returned (.tuple #[xs f, .int .i64 0]) ∧ TR w z' x s n (ato f 1 n) (m - 1) (upd xs f (.int .i64 0)) :=
  (rpop_ok x s n f m xs z hT.1 h).mono fun e z' ⟨h1, h2, h3⟩ => ⟨h1, hT.only h2 h3⟩
theorem noneT {w z : World} {x s n f : Nat} {xs : Nat → Value} (hT : TR w z x s n f 0 xs) : Calls Try.prog 24 #[.pointer (some ⟨x, 0, none⟩)] z fun e z' => e = .returned (.tuple #[.int .i64 0, .int .i64 6]) ∧ TR w z' x s n f 0 xs :=
  (rpop_none x s n f xs z hT.1).mono fun e z' ⟨h1, h2⟩ => ⟨h1, hT.below h2⟩
theorem atT {w z : World} {x s n f m : Nat} {xs : Nat → Value} (i : Nat) (hT : TR w z x s n f m xs) (h : i < m) : Calls Try.prog 28 #[.pointer (some ⟨x, 0, none⟩), .int .i64 i] z fun e z' => e = .returned (.tuple #[xs (ato f i n), .int .i64 0]) ∧ TR w z' x s n f m xs :=
  (rat_ok x s n f m i xs z hT.1 h).mono fun e z' ⟨h1, h2⟩ => ⟨h1, hT.below h2⟩
theorem atnoT {w z : World} {x s n f m : Nat} {xs : Nat → Value} (i : Int) (hT : TR w z x s n f m xs) (h : i < 0 ∨ (0 ≤ i ∧ (m : Int) ≤ i)) : Calls Try.prog 28 #[.pointer (some ⟨x, 0, none⟩), .int .i64 i] z fun e z' => e = .returned (.tuple #[.int .i64 0, .int .i64 6]) ∧ TR w z' x s n f m xs :=
  (rat_no x s n f m i xs z hT.1 h).mono fun e z' ⟨h1, h2⟩ => ⟨h1, hT.below h2⟩
theorem lenT {w z : World} {x s n f m : Nat} {xs : Nat → Value} (hT : TR w z x s n f m xs) : Calls Try.prog 26 #[.pointer (some ⟨x, 0, none⟩)] z fun e z' => e = .returned (.int .i64 m) ∧ TR w z' x s n f m xs :=
  (rlen_c x s n f m xs z hT.1).mono fun e z' ⟨h1, h2⟩ => ⟨h1, hT.below h2⟩
theorem roomT {w z : World} {x s n f m : Nat} {xs : Nat → Value} (hT : TR w z x s n f m xs) : Calls Try.prog 27 #[.pointer (some ⟨x, 0, none⟩)] z fun e z' => e = .returned (.int .i64 ((n : Int) - m)) ∧ TR w z' x s n f m xs :=
  (rroom_c x s n f m xs z hT.1).mono fun e z' ⟨h1, h2⟩ => ⟨h1, hT.below h2⟩
theorem newT (n : Nat) (h1 : 1 ≤ n) (h2 : n ≤ 64) (w : World) : Calls Try.prog 23 #[.int .i64 n] w fun e w' => e = .returned (.tuple #[.pointer (some ⟨w.heap.size + 1, 0, none⟩), .int .i64 0]) ∧ TR w w' (w.heap.size + 1) w.heap.size n 0 0 (fun _ => .int .i64 0) :=
  (rnew_ok n h1 h2 w).mono fun e z' ⟨h1, h2, h3⟩ => ⟨h1, h2, h3, Nat.le_add_right _ _, Nat.le_refl _⟩
end Go.Proofs.Ytohdcpkacdaanaa
