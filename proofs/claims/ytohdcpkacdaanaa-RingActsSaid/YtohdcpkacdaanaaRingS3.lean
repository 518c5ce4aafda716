import Derived.Test.YtohdcpkacdaanaaRing3
import Derived.Test.YtohdcpkacdaanaaRingS2
namespace Go.Proofs.Ytohdcpkacdaanaa
set_option linter.unusedVariables false
set_option linter.unusedSimpArgs false
set_option maxRecDepth 100000
open Go.RowKit Fg Reg

theorem spushT {w z : World} {x s n f m : Nat} {v : ByteArray} {xs : Nat → Value} (hT : TR w z x s n f m xs) (h : m < n) : Calls Try.prog 32 #[.pointer (some ⟨x, 0, none⟩), .string v] z fun e z' => e = .returned (.int .i64 0) ∧ TR w z' x s n f (m + 1) (upd xs (ato f m n) (.string v)) :=
  (srpush_ok x s n f m v xs z hT.1 h).mono fun e z' ⟨h1, h2, h3⟩ => ⟨h1, hT.only h2 h3⟩
theorem sfullT {w z : World} {x s n f : Nat} {v : ByteArray} {xs : Nat → Value} (hT : TR w z x s n f n xs) : Calls Try.prog 32 #[.pointer (some ⟨x, 0, none⟩), .string v] z fun e z' => e = .returned (.int .i64 5) ∧ TR w z' x s n f n xs :=
  (srpush_full x s n f v xs z hT.1).mono fun e z' ⟨h1, h2⟩ => ⟨h1, hT.below h2⟩
theorem spopT {w z : World} {x s n f m : Nat} {xs : Nat → Value} (hT : TR w z x s n f m xs) (h : 0 < m) : Calls Try.prog 31 #[.pointer (some ⟨x, 0, none⟩)] z fun e z' => e = .returned (.tuple #[xs f, .int .i64 0]) ∧ TR w z' x s n (ato f 1 n) (m - 1) (upd xs f (.string ⟨#[]⟩)) :=
  (srpop_ok x s n f m xs z hT.1 h).mono fun e z' ⟨h1, h2, h3⟩ => ⟨h1, hT.only h2 h3⟩
theorem snoneT {w z : World} {x s n f : Nat} {xs : Nat → Value} (hT : TR w z x s n f 0 xs) : Calls Try.prog 31 #[.pointer (some ⟨x, 0, none⟩)] z fun e z' => e = .returned (.tuple #[.string ⟨#[]⟩, .int .i64 6]) ∧ TR w z' x s n f 0 xs :=
  (srpop_none x s n f xs z hT.1).mono fun e z' ⟨h1, h2⟩ => ⟨h1, hT.below h2⟩
theorem satT {w z : World} {x s n f m : Nat} {xs : Nat → Value} (i : Nat) (hT : TR w z x s n f m xs) (h : i < m) : Calls Try.prog 55 #[.pointer (some ⟨x, 0, none⟩), .int .i64 i] z fun e z' => e = .returned (.tuple #[xs (ato f i n), .int .i64 0]) ∧ TR w z' x s n f m xs :=
  (srat_ok x s n f m i xs z hT.1 h).mono fun e z' ⟨h1, h2⟩ => ⟨h1, hT.below h2⟩
theorem satnoT {w z : World} {x s n f m : Nat} {xs : Nat → Value} (i : Int) (hT : TR w z x s n f m xs) (h : i < 0 ∨ (0 ≤ i ∧ (m : Int) ≤ i)) : Calls Try.prog 55 #[.pointer (some ⟨x, 0, none⟩), .int .i64 i] z fun e z' => e = .returned (.tuple #[.string ⟨#[]⟩, .int .i64 6]) ∧ TR w z' x s n f m xs :=
  (srat_no x s n f m i xs z hT.1 h).mono fun e z' ⟨h1, h2⟩ => ⟨h1, hT.below h2⟩
theorem slenT {w z : World} {x s n f m : Nat} {xs : Nat → Value} (hT : TR w z x s n f m xs) : Calls Try.prog 33 #[.pointer (some ⟨x, 0, none⟩)] z fun e z' => e = .returned (.int .i64 m) ∧ TR w z' x s n f m xs :=
  (srlen_c x s n f m xs z hT.1).mono fun e z' ⟨h1, h2⟩ => ⟨h1, hT.below h2⟩
theorem sroomT {w z : World} {x s n f m : Nat} {xs : Nat → Value} (hT : TR w z x s n f m xs) : Calls Try.prog 30 #[.pointer (some ⟨x, 0, none⟩)] z fun e z' => e = .returned (.int .i64 ((n : Int) - m)) ∧ TR w z' x s n f m xs :=
  (srroom_c x s n f m xs z hT.1).mono fun e z' ⟨h1, h2⟩ => ⟨h1, hT.below h2⟩
theorem snewT (n : Nat) (h1 : 1 ≤ n) (h2 : n ≤ 64) (w : World) : Calls Try.prog 29 #[.int .i64 n] w fun e w' => e = .returned (.tuple #[.pointer (some ⟨w.heap.size + 1, 0, none⟩), .int .i64 0]) ∧ TR w w' (w.heap.size + 1) w.heap.size n 0 0 (fun _ => .string ⟨#[]⟩) :=
  (srnew_ok n h1 h2 w).mono fun e z' ⟨h1, h2, h3⟩ => ⟨h1, h2, h3, Nat.le_add_right _ _, Nat.le_refl _⟩
end Go.Proofs.Ytohdcpkacdaanaa
