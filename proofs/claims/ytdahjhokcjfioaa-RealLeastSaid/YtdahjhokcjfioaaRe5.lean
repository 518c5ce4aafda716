/- What story's walk keeps in memory: the leaf's block, the result's, the curve's, and the wakes' row. -/
import Derived.Test.YtdahjhokcjfioaaRe4
namespace Go.Proofs.Ytdahjhokcjfioaa
set_option linter.unusedVariables false
set_option linter.unusedSimpArgs false
set_option maxRecDepth 100000
open Go.RowKit Fg Reg
attribute [local irreducible] Reg.wE

theorem range_belB {B b o : Nat} {W z : World} {cs : List Value} (h : W.rangeAt b o cs) (hb : Below B W z) (hlt : b < B) : z.rangeAt b o cs := fun j v hv => by
  rw [← h j v hv]
  exact hb.cell (p := ⟨b, o + j, none⟩) hlt
theorem there_belB {B b n : Nat} {W z : World} (h : W.there b 0 n) (hb : Below B W z) (hlt : b < B) : z.there b 0 n := fun j hj => by
  have := h j hj
  rw [← hb.cell (p := ⟨b, 0 + j, none⟩) hlt, ← hb.frozen (p := ⟨b, 0 + j, none⟩) hlt] at this
  exact this
theorem grown_at {w z : World} {row : Option Nat} (hg : w.grownBy z row) {b : Nat} (hb : b < w.heap.size) (hr : ∀ k, row = some k → k ≠ b) (o : Nat) : z.cell? ⟨b, o, none⟩ = w.cell? ⟨b, o, none⟩ ∧ z.frozen? ⟨b, o, none⟩ = w.frozen? ⟨b, o, none⟩ := by
  have h := hg.block b hb (fun e => hr b e.symm rfl)
  exact ⟨World.cell?_of_block h, World.frozen?_of_block h⟩
theorem own_set20 {z : World} {X : Nat} {e : TypeId} {size n : Nat} {v : Value} {xs : List Value} (h : z.ownsRow (X + 1) e size v n xs) (o : Nat) (u : Value) : (z.setCell ⟨X, o, none⟩ u).ownsRow (X + 1) e size v n xs :=
  row_only h ((Only.refl (fun k => k = X) z).setCell (.inl rfl) u) (fun k hk hle => by subst hk; omega)
theorem own_sets20 {X : Nat} {e : TypeId} {size n : Nat} {v : Value} {xs : List Value} : ∀ (vs : List Value) (o : Nat) (z : World), z.ownsRow (X + 1) e size v n xs → (z.setCells X o vs).ownsRow (X + 1) e size v n xs
  | [], _, _, h => h
  | u :: r, o, z, h => own_sets20 r (o + 1) (z.setCell ⟨X, o, none⟩ u) (own_set20 h o u)
/-- The worlds of story's loop, w the world at its call. -/
structure SW (w z : World) (c1 cd c2 : Int) (h : Bool) (D R : Rn) (p e d : Int) : Prop where
  leaf : z.rangeAt (w.heap.size + 2) 0 (#[.bool (h), .int .u64 (D.x1), .int .u64 (hi D.y1), .int .u64 (lo D.y1), .int .u64 (D.m1), .int .u64 (D.x2), .int .u64 (hi D.y2), .int .u64 (lo D.y2), .int .u64 (D.m2), .bool (D.b), .int .u64 (R.x1), .int .u64 (hi R.y1), .int .u64 (lo R.y1), .int .u64 (R.m1), .int .u64 (R.x2), .int .u64 (hi R.y2), .int .u64 (lo R.y2), .int .u64 (R.m2), .bool (R.b), .int .u64 (p), .int .u64 (e), .int .u64 (d)]).toList
  th : z.there (w.heap.size + 2) 0 22
  out : z.there (w.heap.size + 1) 0 22
  cv : z.rangeAt w.heap.size 0 [.int .u64 c1, .int .u64 cd, .int .u64 c2]
  sz : w.heap.size + 3 ≤ z.heap.size
  bel : Below w.heap.size w z
theorem SW.keep {w z z' : World} {c1 cd c2 : Int} {h : Bool} {D R : Rn} {p e d : Int} {B : Nat} (s : SW w z c1 cd c2 h D R p e d) (hb : Below B z z') (hB : w.heap.size + 3 ≤ B) : SW w z' c1 cd c2 h D R p e d := by
  obtain ⟨a, b, c, f, g, i⟩ := s
  exact ⟨range_belB a hb (by omega), there_belB b hb (by omega), there_belB c hb (by omega), range_belB f hb (by omega), by have := hb.size; omega, i.trans (hb.mono (by omega))⟩
theorem SW.set {w z : World} {c1 cd c2 : Int} {h h' : Bool} {D R D' R' : Rn} {p e d p' e' d' : Int} (s : SW w z c1 cd c2 h D R p e d) : SW w (z.setCells (w.heap.size + 2) 0 (#[.bool (h'), .int .u64 (D'.x1), .int .u64 (hi D'.y1), .int .u64 (lo D'.y1), .int .u64 (D'.m1), .int .u64 (D'.x2), .int .u64 (hi D'.y2), .int .u64 (lo D'.y2), .int .u64 (D'.m2), .bool (D'.b), .int .u64 (R'.x1), .int .u64 (hi R'.y1), .int .u64 (lo R'.y1), .int .u64 (R'.m1), .int .u64 (R'.x2), .int .u64 (hi R'.y2), .int .u64 (lo R'.y2), .int .u64 (R'.m2), .bool (R'.b), .int .u64 (p'), .int .u64 (e'), .int .u64 (d')]).toList) c1 cd c2 h' D' R' p' e' d' := by
  obtain ⟨a, b, c, f, g, i⟩ := s
  have hb := below_setCells (B := w.heap.size + 2) (b := w.heap.size + 2) (Nat.le_refl _) (#[.bool (h'), .int .u64 (D'.x1), .int .u64 (hi D'.y1), .int .u64 (lo D'.y1), .int .u64 (D'.m1), .int .u64 (D'.x2), .int .u64 (hi D'.y2), .int .u64 (lo D'.y2), .int .u64 (D'.m2), .bool (D'.b), .int .u64 (R'.x1), .int .u64 (hi R'.y1), .int .u64 (lo R'.y1), .int .u64 (R'.m1), .int .u64 (R'.x2), .int .u64 (hi R'.y2), .int .u64 (lo R'.y2), .int .u64 (R'.m2), .bool (R'.b), .int .u64 (p'), .int .u64 (e'), .int .u64 (d')]).toList 0 z (Below.refl (w.heap.size + 2) z)
  exact ⟨World.rangeAt_setCells_same _ _ _ _ b, World.there_setCells b _ _ _, there_belB c hb (by omega), range_belB f hb (by omega), by have := hb.size; omega, i.trans (hb.mono (by omega))⟩
theorem SW.pick {w z : World} {c1 cd c2 : Int} {h : Bool} {D R : Rn} {p e d : Int} (s : SW w z c1 cd c2 h D R p e d) : z.cell? ⟨w.heap.size + 2, 19, none⟩ = some (.int .u64 p) := s.leaf 19 _ rfl
theorem SW.curve {w z : World} {c1 cd c2 : Int} {h : Bool} {D R : Rn} {p e d : Int} (s : SW w z c1 cd c2 h D R p e d) : z.cell? ⟨w.heap.size, 0, none⟩ = some (.int .u64 c1) ∧ z.cell? ⟨w.heap.size, 1, none⟩ = some (.int .u64 cd) ∧ z.cell? ⟨w.heap.size, 2, none⟩ = some (.int .u64 c2) := ⟨s.cv 0 _ rfl, s.cv 1 _ rfl, s.cv 2 _ rfl⟩
/-- At the loop's start: the curve, the result and the leaf have been laid, all zero. -/
theorem sw_start (w : World) (c1 cd c2 : Int) (tC tL : TypeId) : SW w (((w.alloc (.cells #[.int .u64 c1, .int .u64 cd, .int .u64 c2] tC)).alloc (.cells #[.bool false, .int .u64 0, .int .u64 0, .int .u64 0, .int .u64 0, .int .u64 0, .int .u64 0, .int .u64 0, .int .u64 0, .bool false, .int .u64 0, .int .u64 0, .int .u64 0, .int .u64 0, .int .u64 0, .int .u64 0, .int .u64 0, .int .u64 0, .bool false, .int .u64 0, .int .u64 0, .int .u64 0] tL)).alloc (.cells #[.bool false, .int .u64 0, .int .u64 0, .int .u64 0, .int .u64 0, .int .u64 0, .int .u64 0, .int .u64 0, .int .u64 0, .bool false, .int .u64 0, .int .u64 0, .int .u64 0, .int .u64 0, .int .u64 0, .int .u64 0, .int .u64 0, .int .u64 0, .bool false, .int .u64 0, .int .u64 0, .int .u64 0] tL)) c1 cd c2 false (⟨false, 0, 0, 0, 0, 0, 0⟩ : Rn) (⟨false, 0, 0, 0, 0, 0, 0⟩ : Rn) 0 0 0 := by
  have e : (#[.bool (false), .int .u64 ((⟨false, 0, 0, 0, 0, 0, 0⟩ : Rn).x1), .int .u64 (hi (⟨false, 0, 0, 0, 0, 0, 0⟩ : Rn).y1), .int .u64 (lo (⟨false, 0, 0, 0, 0, 0, 0⟩ : Rn).y1), .int .u64 ((⟨false, 0, 0, 0, 0, 0, 0⟩ : Rn).m1), .int .u64 ((⟨false, 0, 0, 0, 0, 0, 0⟩ : Rn).x2), .int .u64 (hi (⟨false, 0, 0, 0, 0, 0, 0⟩ : Rn).y2), .int .u64 (lo (⟨false, 0, 0, 0, 0, 0, 0⟩ : Rn).y2), .int .u64 ((⟨false, 0, 0, 0, 0, 0, 0⟩ : Rn).m2), .bool ((⟨false, 0, 0, 0, 0, 0, 0⟩ : Rn).b), .int .u64 ((⟨false, 0, 0, 0, 0, 0, 0⟩ : Rn).x1), .int .u64 (hi (⟨false, 0, 0, 0, 0, 0, 0⟩ : Rn).y1), .int .u64 (lo (⟨false, 0, 0, 0, 0, 0, 0⟩ : Rn).y1), .int .u64 ((⟨false, 0, 0, 0, 0, 0, 0⟩ : Rn).m1), .int .u64 ((⟨false, 0, 0, 0, 0, 0, 0⟩ : Rn).x2), .int .u64 (hi (⟨false, 0, 0, 0, 0, 0, 0⟩ : Rn).y2), .int .u64 (lo (⟨false, 0, 0, 0, 0, 0, 0⟩ : Rn).y2), .int .u64 ((⟨false, 0, 0, 0, 0, 0, 0⟩ : Rn).m2), .bool ((⟨false, 0, 0, 0, 0, 0, 0⟩ : Rn).b), .int .u64 (0), .int .u64 (0), .int .u64 (0)] : Array Value).toList = (#[.bool false, .int .u64 0, .int .u64 0, .int .u64 0, .int .u64 0, .int .u64 0, .int .u64 0, .int .u64 0, .int .u64 0, .bool false, .int .u64 0, .int .u64 0, .int .u64 0, .int .u64 0, .int .u64 0, .int .u64 0, .int .u64 0, .int .u64 0, .bool false, .int .u64 0, .int .u64 0, .int .u64 0] : Array Value).toList := by kernel_rfl
  have s1 : (w.alloc (.cells #[.int .u64 c1, .int .u64 cd, .int .u64 c2] tC)).heap.size = w.heap.size + 1 := by simp
  have s2 : ((w.alloc (.cells #[.int .u64 c1, .int .u64 cd, .int .u64 c2] tC)).alloc (.cells #[.bool false, .int .u64 0, .int .u64 0, .int .u64 0, .int .u64 0, .int .u64 0, .int .u64 0, .int .u64 0, .int .u64 0, .bool false, .int .u64 0, .int .u64 0, .int .u64 0, .int .u64 0, .int .u64 0, .int .u64 0, .int .u64 0, .int .u64 0, .bool false, .int .u64 0, .int .u64 0, .int .u64 0] tL)).heap.size = w.heap.size + 2 := by simp
  have a := range_new w [.int .u64 c1, .int .u64 cd, .int .u64 c2] tC
  have b := there_new (w.alloc (.cells #[.int .u64 c1, .int .u64 cd, .int .u64 c2] tC)) (#[.bool false, .int .u64 0, .int .u64 0, .int .u64 0, .int .u64 0, .int .u64 0, .int .u64 0, .int .u64 0, .int .u64 0, .bool false, .int .u64 0, .int .u64 0, .int .u64 0, .int .u64 0, .int .u64 0, .int .u64 0, .int .u64 0, .int .u64 0, .bool false, .int .u64 0, .int .u64 0, .int .u64 0] : Array Value).toList tL
  have c := there_new ((w.alloc (.cells #[.int .u64 c1, .int .u64 cd, .int .u64 c2] tC)).alloc (.cells #[.bool false, .int .u64 0, .int .u64 0, .int .u64 0, .int .u64 0, .int .u64 0, .int .u64 0, .int .u64 0, .int .u64 0, .bool false, .int .u64 0, .int .u64 0, .int .u64 0, .int .u64 0, .int .u64 0, .int .u64 0, .int .u64 0, .int .u64 0, .bool false, .int .u64 0, .int .u64 0, .int .u64 0] tL)) (#[.bool false, .int .u64 0, .int .u64 0, .int .u64 0, .int .u64 0, .int .u64 0, .int .u64 0, .int .u64 0, .int .u64 0, .bool false, .int .u64 0, .int .u64 0, .int .u64 0, .int .u64 0, .int .u64 0, .int .u64 0, .int .u64 0, .int .u64 0, .bool false, .int .u64 0, .int .u64 0, .int .u64 0] : Array Value).toList tL
  have d := range_new ((w.alloc (.cells #[.int .u64 c1, .int .u64 cd, .int .u64 c2] tC)).alloc (.cells #[.bool false, .int .u64 0, .int .u64 0, .int .u64 0, .int .u64 0, .int .u64 0, .int .u64 0, .int .u64 0, .int .u64 0, .bool false, .int .u64 0, .int .u64 0, .int .u64 0, .int .u64 0, .int .u64 0, .int .u64 0, .int .u64 0, .int .u64 0, .bool false, .int .u64 0, .int .u64 0, .int .u64 0] tL)) (#[.bool false, .int .u64 0, .int .u64 0, .int .u64 0, .int .u64 0, .int .u64 0, .int .u64 0, .int .u64 0, .int .u64 0, .bool false, .int .u64 0, .int .u64 0, .int .u64 0, .int .u64 0, .int .u64 0, .int .u64 0, .int .u64 0, .int .u64 0, .bool false, .int .u64 0, .int .u64 0, .int .u64 0] : Array Value).toList tL
  rw [s1] at b
  rw [s2] at c d
  refine ⟨?_, c, there_alloc b (by simp) _, World.rangeAt_alloc (World.rangeAt_alloc a _) _, by simp, ((((Below.refl w.heap.size w).alloc (Nat.le_refl _) _).alloc (by simp) _).alloc (by simp; omega) _)⟩
  rw [e]
  exact d
end Go.Proofs.Ytdahjhokcjfioaa
