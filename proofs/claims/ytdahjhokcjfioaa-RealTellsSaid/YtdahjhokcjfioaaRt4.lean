/- Layer 20's reference: Wake. -/
import Derived.Test.YtdahjhokcjfioaaRt3
namespace Go.Proofs.Ytdahjhokcjfioaa
set_option linter.unusedVariables false
set_option linter.unusedSimpArgs false
set_option maxRecDepth 100000
open Go.RowKit Fg Reg
attribute [local irreducible] Reg.wE World.there World.rangeAt

/-- A region that lays a new block of n cells and fills it with ds; w1 is the world at its start. -/
structure SG (w1 z : World) (n : Nat) (ds ps : List Value) : Prop where
  bel : Below w1.heap.size w1 z
  nw : ∀ u, ps.head? = some u → ∃ b, u = .pointer (some ⟨b, 0, none⟩) ∧ w1.heap.size ≤ b ∧ b < z.heap.size ∧ z.there b 0 n
  fl : ∀ b, ps.head? = some (.pointer (some ⟨b, 0, none⟩)) → 2 ≤ ps.length → z.rangeAt b 0 ds
theorem SG.start {w1 z : World} {n : Nat} {ds : List Value} (h : Below w1.heap.size w1 z) : SG w1 z n ds [] := ⟨h, fun u hu => (by simp at hu), fun b hb _ => (by simp at hb)⟩
theorem SG.keep {w1 z z' : World} {n : Nat} {ds ps : List Value} (s : SG w1 z n ds ps) (hb : Below z.heap.size z z') : SG w1 z' n ds ps := by
  obtain ⟨a, b, c⟩ := s
  refine ⟨a.trans (hb.mono a.size), fun u hu => ?_, fun x hx h2 => ?_⟩
  · obtain ⟨y, e, h1, h2, h3⟩ := b u hu
    exact ⟨y, e, h1, by have := hb.size; omega, there_belB h3 hb h2⟩
  · obtain ⟨y, e, h1, h3, _⟩ := b _ hx
    simp only [Value.pointer.injEq, Option.some.injEq, Addr.mk.injEq, and_true] at e
    subst e
    exact range_belB (c x hx h2) hb h3
theorem SG.alloc {w1 z : World} {n : Nat} {ds : List Value} (s : SG w1 z n ds []) (zs : List Value) (hz : zs.length = n) (t : TypeId) : SG w1 (z.alloc (.cells zs.toArray t)) n ds [.pointer (some ⟨z.heap.size, 0, none⟩)] := by
  obtain ⟨a, b, c⟩ := s
  refine ⟨a.trans ((Below.refl _ _).alloc a.size _), fun u hu => ?_, fun x hx h2 => by simp at h2⟩
  simp at hu
  subst hu
  exact ⟨_, rfl, a.size, by simp, hz ▸ there_new z zs t⟩
theorem SG.th {w1 z : World} {n b : Nat} {ds r : List Value} (s : SG w1 z n ds (.pointer (some ⟨b, 0, none⟩) :: r)) : w1.heap.size ≤ b ∧ b < z.heap.size ∧ z.there b 0 n := by
  obtain ⟨y, e, h⟩ := s.nw _ rfl
  simp only [Value.pointer.injEq, Option.some.injEq, Addr.mk.injEq, and_true] at e
  subst e
  exact h
theorem SG.store {w1 z : World} {n b : Nat} {ds : List Value} (s : SG w1 z n ds [.pointer (some ⟨b, 0, none⟩)]) (hd : ds.length = n) (u : Value) : SG w1 (z.setCells b 0 ds) n ds [.pointer (some ⟨b, 0, none⟩), u] := by
  obtain ⟨h1, h2, h3⟩ := s.th
  have hb := below_setCells (B := w1.heap.size) (b := b) h1 ds 0 z (Below.refl w1.heap.size z)
  have hs := (below_setCells (B := 0) (b := b) (Nat.zero_le _) ds 0 z (Below.refl 0 z)).size
  refine ⟨s.bel.trans hb, fun v hv => ?_, fun x hx _ => ?_⟩
  · simp at hv
    subst hv
    exact ⟨b, rfl, h1, by omega, World.there_setCells h3 _ _ _⟩
  · simp at hx
    subst hx
    exact World.rangeAt_setCells_same _ _ _ _ (hd ▸ h3)
def z13 : List Value := [.int .u64 0, .int .u64 0, .int .u64 0, .int .u64 0, .int .u64 0, .int .u64 0, .int .u64 0, .int .u64 0, .int .u64 0, .int .u64 0, .int .u64 0, .int .u64 0, .bool false]
theorem r13_one (S : Rn) : ∀ v ∈ ([.int .u64 (S.x1), .int .u64 (d0 S.y1), .int .u64 (d1 S.y1), .int .u64 (d2 S.y1), .int .u64 (d3 S.y1), .int .u64 (S.m1), .int .u64 (S.x2), .int .u64 (d0 S.y2), .int .u64 (d1 S.y2), .int .u64 (d2 S.y2), .int .u64 (d3 S.y2), .int .u64 (S.m2), .bool (S.b)] : List Value), v.oneCell' = true := fun v hv => by
  simp only [List.mem_cons, List.not_mem_nil, or_false] at hv
  rcases hv with rfl | rfl | rfl | rfl | rfl | rfl | rfl | rfl | rfl | rfl | rfl | rfl | rfl <;> rfl
/-- The worlds of Wake's second half: the box, the result's block, and the two runs. -/
structure WK (w z : World) (h : Bool) (D R : Rn) (p e d : Int) (bA bB : Nat) (X Y : Rn) : Prop where
  box : z.rangeAt w.heap.size 0 (#[.bool (h), .int .u64 (D.x1), .int .u64 (d0 D.y1), .int .u64 (d1 D.y1), .int .u64 (d2 D.y1), .int .u64 (d3 D.y1), .int .u64 (D.m1), .int .u64 (D.x2), .int .u64 (d0 D.y2), .int .u64 (d1 D.y2), .int .u64 (d2 D.y2), .int .u64 (d3 D.y2), .int .u64 (D.m2), .bool (D.b), .int .u64 (R.x1), .int .u64 (d0 R.y1), .int .u64 (d1 R.y1), .int .u64 (d2 R.y1), .int .u64 (d3 R.y1), .int .u64 (R.m1), .int .u64 (R.x2), .int .u64 (d0 R.y2), .int .u64 (d1 R.y2), .int .u64 (d2 R.y2), .int .u64 (d3 R.y2), .int .u64 (R.m2), .bool (R.b), .int .u64 (p), .int .u64 (e), .int .u64 (d)]).toList
  out : z.there (w.heap.size + 2) 0 30
  ra : z.rangeAt bA 0 [.int .u64 (X.x1), .int .u64 (d0 X.y1), .int .u64 (d1 X.y1), .int .u64 (d2 X.y1), .int .u64 (d3 X.y1), .int .u64 (X.m1), .int .u64 (X.x2), .int .u64 (d0 X.y2), .int .u64 (d1 X.y2), .int .u64 (d2 X.y2), .int .u64 (d3 X.y2), .int .u64 (X.m2), .bool (X.b)]
  ta : z.there bA 0 13
  rb : z.rangeAt bB 0 [.int .u64 (Y.x1), .int .u64 (d0 Y.y1), .int .u64 (d1 Y.y1), .int .u64 (d2 Y.y1), .int .u64 (d3 Y.y1), .int .u64 (Y.m1), .int .u64 (Y.x2), .int .u64 (d0 Y.y2), .int .u64 (d1 Y.y2), .int .u64 (d2 Y.y2), .int .u64 (d3 Y.y2), .int .u64 (Y.m2), .bool (Y.b)]
  tb : z.there bB 0 13
  la : w.heap.size + 3 ≤ bA
  lab : bA < bB
  lb : bB < z.heap.size
  bel : Below w.heap.size w z
theorem WK.keep {w z z' : World} {h : Bool} {D R : Rn} {p e d : Int} {bA bB : Nat} {X Y : Rn} (s : WK w z h D R p e d bA bB X Y) (hb : Below z.heap.size z z') : WK w z' h D R p e d bA bB X Y := by
  obtain ⟨a1, a2, a3, a4, a5, a6, a7, a8, a9, a10⟩ := s
  exact ⟨range_belB a1 hb (by omega), there_belB a2 hb (by omega), range_belB a3 hb (by omega), there_belB a4 hb (by omega), range_belB a5 hb a9, there_belB a6 hb a9, a7, a8, by have := hb.size; omega, a10.trans (hb.mono (by omega))⟩
theorem WK.setA {w z : World} {h : Bool} {D R : Rn} {p e d : Int} {bA bB : Nat} {X Y : Rn} (s : WK w z h D R p e d bA bB X Y) (M : Rn) : WK w (z.setCells bA 0 [.int .u64 (M.x1), .int .u64 (d0 M.y1), .int .u64 (d1 M.y1), .int .u64 (d2 M.y1), .int .u64 (d3 M.y1), .int .u64 (M.m1), .int .u64 (M.x2), .int .u64 (d0 M.y2), .int .u64 (d1 M.y2), .int .u64 (d2 M.y2), .int .u64 (d3 M.y2), .int .u64 (M.m2), .bool (M.b)]) h D R p e d bA bB M Y := by
  obtain ⟨a1, a2, a3, a4, a5, a6, a7, a8, a9, a10⟩ := s
  have hb := below_setCells (B := w.heap.size) (b := bA) (by omega) [.int .u64 (M.x1), .int .u64 (d0 M.y1), .int .u64 (d1 M.y1), .int .u64 (d2 M.y1), .int .u64 (d3 M.y1), .int .u64 (M.m1), .int .u64 (M.x2), .int .u64 (d0 M.y2), .int .u64 (d1 M.y2), .int .u64 (d2 M.y2), .int .u64 (d3 M.y2), .int .u64 (M.m2), .bool (M.b)] 0 z (Below.refl w.heap.size z)
  exact ⟨World.rangeAt_setCells_apart a1 _ _ _ (.inl (by omega)), World.there_setCells a2 _ _ _, World.rangeAt_setCells_same _ _ _ _ a4, World.there_setCells a4 _ _ _, World.rangeAt_setCells_apart a5 _ _ _ (.inl (by omega)), World.there_setCells a6 _ _ _, a7, a8, by have := hb.size; omega, a10.trans hb⟩
theorem WK.setB {w z : World} {h : Bool} {D R : Rn} {p e d : Int} {bA bB : Nat} {X Y : Rn} (s : WK w z h D R p e d bA bB X Y) (M : Rn) : WK w (z.setCells bB 0 [.int .u64 (M.x1), .int .u64 (d0 M.y1), .int .u64 (d1 M.y1), .int .u64 (d2 M.y1), .int .u64 (d3 M.y1), .int .u64 (M.m1), .int .u64 (M.x2), .int .u64 (d0 M.y2), .int .u64 (d1 M.y2), .int .u64 (d2 M.y2), .int .u64 (d3 M.y2), .int .u64 (M.m2), .bool (M.b)]) h D R p e d bA bB X M := by
  obtain ⟨a1, a2, a3, a4, a5, a6, a7, a8, a9, a10⟩ := s
  have hb := below_setCells (B := w.heap.size) (b := bB) (by omega) [.int .u64 (M.x1), .int .u64 (d0 M.y1), .int .u64 (d1 M.y1), .int .u64 (d2 M.y1), .int .u64 (d3 M.y1), .int .u64 (M.m1), .int .u64 (M.x2), .int .u64 (d0 M.y2), .int .u64 (d1 M.y2), .int .u64 (d2 M.y2), .int .u64 (d3 M.y2), .int .u64 (M.m2), .bool (M.b)] 0 z (Below.refl w.heap.size z)
  exact ⟨World.rangeAt_setCells_apart a1 _ _ _ (.inl (by omega)), World.there_setCells a2 _ _ _, World.rangeAt_setCells_apart a3 _ _ _ (.inl (by omega)), World.there_setCells a4 _ _ _, World.rangeAt_setCells_same _ _ _ _ a6, World.there_setCells a6 _ _ _, a7, a8, by have := hb.size; omega, a10.trans hb⟩
theorem WK.cells {w z : World} {h : Bool} {D R : Rn} {p e d : Int} {bA bB : Nat} {X Y : Rn} (s : WK w z h D R p e d bA bB X Y) : z.cell? ⟨w.heap.size, 0, none⟩ = some (.bool h) ∧ z.cell? ⟨w.heap.size, 27, none⟩ = some (.int .u64 p) :=
  ⟨by simpa using range_get s.box 0 _ rfl, by simpa using range_get s.box 27 _ rfl⟩
theorem wake_start (w : World) (cs zs : List Value) (a b c : Value) (t1 t2 t3 : TypeId) : (fun z : World => z.rangeAt w.heap.size 0 cs ∧ z.rangeAt (w.heap.size + 1) 0 [a, b, c] ∧ z.there (w.heap.size + 2) 0 zs.length ∧ w.heap.size + 2 < z.heap.size ∧ Below w.heap.size w z) (((w.alloc (.cells cs.toArray t1)).alloc (.cells #[a, b, c] t2)).alloc (.cells zs.toArray t3)) := by
  have s2 : ((w.alloc (.cells cs.toArray t1)).alloc (.cells #[a, b, c] t2)).heap.size = w.heap.size + 2 := by simp
  have y := there_new ((w.alloc (.cells cs.toArray t1)).alloc (.cells #[a, b, c] t2)) zs t3
  rw [s2] at y
  exact ⟨World.rangeAt_alloc (range_alloc2 w _ _ _) _, World.rangeAt_alloc (range_new2 w _ [a, b, c] t2) _, y, by simp, (((Below.refl w.heap.size w).alloc (Nat.le_refl _) _).alloc (by simp) _).alloc (by simp; omega) _⟩
theorem wake_end {w z : World} {h : Bool} {D R : Rn} {p e d : Int} {bA bB : Nat} {X Y : Rn} (s : WK w z h D R p e d bA bB X Y) (ds : List Value) (t : TypeId) : (fun y : World => y.rangeAt z.heap.size 0 ds ∧ y.there (w.heap.size + 2) 0 30 ∧ w.heap.size + 2 < y.heap.size ∧ Below w.heap.size w y) (z.alloc (.cells ds.toArray t)) := by
  obtain ⟨a1, a2, a3, a4, a5, a6, a7, a8, a9, a10⟩ := s
  exact ⟨range_new z ds t, World.there_alloc a2 _, by simp; omega, a10.alloc (by omega) _⟩
end Go.Proofs.Ytdahjhokcjfioaa
