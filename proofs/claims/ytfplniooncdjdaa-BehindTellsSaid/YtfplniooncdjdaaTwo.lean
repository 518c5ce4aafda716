import Derived.Test.YtfplniooncdjdaaBaseA
namespace Go.Proofs.Ytfplniooncdjdaa
set_option linter.unusedVariables false
set_option linter.unusedSimpArgs false
set_option maxRecDepth 100000
open Go.RowKit Fg Reg

/-- What a region with two new numbers leaves alone. -/
structure TB (L : Nat) (Bs : World → Prop) : Prop where
  low : ∀ n, Bs n → L ≤ n.heap.size
  keep : ∀ n n' x, Bs n → L ≤ x → Only (fun k => k = x) n n' → Bs n'
theorem TB.below {L : Nat} {Bs : World → Prop} (h : TB L Bs) {n n' : World} (hb : Bs n) (hbel : Below n.heap.size n n') : Bs n' :=
  h.keep n n' n.heap.size hb (h.low n hb) (Only.of_below hbel)
theorem b2_only {n n' : World} {x y : Nat} {p q : Int} (h : (n.cell? ⟨x, 0, none⟩ = some (.int .u64 p) ∧ n.cell? ⟨x, 1, none⟩ = some (.int .u64 q) ∧ n.frozen? ⟨x, 0, none⟩ = false ∧ n.frozen? ⟨x, 1, none⟩ = false ∧ x < n.heap.size)) (ho : Only (fun k => k = y) n n') (hx : ¬ x = y) : (n'.cell? ⟨x, 0, none⟩ = some (.int .u64 p) ∧ n'.cell? ⟨x, 1, none⟩ = some (.int .u64 q) ∧ n'.frozen? ⟨x, 0, none⟩ = false ∧ n'.frozen? ⟨x, 1, none⟩ = false ∧ x < n'.heap.size) := by
  obtain ⟨h1, h2, h3, h4, h5⟩ := h
  exact ⟨(ho.cell h5 hx).trans h1, (ho.cell h5 hx).trans h2, (ho.frozen h5 hx).trans h3, (ho.frozen h5 hx).trans h4, Nat.lt_of_lt_of_le h5 ho.size⟩
theorem b2_below {n n' : World} {x : Nat} {p q : Int} (h : (n.cell? ⟨x, 0, none⟩ = some (.int .u64 p) ∧ n.cell? ⟨x, 1, none⟩ = some (.int .u64 q) ∧ n.frozen? ⟨x, 0, none⟩ = false ∧ n.frozen? ⟨x, 1, none⟩ = false ∧ x < n.heap.size)) (hb : Below n.heap.size n n') : (n'.cell? ⟨x, 0, none⟩ = some (.int .u64 p) ∧ n'.cell? ⟨x, 1, none⟩ = some (.int .u64 q) ∧ n'.frozen? ⟨x, 0, none⟩ = false ∧ n'.frozen? ⟨x, 1, none⟩ = false ∧ x < n'.heap.size) :=
  b2_only (y := n.heap.size) h (Only.of_below hb) (by have := h.2.2.2.2; omega)
theorem ch2_only (n : World) (x : Nat) (p q : Int) : Only (fun k => k = x) n ((n.setCell ⟨x, 0, none⟩ (.int .u64 p)).setCell ⟨x, 1, none⟩ (.int .u64 q)) := ((Only.refl _ n).setOne 0 none _).setOne 1 none _
theorem ch2_cells {n : World} {x : Nat} {p q : Int} (a b : Int) (h : (n.cell? ⟨x, 0, none⟩ = some (.int .u64 p) ∧ n.cell? ⟨x, 1, none⟩ = some (.int .u64 q) ∧ n.frozen? ⟨x, 0, none⟩ = false ∧ n.frozen? ⟨x, 1, none⟩ = false ∧ x < n.heap.size)) : (((n.setCell ⟨x, 0, none⟩ (.int .u64 a)).setCell ⟨x, 1, none⟩ (.int .u64 b)).cell? ⟨x, 0, none⟩ = some (.int .u64 a) ∧ ((n.setCell ⟨x, 0, none⟩ (.int .u64 a)).setCell ⟨x, 1, none⟩ (.int .u64 b)).cell? ⟨x, 1, none⟩ = some (.int .u64 b) ∧ ((n.setCell ⟨x, 0, none⟩ (.int .u64 a)).setCell ⟨x, 1, none⟩ (.int .u64 b)).frozen? ⟨x, 0, none⟩ = false ∧ ((n.setCell ⟨x, 0, none⟩ (.int .u64 a)).setCell ⟨x, 1, none⟩ (.int .u64 b)).frozen? ⟨x, 1, none⟩ = false ∧ x < ((n.setCell ⟨x, 0, none⟩ (.int .u64 a)).setCell ⟨x, 1, none⟩ (.int .u64 b)).heap.size) := by
  obtain ⟨h1, h2, h3, h4, h5⟩ := h
  refine ⟨?_, ?_, ?_, ?_, ?_⟩ <;> simp [go_sem, *]
/-- The worlds of the region: what effects were had, by their indexes. -/
def M2 (L : Nat) (Bs : World → Prop) (a b c d : Int) (i : Nat) (ps : List (Nat × Value)) (n : World) : Prop :=
  Bs n ∧ match ps with
  | [] => True
  | [(_, p)] => ∃ x : Nat, p = Value.pointer (some ⟨x, 0, none⟩) ∧ L ≤ x ∧ (n.cell? ⟨x, 0, none⟩ = some (.int .u64 0) ∧ n.cell? ⟨x, 1, none⟩ = some (.int .u64 0) ∧ n.frozen? ⟨x, 0, none⟩ = false ∧ n.frozen? ⟨x, 1, none⟩ = false ∧ x < n.heap.size)
  | [(_, p), (_, q)] => ∃ x y : Nat, (p = Value.pointer (some ⟨x, 0, none⟩) ∧ q = Value.pointer (some ⟨y, 0, none⟩) ∧ L ≤ x ∧ L ≤ y ∧ ¬ x = y) ∧ (n.cell? ⟨x, 0, none⟩ = some (.int .u64 0) ∧ n.cell? ⟨x, 1, none⟩ = some (.int .u64 0) ∧ n.frozen? ⟨x, 0, none⟩ = false ∧ n.frozen? ⟨x, 1, none⟩ = false ∧ x < n.heap.size) ∧ (n.cell? ⟨y, 0, none⟩ = some (.int .u64 0) ∧ n.cell? ⟨y, 1, none⟩ = some (.int .u64 0) ∧ n.frozen? ⟨y, 0, none⟩ = false ∧ n.frozen? ⟨y, 1, none⟩ = false ∧ y < n.heap.size)
  | [(k, p), (_, q), _] => ∃ x y : Nat, (p = Value.pointer (some ⟨x, 0, none⟩) ∧ q = Value.pointer (some ⟨y, 0, none⟩) ∧ L ≤ x ∧ L ≤ y ∧ ¬ x = y) ∧ (if k = i then ((n.cell? ⟨x, 0, none⟩ = some (.int .u64 a) ∧ n.cell? ⟨x, 1, none⟩ = some (.int .u64 b) ∧ n.frozen? ⟨x, 0, none⟩ = false ∧ n.frozen? ⟨x, 1, none⟩ = false ∧ x < n.heap.size) ∧ (n.cell? ⟨y, 0, none⟩ = some (.int .u64 0) ∧ n.cell? ⟨y, 1, none⟩ = some (.int .u64 0) ∧ n.frozen? ⟨y, 0, none⟩ = false ∧ n.frozen? ⟨y, 1, none⟩ = false ∧ y < n.heap.size)) else ((n.cell? ⟨x, 0, none⟩ = some (.int .u64 0) ∧ n.cell? ⟨x, 1, none⟩ = some (.int .u64 0) ∧ n.frozen? ⟨x, 0, none⟩ = false ∧ n.frozen? ⟨x, 1, none⟩ = false ∧ x < n.heap.size) ∧ (n.cell? ⟨y, 0, none⟩ = some (.int .u64 a) ∧ n.cell? ⟨y, 1, none⟩ = some (.int .u64 b) ∧ n.frozen? ⟨y, 0, none⟩ = false ∧ n.frozen? ⟨y, 1, none⟩ = false ∧ y < n.heap.size)))
  | (k, p) :: (_, q) :: _ :: _ :: _ => ∃ x y : Nat, (p = Value.pointer (some ⟨x, 0, none⟩) ∧ q = Value.pointer (some ⟨y, 0, none⟩) ∧ L ≤ x ∧ L ≤ y ∧ ¬ x = y) ∧ (if k = i then ((n.cell? ⟨x, 0, none⟩ = some (.int .u64 a) ∧ n.cell? ⟨x, 1, none⟩ = some (.int .u64 b) ∧ n.frozen? ⟨x, 0, none⟩ = false ∧ n.frozen? ⟨x, 1, none⟩ = false ∧ x < n.heap.size) ∧ (n.cell? ⟨y, 0, none⟩ = some (.int .u64 c) ∧ n.cell? ⟨y, 1, none⟩ = some (.int .u64 d) ∧ n.frozen? ⟨y, 0, none⟩ = false ∧ n.frozen? ⟨y, 1, none⟩ = false ∧ y < n.heap.size)) else ((n.cell? ⟨x, 0, none⟩ = some (.int .u64 c) ∧ n.cell? ⟨x, 1, none⟩ = some (.int .u64 d) ∧ n.frozen? ⟨x, 0, none⟩ = false ∧ n.frozen? ⟨x, 1, none⟩ = false ∧ x < n.heap.size) ∧ (n.cell? ⟨y, 0, none⟩ = some (.int .u64 a) ∧ n.cell? ⟨y, 1, none⟩ = some (.int .u64 b) ∧ n.frozen? ⟨y, 0, none⟩ = false ∧ n.frozen? ⟨y, 1, none⟩ = false ∧ y < n.heap.size)))
structure M2S (L : Nat) (Bs : World → Prop) (a b c d : Int) (i : Nat) (ps : List (Nat × Value)) (n : World) : Prop where
  h : M2 L Bs a b c d i ps n
theorem M2.base {L : Nat} {Bs : World → Prop} {a b c d : Int} {i : Nat} {ps : List (Nat × Value)} {n : World} (h : M2 L Bs a b c d i ps n) : Bs n := h.1
theorem M2.below {L : Nat} {Bs : World → Prop} {a b c d : Int} {i : Nat} {ps : List (Nat × Value)} {n n' : World} (hB : TB L Bs) (h : M2 L Bs a b c d i ps n) (hbel : Below n.heap.size n n') : M2 L Bs a b c d i ps n' := by
  obtain ⟨hb, hm⟩ := h
  refine ⟨hB.below hb hbel, ?_⟩
  rcases ps with _ | ⟨⟨k, p⟩, _ | ⟨⟨l, q⟩, _ | ⟨r, _ | ⟨r2, ps⟩⟩⟩⟩
  · exact trivial
  · obtain ⟨x, hp, h1, h2⟩ := hm
    exact ⟨x, hp, h1, b2_below h2 hbel⟩
  · obtain ⟨x, y, h1, h2, h3⟩ := hm
    exact ⟨x, y, h1, b2_below h2 hbel, b2_below h3 hbel⟩
  · obtain ⟨x, y, h1, h2⟩ := hm
    refine ⟨x, y, h1, ?_⟩
    split
    · rename_i hk
      rw [if_pos hk] at h2
      exact ⟨b2_below h2.1 hbel, b2_below h2.2 hbel⟩
    · rename_i hk
      rw [if_neg hk] at h2
      exact ⟨b2_below h2.1 hbel, b2_below h2.2 hbel⟩
  · obtain ⟨x, y, h1, h2⟩ := hm
    refine ⟨x, y, h1, ?_⟩
    split
    · rename_i hk
      rw [if_pos hk] at h2
      exact ⟨b2_below h2.1 hbel, b2_below h2.2 hbel⟩
    · rename_i hk
      rw [if_neg hk] at h2
      exact ⟨b2_below h2.1 hbel, b2_below h2.2 hbel⟩
theorem b2_new (n : World) (t : TypeId) : ((n.alloc (.cells #[.int .u64 0, .int .u64 0] t)).cell? ⟨n.heap.size, 0, none⟩ = some (.int .u64 0) ∧ (n.alloc (.cells #[.int .u64 0, .int .u64 0] t)).cell? ⟨n.heap.size, 1, none⟩ = some (.int .u64 0) ∧ (n.alloc (.cells #[.int .u64 0, .int .u64 0] t)).frozen? ⟨n.heap.size, 0, none⟩ = false ∧ (n.alloc (.cells #[.int .u64 0, .int .u64 0] t)).frozen? ⟨n.heap.size, 1, none⟩ = false ∧ n.heap.size < (n.alloc (.cells #[.int .u64 0, .int .u64 0] t)).heap.size) := by
  refine ⟨?_, ?_, ?_, ?_, ?_⟩ <;> simp [go_sem]
theorem M2.alloc1 {L : Nat} {Bs : World → Prop} {a b c d : Int} {i : Nat} {n : World} {k : Nat} {t : TypeId} (hB : TB L Bs) (h : M2 L Bs a b c d i [] n) : M2 L Bs a b c d i [(k, Value.pointer (some ⟨n.heap.size, 0, none⟩))] (n.alloc (.cells #[.int .u64 0, .int .u64 0] t)) := by
  have h1 := h.below hB (Below.alloc (Below.refl _ n) (Nat.le_refl _) (.cells #[.int .u64 0, .int .u64 0] t))
  exact ⟨h1.1, n.heap.size, rfl, hB.low n h.1, b2_new n t⟩
theorem M2.alloc2 {L : Nat} {Bs : World → Prop} {a b c d : Int} {i : Nat} {n : World} {k l : Nat} {p : Value} {t : TypeId} (hB : TB L Bs) (h : M2 L Bs a b c d i [(k, p)] n) : M2 L Bs a b c d i [(k, p), (l, Value.pointer (some ⟨n.heap.size, 0, none⟩))] (n.alloc (.cells #[.int .u64 0, .int .u64 0] t)) := by
  have h1 := h.below hB (Below.alloc (Below.refl _ n) (Nat.le_refl _) (.cells #[.int .u64 0, .int .u64 0] t))
  obtain ⟨-, x0, hp0, -, hx0⟩ := h
  obtain ⟨hb, x, hp, h2, h3⟩ := h1
  have hl := hx0.2.2.2.2
  have hl2 := hB.low (n.alloc (.cells #[.int .u64 0, .int .u64 0] t)) hb
  have e : x = x0 := by rw [hp] at hp0; simpa using hp0
  refine ⟨hb, x, n.heap.size, ⟨hp, rfl, h2, ?_, ?_⟩, h3, b2_new n t⟩
  · omega
  · omega
theorem M2.fst {L : Nat} {Bs : World → Prop} {a b c d : Int} {i : Nat} {k : Nat} {p : Value} (h : ∃ n, M2 L Bs a b c d i [(k, p)] n) : ∃ x : Nat, p = Value.pointer (some ⟨x, 0, none⟩) := by
  obtain ⟨n, -, x, hp, -⟩ := h
  exact ⟨x, hp⟩
theorem M2.sec {L : Nat} {Bs : World → Prop} {a b c d : Int} {i : Nat} {k l : Nat} {p q : Value} (h : ∃ n, M2 L Bs a b c d i [(k, p), (l, q)] n) : ∃ y : Nat, q = Value.pointer (some ⟨y, 0, none⟩) := by
  obtain ⟨n, -, x, y, ⟨-, hq, -⟩, -⟩ := h
  exact ⟨y, hq⟩
theorem M2.getA {L : Nat} {Bs : World → Prop} {a b c d : Int} {i : Nat} {n : World} {k l x y : Nat} (h : M2 L Bs a b c d i [(k, Value.pointer (some ⟨x, 0, none⟩)), (l, Value.pointer (some ⟨y, 0, none⟩))] n) : L ≤ x ∧ L ≤ y ∧ ¬ x = y ∧ (n.cell? ⟨x, 0, none⟩ = some (.int .u64 0) ∧ n.cell? ⟨x, 1, none⟩ = some (.int .u64 0) ∧ n.frozen? ⟨x, 0, none⟩ = false ∧ n.frozen? ⟨x, 1, none⟩ = false ∧ x < n.heap.size) ∧ (n.cell? ⟨y, 0, none⟩ = some (.int .u64 0) ∧ n.cell? ⟨y, 1, none⟩ = some (.int .u64 0) ∧ n.frozen? ⟨y, 0, none⟩ = false ∧ n.frozen? ⟨y, 1, none⟩ = false ∧ y < n.heap.size) := by
  obtain ⟨-, x', y', ⟨hx, hy, h1, h2, h3⟩, h4, h5⟩ := h
  obtain rfl : x = x' := by simpa using hx
  obtain rfl : y = y' := by simpa using hy
  exact ⟨h1, h2, h3, h4, h5⟩
/-- The first store, to the block that was made first, or second. -/
theorem M2.st1 {L : Nat} {Bs : World → Prop} {a b c d : Int} {i : Nat} {n : World} {l x y : Nat} {r : Nat × Value} (hB : TB L Bs) (h : M2 L Bs a b c d i [(i, Value.pointer (some ⟨x, 0, none⟩)), (l, Value.pointer (some ⟨y, 0, none⟩))] n) : M2 L Bs a b c d i [(i, Value.pointer (some ⟨x, 0, none⟩)), (l, Value.pointer (some ⟨y, 0, none⟩)), r] ((n.setCell ⟨x, 0, none⟩ (.int .u64 a)).setCell ⟨x, 1, none⟩ (.int .u64 b)) := by
  obtain ⟨h1, h2, h3, h4, h5⟩ := h.getA
  refine ⟨hB.keep n _ x h.1 h1 (ch2_only n x a b), x, y, ⟨rfl, rfl, h1, h2, h3⟩, ?_⟩
  rw [if_pos rfl]
  exact ⟨ch2_cells a b h4, b2_only h5 (ch2_only n x a b) (fun e => h3 e.symm)⟩
theorem M2.st1' {L : Nat} {Bs : World → Prop} {a b c d : Int} {i : Nat} {n : World} {k l x y : Nat} {r : Nat × Value} (hB : TB L Bs) (hk : ¬ k = i) (h : M2 L Bs a b c d i [(k, Value.pointer (some ⟨y, 0, none⟩)), (l, Value.pointer (some ⟨x, 0, none⟩))] n) : M2 L Bs a b c d i [(k, Value.pointer (some ⟨y, 0, none⟩)), (l, Value.pointer (some ⟨x, 0, none⟩)), r] ((n.setCell ⟨x, 0, none⟩ (.int .u64 a)).setCell ⟨x, 1, none⟩ (.int .u64 b)) := by
  obtain ⟨h1, h2, h3, h4, h5⟩ := h.getA
  refine ⟨hB.keep n _ x h.1 h2 (ch2_only n x a b), y, x, ⟨rfl, rfl, h1, h2, h3⟩, ?_⟩
  rw [if_neg hk]
  exact ⟨b2_only h4 (ch2_only n x a b) h3, ch2_cells a b h5⟩
theorem M2.getB {L : Nat} {Bs : World → Prop} {a b c d : Int} {i : Nat} {n : World} {l x y : Nat} {r : Nat × Value} (h : M2 L Bs a b c d i [(i, Value.pointer (some ⟨x, 0, none⟩)), (l, Value.pointer (some ⟨y, 0, none⟩)), r] n) : L ≤ x ∧ L ≤ y ∧ ¬ x = y ∧ (n.cell? ⟨x, 0, none⟩ = some (.int .u64 a) ∧ n.cell? ⟨x, 1, none⟩ = some (.int .u64 b) ∧ n.frozen? ⟨x, 0, none⟩ = false ∧ n.frozen? ⟨x, 1, none⟩ = false ∧ x < n.heap.size) ∧ (n.cell? ⟨y, 0, none⟩ = some (.int .u64 0) ∧ n.cell? ⟨y, 1, none⟩ = some (.int .u64 0) ∧ n.frozen? ⟨y, 0, none⟩ = false ∧ n.frozen? ⟨y, 1, none⟩ = false ∧ y < n.heap.size) := by
  obtain ⟨-, x', y', ⟨hx, hy, h1, h2, h3⟩, h4⟩ := h
  obtain rfl : x = x' := by simpa using hx
  obtain rfl : y = y' := by simpa using hy
  rw [if_pos rfl] at h4
  exact ⟨h1, h2, h3, h4⟩
theorem M2.getB' {L : Nat} {Bs : World → Prop} {a b c d : Int} {i : Nat} {n : World} {k l x y : Nat} {r : Nat × Value} (hk : ¬ k = i) (h : M2 L Bs a b c d i [(k, Value.pointer (some ⟨y, 0, none⟩)), (l, Value.pointer (some ⟨x, 0, none⟩)), r] n) : L ≤ x ∧ L ≤ y ∧ ¬ x = y ∧ (n.cell? ⟨x, 0, none⟩ = some (.int .u64 a) ∧ n.cell? ⟨x, 1, none⟩ = some (.int .u64 b) ∧ n.frozen? ⟨x, 0, none⟩ = false ∧ n.frozen? ⟨x, 1, none⟩ = false ∧ x < n.heap.size) ∧ (n.cell? ⟨y, 0, none⟩ = some (.int .u64 0) ∧ n.cell? ⟨y, 1, none⟩ = some (.int .u64 0) ∧ n.frozen? ⟨y, 0, none⟩ = false ∧ n.frozen? ⟨y, 1, none⟩ = false ∧ y < n.heap.size) := by
  obtain ⟨-, y', x', ⟨hy, hx, h1, h2, h3⟩, h4⟩ := h
  obtain rfl : x = x' := by simpa using hx
  obtain rfl : y = y' := by simpa using hy
  rw [if_neg hk] at h4
  exact ⟨h2, h1, fun e => h3 e.symm, h4.2, h4.1⟩
theorem M2.st2 {L : Nat} {Bs : World → Prop} {a b c d : Int} {i : Nat} {n : World} {l x y : Nat} {r r2 : Nat × Value} (hB : TB L Bs) (h : M2 L Bs a b c d i [(i, Value.pointer (some ⟨x, 0, none⟩)), (l, Value.pointer (some ⟨y, 0, none⟩)), r] n) : M2 L Bs a b c d i [(i, Value.pointer (some ⟨x, 0, none⟩)), (l, Value.pointer (some ⟨y, 0, none⟩)), r, r2] ((n.setCell ⟨y, 0, none⟩ (.int .u64 c)).setCell ⟨y, 1, none⟩ (.int .u64 d)) := by
  obtain ⟨h1, h2, h3, h4, h5⟩ := h.getB
  refine ⟨hB.keep n _ y h.1 h2 (ch2_only n y c d), x, y, ⟨rfl, rfl, h1, h2, h3⟩, ?_⟩
  rw [if_pos rfl]
  exact ⟨b2_only h4 (ch2_only n y c d) h3, ch2_cells c d h5⟩
theorem M2.st2' {L : Nat} {Bs : World → Prop} {a b c d : Int} {i : Nat} {n : World} {k l x y : Nat} {r r2 : Nat × Value} (hB : TB L Bs) (hk : ¬ k = i) (h : M2 L Bs a b c d i [(k, Value.pointer (some ⟨y, 0, none⟩)), (l, Value.pointer (some ⟨x, 0, none⟩)), r] n) : M2 L Bs a b c d i [(k, Value.pointer (some ⟨y, 0, none⟩)), (l, Value.pointer (some ⟨x, 0, none⟩)), r, r2] ((n.setCell ⟨y, 0, none⟩ (.int .u64 c)).setCell ⟨y, 1, none⟩ (.int .u64 d)) := by
  obtain ⟨h1, h2, h3, h4, h5⟩ := h.getB' hk
  refine ⟨hB.keep n _ y h.1 h2 (ch2_only n y c d), y, x, ⟨rfl, rfl, h2, h1, fun e => h3 e.symm⟩, ?_⟩
  rw [if_neg hk]
  exact ⟨ch2_cells c d h5, b2_only h4 (ch2_only n y c d) h3⟩
theorem M2.fin {L : Nat} {Bs : World → Prop} {a b c d : Int} {i : Nat} {n : World} {l x y : Nat} {r r2 : Nat × Value} (h : M2 L Bs a b c d i [(i, Value.pointer (some ⟨x, 0, none⟩)), (l, Value.pointer (some ⟨y, 0, none⟩)), r, r2] n) : (L ≤ x ∧ L ≤ y ∧ ¬ x = y) ∧ Bs n ∧ (n.cell? ⟨x, 0, none⟩ = some (.int .u64 a) ∧ n.cell? ⟨x, 1, none⟩ = some (.int .u64 b) ∧ n.frozen? ⟨x, 0, none⟩ = false ∧ n.frozen? ⟨x, 1, none⟩ = false ∧ x < n.heap.size) ∧ (n.cell? ⟨y, 0, none⟩ = some (.int .u64 c) ∧ n.cell? ⟨y, 1, none⟩ = some (.int .u64 d) ∧ n.frozen? ⟨y, 0, none⟩ = false ∧ n.frozen? ⟨y, 1, none⟩ = false ∧ y < n.heap.size) := by
  obtain ⟨hb, x', y', ⟨hx, hy, h1, h2, h3⟩, h4⟩ := h
  obtain rfl : x = x' := by simpa using hx
  obtain rfl : y = y' := by simpa using hy
  rw [if_pos rfl] at h4
  exact ⟨⟨h1, h2, h3⟩, hb, h4⟩
theorem M2.fin' {L : Nat} {Bs : World → Prop} {a b c d : Int} {i : Nat} {n : World} {k l x y : Nat} {r r2 : Nat × Value} (hk : ¬ k = i) (h : M2 L Bs a b c d i [(k, Value.pointer (some ⟨y, 0, none⟩)), (l, Value.pointer (some ⟨x, 0, none⟩)), r, r2] n) : (L ≤ x ∧ L ≤ y ∧ ¬ x = y) ∧ Bs n ∧ (n.cell? ⟨x, 0, none⟩ = some (.int .u64 a) ∧ n.cell? ⟨x, 1, none⟩ = some (.int .u64 b) ∧ n.frozen? ⟨x, 0, none⟩ = false ∧ n.frozen? ⟨x, 1, none⟩ = false ∧ x < n.heap.size) ∧ (n.cell? ⟨y, 0, none⟩ = some (.int .u64 c) ∧ n.cell? ⟨y, 1, none⟩ = some (.int .u64 d) ∧ n.frozen? ⟨y, 0, none⟩ = false ∧ n.frozen? ⟨y, 1, none⟩ = false ∧ y < n.heap.size) := by
  obtain ⟨hb, y', x', ⟨hy, hx, h1, h2, h3⟩, h4⟩ := h
  obtain rfl : x = x' := by simpa using hx
  obtain rfl : y = y' := by simpa using hy
  rw [if_neg hk] at h4
  exact ⟨⟨h2, h1, fun e => h3 e.symm⟩, hb, h4.2, h4.1⟩
end Go.Proofs.Ytfplniooncdjdaa
