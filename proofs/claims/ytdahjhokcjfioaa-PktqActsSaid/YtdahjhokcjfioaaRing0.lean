import Derived.Test.YtdahjhokcjfioaaBaseA
namespace Go.Proofs.Ytdahjhokcjfioaa
set_option linter.unusedVariables false
set_option linter.unusedSimpArgs false
set_option maxRecDepth 100000
open Go.RowKit Fg Reg

theorem Only.setL {x s : Nat} {a w : World} (h : Only (fun k => k = x ∨ k = s) a w) (o : Nat) (t : Option Nat) (u : Value) : Only (fun k => k = x ∨ k = s) a (w.setCell ⟨x, o, t⟩ u) := h.setCell (.inl (.inl rfl)) u
theorem Only.setR {x s : Nat} {a w : World} (h : Only (fun k => k = x ∨ k = s) a w) (o : Nat) (t : Option Nat) (u : Value) : Only (fun k => k = x ∨ k = s) a (w.setCell ⟨s, o, t⟩ u) := h.setCell (.inl (.inr rfl)) u
/-- A row of cells. -/
def EL (z : World) (s n : Nat) (xs : Nat → Value) : Prop := ∀ i, i < n → z.cell? ⟨s, i, none⟩ = some (xs i) ∧ z.frozen? ⟨s, i, none⟩ = false
def upd (xs : Nat → Value) (k : Nat) (v : Value) : Nat → Value := fun i => if i = k then v else xs i
theorem EL.drew {z : World} {s n : Nat} {xs : Nat → Value} (h : EL z s n xs) : EL z.drew s n xs := h
theorem EL.only {S : Nat → Prop} {z z' : World} {s n : Nat} {xs : Nat → Value} (h : EL z s n xs) (ho : Only S z z') (h2 : ¬ S s) (hs : s < z.heap.size) : EL z' s n xs :=
  fun i hin => ⟨(ho.cell hs h2).trans (h i hin).1, (ho.frozen hs h2).trans (h i hin).2⟩
theorem EL.below {z z' : World} {s n : Nat} {xs : Nat → Value} (h : EL z s n xs) (hb : Below z.heap.size z z') (hs : s < z.heap.size) : EL z' s n xs :=
  h.only (Only.of_below (S := fun _ => False) hb) (fun h => h) hs
theorem EL.other {z : World} {x s n : Nat} {xs : Nat → Value} (h : EL z s n xs) (hne : x ≠ s) (o : Nat) (t : Option Nat) (u : Value) : EL (z.setCell ⟨x, o, t⟩ u) s n xs := fun i hin => by
  have := h i hin
  have hb : (z.setCell ⟨x, o, t⟩ u).heap[s]? = z.heap[s]? := Below.heap_setCell z ⟨x, o, t⟩ u s (fun e => hne e.symm)
  exact ⟨(World.cell?_of_block (w := z) hb).trans this.1, (World.frozen?_of_block (w := z) hb).trans this.2⟩
theorem EL.set {z : World} {s n j : Nat} {xs : Nat → Value} (h : EL z s n xs) (hj : j < n) (hs : s < z.heap.size) (u : Value) : EL (z.setCell ⟨s, j, none⟩ u) s n (upd xs j u) := fun i hin => by
  have h1 := h i hin
  have h2 := h j hj
  unfold upd
  by_cases hij : i = j
  · subst hij
    simp [go_sem, h1]
  · simp [go_sem, h1, h2, hij]
/-- A ring, in memory. -/
def RG (z : World) (x s n f m : Nat) (xs : Nat → Value) : Prop :=
  (z.cell? ⟨x, 0, none⟩ = some (.slice (some ⟨s, 0, none⟩) n n) ∧ z.cell? ⟨x, 1, none⟩ = some (.int .i64 f) ∧ z.cell? ⟨x, 2, none⟩ = some (.int .i64 m) ∧ z.frozen? ⟨x, 0, none⟩ = false ∧ z.frozen? ⟨x, 1, none⟩ = false ∧ z.frozen? ⟨x, 2, none⟩ = false ∧ x < z.heap.size ∧ s < z.heap.size) ∧ x ≠ s ∧ 1 ≤ n ∧ n ≤ 64 ∧ f < n ∧ m ≤ n ∧ EL z s n xs
theorem RG.keep {S : Nat → Prop} {z z' : World} {x s n f m : Nat} {xs : Nat → Value} (h : RG z x s n f m xs) (ho : Only S z z') (h1 : ¬ S x) (h2 : ¬ S s) : RG z' x s n f m xs := by
  obtain ⟨⟨c0, c1, c2, f0, f1, f2, hx, hs⟩, hne, n1, n2, hf, hm, hi⟩ := h
  exact ⟨⟨(ho.cell hx h1).trans c0, (ho.cell hx h1).trans c1, (ho.cell hx h1).trans c2, (ho.frozen hx h1).trans f0, (ho.frozen hx h1).trans f1, (ho.frozen hx h1).trans f2, Nat.lt_of_lt_of_le hx ho.size, Nat.lt_of_lt_of_le hs ho.size⟩,
    hne, n1, n2, hf, hm, hi.only ho h2 hs⟩
theorem RG.below {z z' : World} {x s n f m : Nat} {xs : Nat → Value} (h : RG z x s n f m xs) (hb : Below z.heap.size z z') : RG z' x s n f m xs :=
  h.keep (Only.of_below (S := fun _ => False) hb) (fun h => h) (fun h => h)
theorem tmod_nat (a n : Nat) : ((a : Int)).tmod (n : Int) = ((a % n : Nat) : Int) := by
  rw [Int.tmod_eq_emod_of_nonneg (by omega)]; rfl
theorem tmod_nat2 (a b n : Nat) : ((a : Int) + b).tmod (n : Int) = (((a + b) % n : Nat) : Int) := by
  rw [← Int.natCast_add, tmod_nat]
/-- Where the thing of a place lies. -/
def ato (f i n : Nat) : Nat := (f + i) % n
theorem ato_lt (f i n : Nat) (h : 1 ≤ n) : ato f i n < n := Nat.mod_lt _ (by omega)
theorem ato_zero (f n : Nat) (h : f < n) : ato f 0 n = f := Nat.mod_eq_of_lt (by omega)
theorem tmod_ato (a b n : Nat) : ((a : Int) + b).tmod (n : Int) = ato a b n := tmod_nat2 a b n
theorem tmod_one (a n : Nat) : ((a : Int) + 1).tmod (n : Int) = ato a 1 n := tmod_nat2 a 1 n
end Go.Proofs.Ytdahjhokcjfioaa
