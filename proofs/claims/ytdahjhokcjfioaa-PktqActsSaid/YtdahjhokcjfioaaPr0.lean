import Derived.Test.YtdahjhokcjfioaaRing0
namespace Go.Proofs.Ytdahjhokcjfioaa
set_option linter.unusedVariables false
set_option linter.unusedSimpArgs false
set_option maxRecDepth 100000
open Go.RowKit Fg Reg

theorem EL.alloc {z : World} {s n : Nat} {xs : Nat → Value} (h : EL z s n xs) (hs : s < z.heap.size) (o : Obj) : EL (z.alloc o) s n xs :=
  h.below (Below.alloc (Below.refl _ _) (Nat.le_refl _) o) hs
/-- A packet. -/
structure Pk where
  (i n a b c d : Int)
def pz : Pk := ⟨0, 0, 0, 0, 0, 0⟩
def pkv (p : Pk) : Value := .agg #[.int .u64 p.i, .int .i64 p.n, .int .u16 p.a, .int .u16 p.b, .int .u16 p.c, .int .u16 p.d]
/-- The cells of a row of packets. -/
def flat (xs : Nat → Pk) : Nat → Value := fun k =>
  if k % 6 = 0 then .int .u64 (xs (k / 6)).i else if k % 6 = 1 then .int .i64 (xs (k / 6)).n else if k % 6 = 2 then .int .u16 (xs (k / 6)).a else if k % 6 = 3 then .int .u16 (xs (k / 6)).b else if k % 6 = 4 then .int .u16 (xs (k / 6)).c else .int .u16 (xs (k / 6)).d
def updp (xs : Nat → Pk) (k : Nat) (v : Pk) : Nat → Pk := fun i => if i = k then v else xs i
theorem flat_at0 (xs : Nat → Pk) (j : Nat) : flat xs (j * 6) = .int .u64 (xs j).i := by unfold flat; rw [if_pos (by omega), show j * 6 / 6 = j by omega]
theorem flat_at1 (xs : Nat → Pk) (j : Nat) : flat xs (j * 6 + 1) = .int .i64 (xs j).n := by unfold flat; rw [if_neg (by omega), if_pos (by omega), show (j * 6 + 1) / 6 = j by omega]
theorem flat_at2 (xs : Nat → Pk) (j : Nat) : flat xs (j * 6 + 2) = .int .u16 (xs j).a := by unfold flat; rw [if_neg (by omega), if_neg (by omega), if_pos (by omega), show (j * 6 + 2) / 6 = j by omega]
theorem flat_at3 (xs : Nat → Pk) (j : Nat) : flat xs (j * 6 + 3) = .int .u16 (xs j).b := by unfold flat; rw [if_neg (by omega), if_neg (by omega), if_neg (by omega), if_pos (by omega), show (j * 6 + 3) / 6 = j by omega]
theorem flat_at4 (xs : Nat → Pk) (j : Nat) : flat xs (j * 6 + 4) = .int .u16 (xs j).c := by unfold flat; rw [if_neg (by omega), if_neg (by omega), if_neg (by omega), if_neg (by omega), if_pos (by omega), show (j * 6 + 4) / 6 = j by omega]
theorem flat_at5 (xs : Nat → Pk) (j : Nat) : flat xs (j * 6 + 5) = .int .u16 (xs j).d := by unfold flat; rw [if_neg (by omega), if_neg (by omega), if_neg (by omega), if_neg (by omega), if_neg (by omega), show (j * 6 + 5) / 6 = j by omega]
/-- Six stores are one packet. -/
theorem flat_upd (xs : Nat → Pk) (j : Nat) (p : Pk) : upd (upd (upd (upd (upd (upd (flat xs) (j * 6) (.int .u64 p.i)) (j * 6 + 1) (.int .i64 p.n)) (j * 6 + 2) (.int .u16 p.a)) (j * 6 + 3) (.int .u16 p.b)) (j * 6 + 4) (.int .u16 p.c)) (j * 6 + 5) (.int .u16 p.d) = flat (updp xs j p) := by
  funext k
  by_cases h : k / 6 = j
  · have hk : k = j * 6 ∨ k = j * 6 + 1 ∨ k = j * 6 + 2 ∨ k = j * 6 + 3 ∨ k = j * 6 + 4 ∨ k = j * 6 + 5 := by omega
    rcases hk with rfl | rfl | rfl | rfl | rfl | rfl
    · rw [flat_at0]; unfold upd updp; simp
    · rw [flat_at1]; unfold upd updp; simp
    · rw [flat_at2]; unfold upd updp; simp
    · rw [flat_at3]; unfold upd updp; simp
    · rw [flat_at4]; unfold upd updp; simp
    · rw [flat_at5]; unfold upd updp; simp
  · have e : flat (updp xs j p) k = flat xs k := by unfold flat updp; simp [h]
    rw [e]
    unfold upd
    rw [if_neg (by omega), if_neg (by omega), if_neg (by omega), if_neg (by omega), if_neg (by omega), if_neg (by omega)]
theorem flat_zero (n : Nat) : ∀ k, flat (fun _ => pz) k = if k % 6 = 0 then Value.int .u64 0 else if k % 6 = 1 then .int .i64 0 else .int .u16 0 := by
  intro k; unfold flat pz; repeat' split
  all_goals first | rfl | omega
/-- A packet in memory. -/
def C6 (z : World) (s o : Nat) (p : Pk) : Prop :=
  (z.cell? ⟨s, o, none⟩ = some (.int .u64 p.i) ∧ z.cell? ⟨s, o + 1, none⟩ = some (.int .i64 p.n) ∧ z.cell? ⟨s, o + 2, none⟩ = some (.int .u16 p.a) ∧ z.cell? ⟨s, o + 3, none⟩ = some (.int .u16 p.b) ∧ z.cell? ⟨s, o + 4, none⟩ = some (.int .u16 p.c) ∧ z.cell? ⟨s, o + 5, none⟩ = some (.int .u16 p.d)) ∧
  z.frozen? ⟨s, o, none⟩ = false ∧ z.frozen? ⟨s, o + 1, none⟩ = false ∧ z.frozen? ⟨s, o + 2, none⟩ = false ∧ z.frozen? ⟨s, o + 3, none⟩ = false ∧ z.frozen? ⟨s, o + 4, none⟩ = false ∧ z.frozen? ⟨s, o + 5, none⟩ = false
theorem el_c6 {z : World} {s n j : Nat} {xs : Nat → Pk} (h : EL z s (n * 6) (flat xs)) (hj : j < n) : C6 z s (j * 6) (xs j) := by
  have h0 := h (j * 6) (by omega)
  have h1 := h (j * 6 + 1) (by omega)
  have h2 := h (j * 6 + 2) (by omega)
  have h3 := h (j * 6 + 3) (by omega)
  have h4 := h (j * 6 + 4) (by omega)
  have h5 := h (j * 6 + 5) (by omega)
  rw [flat_at0] at h0
  rw [flat_at1] at h1
  rw [flat_at2] at h2
  rw [flat_at3] at h3
  rw [flat_at4] at h4
  rw [flat_at5] at h5
  exact ⟨⟨h0.1, h1.1, h2.1, h3.1, h4.1, h5.1⟩, h0.2, h1.2, h2.2, h3.2, h4.2, h5.2⟩
theorem el_ex {z : World} {s N o : Nat} {cs : Nat → Value} (h : EL z s N cs) (b : o + 5 < N) :
    z.cell? ⟨s, o, none⟩ = some (cs o) ∧ z.cell? ⟨s, o + 1, none⟩ = some (cs (o + 1)) ∧ z.cell? ⟨s, o + 2, none⟩ = some (cs (o + 2)) ∧ z.cell? ⟨s, o + 3, none⟩ = some (cs (o + 3)) ∧ z.cell? ⟨s, o + 4, none⟩ = some (cs (o + 4)) ∧ z.cell? ⟨s, o + 5, none⟩ = some (cs (o + 5)) :=
  ⟨(h o (by omega)).1, (h (o + 1) (by omega)).1, (h (o + 2) (by omega)).1, (h (o + 3) (by omega)).1, (h (o + 4) (by omega)).1, (h (o + 5) b).1⟩
theorem EL.set6 {z : World} {s N o : Nat} {cs : Nat → Value} (h : EL z s N cs) (b : o + 5 < N) (hs : s < z.heap.size) (v0 v1 v2 v3 v4 v5 : Value) :
    EL ((((((z.setCell ⟨s, o, none⟩ v0).setCell ⟨s, o + 1, none⟩ v1).setCell ⟨s, o + 2, none⟩ v2).setCell ⟨s, o + 3, none⟩ v3).setCell ⟨s, o + 4, none⟩ v4).setCell ⟨s, o + 5, none⟩ v5) s N
      (upd (upd (upd (upd (upd (upd cs o v0) (o + 1) v1) (o + 2) v2) (o + 3) v3) (o + 4) v4) (o + 5) v5) := by
  refine EL.set (EL.set (EL.set (EL.set (EL.set (EL.set h (by omega) hs _) (by omega) ?_ _) (by omega) ?_ _) (by omega) ?_ _) (by omega) ?_ _) b ?_ _ <;> simpa [World.setCell] using hs
/-- A ring of packets, in memory. -/
def RP (z : World) (x s n f m : Nat) (xs : Nat → Pk) : Prop :=
  (z.cell? ⟨x, 0, none⟩ = some (.slice (some ⟨s, 0, none⟩) n n) ∧ z.cell? ⟨x, 1, none⟩ = some (.int .i64 f) ∧ z.cell? ⟨x, 2, none⟩ = some (.int .i64 m) ∧ z.frozen? ⟨x, 0, none⟩ = false ∧ z.frozen? ⟨x, 1, none⟩ = false ∧ z.frozen? ⟨x, 2, none⟩ = false ∧ x < z.heap.size ∧ s < z.heap.size) ∧ x ≠ s ∧ 1 ≤ n ∧ n ≤ 64 ∧ f < n ∧ m ≤ n ∧ EL z s (n * 6) (flat xs)
theorem RP.keep {S : Nat → Prop} {z z' : World} {x s n f m : Nat} {xs : Nat → Pk} (h : RP z x s n f m xs) (ho : Only S z z') (h1 : ¬ S x) (h2 : ¬ S s) : RP z' x s n f m xs := by
  obtain ⟨⟨c0, c1, c2, f0, f1, f2, hx, hs⟩, hne, n1, n2, hf, hm, hi⟩ := h
  exact ⟨⟨(ho.cell hx h1).trans c0, (ho.cell hx h1).trans c1, (ho.cell hx h1).trans c2, (ho.frozen hx h1).trans f0, (ho.frozen hx h1).trans f1, (ho.frozen hx h1).trans f2, Nat.lt_of_lt_of_le hx ho.size, Nat.lt_of_lt_of_le hs ho.size⟩,
    hne, n1, n2, hf, hm, hi.only ho h2 hs⟩
theorem RP.below {z z' : World} {x s n f m : Nat} {xs : Nat → Pk} (h : RP z x s n f m xs) (hb : Below z.heap.size z z') : RP z' x s n f m xs :=
  h.keep (Only.of_below (S := fun _ => False) hb) (fun h => h) (fun h => h)
end Go.Proofs.Ytdahjhokcjfioaa
