/- Bytes of a text as numbers. -/
import Derived.Test.YtohdcpkacdaanaaPack2
namespace Go.Proofs.Ytohdcpkacdaanaa
set_option linter.unusedVariables false
set_option linter.unusedSimpArgs false
set_option maxRecDepth 100000
open Go.RowKit Fg Reg
attribute [local irreducible] Reg.wE

/-- The byte at a place. -/
def byt (S : ByteArray) (j : Nat) : Int := ((S.data[j]?.getD 0).toNat : Int)
theorem byt_bd (S : ByteArray) (j : Nat) : 0 ≤ byt S j ∧ byt S j ≤ 255 := by
  unfold byt
  have := (S.data[j]?.getD 0).toNat_lt
  omega
theorem byt_run (S : ByteArray) (j : Nat) (h : j < S.size) (W : World) : (Instr.index 9 (.string S) (.int .i64 (j : Int))).run Try.prog W = .ok (.int .u8 (byt S j)) W := by
  rw [run_index_string W 9 S .i64 _ Try.underlying9, dif_pos ⟨by omega, by omega⟩]
  have h' : j < S.data.size := h
  have e : S.data[j]?.getD 0 = S[j] := by rw [Array.getElem?_eq_getElem h']; rfl
  unfold byt
  rw [e]
  rfl
/-- Bytes as a number, the highest first. -/
def horn (S : ByteArray) (o : Nat) : Nat → Int
  | 0 => 0
  | n + 1 => horn S o n * 256 + byt S (o + n)
theorem horn_bd (S : ByteArray) (o n : Nat) : 0 ≤ horn S o n ∧ horn S o n < 256 ^ n := by
  induction n with
  | zero => simp [horn]
  | succ n ih =>
    have hb := byt_bd S (o + n)
    unfold horn
    rw [Int.pow_succ]
    omega
theorem or_byte {v x : Int} (h0 : 0 ≤ v) (h1 : v < 72057594037927936) (hx : 0 ≤ x ∧ x ≤ 255) : bits .or .u64 (v * 256) x = v * 256 + x := by
  exact bits_join .u64 64 (by decide) (fun n h0 h1 => by rw [wrap_u64]; omega) 8 (v * 256) x (by omega) (by omega) (by omega) (by omega) (by omega) (by omega)
/-- How many bytes a field has, and where they begin. -/
def szf (k : Nat) : Nat := if k = 0 then 8 else 2
def off (k : Nat) : Nat := if k = 0 then 0 else 6 + 2 * k
theorem off_succ (k : Nat) : off (k + 1) = off k + szf k := by
  rcases k with _ | k
  · rfl
  · simp [off, szf]; omega
/-- The fields in memory. -/
structure LB (z : World) (lb : Nat) (f : Nat → Int) : Prop where
  c : ∀ j, j < 6 → z.cell? ⟨lb, j * 2, none⟩ = some (.int .u64 (f j)) ∧ z.cell? ⟨lb, j * 2 + 1, none⟩ = some (.int .i64 (szf j))
  fz : ∀ j, j < 12 → z.frozen? ⟨lb, j, none⟩ = false
  lt : lb < z.heap.size
def seti (f : Nat → Int) (k : Nat) (u : Int) : Nat → Int := fun j => if j = k then u else f j
theorem LB.set {z : World} {lb : Nat} {f : Nat → Int} (h : LB z lb f) {k : Nat} (hk : k < 6) (u : Int) : LB (z.setCell ⟨lb, k * 2, none⟩ (.int .u64 u)) lb (seti f k u) := by
  refine ⟨fun j hj => ?_, fun j hj => ?_, ?_⟩
  · obtain ⟨h1, h2⟩ := h.c j hj
    have h3 := (h.c k hk).1
    constructor
    · by_cases he : j = k
      · subst he; simp [go_sem, h1, seti]
      · have : ¬ j * 2 = k * 2 := by omega
        simp [go_sem, h1, seti, he]
    · have : ¬ j * 2 + 1 = k * 2 := by omega
      simp [go_sem, h2, this]
  · simp [go_sem, h.fz j hj]
  · have := h.lt; simpa [World.setCell] using this
theorem LB.below {z z' : World} {lb : Nat} {f : Nat → Int} (h : LB z lb f) (hb : Below z.heap.size z z') : LB z' lb f :=
  ⟨fun j hj => ⟨(hb.cell (p := ⟨lb, _, none⟩) h.lt).trans (h.c j hj).1, (hb.cell (p := ⟨lb, _, none⟩) h.lt).trans (h.c j hj).2⟩, fun j hj => (hb.frozen (p := ⟨lb, _, none⟩) h.lt).trans (h.fz j hj), Nat.lt_of_lt_of_le h.lt hb.size⟩
theorem LB.congr {z : World} {lb : Nat} {f g : Nat → Int} (h : LB z lb f) (e : ∀ j, j < 6 → f j = g j) : LB z lb g :=
  ⟨fun j hj => by rw [← e j hj]; exact h.c j hj, h.fz, h.lt⟩
/-- A zeroed result. -/
structure RV (z : World) (q : Nat) : Prop where
  c0 : z.cell? ⟨q, 0, none⟩ = some (.int .u64 0)
  c1 : z.cell? ⟨q, 1, none⟩ = some (.int .i64 0)
  c2 : z.cell? ⟨q, 2, none⟩ = some (.int .u16 0)
  c3 : z.cell? ⟨q, 3, none⟩ = some (.int .u16 0)
  c4 : z.cell? ⟨q, 4, none⟩ = some (.int .u16 0)
  c5 : z.cell? ⟨q, 5, none⟩ = some (.int .u16 0)
  fz : ∀ j, j < 6 → z.frozen? ⟨q, j, none⟩ = false
  lt : q < z.heap.size
structure DS (w z : World) (lb : Nat) (f : Nat → Int) : Prop where
  bk : LB z lb f
  rv : RV z w.heap.size
  bel : Below w.heap.size w z
  hl : w.heap.size < lb
theorem DS.set {w z : World} {lb : Nat} {f : Nat → Int} (h : DS w z lb f) {k : Nat} (hk : k < 6) (u : Int) : DS w (z.setCell ⟨lb, k * 2, none⟩ (.int .u64 u)) lb (seti f k u) := by
  have hl := h.hl
  have ho : Only (fun i => i = lb) z (z.setCell ⟨lb, k * 2, none⟩ (.int .u64 u)) := (Only.refl _ z).setOne _ _ _
  have hn : ¬ w.heap.size = lb := by omega
  refine ⟨h.bk.set hk u, ?_, ho.below h.bel h.bel.size (fun i hi => by omega), hl⟩
  have r := h.rv
  exact ⟨(ho.cell r.lt hn).trans r.c0, (ho.cell r.lt hn).trans r.c1, (ho.cell r.lt hn).trans r.c2, (ho.cell r.lt hn).trans r.c3, (ho.cell r.lt hn).trans r.c4, (ho.cell r.lt hn).trans r.c5, fun j hj => (ho.frozen r.lt hn).trans (r.fz j hj), Nat.lt_of_lt_of_le r.lt ho.size⟩
theorem DS.drew {w z : World} {lb : Nat} {f : Nat → Int} (h : DS w z lb f) : DS w z.drew lb f := ⟨⟨h.bk.c, h.bk.fz, h.bk.lt⟩, ⟨h.rv.c0, h.rv.c1, h.rv.c2, h.rv.c3, h.rv.c4, h.rv.c5, h.rv.fz, h.rv.lt⟩, h.bel.drew, h.hl⟩
theorem DS.congr {w z : World} {lb : Nat} {f g : Nat → Int} (h : DS w z lb f) (e : ∀ j, j < 6 → f j = g j) : DS w z lb g := ⟨h.bk.congr e, h.rv, h.bel, h.hl⟩
end Go.Proofs.Ytohdcpkacdaanaa
