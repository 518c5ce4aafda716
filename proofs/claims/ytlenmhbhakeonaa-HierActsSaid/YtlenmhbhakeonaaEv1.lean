/- Events: rows of twelve cells, read whole; one element copied into a variable of its own. -/
import Derived.Test.YtlenmhbhakeonaaBaseA
import Derived.Test.YtlenmhbhakeonaaOpenA
import Derived.Test.YtlenmhbhakeonaaQSlice
import Derived.Deep.MidRow
import Derived.Deep.WholeRow
namespace Go.Proofs.Ytlenmhbhakeonaa
set_option linter.unusedVariables false
set_option linter.unusedSimpArgs false
set_option maxRecDepth 100000
open Go.RowKit Fg Reg

structure Ev where
  op : Int
  inn : Bool
  real : Bool
  tm : Int
  dn : Int
  cls : Int
  id : Int
  ln : Int
  a : Int
  b : Int
  c : Int
  d : Int
instance : Inhabited Ev := ⟨⟨0, false, false, 0, 0, 0, 0, 0, 0, 0, 0, 0⟩⟩
def Ev.cells (e : Ev) : List Value := [.int .i64 e.op, .bool e.inn, .bool e.real, .int .u64 e.tm, .int .u64 e.dn, .int .i64 e.cls, .int .u64 e.id, .int .i64 e.ln, .int .u16 e.a, .int .u16 e.b, .int .u16 e.c, .int .u16 e.d]
structure Ev.wf (e : Ev) : Prop where
  tm0 : 0 ≤ e.tm
  tm1 : e.tm ≤ 18446744073709551615
  dn0 : 0 ≤ e.dn
  dn1 : e.dn ≤ 18446744073709551615
theorem Ev.one (e : Ev) : ∀ v ∈ e.cells, v.oneCell' = true := by
  intro v hv
  unfold Ev.cells at hv
  simp only [List.mem_cons, List.not_mem_nil, or_false] at hv
  rcases hv with rfl | rfl | rfl | rfl | rfl | rfl | rfl | rfl | rfl | rfl | rfl | rfl <;> rfl
/-- A slice of events, by where it begins. -/
def EvsV (w : World) (a : Option Addr) (es : List Ev) : Prop := ∀ k (h : k < es.length), ∃ b o, a = some ⟨b, o, none⟩ ∧ b < w.heap.size ∧ w.rangeAt b (o + k * 12) es[k].cells
def IntsV (w : World) (a : Option Addr) (zs : List Int) : Prop := ∀ k (h : k < zs.length), ∃ b o, a = some ⟨b, o, none⟩ ∧ b < w.heap.size ∧ w.cell? ⟨b, o + k, none⟩ = some (.int .i64 zs[k])
theorem EvsV.below {w w' : World} {a : Option Addr} {es : List Ev} (h : EvsV w a es) (hb : Below w.heap.size w w') : EvsV w' a es := fun k hk => by
  obtain ⟨b, o, e, h1, h2⟩ := h k hk
  exact ⟨b, o, e, Nat.lt_of_lt_of_le h1 hb.size, fun j v hv => (hb.cell (p := ⟨b, o + k * 12 + j, none⟩) h1).trans (h2 j v hv)⟩
theorem IntsV.below {w w' : World} {a : Option Addr} {zs : List Int} (h : IntsV w a zs) (hb : Below w.heap.size w w') : IntsV w' a zs := fun k hk => by
  obtain ⟨b, o, e, h1, h2⟩ := h k hk
  exact ⟨b, o, e, Nat.lt_of_lt_of_le h1 hb.size, (hb.cell (p := ⟨b, o + k, none⟩) h1).trans h2⟩
theorem evs_of {w : World} {v : Value} (h : Op.FlatSlice w 12 [.int .i64, .bool, .bool, .int .u64, .int .u64, .int .i64, .int .u64, .int .i64, .int .u16, .int .u16, .int .u16, .int .u16] v) :
    ∃ a es cap, v = .slice a es.length cap ∧ es.length ≤ cap ∧ cap ≤ maxLen ∧ EvsV w a es ∧ ∀ k (h : k < es.length), es[k].wf := by
  rcases h with h | ⟨a, cap, h, hc⟩ | ⟨b, o, n, cap, css, h0, rfl, h3, h4, hlt, hn, hi⟩
  · exact ⟨none, [], 0, h, Nat.le_refl _, Nat.zero_le _, fun k h => absurd h (Nat.not_lt_zero _), fun k h => absurd h (Nat.not_lt_zero _)⟩
  · exact ⟨some a, [], cap, h, Nat.zero_le _, hc, fun k h => absurd h (Nat.not_lt_zero _), fun k h => absurd h (Nat.not_lt_zero _)⟩
  · have h1 : ∀ i, i < n → ∃ e : Ev, w.rangeAt b (o + i * 12) e.cells ∧ e.wf := fun i hin => by
      obtain ⟨hf, he⟩ := hi i (by omega)
      obtain ⟨_, _, e0, ⟨x0, rfl, w0⟩, _, _, rfl, ⟨x1, rfl⟩, _, _, rfl, ⟨x2, rfl⟩, _, _, rfl, ⟨x3, rfl, w3⟩, _, _, rfl, ⟨x4, rfl, w4⟩, _, _, rfl, ⟨x5, rfl, w5⟩, _, _, rfl, ⟨x6, rfl, w6⟩, _, _, rfl, ⟨x7, rfl, w7⟩, _, _, rfl, ⟨x8, rfl, w8⟩, _, _, rfl, ⟨x9, rfl, w9⟩, _, _, rfl, ⟨x10, rfl, w10⟩, _, _, rfl, ⟨x11, rfl, w11⟩, rfl⟩ := hf
      rw [e0] at he
      have b3 := bounds_u64 w3
      have b4 := bounds_u64 w4
      exact ⟨⟨x0, x1, x2, x3, x4, x5, x6, x7, x8, x9, x10, x11⟩, fun j x hx => he j x hx, ⟨b3.1, by have := b3.2; omega, b4.1, by have := b4.2; omega⟩⟩
    obtain ⟨es, hes⟩ := Go.Deep.choose_lt h1
    refine ⟨some ⟨b, o, none⟩, (List.range n).map es, cap, by simp, by simpa using h3, h4, fun k hk => ?_, fun k hk => ?_⟩
    · have := hes k (by simpa using hk)
      exact ⟨b, o, rfl, hlt, by simpa using this.1⟩
    · have := hes k (by simpa using hk)
      simpa using this.2
theorem ints_of {w : World} {v : Value} (h : Op.FlatSlice w 1 [.int .i64] v) : ∃ a zs cap, v = .slice a zs.length cap ∧ zs.length ≤ cap ∧ cap ≤ maxLen ∧ IntsV w a zs := by
  rcases h.ints with h | ⟨a, cap, h, hc⟩ | ⟨b, o, cap, zs, h0, rfl, h3, h4, hlt, hi, _⟩
  · exact ⟨none, [], 0, h, Nat.le_refl _, Nat.zero_le _, fun k h => absurd h (Nat.not_lt_zero _)⟩
  · exact ⟨some a, [], cap, h, Nat.zero_le _, hc, fun k h => absurd h (Nat.not_lt_zero _)⟩
  · exact ⟨_, zs, cap, rfl, h3, h4, fun k hk => ⟨b, o, rfl, hlt, hi k hk⟩⟩
/-- A block that holds just these events. -/
theorem evs_block {w : World} {b : Nat} {cs : Array Value} {t : TypeId} {fr : Nat × Nat} (es : List Ev) (hb : w.heap[b]? = some (.cells cs t fr)) (hc : cs.toList = es.flatMap Ev.cells) : EvsV w (some ⟨b, 0, none⟩) es := fun k hk => by
  refine ⟨b, 0, rfl, (Array.getElem?_eq_some_iff.1 hb).1, fun j v hv => ?_⟩
  rw [cell_of_row w b _ cs t fr hb, Nat.zero_add]
  have hj : j < 12 := (List.getElem?_eq_some_iff.1 hv).1
  rw [← Array.getElem?_toList, hc]
  clear hc hb
  induction es generalizing k with
  | nil => exact absurd hk (Nat.not_lt_zero _)
  | cons e es ih =>
    have hl : e.cells.length = 12 := rfl
    rw [List.flatMap_cons]
    cases k with
    | zero => rw [List.getElem?_append_left (by omega), Nat.zero_mul, Nat.zero_add]; exact hv
    | succ k =>
      rw [List.getElem?_append_right (by omega), hl, show (k + 1) * 12 + j - 12 = k * 12 + j by omega]
      exact ih k (by simpa using hk) (by simpa using hv)
theorem ints_block {w : World} {b : Nat} {cs : Array Value} {t : TypeId} {fr : Nat × Nat} (zs : List Int) (hb : w.heap[b]? = some (.cells cs t fr)) (hc : cs.toList = zs.map (Value.int .i64)) : IntsV w (some ⟨b, 0, none⟩) zs := fun k hk => by
  refine ⟨b, 0, rfl, (Array.getElem?_eq_some_iff.1 hb).1, ?_⟩
  rw [cell_of_row w b _ cs t fr hb, Nat.zero_add, ← Array.getElem?_toList, hc]
  simp [hk]
/-- A value laid into the block that was made last. -/
theorem wpList_store_new {P : Program} {ops : Array Oper} {rest : List Oper} {op : Oper} {a : Act} {w : World} {Q : Exit → Act → World → Prop} (hgd : op.guard = none) (ty : TypeId) (x y : Operand) (ho : op.op = .store ty x y)
    (c cells : Array Value) (hx : a.eval x = .pointer (some ⟨w.heap.size, 0, none⟩)) (hy : a.eval y = .agg cells)
    (hi : (P.info? ty).map (·.size) = some cells.size) (hs : c.size = cells.size) (h1 : cells.all (·.oneCell') = true)
    (h : wpList P ops Q rest (a.put op.dst undef) (w.alloc (.cells cells ty))) : wpList P ops Q (op :: rest) a (w.alloc (.cells c ty)) :=
  wpList_plain hgd fun _ hK => by
    unfold Oper.wp execOp
    simp only [ho, hx, hy, Sem.run_bind, Sem.run_pure, Result.andThen_ok, run_storeAt_new (P := P) w ty c cells hi hs h1]
    exact hK _ _ h
theorem ev_info : (Try.prog.info? 96).map (·.size) = some 12 := by kernel_rfl

/-- Is it among them? -/
def has (zs : List Int) (x : Int) : Bool := zs.any (· == x)
theorem take_snoc'' {α : Type} (l : List α) (k : Nat) (h : k < l.length) : l.take (k + 1) = l.take k ++ [l[k]] := by
  simp
theorem has_succ (zs : List Int) (x : Int) (k : Nat) (h : k < zs.length) : has (zs.take (k + 1)) x = (has (zs.take k) x || zs[k] == x) := by
  unfold has; rw [take_snoc'' zs k h, List.any_append]; simp
theorem has_of {zs : List Int} {x : Int} {k : Nat} (h : k < zs.length) (he : zs[k] = x) : has zs x = true := by
  unfold has; rw [List.any_eq_true]; exact ⟨zs[k], List.getElem_mem h, by simp [he]⟩
end Go.Proofs.Ytlenmhbhakeonaa
