/- busy: what is learnt of a pick that begins a stretch. -/
import Derived.Test.YtkbglhkhhoakgaaBy2
namespace Go.Proofs.Ytkbglhkhhoakgaa
set_option linter.unusedVariables false
set_option linter.unusedSimpArgs false
set_option maxRecDepth 100000
open Go.RowKit Fg Reg
attribute [local irreducible] Reg.wE Reg.wN

def EB (w z : World) : Prop := ∃ cs, z.heap[w.heap.size]? = some (.cells cs 73 (0, 0))
theorem EB.only {S : Nat → Prop} {w z z' : World} (h : EB w z) (ho : Only S z z') (hs : ¬ S w.heap.size) : EB w z' := by
  obtain ⟨cs, h⟩ := h
  have hlt : w.heap.size < z.heap.size := by
    rcases Nat.lt_or_ge w.heap.size z.heap.size with h' | h'
    · exact h'
    · rw [Array.getElem?_eq_none h'] at h; cases h
  exact ⟨cs, (ho.block _ hlt hs).trans h⟩
theorem EB.below {w z z' : World} (h : EB w z) (hb : Below z.heap.size z z') : EB w z' := h.only (Only.of_below (S := fun _ => False) hb) (fun h => h)
theorem EB.ne {w z : World} {x g n cap : Nat} {xs : List Value} (h : EB w z) (ho : z.ownsRow (x + 1) 80 2 (.slice (some ⟨g, 0, none⟩) n cap) n xs) : ¬ g = w.heap.size := by
  intro e
  subst e
  obtain ⟨cs, h⟩ := h
  rcases ho.2 with ⟨h1, _⟩ | ⟨g', cap', cur, h1, _, h2, _⟩
  · cases h1
  · simp only [Value.slice.injEq, Option.some.injEq, Addr.mk.injEq, and_true, true_and] at h1
    obtain ⟨h1, _⟩ := h1
    rw [← h1, h] at h2
    simp at h2
theorem LS.setV {w z : World} {x : Nat} {v v' : Value} {e : Ev} {st : List Str} {un si : Int} {wk : Nat} (hxc : z.cell? ⟨x, 0, none⟩ = some (v) ∧ z.cell? ⟨x, 1, none⟩ = some (.int .u64 (un)) ∧ z.cell? ⟨x, 2, none⟩ = some (.int .i64 (wk)) ∧ z.cell? ⟨x, 3, none⟩ = some (.int .u64 (si)) ∧ z.frozen? ⟨x, 0, none⟩ = false ∧ z.frozen? ⟨x, 1, none⟩ = false ∧ z.frozen? ⟨x, 2, none⟩ = false ∧ z.frozen? ⟨x, 3, none⟩ = false ∧ x < z.heap.size) (hec : z.cell? ⟨w.heap.size, 3, none⟩ = some (.int .u64 e.tm) ∧ z.cell? ⟨w.heap.size, 4, none⟩ = some (.int .u64 e.dn) ∧ w.heap.size < z.heap.size) (ho : z.ownsRow (x + 1) 80 2 v' (st).length ((st).flatMap Str.cells)) (hb : Below x w z) (hxw : x < w.heap.size) : LS w (z.setCell ⟨x, 0, none⟩ v') x v' e ⟨st, un, wk, si⟩ := by
  obtain ⟨a0, a1, a2, a3, f0, f1, f2, f3, hl⟩ := hxc
  obtain ⟨b0, b1, hq⟩ := hec
  have hne2 : ¬ x = w.heap.size := by omega
  refine ⟨⟨(by simp [go_sem, *]), (by simp [go_sem, *]), (by simp [go_sem, *]), (by simp [go_sem, *]), (by simp [go_sem, *]), (by simp [go_sem, *]), (by simp [go_sem, *]), (by simp [go_sem, *]), (by simp [go_sem, *])⟩, ?_, own_setx ho _ _ _, hb.setCell (Nat.le_refl _) _⟩
  have hne : ¬ w.heap.size = x := by omega
  clear hne2
  exact ⟨(by simp [go_sem, *]), (by simp [go_sem, *]), (by simp [go_sem, *])⟩
end Go.Proofs.Ytkbglhkhhoakgaa
