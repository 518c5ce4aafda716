/- Range over a map of many entries: which keys have come. -/
import Derived.Test.YtnpidbodeebnkaaMap0
import Derived.Maps.RangeRun
namespace Go.Proofs.Ytnpidbodeebnkaa
set_option linter.unusedVariables false
set_option linter.unusedSimpArgs false
set_option maxRecDepth 100000
open Go.RowKit Fg Reg Go.Maps
open Go.ChangeMaps (setBlock)

section
variable {P : Program} {κ ν : Type} {kv : κ → Value} {vv : ν → Value} {ok : κ → Prop} {f : κ → Option ν}
/-- The iterator in block r has handed out just the keys ks of the map in block mr. -/
def ItM (kv : κ → Value) (vv : ν → Value) (ok : κ → Prop) (f : κ → Option ν) (ks : List κ) (z : World) (r mr : Nat) : Prop :=
  ∃ es ck since seen c0 n, z.heap[r]? = some (.mapIter (some mr) since seen c0) ∧ z.heap[mr]? = some (.map es ck) ∧ MpEnt kv vv ok f n es ck ∧ (∀ x ∈ es.toList, x.born < since) ∧ since ≤ c0 ∧ c0 ≤ ck ∧
    (∀ e ∈ es.toList, ∀ x, ok x → e.key = kv x → (seen.contains e.born = true ↔ x ∈ ks))
theorem ItM.lt {z : World} {r mr : Nat} {ks : List κ} (h : ItM kv vv ok f ks z r mr) : r < z.heap.size ∧ mr < z.heap.size := by
  obtain ⟨es, ck, since, seen, c0, n, h1, h2, _⟩ := h
  exact ⟨(Array.getElem?_eq_some_iff.1 h1).1, (Array.getElem?_eq_some_iff.1 h2).1⟩
theorem ItM.frame {z z' : World} {r mr : Nat} {ks : List κ} (h : ItM kv vv ok f ks z r mr) (h1 : z'.heap[r]? = z.heap[r]?) (h2 : z'.heap[mr]? = z.heap[mr]?) : ItM kv vv ok f ks z' r mr := by
  unfold ItM at *
  rw [h1, h2]
  exact h
theorem ItM.below {z z' : World} {r mr : Nat} {ks : List κ} (h : ItM kv vv ok f ks z r mr) (hb : Below z.heap.size z z') : ItM kv vv ok f ks z' r mr := h.frame (hb.block r h.lt.1) (hb.block mr h.lt.2)
theorem sB_only {w : World} {r : Nat} {o : Obj} : Only (fun k => k = r) w (setBlock w r o) := ⟨rfl, rfl, rfl, by simp [setBlock], fun k hk hs => by simp [setBlock, Ne.symm hs]⟩
theorem sB_at {w : World} {r : Nat} {o : Obj} (h : r < w.heap.size) : (setBlock w r o).heap[r]? = some o := by simp [setBlock, h]
theorem nd_inj {α β : Type} {g : α → β} : ∀ {l : List α}, (l.map g).Nodup → ∀ a ∈ l, ∀ b ∈ l, g a = g b → a = b
  | [], _, a, ha, _, _, _ => by simp at ha
  | x :: l, h, a, ha, b, hb, e => by
    rw [List.map_cons, List.nodup_cons] at h
    rcases List.mem_cons.1 ha with ha2 | ha2 <;> rcases List.mem_cons.1 hb with hb2 | hb2
    · rw [ha2, hb2]
    · subst ha2; exact absurd (by rw [e]; exact List.mem_map_of_mem hb2) h.1
    · subst hb2; exact absurd (by rw [← e]; exact List.mem_map_of_mem ha2) h.1
    · exact nd_inj h.2 a ha2 b hb2 e
/-- A step: all have come, or one more comes. -/
theorem ItM.step {w : World} {r mr : Nat} {ks : List κ} (h : ItM kv vv ok f ks w r mr) (ty : TypeId) :
    ((∀ x v, ok x → f x = some v → x ∈ ks) ∧ (Instr.next (.pointer (some ⟨r, 0, none⟩)) false ty).run P w = .ok (.tuple #[.bool false]) w) ∨
    ∃ x v w', ok x ∧ x ∉ ks ∧ f x = some v ∧ (Instr.next (.pointer (some ⟨r, 0, none⟩)) false ty).run P w = .ok (.tuple #[.bool true, kv x, vv v]) w' ∧ (Instr.entry (.pointer (some ⟨r, 0, none⟩))).run P w' = .ok (.tuple #[kv x, vv v]) w' ∧ (∀ hinj : ∀ a b, ok a → ok b → kv a = kv b → a = b, ItM kv vv ok f (ks ++ [x]) w' r mr) ∧ Only (fun k => k = r) w w' ∧ w'.heap.size = w.heap.size := by
  obtain ⟨es, ck, since, seen, c0, n, h1, h2, hE, h4, h5, h6, hk⟩ := h
  have hne : mr ≠ r := by rintro rfl; rw [h1] at h2; cases h2
  have hlt : r < w.heap.size := (Array.getElem?_eq_some_iff.1 h1).1
  rcases run_next_at (P := P) w ty r mr since c0 seen es ck h1 h2 h4 h5 with ⟨h0, hrun⟩ | ⟨e, he, w1, hw1, hrun⟩
  · refine .inl ⟨fun x v hx hf => ?_, hrun⟩
    obtain ⟨e, he, hke⟩ := hE.has x v hf
    refine (hk e he x hx hke).1 ?_
    have hl : leftOf es seen = #[] := Array.eq_empty_of_size_eq_zero h0
    cases hc : seen.contains e.born with
    | true => rfl
    | false =>
      exfalso
      have : e ∈ (leftOf es seen).toList := by unfold leftOf; simp at he ⊢; exact ⟨he, by simpa using hc⟩
      rw [hl] at this
      simp at this
  · right
    have hl : e ∈ es.toList ∧ seen.contains e.born = false := by unfold leftOf at he; simp at he ⊢; exact he
    obtain ⟨x, v, hx, ek, ev, hf⟩ := hE.ent e hl.1
    have ho : Only (fun k => k = r) w w1 := by rcases hw1 with rfl | rfl; exact Only.refl _ _; exact (Only.refl _ _).drew
    have hs1 : w1.heap = w.heap := by rcases hw1 with rfl | rfl <;> rfl
    have hr1 : (setBlock w1 r (.mapIter (some mr) since (seen.push e.born) ck)).heap[r]? = some (.mapIter (some mr) since (seen.push e.born) ck) := sB_at (by rw [hs1]; exact hlt)
    have hm1 : (setBlock w1 r (.mapIter (some mr) since (seen.push e.born) ck)).heap[mr]? = some (.map es ck) := by
      rw [← h2, ← hs1]; simp [setBlock, Ne.symm hne]
    refine ⟨x, v, _, hx, fun hm => ?_, hf, by rw [hrun, ek, ev], ?_, fun hinj => ?_, ho.trans sB_only, by simp [setBlock, hs1]⟩
    · have := (hk e hl.1 x hx ek).2 hm
      rw [hl.2] at this
      cases this
    · rw [← ek, ← ev]
      exact run_entry_at _ r mr since seen es ck e hr1 hm1 hl.1 hE.stamped.2.1
    · refine ⟨es, ck, since, seen.push e.born, ck, n, hr1, hm1, hE, h4, Nat.le_trans h5 h6, Nat.le_refl _, fun e2 he2 y hy hky => ?_⟩
      rw [List.mem_append, List.mem_singleton]
      constructor
      · intro hc
        simp only [Array.contains_push, Bool.or_eq_true, beq_iff_eq] at hc
        rcases hc with hc | hc
        · exact .inl ((hk e2 he2 y hy hky).1 hc)
        · exact .inr (hinj y x hy hx (by rw [← hky, ← ek, nd_inj hE.stamped.2.1 e2 he2 e hl.1 (by first | exact hc | exact hc.symm)]))
      · rintro (hc | rfl)
        · have := (hk e2 he2 y hy hky).2 hc
          simp only [Array.contains_push, Bool.or_eq_true]
          exact .inl this
        · simp only [Array.contains_push, Bool.or_eq_true, beq_iff_eq]
          have h9 := nd_inj hE.stamped.2.2 e2 he2 e hl.1 (by rw [hky, ek])
          exact .inr (by rw [h9])
theorem wpList_range_itm {w : World} {ops : Array Oper} {rest : List Oper} {o : Oper} {a : Act} {Q : Exit → Act → World → Prop} (hg : o.guard = none) (m : Operand) (t k e' : TypeId) (hop : o.op = Op.range t m) (ht : P.underlying t = some (.map k e'))
    (b n0 n : Nat) (hm : a.eval m = .map (some b)) (h : Mp kv vv ok f n0 w b) (hn : w.heap.size = n)
    (hK : ∀ w', ItM kv vv ok f [] w' n b → Below n w w' → w'.heap.size = n + 1 → wpList P ops Q rest (a.put o.dst (.pointer (some ⟨n, 0, none⟩))) w') : wpList P ops Q (o :: rest) a w := by
  subst hn
  obtain ⟨es, ck, hb, hE⟩ := h
  refine wpList_plain hg fun K' hK' => ?_
  have hrun := run_range_map (P := P) w t k e' b es ck ht hb
  have hlt : b < w.heap.size := (Array.getElem?_eq_some_iff.1 hb).1
  unfold Oper.wp
  simp [execOp, hop, hm, hrun, Result.andThen]
  exact hK' _ _ (hK _ ⟨es, ck, ck, #[], ck, n0, heap_alloc_new w _, (heap_alloc_old w _ hlt).trans hb, hE, hE.stamped.1, Nat.le_refl _, Nat.le_refl _, fun e _ x _ _ => by simp⟩ (Below.alloc (Below.refl _ _) (Nat.le_refl _) _) (by simp))
theorem wpList_next_end {w : World} {ops : Array Oper} {rest : List Oper} {o : Oper} {a : Act} {Q : Exit → Act → World → Prop} (hg : o.guard = none) (it : Operand) (hop : o.op = Op.next it false) (r mr : Nat) {ks : List κ}
    (hit : a.eval it = .pointer (some ⟨r, 0, none⟩)) (h : ItM kv vv ok f ks w r mr) (hd : ∀ x v, ok x → f x = some v → x ∈ ks)
    (hK : wpList P ops Q rest (a.put o.dst (.tuple #[.bool false])) w) : wpList P ops Q (o :: rest) a w := by
  refine wpList_plain hg fun K' hK' => ?_
  unfold Oper.wp
  rcases h.step (P := P) o.type with ⟨_, hrun⟩ | ⟨x, v, w', hx, hm, hf, _⟩
  · simp [execOp, hop, hit, hrun, Result.andThen]
    exact hK' _ _ hK
  · exact absurd (hd x v hx hf) hm
theorem wpList_next_more {w : World} {ops : Array Oper} {rest : List Oper} {o : Oper} {a : Act} {Q : Exit → Act → World → Prop} (hg : o.guard = none) (it : Operand) (hop : o.op = Op.next it false) (r mr : Nat) {ks : List κ}
    (hit : a.eval it = .pointer (some ⟨r, 0, none⟩)) (h : ItM kv vv ok f ks w r mr) (hm : ∃ x v, ok x ∧ f x = some v ∧ x ∉ ks) (hinj : ∀ a b, ok a → ok b → kv a = kv b → a = b)
    (hK : ∀ x v w', ok x → x ∉ ks → f x = some v → (Instr.entry (.pointer (some ⟨r, 0, none⟩))).run P w' = .ok (.tuple #[kv x, vv v]) w' → ItM kv vv ok f (ks ++ [x]) w' r mr → Only (fun k => k = r) w w' → w'.heap.size = w.heap.size → wpList P ops Q rest (a.put o.dst (.tuple #[.bool true, kv x, vv v])) w') : wpList P ops Q (o :: rest) a w := by
  refine wpList_plain hg fun K' hK' => ?_
  unfold Oper.wp
  rcases h.step (P := P) o.type with ⟨hd, _⟩ | ⟨x, v, w', hx, hn, hf, hrun, hen, hI, ho, hs⟩
  · obtain ⟨x, v, hx, hf, hn⟩ := hm
    exact absurd (hd x v hx hf) hn
  · simp [execOp, hop, hit, hrun, Result.andThen]
    exact hK' _ _ (hK x v w' hx hn hf hen (hI hinj) ho hs)
end
end Go.Proofs.Ytnpidbodeebnkaa
