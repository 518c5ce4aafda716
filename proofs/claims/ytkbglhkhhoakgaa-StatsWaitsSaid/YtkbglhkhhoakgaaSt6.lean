/- The sum of all rows: a loop over a map of at most one entry. -/
import Derived.Test.YtkbglhkhhoakgaaSt5
import Derived.Maps.RangeRun
import Derived.Maps.RangeWalk
import Derived.LoopN
namespace Go.Proofs.Ytkbglhkhhoakgaa
set_option linter.unusedVariables false
set_option linter.unusedSimpArgs false
set_option maxRecDepth 100000
open Go.RowKit Fg Reg
open Go.ChangeMaps (setBlock)
attribute [local irreducible] Reg.wN Reg.wE

/-- A loop over a map of one entry, ahead of its only round. -/
def It0 (z : World) (r mr : Nat) (k v : Value) : Prop := ∃ e ck, z.heap[r]? = some (.mapIter (some mr) ck #[] ck) ∧ z.heap[mr]? = some (.map #[e] ck) ∧ e.key = k ∧ e.val = v ∧ e.born < ck
/-- A loop over a map behind its last round. -/
def ItD (z : World) (r mr : Nat) : Prop := ∃ es ck since seen c0, z.heap[r]? = some (.mapIter (some mr) since seen c0) ∧ z.heap[mr]? = some (.map es ck) ∧ (leftOf es seen).size = 0 ∧ (∀ x ∈ es.toList, x.born < since) ∧ since ≤ c0
theorem ItD.lt {z : World} {r mr : Nat} (h : ItD z r mr) : r < z.heap.size ∧ mr < z.heap.size := by
  obtain ⟨es, ck, since, seen, c0, h1, h2, _⟩ := h
  exact ⟨(Array.getElem?_eq_some_iff.1 h1).1, (Array.getElem?_eq_some_iff.1 h2).1⟩
theorem ItD.frame {z z' : World} {r mr : Nat} (h : ItD z r mr) (h1 : z'.heap[r]? = z.heap[r]?) (h2 : z'.heap[mr]? = z.heap[mr]?) : ItD z' r mr := by
  unfold ItD at *
  rw [h1, h2]; exact h
theorem ItD.set {z : World} {r mr : Nat} (h : ItD z r mr) {p : Addr} (h1 : r ≠ p.block) (h2 : mr ≠ p.block) (u : Value) : ItD (z.setCell p u) r mr := h.frame (Below.heap_setCell z p u r h1) (Below.heap_setCell z p u mr h2)
theorem ItD.alloc {z : World} {r mr : Nat} (h : ItD z r mr) (o : Obj) : ItD (z.alloc o) r mr := h.frame (Below.heap_alloc _ _ _ h.lt.1) (Below.heap_alloc _ _ _ h.lt.2)
theorem ItD.below {z z' : World} {r mr : Nat} (h : ItD z r mr) (hb : Below z.heap.size z z') : ItD z' r mr := h.frame (hb.block r h.lt.1) (hb.block mr h.lt.2)
theorem left_all (es : Array MapEntry) : leftOf es #[] = es := by simp [leftOf]
theorem wpList_range_map {P : Program} {w : World} {ops : Array Oper} {rest : List Oper} {o : Oper} {a : Act} {Q : Exit → Act → World → Prop} (hg : o.guard = none) (m : Operand) (t k e' : TypeId) (hop : o.op = Op.range t m) (ht : P.underlying t = some (.map k e'))
    (b : Nat) (hm : a.eval m = .map (some b)) (es : Array MapEntry) (ck n : Nat) (hb : w.heap[b]? = some (.map es ck)) (hn : w.heap.size = n)
    (hK : (w.alloc (.mapIter (some b) ck #[] ck)).heap[n]? = some (.mapIter (some b) ck #[] ck) → (w.alloc (.mapIter (some b) ck #[] ck)).heap[b]? = some (.map es ck) → wpList P ops Q rest (a.put o.dst (.pointer (some ⟨n, 0, none⟩))) (w.alloc (.mapIter (some b) ck #[] ck))) : wpList P ops Q (o :: rest) a w := by
  subst hn
  refine wpList_plain hg fun K' hK' => ?_
  have hrun := run_range_map (P := P) w t k e' b es ck ht hb
  have hlt : b < w.heap.size := (Array.getElem?_eq_some_iff.1 hb).1
  unfold Oper.wp
  simp [execOp, hop, hm, hrun, Result.andThen]
  exact hK' _ _ (hK (heap_alloc_new w _) ((heap_alloc_old w _ hlt).trans hb))
theorem wpList_next_done {P : Program} {w : World} {ops : Array Oper} {rest : List Oper} {o : Oper} {a : Act} {Q : Exit → Act → World → Prop} (hg : o.guard = none) (it : Operand) (hop : o.op = Op.next it false) (r mr : Nat)
    (hit : a.eval it = .pointer (some ⟨r, 0, none⟩)) (h : ItD w r mr) (hK : wpList P ops Q rest (a.put o.dst (.tuple #[.bool false])) w) : wpList P ops Q (o :: rest) a w := by
  obtain ⟨es, ck, since, seen, c0, h1, h2, h3, h4, h5⟩ := h
  refine wpList_plain hg fun K' hK' => ?_
  unfold Oper.wp
  rcases run_next_at (P := P) w o.type r mr since c0 seen es ck h1 h2 h4 h5 with ⟨_, hrun⟩ | ⟨e, he, _⟩
  · simp [execOp, hop, hit, hrun, Result.andThen]
    exact hK' _ _ hK
  · exfalso
    have : leftOf es seen = #[] := Array.eq_empty_of_size_eq_zero h3
    rw [this] at he
    simp at he
theorem setBlock_only {w : World} {r : Nat} {o : Obj} : Only (fun k => k = r) w (setBlock w r o) := ⟨rfl, rfl, rfl, by simp [setBlock], fun k hk hs => by simp [setBlock, Ne.symm hs]⟩
theorem setBlock_at {w : World} {r : Nat} {o : Obj} (h : r < w.heap.size) : (setBlock w r o).heap[r]? = some o := by simp [setBlock, h]
theorem wpList_next_first {P : Program} {w : World} {ops : Array Oper} {rest : List Oper} {o : Oper} {a : Act} {Q : Exit → Act → World → Prop} (hg : o.guard = none) (it : Operand) (hop : o.op = Op.next it false) (r mr ck : Nat) (e : MapEntry)
    (hit : a.eval it = .pointer (some ⟨r, 0, none⟩)) (h1 : w.heap[r]? = some (.mapIter (some mr) ck #[] ck)) (h2 : w.heap[mr]? = some (.map #[e] ck)) (hbn : e.born < ck)
    (hK : ∀ w', ItD w' r mr → (Instr.entry (.pointer (some ⟨r, 0, none⟩))).run P w' = .ok (.tuple #[e.key, e.val]) w' → Only (fun k => k = r) w w' → w'.heap.size = w.heap.size → wpList P ops Q rest (a.put o.dst (.tuple #[.bool true, e.key, e.val])) w') : wpList P ops Q (o :: rest) a w := by
  refine wpList_plain hg fun K' hK' => ?_
  unfold Oper.wp
  have hne : mr ≠ r := by rintro rfl; rw [h1] at h2; cases h2
  have hlt : r < w.heap.size := (Array.getElem?_eq_some_iff.1 h1).1
  have hold : ∀ x ∈ (#[e] : Array MapEntry).toList, x.born < ck := fun x hx => by simp at hx; subst hx; exact hbn
  rcases run_next_at (P := P) w o.type r mr ck ck #[] #[e] ck h1 h2 hold (Nat.le_refl _) with ⟨h0, _⟩ | ⟨e', he, w1, hw1, hrun⟩
  · rw [left_all] at h0; simp at h0
  · rw [left_all] at he
    obtain rfl : e' = e := by simpa using he
    have ho : Only (fun k => k = r) w w1 := by rcases hw1 with rfl | rfl; exact Only.refl _ _; exact (Only.refl _ _).drew
    have hs1 : w1.heap.size = w.heap.size := by rcases hw1 with rfl | rfl <;> rfl
    have hm1 : w1.heap[mr]? = some (.map #[e'] ck) := by rcases hw1 with rfl | rfl <;> exact h2
    have ho2 := ho.trans (setBlock_only (w := w1) (r := r) (o := .mapIter (some mr) ck ((#[] : Array Nat).push e'.born) ck))
    have hr2 := setBlock_at (w := w1) (r := r) (o := .mapIter (some mr) ck ((#[] : Array Nat).push e'.born) ck) (by omega)
    have hm2 : (setBlock w1 r (.mapIter (some mr) ck ((#[] : Array Nat).push e'.born) ck)).heap[mr]? = some (.map #[e'] ck) := (setBlock_only.block mr (by rw [hs1]; exact (Array.getElem?_eq_some_iff.1 h2).1) hne).trans hm1
    have hen := run_entry_at (P := P) _ r mr ck #[] #[e'] ck e' hr2 hm2 (by simp) (by simp)
    simp [execOp, hop, hit, hrun, Result.andThen]
    exact hK' _ _ (hK _ ⟨_, _, _, _, _, hr2, hm2, by simp [leftOf], hold, Nat.le_refl _⟩ hen ho2 (by simp [setBlock, hs1]))
theorem Mp.entry {ν : Type} {vv : ν → Value} {cl : Int} {v : ν} {w : World} {b : Nat} (h : Mp ikv vv iok (one cl (some v)) 1 w b) : ∃ e ck, w.heap[b]? = some (.map #[e] ck) ∧ e.key = ikv cl ∧ e.val = vv v ∧ e.born < ck := by
  obtain ⟨es, ck, hb, hE⟩ := h
  obtain ⟨e, he, hk⟩ := hE.has cl v (one_at _ _)
  have hs := hE.size
  have hes : es = #[e] := by
    rcases es with ⟨l⟩
    rcases l with _ | ⟨x, _ | ⟨y, l⟩⟩
    · simp at he
    · simp at he; rw [he]
    · simp at hs
  subst hes
  obtain ⟨x, u, _, h1, h2, h3⟩ := hE.ent e (by simp)
  have hu : u = v := by
    unfold one at h3
    split at h3
    · simpa using h3.symm
    · cases h3
  subst hu
  exact ⟨e, ck, hb, hk, h2, ((MapKept.stamped_iff _ _).1 hE.stamped).1 e (by simp)⟩
theorem Mp.empty {ν : Type} {vv : ν → Value} {cl : Int} {w : World} {b : Nat} (h : Mp ikv vv iok (one cl none) 1 w b) : ∃ ck, w.heap[b]? = some (.map #[] ck) := by
  obtain ⟨es, ck, hb, hE⟩ := h
  rcases es with ⟨l⟩
  rcases l with _ | ⟨x, l⟩
  · exact ⟨ck, hb⟩
  · obtain ⟨y, u, _, h1, h2, h3⟩ := hE.ent x (by simp)
    unfold one at h3
    split at h3 <;> cases h3
set_option maxHeartbeats 4000000 in
theorem total_some {w z : World} {p mw mr : Nat} {cl : Int} {wv : Option Value} {row : Option R5} {R : R5} (h : S0 w z p mw mr cl wv (some R)) : Calls Try.prog 26 #[.pointer (some ⟨p, 0, none⟩)] z fun e z' => e = .returned (r5v (tog r50 R)) ∧ Below z.heap.size z z' := by
  obtain ⟨e, ck, hb, ek, ev, ebn⟩ := h.mpr.entry
  have c1 := h.c1
  have plt := h.plt
  have o3 := h.o3
  have hml : mr < z.heap.size := by omega
  have HT0 := Lib.hid (fun z' => tog_c r50 R z')
  generalize tog r50 R = X at HT0 ⊢
  clear h
  have HB := Lib.hid hb
  have HE := Lib.hid ebn
  have HEV := Lib.hid ev
  have HB2 := Lib.hid (fun o1 o2 => (show ((z.alloc o1).alloc o2).heap[mr]? = some (.map #[e] ck) from (Below.heap_alloc _ _ _ (by simp; omega)).trans ((Below.heap_alloc _ _ _ hml).trans hb)))
  have HN2 := Lib.hid (fun o1 o2 => (show ((z.alloc o1).alloc o2).heap.size = z.heap.size + 2 by simp))
  clear hb ebn ek ev
  unfold r5v r50 at HT0
  unfold r5v at HEV ⊢
  dsimp only at HT0
  go_enter Try.func26, Try.ntmps26
  go_wp2_with (at_range; refine wpList_range_map rfl _ 109 _ _ rfl Try.underlying109 mr rfl #[e] ck (z.heap.size + 2) (HB2.out _ _) (HN2.out _ _) ?_; intro hr1 hm1)
  go_frame
  refine wp_loop_rounds 3 ?_
  rw [rounds_succ]
  go_wp2_with (first
    | (at_next; refine wpList_next_first rfl _ rfl (z.heap.size + 2) mr ck e rfl hr1 hm1 HE.out ?_; clear hr1 hm1; rw [HEV.out]; intro w1 hD hen ho hs1; obtain ⟨hcc, hff⟩ := bone ho; (try simp at hs1); have hbz : Below z.heap.size z w1 := (ho.below (B := z.heap.size) (by repeat' (first | with_reducible exact Below.refl _ _ | with_reducible assumption | ((with_reducible refine Below.drew ?_)) | ((with_reducible refine below_drewN ?_ _)) | ((with_reducible refine Below.alloc ?_ ?_ _); rotate_left; focus (first | omega | (simp; done) | (simp; omega))) | ((with_reducible refine Below.setCell ?_ ?_ _); rotate_left; focus (first | omega | (simp; done) | (simp; omega))) | ((with_reducible refine Below.trans ?_ (Below.mono (by with_reducible assumption) ?_)); rotate_left; focus (first | omega | (simp; done) | (simp; omega))))) (by simp; try omega) (fun k hk => by omega)); have hF : (w1.cell? ⟨z.heap.size, 0, none⟩ = some (.int .u64 0) ∧ w1.cell? ⟨z.heap.size, 1, none⟩ = some (.int .u64 0) ∧ w1.cell? ⟨z.heap.size, 2, none⟩ = some (.int .u64 0) ∧ w1.cell? ⟨z.heap.size, 3, none⟩ = some (.int .u64 0) ∧ w1.cell? ⟨z.heap.size, 4, none⟩ = some (.int .u64 0) ∧ z.heap.size < w1.heap.size) ∧ (w1.frozen? ⟨z.heap.size, 0, none⟩ = false ∧ w1.frozen? ⟨z.heap.size, 1, none⟩ = false ∧ w1.frozen? ⟨z.heap.size, 2, none⟩ = false ∧ w1.frozen? ⟨z.heap.size, 3, none⟩ = false ∧ w1.frozen? ⟨z.heap.size, 4, none⟩ = false) ∧ (w1.cell? ⟨z.heap.size + 1, 0, none⟩ = some (.int .u64 0) ∧ w1.cell? ⟨z.heap.size + 1, 1, none⟩ = some (.int .u64 0) ∧ w1.cell? ⟨z.heap.size + 1, 2, none⟩ = some (.int .u64 0) ∧ w1.cell? ⟨z.heap.size + 1, 3, none⟩ = some (.int .u64 0) ∧ w1.cell? ⟨z.heap.size + 1, 4, none⟩ = some (.int .u64 0) ∧ z.heap.size + 1 < w1.heap.size) ∧ (w1.frozen? ⟨z.heap.size + 1, 0, none⟩ = false ∧ w1.frozen? ⟨z.heap.size + 1, 1, none⟩ = false ∧ w1.frozen? ⟨z.heap.size + 1, 2, none⟩ = false ∧ w1.frozen? ⟨z.heap.size + 1, 3, none⟩ = false ∧ w1.frozen? ⟨z.heap.size + 1, 4, none⟩ = false) ∧ Below z.heap.size z w1 := (by ((repeat' apply And.intro) <;> first | (simp [go_sem, *]; done) | omega | (repeat' (first | with_reducible exact Below.refl _ _ | with_reducible assumption | ((with_reducible refine Below.drew ?_)) | ((with_reducible refine below_drewN ?_ _)) | ((with_reducible refine Below.alloc ?_ ?_ _); rotate_left; focus (first | omega | (simp; done) | (simp; omega))) | ((with_reducible refine Below.setCell ?_ ?_ _); rotate_left; focus (first | omega | (simp; done) | (simp; omega))) | ((with_reducible refine Below.trans ?_ (Below.mono (by with_reducible assumption) ?_)); rotate_left; focus (first | omega | (simp; done) | (simp; omega))))))); go_split_ands; clear hcc hff ho hbz)
    | (go_at_call 57; (with_reducible refine (HT0.out _).mono ?_); rintro e w2 ⟨rfl, hbel⟩; obtain ⟨hcc, hff⟩ := bcell hbel; have hsz2 := hbel.size; (try simp at hsz2); have hD2 : ItD w2 (z.heap.size + 2) mr := ItD.below (by (repeat (first | with_reducible assumption | (refine ItD.set ?_ (by simp; try omega) (by simp; try omega) _) | (refine ItD.alloc ?_ _)))) hbel; clear hD hen; have hF : (w2.cell? ⟨z.heap.size, 0, none⟩ = some (.int .u64 0) ∧ w2.cell? ⟨z.heap.size, 1, none⟩ = some (.int .u64 0) ∧ w2.cell? ⟨z.heap.size, 2, none⟩ = some (.int .u64 0) ∧ w2.cell? ⟨z.heap.size, 3, none⟩ = some (.int .u64 0) ∧ w2.cell? ⟨z.heap.size, 4, none⟩ = some (.int .u64 0) ∧ z.heap.size < w2.heap.size) ∧ (w2.frozen? ⟨z.heap.size, 0, none⟩ = false ∧ w2.frozen? ⟨z.heap.size, 1, none⟩ = false ∧ w2.frozen? ⟨z.heap.size, 2, none⟩ = false ∧ w2.frozen? ⟨z.heap.size, 3, none⟩ = false ∧ w2.frozen? ⟨z.heap.size, 4, none⟩ = false) ∧ (w2.cell? ⟨z.heap.size + 1, 0, none⟩ = some (.int .u64 0) ∧ w2.cell? ⟨z.heap.size + 1, 1, none⟩ = some (.int .u64 0) ∧ w2.cell? ⟨z.heap.size + 1, 2, none⟩ = some (.int .u64 0) ∧ w2.cell? ⟨z.heap.size + 1, 3, none⟩ = some (.int .u64 0) ∧ w2.cell? ⟨z.heap.size + 1, 4, none⟩ = some (.int .u64 0) ∧ z.heap.size + 1 < w2.heap.size) ∧ (w2.frozen? ⟨z.heap.size + 1, 0, none⟩ = false ∧ w2.frozen? ⟨z.heap.size + 1, 1, none⟩ = false ∧ w2.frozen? ⟨z.heap.size + 1, 2, none⟩ = false ∧ w2.frozen? ⟨z.heap.size + 1, 3, none⟩ = false ∧ w2.frozen? ⟨z.heap.size + 1, 4, none⟩ = false) ∧ Below z.heap.size z w2 := (by ((repeat' apply And.intro) <;> first | (simp [go_sem, *]; done) | omega | (repeat' (first | with_reducible exact Below.refl _ _ | with_reducible assumption | ((with_reducible refine Below.drew ?_)) | ((with_reducible refine below_drewN ?_ _)) | ((with_reducible refine Below.alloc ?_ ?_ _); rotate_left; focus (first | omega | (simp; done) | (simp; omega))) | ((with_reducible refine Below.setCell ?_ ?_ _); rotate_left; focus (first | omega | (simp; done) | (simp; omega))) | ((with_reducible refine Below.trans ?_ (Below.mono (by with_reducible assumption) ?_)); rotate_left; focus (first | omega | (simp; done) | (simp; omega))))))); go_split_ands; clear hcc hff hbel))
  rw [rounds_succ]
  go_wp2_with (at_next; refine wpList_next_done rfl _ rfl (z.heap.size + 2) mr rfl (by (repeat (first | with_reducible assumption | (refine ItD.set ?_ (by simp; try omega) (by simp; try omega) _) | (refine ItD.alloc ?_ _)))) ?_)
  refine bodyPost_ret (v := .agg #[.int .u64 (X).a, .int .u64 (X).b, .int .u64 (X).c, .int .u64 (X).d, .int .u64 (X).e]) (by simp [results, Try.results26, go_sem, *]) rfl ⟨rfl, (by repeat' (first | with_reducible exact Below.refl _ _ | with_reducible assumption | ((with_reducible refine Below.drew ?_)) | ((with_reducible refine below_drewN ?_ _)) | ((with_reducible refine Below.alloc ?_ ?_ _); rotate_left; focus (first | omega | (simp; done) | (simp; omega))) | ((with_reducible refine Below.setCell ?_ ?_ _); rotate_left; focus (first | omega | (simp; done) | (simp; omega))) | ((with_reducible refine Below.trans ?_ (Below.mono (by with_reducible assumption) ?_)); rotate_left; focus (first | omega | (simp; done) | (simp; omega)))))⟩
end Go.Proofs.Ytkbglhkhhoakgaa
