/- Joined texts. -/
import Derived.Test.YtffaahipgabkhaaGreatJn0
import Derived.Test.YtffaahipgabkhaaGreatJn2
import Derived.Test.YtffaahipgabkhaaGreatJn3
import Derived.Maps.RangeRun
import Derived.Shelf.SlIterI.Nil
import Derived.Shelf.SortM.Plain
import Derived.Shelf.SortM.SortNone
import Derived.Ground.GgzProg
import Derived.Ground.SlgmProg
import Derived.Sort.OwnSortedInts
set_option linter.unusedVariables false
set_option linter.unusedSimpArgs false
set_option maxRecDepth 100000
set_option maxHeartbeats 16000000
section
namespace Go.Proofs.YtffaahipgabkhaaGreat
open Go.RowKit Fg Reg Go.Maps
attribute [local irreducible] Reg.wE
def clv (c : Cls) : Value := .agg #[.int .i64 c.id, .int .i64 c.par, .bool c.leaf, .int .u64 c.ra, .int .u64 c.rb, .int .u64 c.rc, .int .u64 c.la, .int .u64 c.lb, .int .u64 c.lc, .int .u64 c.ua, .int .u64 c.ub, .int .u64 c.uc, .int .i64 c.pk, .int .i64 c.bt]
structure HT (z : World) (tb mb : Nat) (f : Int → Option Cls) : Prop where
 c0 : z.cell? ⟨tb, 0, none⟩ = some (.map (some mb))
 lt : tb < z.heap.size
 ne : mb ≠ tb
 mp : ∃ n, Mp ikv clv iok f n z mb
theorem HT.mlt {z : World} {tb mb : Nat} {f : Int → Option Cls} (h : HT z tb mb f) : mb < z.heap.size := by
 obtain ⟨n, hn⟩ := h.mp
 exact hn.lt
theorem HT.below {z z' : World} {tb mb : Nat} {f : Int → Option Cls} (h : HT z tb mb f) (hb : Below z.heap.size z z') : HT z' tb mb f := by
 obtain ⟨n, hn⟩ := h.mp
 exact ⟨(hb.cell (p := ⟨tb, 0, none⟩) h.lt).trans h.c0, Nat.lt_of_lt_of_le h.lt hb.size, h.ne, n, hn.below hb hn.lt⟩
theorem c_zv (w : World) : (zeroValue 48).run Tryz.prog w = .ok (.agg #[.int .i64 0, .int .i64 0, .bool false, .int .u64 0, .int .u64 0, .int .u64 0, .int .u64 0, .int .u64 0, .int .u64 0, .int .u64 0, .int .u64 0, .int .u64 0, .int .i64 0, .int .i64 0]) w := by kernel_rfl
theorem HT.look {z : World} {tb mb : Nat} {f : Int → Option Cls} (h : HT z tb mb f) {i : Int} (hi : iok i) (c : Bool) : (Instr.lookup 77 (.map (some mb)) (.int .i64 i) c).run Tryz.prog z = .ok (if c then .tuple #[mget (.agg #[.int .i64 0, .int .i64 0, .bool false, .int .u64 0, .int .u64 0, .int .u64 0, .int .u64 0, .int .u64 0, .int .u64 0, .int .u64 0, .int .u64 0, .int .u64 0, .int .i64 0, .int .i64 0]) clv (f i), .bool (f i).isSome] else mget (.agg #[.int .i64 0, .int .i64 0, .bool false, .int .u64 0, .int .u64 0, .int .u64 0, .int .u64 0, .int .u64 0, .int .u64 0, .int .u64 0, .int .u64 0, .int .u64 0, .int .i64 0, .int .i64 0]) clv (f i)) z := by
 obtain ⟨n, hn⟩ := h.mp
 exact Mp.look c hn ikok Tryz.underlying77 (c_zv z) hi
theorem hnew_c (w : World) : Calls Tryz.prog 19 #[] w fun e w' => ∃ tb mb, e = .returned (.pointer (some ⟨tb, 0, none⟩)) ∧ w.heap.size ≤ tb ∧ w.heap.size ≤ mb ∧ HT w' tb mb (fun _ => none) ∧ Below w.heap.size w w' := by
 have hmm := @run_makeMap Tryz.prog
 have hma := Mp.made (κ := Int) ikv clv iok w
 have hht : HT ((w.alloc (.map #[] 0)).alloc (.cells #[.map (some w.heap.size)] 79)) (w.heap.size + 1) w.heap.size (fun _ => none) := ⟨by simp [go_sem], by simp, by omega, 0, hma.alloc _⟩
 have HH := Lib.hid hht
 clear hma hht
 go_enter Tryz.func19, Tryz.ntmps19
 go_wp2
 refine bodyPost_ret (v := .pointer (some ⟨(w.heap.size + 1), 0, none⟩)) (by simp [results, Tryz.results19, go_sem, *]) rfl ⟨_, _, rfl, by omega, Nat.le_refl _, HH.out, ?_⟩
 exact bub
theorem hget_y {w : World} {tb mb : Nat} {f : Int → Option Cls} (h : HT w tb mb f) {i : Int} (hi : iok i) {c : Cls} (hc : f i = some c) : Calls Tryz.prog 30 #[.pointer (some ⟨tb, 0, none⟩), .int .i64 i] w fun ee w' => ee = .returned (.tuple #[.agg #[.int .i64 c.id, .int .i64 c.par, .bool c.leaf, .int .u64 c.ra, .int .u64 c.rb, .int .u64 c.rc, .int .u64 c.la, .int .u64 c.lb, .int .u64 c.lc, .int .u64 c.ua, .int .u64 c.ub, .int .u64 c.uc, .int .i64 c.pk, .int .i64 c.bt], .int .i64 0]) ∧ Below w.heap.size w w' := by
 have h1 : HT (w.alloc (.cells #[.int .i64 0, .int .i64 0, .bool false, .int .u64 0, .int .u64 0, .int .u64 0, .int .u64 0, .int .u64 0, .int .u64 0, .int .u64 0, .int .u64 0, .int .u64 0, .int .i64 0, .int .i64 0] 48)) tb mb f := h.below bub
 have hl : (Instr.lookup 77 (.map (some mb)) (.int .i64 i) true).run Tryz.prog (w.alloc (.cells #[.int .i64 0, .int .i64 0, .bool false, .int .u64 0, .int .u64 0, .int .u64 0, .int .u64 0, .int .u64 0, .int .u64 0, .int .u64 0, .int .u64 0, .int .u64 0, .int .i64 0, .int .i64 0] 48)) = .ok (.tuple #[.agg #[.int .i64 c.id, .int .i64 c.par, .bool c.leaf, .int .u64 c.ra, .int .u64 c.rb, .int .u64 c.rc, .int .u64 c.la, .int .u64 c.lb, .int .u64 c.lc, .int .u64 c.ua, .int .u64 c.ub, .int .u64 c.uc, .int .i64 c.pk, .int .i64 c.bt], .bool true]) (w.alloc (.cells #[.int .i64 0, .int .i64 0, .bool false, .int .u64 0, .int .u64 0, .int .u64 0, .int .u64 0, .int .u64 0, .int .u64 0, .int .u64 0, .int .u64 0, .int .u64 0, .int .i64 0, .int .i64 0] 48)) := by
  have := h1.look hi true
  rw [hc] at this
  exact this
 have c0 := h1.c0
 have lt := h.lt
 clear h hc h1
 go_enter Tryz.func30, Tryz.ntmps30
 go_wp2
 refine bodyPost_ret (v := (.tuple #[.agg #[.int .i64 c.id, .int .i64 c.par, .bool c.leaf, .int .u64 c.ra, .int .u64 c.rb, .int .u64 c.rc, .int .u64 c.la, .int .u64 c.lb, .int .u64 c.lc, .int .u64 c.ua, .int .u64 c.ub, .int .u64 c.uc, .int .i64 c.pk, .int .i64 c.bt], .int .i64 0])) (by simp [results, Tryz.results30, go_sem, *]) rfl ⟨rfl, ?_⟩
 exact bub
theorem hget_n {w : World} {tb mb : Nat} {f : Int → Option Cls} (h : HT w tb mb f) {i : Int} (hi : iok i) (hc : f i = none) : Calls Tryz.prog 30 #[.pointer (some ⟨tb, 0, none⟩), .int .i64 i] w fun ee w' => ee = .returned (.tuple #[.agg #[.int .i64 0, .int .i64 0, .bool false, .int .u64 0, .int .u64 0, .int .u64 0, .int .u64 0, .int .u64 0, .int .u64 0, .int .u64 0, .int .u64 0, .int .u64 0, .int .i64 0, .int .i64 0], .int .i64 6]) ∧ Below w.heap.size w w' := by
 have h1 : HT (w.alloc (.cells #[.int .i64 0, .int .i64 0, .bool false, .int .u64 0, .int .u64 0, .int .u64 0, .int .u64 0, .int .u64 0, .int .u64 0, .int .u64 0, .int .u64 0, .int .u64 0, .int .i64 0, .int .i64 0] 48)) tb mb f := h.below bub
 have hl : (Instr.lookup 77 (.map (some mb)) (.int .i64 i) true).run Tryz.prog (w.alloc (.cells #[.int .i64 0, .int .i64 0, .bool false, .int .u64 0, .int .u64 0, .int .u64 0, .int .u64 0, .int .u64 0, .int .u64 0, .int .u64 0, .int .u64 0, .int .u64 0, .int .i64 0, .int .i64 0] 48)) = .ok (.tuple #[.agg #[.int .i64 0, .int .i64 0, .bool false, .int .u64 0, .int .u64 0, .int .u64 0, .int .u64 0, .int .u64 0, .int .u64 0, .int .u64 0, .int .u64 0, .int .u64 0, .int .i64 0, .int .i64 0], .bool false]) (w.alloc (.cells #[.int .i64 0, .int .i64 0, .bool false, .int .u64 0, .int .u64 0, .int .u64 0, .int .u64 0, .int .u64 0, .int .u64 0, .int .u64 0, .int .u64 0, .int .u64 0, .int .i64 0, .int .i64 0] 48)) := by
  have := h1.look hi true
  rw [hc] at this
  exact this
 have c0 := h1.c0
 have lt := h.lt
 clear h hc h1
 go_enter Tryz.func30, Tryz.ntmps30
 go_wp2
 refine bodyPost_ret (v := (.tuple #[.agg #[.int .i64 0, .int .i64 0, .bool false, .int .u64 0, .int .u64 0, .int .u64 0, .int .u64 0, .int .u64 0, .int .u64 0, .int .u64 0, .int .u64 0, .int .u64 0, .int .i64 0, .int .i64 0], .int .i64 6])) (by simp [results, Tryz.results30, go_sem, *]) rfl ⟨rfl, ?_⟩
 exact bub
end Go.Proofs.YtffaahipgabkhaaGreat
end
section
namespace Go.Proofs.YtffaahipgabkhaaGreat
open Go.RowKit Fg Reg Go.Maps
attribute [local irreducible] Reg.wE
def hol (f : Int → Option Cls) (i : Int) : Bool := (i == 0) || (match f i with | some c => !c.leaf | none => false)
theorem holds_c {w : World} {tb mb : Nat} {f : Int → Option Cls} (h : HT w tb mb f) {i : Int} (hi : iok i) : Calls Tryz.prog 45 #[.pointer (some ⟨tb, 0, none⟩), .int .i64 i] w fun ee w' => ee = .returned (.bool (hol f i)) ∧ Below w.heap.size w w' := by
 have c0 := h.c0
 have lt := h.lt
 have hl0 := h.look hi true
 unfold hol
 cases hz : (i == 0) with
 | true =>
  rw [Bool.true_or]
  cases hc : f i with
  | none =>
   rw [hc] at hl0
   have hl : (Instr.lookup 77 (.map (some mb)) (.int .i64 i) true).run Tryz.prog w = .ok (.tuple #[.agg #[.int .i64 0, .int .i64 0, .bool false, .int .u64 0, .int .u64 0, .int .u64 0, .int .u64 0, .int .u64 0, .int .u64 0, .int .u64 0, .int .u64 0, .int .u64 0, .int .i64 0, .int .i64 0], .bool false]) w := hl0
   (clear hl0 h hc; go_enter Tryz.func45, Tryz.ntmps45; go_wp2_with (first | go_guarded); refine bodyPost_ret (v := (.bool true)) (by simp [results, Tryz.results45, go_sem, *]) rfl ⟨rfl, ?_⟩; exact bub)
  | some c =>
   rw [hc] at hl0
   have hl : (Instr.lookup 77 (.map (some mb)) (.int .i64 i) true).run Tryz.prog w = .ok (.tuple #[.agg #[.int .i64 c.id, .int .i64 c.par, .bool c.leaf, .int .u64 c.ra, .int .u64 c.rb, .int .u64 c.rc, .int .u64 c.la, .int .u64 c.lb, .int .u64 c.lc, .int .u64 c.ua, .int .u64 c.ub, .int .u64 c.uc, .int .i64 c.pk, .int .i64 c.bt], .bool true]) w := hl0
   (clear hl0 h hc; go_enter Tryz.func45, Tryz.ntmps45; go_wp2_with (first | go_guarded); refine bodyPost_ret (v := (.bool true)) (by simp [results, Tryz.results45, go_sem, *]) rfl ⟨rfl, ?_⟩; exact bub)
 | false =>
  rw [Bool.false_or]
  cases hc : f i with
  | none =>
   rw [hc] at hl0
   have hl : (Instr.lookup 77 (.map (some mb)) (.int .i64 i) true).run Tryz.prog w = .ok (.tuple #[.agg #[.int .i64 0, .int .i64 0, .bool false, .int .u64 0, .int .u64 0, .int .u64 0, .int .u64 0, .int .u64 0, .int .u64 0, .int .u64 0, .int .u64 0, .int .u64 0, .int .i64 0, .int .i64 0], .bool false]) w := hl0
   (clear hl0 h hc; go_enter Tryz.func45, Tryz.ntmps45; go_wp2_with (first | go_guarded); refine bodyPost_ret (v := (.bool false)) (by simp [results, Tryz.results45, go_sem, *]) rfl ⟨rfl, ?_⟩; exact bub)
  | some c =>
   rw [hc] at hl0
   have hl : (Instr.lookup 77 (.map (some mb)) (.int .i64 i) true).run Tryz.prog w = .ok (.tuple #[.agg #[.int .i64 c.id, .int .i64 c.par, .bool c.leaf, .int .u64 c.ra, .int .u64 c.rb, .int .u64 c.rc, .int .u64 c.la, .int .u64 c.lb, .int .u64 c.lc, .int .u64 c.ua, .int .u64 c.ub, .int .u64 c.uc, .int .i64 c.pk, .int .i64 c.bt], .bool true]) w := hl0
   show Calls Tryz.prog 45 #[.pointer (some ⟨tb, 0, none⟩), .int .i64 i] w fun ee w' => ee = .returned (.bool (!c.leaf)) ∧ Below w.heap.size w w'
   cases hlf : c.leaf with
   | true => (clear hl0 h hc; go_enter Tryz.func45, Tryz.ntmps45; go_wp2_with (first | go_guarded); refine bodyPost_ret (v := (.bool false)) (by simp [results, Tryz.results45, go_sem, *]) rfl ⟨rfl, ?_⟩; exact bub)
   | false => (clear hl0 h hc; go_enter Tryz.func45, Tryz.ntmps45; go_wp2_with (first | go_guarded); refine bodyPost_ret (v := (.bool true)) (by simp [results, Tryz.results45, go_sem, *]) rfl ⟨rfl, ?_⟩; exact bub)
end Go.Proofs.YtffaahipgabkhaaGreat
end
section
namespace Go.Proofs.YtffaahipgabkhaaGreat
open Go.RowKit Fg Reg Go.Maps
open Go.ChangeMaps (setBlock)
section
variable {P : Program} {κ ν : Type} {kv : κ → Value} {vv : ν → Value} {ok : κ → Prop} {f : κ → Option ν}
def ItM (kv : κ → Value) (vv : ν → Value) (ok : κ → Prop) (f : κ → Option ν) (ks : List κ) (z : World) (r mr : Nat) : Prop :=
 ∃ es ck since seen c0 n, z.heap[r]? = some (.mapIter (some mr) since seen c0) ∧ z.heap[mr]? = some (.map es ck) ∧ MpEnt kv vv ok f n es ck ∧ (∀ x ∈ es.toList, x.born < since) ∧ since ≤ c0 ∧ c0 ≤ ck ∧
  (∀ e ∈ es.toList, ∀ x, ok x → e.key = kv x → (seen.contains e.born = true ↔ x ∈ ks))
theorem ItM.lt {z : World} {r mr : Nat} {ks : List κ} (h : ItM kv vv ok f ks z r mr) : r < z.heap.size ∧ mr < z.heap.size := by
 obtain ⟨es, ck, since, seen, c0, n, h1, h2, _⟩ := h
 exact ⟨(Array.getElem?_eq_some_iff.1 h1).1, (Array.getElem?_eq_some_iff.1 h2).1⟩
theorem ItM.frame {z z' : World} {r mr : Nat} {ks : List κ} (h : ItM kv vv ok f ks z r mr) (h1 : z'.heap[r]? = z.heap[r]?) (h2 : z'.heap[mr]? = z.heap[mr]?) : ItM kv vv ok f ks z' r mr := by
 unfold ItM at *
 rw [h1, h2]
 exact h
theorem ItM.below {z z' : World} {r mr : Nat} {ks : List κ} (h : ItM kv vv ok f ks z r mr) (hb : Below z.heap.size z z') : ItM kv vv ok f ks z' r mr := h.frame (hb.block r h.lt.1) (hb.block mr h.lt.2)
theorem sB_only {w : World} {r : Nat} {o : Obj} : Only (fun k => k = r) w (setBlock w r o) := ⟨rfl, rfl, rfl, by simp [setBlock], fun k hk hs => by simp [setBlock, Ne.symm hs]⟩
theorem sB_at {w : World} {r : Nat} {o : Obj} (h : r < w.heap.size) : (setBlock w r o).heap[r]? = some o := by simp [setBlock, h]
theorem nd_inj {α β : Type} {g : α → β} : ∀ {l : List α}, (l.map g).Nodup → ∀ a ∈ l, ∀ b ∈ l, g a = g b → a = b
 | [], _, a, ha, _, _, _ => by simp at ha
 | x :: l, h, a, ha, b, hb, e => by
  rw [List.map_cons, List.nodup_cons] at h
  rcases List.mem_cons.1 ha with ha2 | ha2 <;> rcases List.mem_cons.1 hb with hb2 | hb2
  ·rw [ha2, hb2]
  ·subst ha2; exact absurd (by rw [e]; exact List.mem_map_of_mem hb2) h.1
  ·subst hb2; exact absurd (by rw [← e]; exact List.mem_map_of_mem ha2) h.1
  ·exact nd_inj h.2 a ha2 b hb2 e
theorem ItM.step {w : World} {r mr : Nat} {ks : List κ} (h : ItM kv vv ok f ks w r mr) (ty : TypeId) :
  ((∀ x v, ok x → f x = some v → x ∈ ks) ∧ (Instr.next (.pointer (some ⟨r, 0, none⟩)) false ty).run P w = .ok (.tuple #[.bool false]) w) ∨
  ∃ x v w', ok x ∧ x ∉ ks ∧ f x = some v ∧ (Instr.next (.pointer (some ⟨r, 0, none⟩)) false ty).run P w = .ok (.tuple #[.bool true, kv x, vv v]) w' ∧ (Instr.entry (.pointer (some ⟨r, 0, none⟩))).run P w' = .ok (.tuple #[kv x, vv v]) w' ∧ (∀ hinj : ∀ a b, ok a → ok b → kv a = kv b → a = b, ItM kv vv ok f (ks ++ [x]) w' r mr) ∧ Only (fun k => k = r) w w' ∧ w'.heap.size = w.heap.size := by
 obtain ⟨es, ck, since, seen, c0, n, h1, h2, hE, h4, h5, h6, hk⟩ := h
 have hne : mr ≠ r := by rintro rfl; rw [h1] at h2; cases h2
 have hlt : r < w.heap.size := (Array.getElem?_eq_some_iff.1 h1).1
 rcases run_next_at (P := P) w ty r mr since c0 seen es ck h1 h2 h4 h5 with ⟨h0, hrun⟩ | ⟨e, he, w1, hw1, hrun⟩
 ·refine .inl ⟨fun x v hx hf => ?_, hrun⟩
  obtain ⟨e, he, hke⟩ := hE.has x v hf
  refine (hk e he x hx hke).1 ?_
  have hl : leftOf es seen = #[] := Array.eq_empty_of_size_eq_zero h0
  cases hc : seen.contains e.born with
  | true => rfl
  | false =>
   exfalso
   have : e ∈ (leftOf es seen).toList := by unfold leftOf; simp at he ⊢; exact ⟨he, by simpa using hc⟩
   rw [hl] at this
   simp at this
 ·right
  have hl : e ∈ es.toList ∧ seen.contains e.born = false := by unfold leftOf at he; simp at he ⊢; exact he
  obtain ⟨x, v, hx, ek, ev, hf⟩ := hE.ent e hl.1
  have ho : Only (fun k => k = r) w w1 := by rcases hw1 with rfl | rfl; exact Only.refl _ _; exact (Only.refl _ _).drew
  have hs1 : w1.heap = w.heap := by rcases hw1 with rfl | rfl <;> rfl
  have hr1 : (setBlock w1 r (.mapIter (some mr) since (seen.push e.born) ck)).heap[r]? = some (.mapIter (some mr) since (seen.push e.born) ck) := sB_at (by rw [hs1]; exact hlt)
  have hm1 : (setBlock w1 r (.mapIter (some mr) since (seen.push e.born) ck)).heap[mr]? = some (.map es ck) := by
   rw [← h2, ← hs1]; simp [setBlock, Ne.symm hne]
  refine ⟨x, v, _, hx, fun hm => ?_, hf, by rw [hrun, ek, ev], ?_, fun hinj => ?_, ho.trans sB_only, by simp [setBlock, hs1]⟩
  ·have := (hk e hl.1 x hx ek).2 hm
   rw [hl.2] at this
   cases this
  ·rw [← ek, ← ev]
   exact run_entry_at _ r mr since seen es ck e hr1 hm1 hl.1 hE.stamped.2.1
  ·refine ⟨es, ck, since, seen.push e.born, ck, n, hr1, hm1, hE, h4, Nat.le_trans h5 h6, Nat.le_refl _, fun e2 he2 y hy hky => ?_⟩
   rw [List.mem_append, List.mem_singleton]
   constructor
   ·intro hc
    simp only [Array.contains_push, Bool.or_eq_true, beq_iff_eq] at hc
    rcases hc with hc | hc
    ·exact .inl ((hk e2 he2 y hy hky).1 hc)
    ·exact .inr (hinj y x hy hx (by rw [← hky, ← ek, nd_inj hE.stamped.2.1 e2 he2 e hl.1 (by first | exact hc | exact hc.symm)]))
   ·rintro (hc | rfl)
    ·have := (hk e2 he2 y hy hky).2 hc
     simp only [Array.contains_push, Bool.or_eq_true]
     exact .inl this
    ·simp only [Array.contains_push, Bool.or_eq_true, beq_iff_eq]
     have h9 := nd_inj hE.stamped.2.2 e2 he2 e hl.1 (by rw [hky, ek])
     exact .inr (by rw [h9])
theorem wpList_range_itm {w : World} {ops : Array Oper} {rest : List Oper} {o : Oper} {a : Act} {Q : Exit → Act → World → Prop} (hg : o.guard = none) (m : Operand) (t k e' : TypeId) (hop : o.op = Op.range t m) (ht : P.underlying t = some (.map k e'))
  (b n0 n : Nat) (hm : a.eval m = .map (some b)) (h : Mp kv vv ok f n0 w b) (hn : w.heap.size = n)
  (hK : ∀ w', ItM kv vv ok f [] w' n b → Below n w w' → w'.heap.size = n + 1 → wpList P ops Q rest (a.put o.dst (.pointer (some ⟨n, 0, none⟩))) w') : wpList P ops Q (o :: rest) a w := by
 subst hn
 obtain ⟨es, ck, hb, hE⟩ := h
 refine wpList_plain hg fun K' hK' => ?_
 have hrun := run_range_map (P := P) w t k e' b es ck ht hb
 have hlt : b < w.heap.size := (Array.getElem?_eq_some_iff.1 hb).1
 unfold Oper.wp
 simp [execOp, hop, hm, hrun, Result.andThen]
 exact hK' _ _ (hK _ ⟨es, ck, ck, #[], ck, n0, heap_alloc_new w _, (heap_alloc_old w _ hlt).trans hb, hE, hE.stamped.1, Nat.le_refl _, Nat.le_refl _, fun e _ x _ _ => by simp⟩ (Below.alloc (Below.refl _ _) (Nat.le_refl _) _) (by simp))
theorem wpList_next_end {w : World} {ops : Array Oper} {rest : List Oper} {o : Oper} {a : Act} {Q : Exit → Act → World → Prop} (hg : o.guard = none) (it : Operand) (hop : o.op = Op.next it false) (r mr : Nat) {ks : List κ}
  (hit : a.eval it = .pointer (some ⟨r, 0, none⟩)) (h : ItM kv vv ok f ks w r mr) (hd : ∀ x v, ok x → f x = some v → x ∈ ks)
  (hK : wpList P ops Q rest (a.put o.dst (.tuple #[.bool false])) w) : wpList P ops Q (o :: rest) a w := by
 refine wpList_plain hg fun K' hK' => ?_
 unfold Oper.wp
 rcases h.step (P := P) o.type with ⟨_, hrun⟩ | ⟨x, v, w', hx, hm, hf, _⟩
 ·simp [execOp, hop, hit, hrun, Result.andThen]
  exact hK' _ _ hK
 ·exact absurd (hd x v hx hf) hm
theorem wpList_next_more {w : World} {ops : Array Oper} {rest : List Oper} {o : Oper} {a : Act} {Q : Exit → Act → World → Prop} (hg : o.guard = none) (it : Operand) (hop : o.op = Op.next it false) (r mr : Nat) {ks : List κ}
  (hit : a.eval it = .pointer (some ⟨r, 0, none⟩)) (h : ItM kv vv ok f ks w r mr) (hm : ∃ x v, ok x ∧ f x = some v ∧ x ∉ ks) (hinj : ∀ a b, ok a → ok b → kv a = kv b → a = b)
  (hK : ∀ x v w', ok x → x ∉ ks → f x = some v → (Instr.entry (.pointer (some ⟨r, 0, none⟩))).run P w' = .ok (.tuple #[kv x, vv v]) w' → ItM kv vv ok f (ks ++ [x]) w' r mr → Only (fun k => k = r) w w' → w'.heap.size = w.heap.size → wpList P ops Q rest (a.put o.dst (.tuple #[.bool true, kv x, vv v])) w') : wpList P ops Q (o :: rest) a w := by
 refine wpList_plain hg fun K' hK' => ?_
 unfold Oper.wp
 rcases h.step (P := P) o.type with ⟨hd, _⟩ | ⟨x, v, w', hx, hn, hf, hrun, hen, hI, ho, hs⟩
 ·obtain ⟨x, v, hx, hf, hn⟩ := hm
  exact absurd (hd x v hx hf) hn
 ·simp [execOp, hop, hit, hrun, Result.andThen]
  exact hK' _ _ (hK x v w' hx hn hf hen (hI hinj) ho hs)
end
end Go.Proofs.YtffaahipgabkhaaGreat
end
section
namespace Go.Proofs.YtffaahipgabkhaaGreat
open Go.Shelf
def sortA_ren : Go.Shelf.Ren := ⟨fun | 5 => 32 | 8 => 65 | 7 => 64 | 19 => 106 | 20 => 107 | 10 => 97 | 11 => 98 | 12 => 99 | 13 => 100 | 14 => 101 | 15 => 102 | 16 => 103 | 17 => 104 | 18 => 105 | 30 => 123 | 31 => 124 | 32 => 125 | 33 => 126 | 34 => 127 | 35 => 128 | 40 => 136 | n => n, fun | 23 => 36 | 25 => 3 | 3 => 3 | 32 => 95 | 22 => 36 | 0 => 0 | 44 => 131 | 46 => 44 | 4 => 4 | 36 => 123 | 35 => 122 | 41 => 128 | 5 => 5 | 9 => 9 | 53 => 148 | 57 => 152 | 63 => 161 | 64 => 162 | n => n, fun | n => n⟩
theorem sortA : Go.Proofs.SlLaysM.n5 Tryz.prog sortA_ren := {
 mixed := by kernel_rfl
 f5 := ⟨Tryz.f32.name, by decide, Tryz.func32.trans (congrArg some (by kernel_rfl))⟩
 f7 := ⟨Tryz.f64.name, by decide, Tryz.func64.trans (congrArg some (by kernel_rfl))⟩
 f8 := Tryz.func65.trans (congrArg some (by kernel_rfl))
 f10 := ⟨Tryz.f97.name, by decide, Tryz.func97.trans (congrArg some (by kernel_rfl))⟩
 f11 := ⟨Tryz.f98.name, by decide, Tryz.func98.trans (congrArg some (by kernel_rfl))⟩
 f12 := ⟨Tryz.f99.name, by decide, Tryz.func99.trans (congrArg some (by kernel_rfl))⟩
 f13 := ⟨Tryz.f100.name, by decide, Tryz.func100.trans (congrArg some (by kernel_rfl))⟩
 f14 := ⟨Tryz.f101.name, by decide, Tryz.func101.trans (congrArg some (by kernel_rfl))⟩
 f15 := ⟨Tryz.f102.name, by decide, Tryz.func102.trans (congrArg some (by kernel_rfl))⟩
 f16 := ⟨Tryz.f103.name, by decide, Tryz.func103.trans (congrArg some (by kernel_rfl))⟩
 f17 := ⟨Tryz.f104.name, by decide, Tryz.func104.trans (congrArg some (by kernel_rfl))⟩
 f18 := ⟨Tryz.f105.name, by decide, Tryz.func105.trans (congrArg some (by kernel_rfl))⟩
 f19 := Tryz.func106.trans (congrArg some (by kernel_rfl))
 f20 := Tryz.func107.trans (congrArg some (by kernel_rfl))
 f30 := ⟨Tryz.f123.name, by decide, Tryz.func123.trans (congrArg some (by kernel_rfl))⟩
 f31 := Tryz.func124.trans (congrArg some (by kernel_rfl))
 f32 := Tryz.func125.trans (congrArg some (by kernel_rfl))
 f33 := ⟨Tryz.f126.name, by decide, Tryz.func126.trans (congrArg some (by kernel_rfl))⟩
 f34 := ⟨Tryz.f127.name, by decide, Tryz.func127.trans (congrArg some (by kernel_rfl))⟩
 f35 := ⟨Tryz.f128.name, by decide, Tryz.func128.trans (congrArg some (by kernel_rfl))⟩
 f40 := ⟨Tryz.f136.name, by decide, Tryz.func136.trans (congrArg some (by kernel_rfl))⟩
 t0 := Tryz.underlying0
 a0 := Tryz.isAgg0
 z0 := Tryz.sizeOf0
 v0 := Tryz.zeroValue0
 t3 := Tryz.underlying3
 a3 := Tryz.isAgg3
 z3 := Tryz.sizeOf3
 v3 := Tryz.zeroValue3
 t4 := Tryz.underlying4
 a4 := Tryz.isAgg4
 z4 := Tryz.sizeOf4
 v4 := Tryz.zeroValue4
 t5 := Tryz.underlying5
 a5 := Tryz.isAgg5
 z5 := Tryz.sizeOf5
 v5 := Tryz.zeroValue5
 t9 := Tryz.underlying9
 a9 := Tryz.isAgg9
 z9 := Tryz.sizeOf9
 v9 := Tryz.zeroValue9
 t22 := Tryz.underlying36
 a22 := Tryz.isAgg36
 z22 := Tryz.sizeOf36
 v22 := Tryz.zeroValue36
 t23 := Tryz.underlying36
 a23 := Tryz.isAgg36
 z23 := Tryz.sizeOf36
 v23 := Tryz.zeroValue36
 t25 := Tryz.underlying3
 a25 := Tryz.isAgg3
 z25 := Tryz.sizeOf3
 v25 := Tryz.zeroValue3
 t32 := Tryz.underlying95
 a32 := Tryz.isAgg95
 z32 := Tryz.sizeOf95
 v32 := Tryz.zeroValue95
 t35 := Tryz.underlying122
 a35 := Tryz.isAgg122
 z35 := Tryz.sizeOf122
 v35 := Tryz.zeroValue122
 t36 := Tryz.underlying123
 a36 := Tryz.isAgg123
 z36 := Tryz.sizeOf123
 v36 := Tryz.zeroValue123
 t41 := Tryz.underlying128
 a41 := Tryz.isAgg128
 z41 := Tryz.sizeOf128
 v41 := Tryz.zeroValue128
 t44 := Tryz.underlying131
 a44 := Tryz.isAgg131
 z44 := Tryz.sizeOf131
 v44 := Tryz.zeroValue131
 t46 := Tryz.underlying44
 a46 := Tryz.isAgg44
 z46 := Tryz.sizeOf44
 v46 := Tryz.zeroValue44
 t53 := Tryz.underlying148
 a53 := Tryz.isAgg148
 z53 := Tryz.sizeOf148
 v53 := Tryz.zeroValue148
 t57 := Tryz.underlying152
 a57 := Tryz.isAgg152
 z57 := Tryz.sizeOf152
 v57 := Tryz.zeroValue152
 t63 := Tryz.underlying161
 a63 := Tryz.isAgg161
 z63 := Tryz.sizeOf161
 v63 := Tryz.zeroValue161
 t64 := Tryz.underlying162
 a64 := Tryz.isAgg162
 z64 := Tryz.sizeOf162
 v64 := Tryz.zeroValue162 }
end Go.Proofs.YtffaahipgabkhaaGreat
end
section
namespace Go.Proofs.YtffaahipgabkhaaGreat
open Go.RowKit Fg Reg Go.Maps Go.Sort Go.Shelf
theorem sortI_c {w : World} {base : Nat} {v : Value} {ss : List Int} (h : w.ownsRow base 3 1 v ss.length (ss.map (Value.int .i64))) (hs : ss.length < 4611686018427387904) :
  Calls Tryz.prog 32 #[v] w fun e w' => e = .returned (.tuple #[]) ∧ w'.ownsRow base 3 1 v ss.length ((ss.mergeSort (fun x y => decide (x ≤ y))).map (Value.int .i64)) ∧ Only (fun k => base ≤ k) w w' := by
 have h0 := h
 rcases h.2 with ⟨hv, hz⟩ | ⟨g, cap, cur, hv, hg, hb, h1, h2, h3, h4⟩
 ·have hn : ss = [] := by
   have := h.1
   cases ss with
   | nil => rfl
   | cons a l => simp at hz
  subst hn
  subst hv
  refine (AnyM.slices_Sort_int_none sortA none 0 w).mono ?_
  rintro e w' ⟨rfl, rfl⟩
  exact ⟨rfl, by simpa using h0, Only.refl _ _⟩
 ·subst hv
  have hH : Holds (Value.int .i64) w g 0 ss.toArray := holds_of_blockI hb (by rw [Nat.mul_one] at h4; exact h4)
  refine (AnyM.slices_Sort_int sortA g 0 cap ss w hH (Array.getElem?_eq_some_iff.1 hb).1 hs).mono ?_
  rintro e w' ⟨rfl, n, os, rfl⟩
  have hl : (ss.mergeSort fun x y => decide (x ≤ y)).length = ss.length := List.length_mergeSort _
  have hgr := grownBy_sortedI (w := w) (g := g) (n := n) (os := os) (ss.mergeSort fun x y => decide (x ≤ y)).toArray
  obtain ⟨e1, e2, e3, e4, e5⟩ := hgr
  exact ⟨rfl, ownsRow_sortedI hl hg hb h1 h2 h3, ⟨e1, e2, e3, e4, fun k hk hs => e5 k hk (fun e => by first | (injection e with e; exact hs (by omega)) | (subst e; exact hs hg))⟩⟩
end Go.Proofs.YtffaahipgabkhaaGreat
end
