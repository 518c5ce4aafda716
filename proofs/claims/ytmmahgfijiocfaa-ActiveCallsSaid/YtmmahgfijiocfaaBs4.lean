/- Joined texts. -/
import Derived.Test.YtmmahgfijiocfaaBs0
import Derived.Test.YtmmahgfijiocfaaBs2
import Derived.Test.YtmmahgfijiocfaaBs3
import Derived.Maps.RangeRun
import Derived.Shelf.SlIterI.Nil
import Derived.Shelf.SortM.Plain
import Derived.Shelf.SortM.SortNone
import Derived.Ground.GgzProg
import Derived.Ground.SlgmProg
import Derived.Sort.OwnSortedInts
import Derived.Deep.OwnRows
import Derived.ArgAppend
set_option linter.unusedVariables false
set_option linter.unusedSimpArgs false
set_option maxRecDepth 100000
set_option maxHeartbeats 16000000
section
namespace Go.Proofs.Ytmmahgfijiocfaa
open Go.RowKit Fg Reg Go.Maps
attribute [local irreducible] Reg.wE
def clv (c : Cls) : Value := .agg #[.int .i64 c.id, .int .i64 c.par, .bool c.leaf, .int .u64 c.ra, .int .u64 c.rb, .int .u64 c.rc, .int .u64 c.la, .int .u64 c.lb, .int .u64 c.lc, .int .u64 c.ua, .int .u64 c.ub, .int .u64 c.uc, .int .i64 c.pk, .int .i64 c.bt]
structure HT (z : World) (tb mb : Nat) (f : Int → Option Cls) : Prop where
 c0 : z.cell? ⟨tb, 0, none⟩ = some (.map (some mb))
 lt : tb < z.heap.size
 ne : mb ≠ tb
 mp : ∃ n, Mp ikv clv iok f n z mb
theorem HT.mlt {z : World} {tb mb : Nat} {f : Int → Option Cls} (h : HT z tb mb f) : mb < z.heap.size := by
 obtain ⟨n, hn⟩ := h.mp
 exact hn.lt
theorem HT.below {z z' : World} {tb mb : Nat} {f : Int → Option Cls} (h : HT z tb mb f) (hb : Below z.heap.size z z') : HT z' tb mb f := by
 obtain ⟨n, hn⟩ := h.mp
 exact ⟨(hb.cell (p := ⟨tb, 0, none⟩) h.lt).trans h.c0, Nat.lt_of_lt_of_le h.lt hb.size, h.ne, n, hn.below hb hn.lt⟩
theorem c_zv (w : World) : (zeroValue 54).run Try.prog w = .ok (.agg #[.int .i64 0, .int .i64 0, .bool false, .int .u64 0, .int .u64 0, .int .u64 0, .int .u64 0, .int .u64 0, .int .u64 0, .int .u64 0, .int .u64 0, .int .u64 0, .int .i64 0, .int .i64 0]) w := by kernel_rfl
theorem HT.look {z : World} {tb mb : Nat} {f : Int → Option Cls} (h : HT z tb mb f) {i : Int} (hi : iok i) (c : Bool) : (Instr.lookup 85 (.map (some mb)) (.int .i64 i) c).run Try.prog z = .ok (if c then .tuple #[mget (.agg #[.int .i64 0, .int .i64 0, .bool false, .int .u64 0, .int .u64 0, .int .u64 0, .int .u64 0, .int .u64 0, .int .u64 0, .int .u64 0, .int .u64 0, .int .u64 0, .int .i64 0, .int .i64 0]) clv (f i), .bool (f i).isSome] else mget (.agg #[.int .i64 0, .int .i64 0, .bool false, .int .u64 0, .int .u64 0, .int .u64 0, .int .u64 0, .int .u64 0, .int .u64 0, .int .u64 0, .int .u64 0, .int .u64 0, .int .i64 0, .int .i64 0]) clv (f i)) z := by
 obtain ⟨n, hn⟩ := h.mp
 exact Mp.look c hn ikok Try.underlying85 (c_zv z) hi
theorem hnew_c (w : World) : Calls Try.prog 25 #[] w fun e w' => ∃ tb mb, e = .returned (.pointer (some ⟨tb, 0, none⟩)) ∧ w.heap.size ≤ tb ∧ w.heap.size ≤ mb ∧ HT w' tb mb (fun _ => none) ∧ Below w.heap.size w w' := by
 have hmm := @run_makeMap Try.prog
 have hma := Mp.made (κ := Int) ikv clv iok w
 have hht : HT ((w.alloc (.map #[] 0)).alloc (.cells #[.map (some w.heap.size)] 87)) (w.heap.size + 1) w.heap.size (fun _ => none) := ⟨by simp [go_sem], by simp, by omega, 0, hma.alloc _⟩
 have HH := Lib.hid hht
 clear hma hht
 go_enter Try.func25, Try.ntmps25
 go_wp2
 refine bodyPost_ret (v := .pointer (some ⟨(w.heap.size + 1), 0, none⟩)) (by simp [results, Try.results25, go_sem, *]) rfl ⟨_, _, rfl, by omega, Nat.le_refl _, HH.out, ?_⟩
 exact bub
theorem hget_y {w : World} {tb mb : Nat} {f : Int → Option Cls} (h : HT w tb mb f) {i : Int} (hi : iok i) {c : Cls} (hc : f i = some c) : Calls Try.prog 32 #[.pointer (some ⟨tb, 0, none⟩), .int .i64 i] w fun ee w' => ee = .returned (.tuple #[.agg #[.int .i64 c.id, .int .i64 c.par, .bool c.leaf, .int .u64 c.ra, .int .u64 c.rb, .int .u64 c.rc, .int .u64 c.la, .int .u64 c.lb, .int .u64 c.lc, .int .u64 c.ua, .int .u64 c.ub, .int .u64 c.uc, .int .i64 c.pk, .int .i64 c.bt], .int .i64 0]) ∧ Below w.heap.size w w' := by
 have h1 : HT (w.alloc (.cells #[.int .i64 0, .int .i64 0, .bool false, .int .u64 0, .int .u64 0, .int .u64 0, .int .u64 0, .int .u64 0, .int .u64 0, .int .u64 0, .int .u64 0, .int .u64 0, .int .i64 0, .int .i64 0] 54)) tb mb f := h.below bub
 have hl : (Instr.lookup 85 (.map (some mb)) (.int .i64 i) true).run Try.prog (w.alloc (.cells #[.int .i64 0, .int .i64 0, .bool false, .int .u64 0, .int .u64 0, .int .u64 0, .int .u64 0, .int .u64 0, .int .u64 0, .int .u64 0, .int .u64 0, .int .u64 0, .int .i64 0, .int .i64 0] 54)) = .ok (.tuple #[.agg #[.int .i64 c.id, .int .i64 c.par, .bool c.leaf, .int .u64 c.ra, .int .u64 c.rb, .int .u64 c.rc, .int .u64 c.la, .int .u64 c.lb, .int .u64 c.lc, .int .u64 c.ua, .int .u64 c.ub, .int .u64 c.uc, .int .i64 c.pk, .int .i64 c.bt], .bool true]) (w.alloc (.cells #[.int .i64 0, .int .i64 0, .bool false, .int .u64 0, .int .u64 0, .int .u64 0, .int .u64 0, .int .u64 0, .int .u64 0, .int .u64 0, .int .u64 0, .int .u64 0, .int .i64 0, .int .i64 0] 54)) := by
  have := h1.look hi true
  rw [hc] at this
  exact this
 have c0 := h1.c0
 have lt := h.lt
 clear h hc h1
 go_enter Try.func32, Try.ntmps32
 go_wp2
 refine bodyPost_ret (v := (.tuple #[.agg #[.int .i64 c.id, .int .i64 c.par, .bool c.leaf, .int .u64 c.ra, .int .u64 c.rb, .int .u64 c.rc, .int .u64 c.la, .int .u64 c.lb, .int .u64 c.lc, .int .u64 c.ua, .int .u64 c.ub, .int .u64 c.uc, .int .i64 c.pk, .int .i64 c.bt], .int .i64 0])) (by simp [results, Try.results32, go_sem, *]) rfl ⟨rfl, ?_⟩
 exact bub
theorem hget_n {w : World} {tb mb : Nat} {f : Int → Option Cls} (h : HT w tb mb f) {i : Int} (hi : iok i) (hc : f i = none) : Calls Try.prog 32 #[.pointer (some ⟨tb, 0, none⟩), .int .i64 i] w fun ee w' => ee = .returned (.tuple #[.agg #[.int .i64 0, .int .i64 0, .bool false, .int .u64 0, .int .u64 0, .int .u64 0, .int .u64 0, .int .u64 0, .int .u64 0, .int .u64 0, .int .u64 0, .int .u64 0, .int .i64 0, .int .i64 0], .int .i64 6]) ∧ Below w.heap.size w w' := by
 have h1 : HT (w.alloc (.cells #[.int .i64 0, .int .i64 0, .bool false, .int .u64 0, .int .u64 0, .int .u64 0, .int .u64 0, .int .u64 0, .int .u64 0, .int .u64 0, .int .u64 0, .int .u64 0, .int .i64 0, .int .i64 0] 54)) tb mb f := h.below bub
 have hl : (Instr.lookup 85 (.map (some mb)) (.int .i64 i) true).run Try.prog (w.alloc (.cells #[.int .i64 0, .int .i64 0, .bool false, .int .u64 0, .int .u64 0, .int .u64 0, .int .u64 0, .int .u64 0, .int .u64 0, .int .u64 0, .int .u64 0, .int .u64 0, .int .i64 0, .int .i64 0] 54)) = .ok (.tuple #[.agg #[.int .i64 0, .int .i64 0, .bool false, .int .u64 0, .int .u64 0, .int .u64 0, .int .u64 0, .int .u64 0, .int .u64 0, .int .u64 0, .int .u64 0, .int .u64 0, .int .i64 0, .int .i64 0], .bool false]) (w.alloc (.cells #[.int .i64 0, .int .i64 0, .bool false, .int .u64 0, .int .u64 0, .int .u64 0, .int .u64 0, .int .u64 0, .int .u64 0, .int .u64 0, .int .u64 0, .int .u64 0, .int .i64 0, .int .i64 0] 54)) := by
  have := h1.look hi true
  rw [hc] at this
  exact this
 have c0 := h1.c0
 have lt := h.lt
 clear h hc h1
 go_enter Try.func32, Try.ntmps32
 go_wp2
 refine bodyPost_ret (v := (.tuple #[.agg #[.int .i64 0, .int .i64 0, .bool false, .int .u64 0, .int .u64 0, .int .u64 0, .int .u64 0, .int .u64 0, .int .u64 0, .int .u64 0, .int .u64 0, .int .u64 0, .int .i64 0, .int .i64 0], .int .i64 6])) (by simp [results, Try.results32, go_sem, *]) rfl ⟨rfl, ?_⟩
 exact bub
end Go.Proofs.Ytmmahgfijiocfaa
end
section
namespace Go.Proofs.Ytmmahgfijiocfaa
open Go.RowKit Fg Reg Go.Maps
attribute [local irreducible] Reg.wE
def hol (f : Int → Option Cls) (i : Int) : Bool := (i == 0) || (match f i with | some c => !c.leaf | none => false)
theorem holds_c {w : World} {tb mb : Nat} {f : Int → Option Cls} (h : HT w tb mb f) {i : Int} (hi : iok i) : Calls Try.prog 52 #[.pointer (some ⟨tb, 0, none⟩), .int .i64 i] w fun ee w' => ee = .returned (.bool (hol f i)) ∧ Below w.heap.size w w' := by
 have c0 := h.c0
 have lt := h.lt
 have hl0 := h.look hi true
 unfold hol
 cases hz : (i == 0) with
 | true =>
  rw [Bool.true_or]
  cases hc : f i with
  | none =>
   rw [hc] at hl0
   have hl : (Instr.lookup 85 (.map (some mb)) (.int .i64 i) true).run Try.prog w = .ok (.tuple #[.agg #[.int .i64 0, .int .i64 0, .bool false, .int .u64 0, .int .u64 0, .int .u64 0, .int .u64 0, .int .u64 0, .int .u64 0, .int .u64 0, .int .u64 0, .int .u64 0, .int .i64 0, .int .i64 0], .bool false]) w := hl0
   (clear hl0 h hc; go_enter Try.func52, Try.ntmps52; go_wp2_with (first | go_guarded); refine bodyPost_ret (v := (.bool true)) (by simp [results, Try.results52, go_sem, *]) rfl ⟨rfl, ?_⟩; exact bub)
  | some c =>
   rw [hc] at hl0
   have hl : (Instr.lookup 85 (.map (some mb)) (.int .i64 i) true).run Try.prog w = .ok (.tuple #[.agg #[.int .i64 c.id, .int .i64 c.par, .bool c.leaf, .int .u64 c.ra, .int .u64 c.rb, .int .u64 c.rc, .int .u64 c.la, .int .u64 c.lb, .int .u64 c.lc, .int .u64 c.ua, .int .u64 c.ub, .int .u64 c.uc, .int .i64 c.pk, .int .i64 c.bt], .bool true]) w := hl0
   (clear hl0 h hc; go_enter Try.func52, Try.ntmps52; go_wp2_with (first | go_guarded); refine bodyPost_ret (v := (.bool true)) (by simp [results, Try.results52, go_sem, *]) rfl ⟨rfl, ?_⟩; exact bub)
 | false =>
  rw [Bool.false_or]
  cases hc : f i with
  | none =>
   rw [hc] at hl0
   have hl : (Instr.lookup 85 (.map (some mb)) (.int .i64 i) true).run Try.prog w = .ok (.tuple #[.agg #[.int .i64 0, .int .i64 0, .bool false, .int .u64 0, .int .u64 0, .int .u64 0, .int .u64 0, .int .u64 0, .int .u64 0, .int .u64 0, .int .u64 0, .int .u64 0, .int .i64 0, .int .i64 0], .bool false]) w := hl0
   (clear hl0 h hc; go_enter Try.func52, Try.ntmps52; go_wp2_with (first | go_guarded); refine bodyPost_ret (v := (.bool false)) (by simp [results, Try.results52, go_sem, *]) rfl ⟨rfl, ?_⟩; exact bub)
  | some c =>
   rw [hc] at hl0
   have hl : (Instr.lookup 85 (.map (some mb)) (.int .i64 i) true).run Try.prog w = .ok (.tuple #[.agg #[.int .i64 c.id, .int .i64 c.par, .bool c.leaf, .int .u64 c.ra, .int .u64 c.rb, .int .u64 c.rc, .int .u64 c.la, .int .u64 c.lb, .int .u64 c.lc, .int .u64 c.ua, .int .u64 c.ub, .int .u64 c.uc, .int .i64 c.pk, .int .i64 c.bt], .bool true]) w := hl0
   show Calls Try.prog 52 #[.pointer (some ⟨tb, 0, none⟩), .int .i64 i] w fun ee w' => ee = .returned (.bool (!c.leaf)) ∧ Below w.heap.size w w'
   cases hlf : c.leaf with
   | true => (clear hl0 h hc; go_enter Try.func52, Try.ntmps52; go_wp2_with (first | go_guarded); refine bodyPost_ret (v := (.bool false)) (by simp [results, Try.results52, go_sem, *]) rfl ⟨rfl, ?_⟩; exact bub)
   | false => (clear hl0 h hc; go_enter Try.func52, Try.ntmps52; go_wp2_with (first | go_guarded); refine bodyPost_ret (v := (.bool true)) (by simp [results, Try.results52, go_sem, *]) rfl ⟨rfl, ?_⟩; exact bub)
end Go.Proofs.Ytmmahgfijiocfaa
end
section
namespace Go.Proofs.Ytmmahgfijiocfaa
open Go.RowKit Fg Reg Go.Maps
open Go.ChangeMaps (setBlock)
section
variable {P : Program} {κ ν : Type} {kv : κ → Value} {vv : ν → Value} {ok : κ → Prop} {f : κ → Option ν}
def ItM (kv : κ → Value) (vv : ν → Value) (ok : κ → Prop) (f : κ → Option ν) (ks : List κ) (z : World) (r mr : Nat) : Prop :=
 ∃ es ck since seen c0 n, z.heap[r]? = some (.mapIter (some mr) since seen c0) ∧ z.heap[mr]? = some (.map es ck) ∧ MpEnt kv vv ok f n es ck ∧ (∀ x ∈ es.toList, x.born < since) ∧ since ≤ c0 ∧ c0 ≤ ck ∧
  (∀ e ∈ es.toList, ∀ x, ok x → e.key = kv x → (seen.contains e.born = true ↔ x ∈ ks))
theorem ItM.lt {z : World} {r mr : Nat} {ks : List κ} (h : ItM kv vv ok f ks z r mr) : r < z.heap.size ∧ mr < z.heap.size := by
 obtain ⟨es, ck, since, seen, c0, n, h1, h2, _⟩ := h
 exact ⟨(Array.getElem?_eq_some_iff.1 h1).1, (Array.getElem?_eq_some_iff.1 h2).1⟩
theorem ItM.frame {z z' : World} {r mr : Nat} {ks : List κ} (h : ItM kv vv ok f ks z r mr) (h1 : z'.heap[r]? = z.heap[r]?) (h2 : z'.heap[mr]? = z.heap[mr]?) : ItM kv vv ok f ks z' r mr := by
 unfold ItM at *
 rw [h1, h2]
 exact h
theorem ItM.below {z z' : World} {r mr : Nat} {ks : List κ} (h : ItM kv vv ok f ks z r mr) (hb : Below z.heap.size z z') : ItM kv vv ok f ks z' r mr := h.frame (hb.block r h.lt.1) (hb.block mr h.lt.2)
theorem sB_only {w : World} {r : Nat} {o : Obj} : Only (fun k => k = r) w (setBlock w r o) := ⟨rfl, rfl, rfl, by simp [setBlock], fun k hk hs => by simp [setBlock, Ne.symm hs]⟩
theorem sB_at {w : World} {r : Nat} {o : Obj} (h : r < w.heap.size) : (setBlock w r o).heap[r]? = some o := by simp [setBlock, h]
theorem nd_inj {α β : Type} {g : α → β} : ∀ {l : List α}, (l.map g).Nodup → ∀ a ∈ l, ∀ b ∈ l, g a = g b → a = b
 | [], _, a, ha, _, _, _ => by simp at ha
 | x :: l, h, a, ha, b, hb, e => by
  rw [List.map_cons, List.nodup_cons] at h
  rcases List.mem_cons.1 ha with ha2 | ha2 <;> rcases List.mem_cons.1 hb with hb2 | hb2
  ·rw [ha2, hb2]
  ·subst ha2; exact absurd (by rw [e]; exact List.mem_map_of_mem hb2) h.1
  ·subst hb2; exact absurd (by rw [← e]; exact List.mem_map_of_mem ha2) h.1
  ·exact nd_inj h.2 a ha2 b hb2 e
theorem ItM.step {w : World} {r mr : Nat} {ks : List κ} (h : ItM kv vv ok f ks w r mr) (ty : TypeId) :
  ((∀ x v, ok x → f x = some v → x ∈ ks) ∧ (Instr.next (.pointer (some ⟨r, 0, none⟩)) false ty).run P w = .ok (.tuple #[.bool false]) w) ∨
  ∃ x v w', ok x ∧ x ∉ ks ∧ f x = some v ∧ (Instr.next (.pointer (some ⟨r, 0, none⟩)) false ty).run P w = .ok (.tuple #[.bool true, kv x, vv v]) w' ∧ (Instr.entry (.pointer (some ⟨r, 0, none⟩))).run P w' = .ok (.tuple #[kv x, vv v]) w' ∧ (∀ hinj : ∀ a b, ok a → ok b → kv a = kv b → a = b, ItM kv vv ok f (ks ++ [x]) w' r mr) ∧ Only (fun k => k = r) w w' ∧ w'.heap.size = w.heap.size := by
 obtain ⟨es, ck, since, seen, c0, n, h1, h2, hE, h4, h5, h6, hk⟩ := h
 have hne : mr ≠ r := by rintro rfl; rw [h1] at h2; cases h2
 have hlt : r < w.heap.size := (Array.getElem?_eq_some_iff.1 h1).1
 rcases run_next_at (P := P) w ty r mr since c0 seen es ck h1 h2 h4 h5 with ⟨h0, hrun⟩ | ⟨e, he, w1, hw1, hrun⟩
 ·refine .inl ⟨fun x v hx hf => ?_, hrun⟩
  obtain ⟨e, he, hke⟩ := hE.has x v hf
  refine (hk e he x hx hke).1 ?_
  have hl : leftOf es seen = #[] := Array.eq_empty_of_size_eq_zero h0
  cases hc : seen.contains e.born with
  | true => rfl
  | false =>
   exfalso
   have : e ∈ (leftOf es seen).toList := by unfold leftOf; simp at he ⊢; exact ⟨he, by simpa using hc⟩
   rw [hl] at this
   simp at this
 ·right
  have hl : e ∈ es.toList ∧ seen.contains e.born = false := by unfold leftOf at he; simp at he ⊢; exact he
  obtain ⟨x, v, hx, ek, ev, hf⟩ := hE.ent e hl.1
  have ho : Only (fun k => k = r) w w1 := by rcases hw1 with rfl | rfl; exact Only.refl _ _; exact (Only.refl _ _).drew
  have hs1 : w1.heap = w.heap := by rcases hw1 with rfl | rfl <;> rfl
  have hr1 : (setBlock w1 r (.mapIter (some mr) since (seen.push e.born) ck)).heap[r]? = some (.mapIter (some mr) since (seen.push e.born) ck) := sB_at (by rw [hs1]; exact hlt)
  have hm1 : (setBlock w1 r (.mapIter (some mr) since (seen.push e.born) ck)).heap[mr]? = some (.map es ck) := by
   rw [← h2, ← hs1]; simp [setBlock, Ne.symm hne]
  refine ⟨x, v, _, hx, fun hm => ?_, hf, by rw [hrun, ek, ev], ?_, fun hinj => ?_, ho.trans sB_only, by simp [setBlock, hs1]⟩
  ·have := (hk e hl.1 x hx ek).2 hm
   rw [hl.2] at this
   cases this
  ·rw [← ek, ← ev]
   exact run_entry_at _ r mr since seen es ck e hr1 hm1 hl.1 hE.stamped.2.1
  ·refine ⟨es, ck, since, seen.push e.born, ck, n, hr1, hm1, hE, h4, Nat.le_trans h5 h6, Nat.le_refl _, fun e2 he2 y hy hky => ?_⟩
   rw [List.mem_append, List.mem_singleton]
   constructor
   ·intro hc
    simp only [Array.contains_push, Bool.or_eq_true, beq_iff_eq] at hc
    rcases hc with hc | hc
    ·exact .inl ((hk e2 he2 y hy hky).1 hc)
    ·exact .inr (hinj y x hy hx (by rw [← hky, ← ek, nd_inj hE.stamped.2.1 e2 he2 e hl.1 (by first | exact hc | exact hc.symm)]))
   ·rintro (hc | rfl)
    ·have := (hk e2 he2 y hy hky).2 hc
     simp only [Array.contains_push, Bool.or_eq_true]
     exact .inl this
    ·simp only [Array.contains_push, Bool.or_eq_true, beq_iff_eq]
     have h9 := nd_inj hE.stamped.2.2 e2 he2 e hl.1 (by rw [hky, ek])
     exact .inr (by rw [h9])
theorem wpList_range_itm {w : World} {ops : Array Oper} {rest : List Oper} {o : Oper} {a : Act} {Q : Exit → Act → World → Prop} (hg : o.guard = none) (m : Operand) (t k e' : TypeId) (hop : o.op = Op.range t m) (ht : P.underlying t = some (.map k e'))
  (b n0 n : Nat) (hm : a.eval m = .map (some b)) (h : Mp kv vv ok f n0 w b) (hn : w.heap.size = n)
  (hK : ∀ w', ItM kv vv ok f [] w' n b → Below n w w' → w'.heap.size = n + 1 → wpList P ops Q rest (a.put o.dst (.pointer (some ⟨n, 0, none⟩))) w') : wpList P ops Q (o :: rest) a w := by
 subst hn
 obtain ⟨es, ck, hb, hE⟩ := h
 refine wpList_plain hg fun K' hK' => ?_
 have hrun := run_range_map (P := P) w t k e' b es ck ht hb
 have hlt : b < w.heap.size := (Array.getElem?_eq_some_iff.1 hb).1
 unfold Oper.wp
 simp [execOp, hop, hm, hrun, Result.andThen]
 exact hK' _ _ (hK _ ⟨es, ck, ck, #[], ck, n0, heap_alloc_new w _, (heap_alloc_old w _ hlt).trans hb, hE, hE.stamped.1, Nat.le_refl _, Nat.le_refl _, fun e _ x _ _ => by simp⟩ (Below.alloc (Below.refl _ _) (Nat.le_refl _) _) (by simp))
theorem wpList_next_end {w : World} {ops : Array Oper} {rest : List Oper} {o : Oper} {a : Act} {Q : Exit → Act → World → Prop} (hg : o.guard = none) (it : Operand) (hop : o.op = Op.next it false) (r mr : Nat) {ks : List κ}
  (hit : a.eval it = .pointer (some ⟨r, 0, none⟩)) (h : ItM kv vv ok f ks w r mr) (hd : ∀ x v, ok x → f x = some v → x ∈ ks)
  (hK : wpList P ops Q rest (a.put o.dst (.tuple #[.bool false])) w) : wpList P ops Q (o :: rest) a w := by
 refine wpList_plain hg fun K' hK' => ?_
 unfold Oper.wp
 rcases h.step (P := P) o.type with ⟨_, hrun⟩ | ⟨x, v, w', hx, hm, hf, _⟩
 ·simp [execOp, hop, hit, hrun, Result.andThen]
  exact hK' _ _ hK
 ·exact absurd (hd x v hx hf) hm
theorem wpList_next_more {w : World} {ops : Array Oper} {rest : List Oper} {o : Oper} {a : Act} {Q : Exit → Act → World → Prop} (hg : o.guard = none) (it : Operand) (hop : o.op = Op.next it false) (r mr : Nat) {ks : List κ}
  (hit : a.eval it = .pointer (some ⟨r, 0, none⟩)) (h : ItM kv vv ok f ks w r mr) (hm : ∃ x v, ok x ∧ f x = some v ∧ x ∉ ks) (hinj : ∀ a b, ok a → ok b → kv a = kv b → a = b)
  (hK : ∀ x v w', ok x → x ∉ ks → f x = some v → (Instr.entry (.pointer (some ⟨r, 0, none⟩))).run P w' = .ok (.tuple #[kv x, vv v]) w' → ItM kv vv ok f (ks ++ [x]) w' r mr → Only (fun k => k = r) w w' → w'.heap.size = w.heap.size → wpList P ops Q rest (a.put o.dst (.tuple #[.bool true, kv x, vv v])) w') : wpList P ops Q (o :: rest) a w := by
 refine wpList_plain hg fun K' hK' => ?_
 unfold Oper.wp
 rcases h.step (P := P) o.type with ⟨hd, _⟩ | ⟨x, v, w', hx, hn, hf, hrun, hen, hI, ho, hs⟩
 ·obtain ⟨x, v, hx, hf, hn⟩ := hm
  exact absurd (hd x v hx hf) hn
 ·simp [execOp, hop, hit, hrun, Result.andThen]
  exact hK' _ _ (hK x v w' hx hn hf hen (hI hinj) ho hs)
end
end Go.Proofs.Ytmmahgfijiocfaa
end
section
namespace Go.Proofs.Ytmmahgfijiocfaa
open Go.Shelf
def sortA_ren : Go.Shelf.Ren := ⟨fun | 5 => 42 | 8 => 69 | 7 => 68 | 19 => 92 | 20 => 93 | 10 => 83 | 11 => 84 | 12 => 85 | 13 => 86 | 14 => 87 | 15 => 88 | 16 => 89 | 17 => 90 | 18 => 91 | 30 => 96 | 31 => 97 | 32 => 98 | 33 => 99 | 34 => 100 | 35 => 101 | 40 => 102 | n => n, fun | 23 => 31 | 25 => 3 | 3 => 3 | 32 => 114 | 22 => 31 | 0 => 0 | 44 => 133 | 46 => 50 | 4 => 4 | 36 => 125 | 35 => 124 | 41 => 130 | 5 => 5 | 9 => 9 | 53 => 136 | 57 => 140 | 63 => 142 | 64 => 143 | n => n, fun | n => n⟩
theorem sortA : Go.Proofs.SlLaysM.n5 Try.prog sortA_ren := {
 mixed := by kernel_rfl
 f5 := ⟨Try.f42.name, by decide, Try.func42.trans (congrArg some (by kernel_rfl))⟩
 f7 := ⟨Try.f68.name, by decide, Try.func68.trans (congrArg some (by kernel_rfl))⟩
 f8 := Try.func69.trans (congrArg some (by kernel_rfl))
 f10 := ⟨Try.f83.name, by decide, Try.func83.trans (congrArg some (by kernel_rfl))⟩
 f11 := ⟨Try.f84.name, by decide, Try.func84.trans (congrArg some (by kernel_rfl))⟩
 f12 := ⟨Try.f85.name, by decide, Try.func85.trans (congrArg some (by kernel_rfl))⟩
 f13 := ⟨Try.f86.name, by decide, Try.func86.trans (congrArg some (by kernel_rfl))⟩
 f14 := ⟨Try.f87.name, by decide, Try.func87.trans (congrArg some (by kernel_rfl))⟩
 f15 := ⟨Try.f88.name, by decide, Try.func88.trans (congrArg some (by kernel_rfl))⟩
 f16 := ⟨Try.f89.name, by decide, Try.func89.trans (congrArg some (by kernel_rfl))⟩
 f17 := ⟨Try.f90.name, by decide, Try.func90.trans (congrArg some (by kernel_rfl))⟩
 f18 := ⟨Try.f91.name, by decide, Try.func91.trans (congrArg some (by kernel_rfl))⟩
 f19 := Try.func92.trans (congrArg some (by kernel_rfl))
 f20 := Try.func93.trans (congrArg some (by kernel_rfl))
 f30 := ⟨Try.f96.name, by decide, Try.func96.trans (congrArg some (by kernel_rfl))⟩
 f31 := Try.func97.trans (congrArg some (by kernel_rfl))
 f32 := Try.func98.trans (congrArg some (by kernel_rfl))
 f33 := ⟨Try.f99.name, by decide, Try.func99.trans (congrArg some (by kernel_rfl))⟩
 f34 := ⟨Try.f100.name, by decide, Try.func100.trans (congrArg some (by kernel_rfl))⟩
 f35 := ⟨Try.f101.name, by decide, Try.func101.trans (congrArg some (by kernel_rfl))⟩
 f40 := ⟨Try.f102.name, by decide, Try.func102.trans (congrArg some (by kernel_rfl))⟩
 t0 := Try.underlying0
 a0 := Try.isAgg0
 z0 := Try.sizeOf0
 v0 := Try.zeroValue0
 t3 := Try.underlying3
 a3 := Try.isAgg3
 z3 := Try.sizeOf3
 v3 := Try.zeroValue3
 t4 := Try.underlying4
 a4 := Try.isAgg4
 z4 := Try.sizeOf4
 v4 := Try.zeroValue4
 t5 := Try.underlying5
 a5 := Try.isAgg5
 z5 := Try.sizeOf5
 v5 := Try.zeroValue5
 t9 := Try.underlying9
 a9 := Try.isAgg9
 z9 := Try.sizeOf9
 v9 := Try.zeroValue9
 t22 := Try.underlying31
 a22 := Try.isAgg31
 z22 := Try.sizeOf31
 v22 := Try.zeroValue31
 t23 := Try.underlying31
 a23 := Try.isAgg31
 z23 := Try.sizeOf31
 v23 := Try.zeroValue31
 t25 := Try.underlying3
 a25 := Try.isAgg3
 z25 := Try.sizeOf3
 v25 := Try.zeroValue3
 t32 := Try.underlying114
 a32 := Try.isAgg114
 z32 := Try.sizeOf114
 v32 := Try.zeroValue114
 t35 := Try.underlying124
 a35 := Try.isAgg124
 z35 := Try.sizeOf124
 v35 := Try.zeroValue124
 t36 := Try.underlying125
 a36 := Try.isAgg125
 z36 := Try.sizeOf125
 v36 := Try.zeroValue125
 t41 := Try.underlying130
 a41 := Try.isAgg130
 z41 := Try.sizeOf130
 v41 := Try.zeroValue130
 t44 := Try.underlying133
 a44 := Try.isAgg133
 z44 := Try.sizeOf133
 v44 := Try.zeroValue133
 t46 := Try.underlying50
 a46 := Try.isAgg50
 z46 := Try.sizeOf50
 v46 := Try.zeroValue50
 t53 := Try.underlying136
 a53 := Try.isAgg136
 z53 := Try.sizeOf136
 v53 := Try.zeroValue136
 t57 := Try.underlying140
 a57 := Try.isAgg140
 z57 := Try.sizeOf140
 v57 := Try.zeroValue140
 t63 := Try.underlying142
 a63 := Try.isAgg142
 z63 := Try.sizeOf142
 v63 := Try.zeroValue142
 t64 := Try.underlying143
 a64 := Try.isAgg143
 z64 := Try.sizeOf143
 v64 := Try.zeroValue143 }
end Go.Proofs.Ytmmahgfijiocfaa
end
section
namespace Go.Proofs.Ytmmahgfijiocfaa
open Go.RowKit Fg Reg Go.Maps Go.Sort Go.Shelf
theorem sortI_c {w : World} {base : Nat} {v : Value} {ss : List Int} (h : w.ownsRow base 3 1 v ss.length (ss.map (Value.int .i64))) (hs : ss.length < 4611686018427387904) :
  Calls Try.prog 42 #[v] w fun e w' => e = .returned (.tuple #[]) ∧ w'.ownsRow base 3 1 v ss.length ((ss.mergeSort (fun x y => decide (x ≤ y))).map (Value.int .i64)) ∧ Only (fun k => base ≤ k) w w' := by
 have h0 := h
 rcases h.2 with ⟨hv, hz⟩ | ⟨g, cap, cur, hv, hg, hb, h1, h2, h3, h4⟩
 ·have hn : ss = [] := by
   have := h.1
   cases ss with
   | nil => rfl
   | cons a l => simp at hz
  subst hn
  subst hv
  refine (AnyM.slices_Sort_int_none sortA none 0 w).mono ?_
  rintro e w' ⟨rfl, rfl⟩
  exact ⟨rfl, by simpa using h0, Only.refl _ _⟩
 ·subst hv
  have hH : Holds (Value.int .i64) w g 0 ss.toArray := holds_of_blockI hb (by rw [Nat.mul_one] at h4; exact h4)
  refine (AnyM.slices_Sort_int sortA g 0 cap ss w hH (Array.getElem?_eq_some_iff.1 hb).1 hs).mono ?_
  rintro e w' ⟨rfl, n, os, rfl⟩
  have hl : (ss.mergeSort fun x y => decide (x ≤ y)).length = ss.length := List.length_mergeSort _
  have hgr := grownBy_sortedI (w := w) (g := g) (n := n) (os := os) (ss.mergeSort fun x y => decide (x ≤ y)).toArray
  obtain ⟨e1, e2, e3, e4, e5⟩ := hgr
  exact ⟨rfl, ownsRow_sortedI hl hg hb h1 h2 h3, ⟨e1, e2, e3, e4, fun k hk hs => e5 k hk (fun e => by first | (injection e with e; exact hs (by omega)) | (subst e; exact hs hg))⟩⟩
end Go.Proofs.Ytmmahgfijiocfaa
end
section
namespace Go.Proofs.Ytmmahgfijiocfaa
open Go.RowKit
def QC (z : World) (B b o cap m : Nat) (g : Nat → Value) : Prop :=
 B ≤ b ∧ b < z.heap.size ∧ (∀ j, j < cap → (z.cell? ⟨b, o + j, none⟩).isSome = true ∧ z.frozen? ⟨b, o + j, none⟩ = false) ∧ ∀ j, j < m → z.cell? ⟨b, o + j, none⟩ = some (g j)
def QS (z : World) (B : Nat) (v : Value) (m : Nat) (g : Nat → Value) : Prop :=
 (v = .slice none 0 0 ∧ m = 0) ∨ ∃ b o cap, v = .slice (some ⟨b, o, none⟩) m cap ∧ m ≤ cap ∧ cap ≤ maxLen ∧ QC z B b o cap m g
theorem QC.only {S : Nat → Prop} {z z' : World} {B b o cap m : Nat} {g : Nat → Value} (h : QC z B b o cap m g) (ho : Only S z z') (hS : ∀ k, S k → k < B) : QC z' B b o cap m g := by
 obtain ⟨h1, h2, h3, h4⟩ := h
 have hn : ¬ S b := fun h => by have := hS b h; omega
 exact ⟨h1, Nat.lt_of_lt_of_le h2 ho.size, fun j hj => ⟨by rw [ho.cell h2 hn]; exact (h3 j hj).1, by rw [ho.frozen h2 hn]; exact (h3 j hj).2⟩, fun j hj => by rw [ho.cell h2 hn]; exact h4 j hj⟩
theorem QS.only {S : Nat → Prop} {z z' : World} {B m : Nat} {v : Value} {g : Nat → Value} (h : QS z B v m g) (ho : Only S z z') (hS : ∀ k, S k → k < B) : QS z' B v m g := by
 rcases h with h | ⟨b, o, cap, e, h1, h2, h3⟩
 ·exact .inl h
 ·exact .inr ⟨b, o, cap, e, h1, h2, h3.only ho hS⟩
theorem QS.below {z z' : World} {B m : Nat} {v : Value} {g : Nat → Value} (h : QS z B v m g) (hb : Below z.heap.size z z') : QS z' B v m g :=
 h.only (Only.of_below (S := fun _ => False) hb) (fun _ h => h.elim)
theorem QS.congr {z : World} {B m : Nat} {v : Value} {g g' : Nat → Value} (h : QS z B v m g) (e : ∀ j, j < m → g j = g' j) : QS z B v m g' := by
 rcases h with h | ⟨b, o, cap, h0, h1, h2, h3, h4, h5, h6⟩
 ·exact .inl h
 ·exact .inr ⟨b, o, cap, h0, h1, h2, h3, h4, h5, fun j hj => by rw [← e j hj]; exact h6 j hj⟩
theorem QS.nil (z : World) (B : Nat) (g : Nat → Value) : QS z B (.slice none 0 0) 0 g := .inl ⟨rfl, rfl⟩
theorem Only.of_grown {w w' : World} {row : Option Nat} {B : Nat} (h : w.grownBy w' row) (hr : ∀ k, row = some k → B ≤ k) : Only (fun k => B ≤ k) w w' :=
 ⟨h.os, h.tape, h.output, h.size, fun k hk hn => h.block k hk fun e => hn (hr k e.symm)⟩
section
variable {P : Program} (w : World)
end
end Go.Proofs.Ytmmahgfijiocfaa
end
section
namespace Go.Proofs.Ytmmahgfijiocfaa
open Go.RowKit Fg Reg
section
variable {α : Type} {cells : α → List Value} {s : Nat}
structure CellsOf (cells : α → List Value) (s : Nat) : Prop where
 len : ∀ x, (cells x).length = s
 one : ∀ x, ∀ v ∈ cells x, v.oneCell' = true
 pos : 0 < s
def RwV (cells : α → List Value) (s : Nat) (w : World) (a : Option Addr) (l : List α) : Prop := ∀ k (h : k < l.length), ∃ b o, a = some ⟨b, o, none⟩ ∧ b < w.heap.size ∧ w.rangeAt b (o + k * s) (cells l[k])
theorem RwV.nil (w : World) (a : Option Addr) : RwV cells s w a [] := fun k h => absurd h (Nat.not_lt_zero _)
theorem RwV.below {w w' : World} {a : Option Addr} {l : List α} (h : RwV cells s w a l) (hb : Below w.heap.size w w') : RwV cells s w' a l := fun k hk => by
 obtain ⟨b, o, e, h1, h2⟩ := h k hk
 exact ⟨b, o, e, Nat.lt_of_lt_of_le h1 hb.size, fun j v hv => (hb.cell (p := ⟨b, o + k * s + j, none⟩) h1).trans (h2 j v hv)⟩
theorem RwV.only {S : Nat → Prop} {w w' : World} {a : Option Addr} {l : List α} (h : RwV cells s w a l) (hb : Only S w w') (hS : ∀ ad, a = some ad → ¬ S ad.block) : RwV cells s w' a l := fun k hk => by
 obtain ⟨b, o, e, h1, h2⟩ := h k hk
 exact ⟨b, o, e, Nat.lt_of_lt_of_le h1 hb.size, fun j v hv => (hb.cell h1 (hS _ e)).trans (h2 j v hv)⟩
end
theorem row_only {S : Nat → Prop} {w w' : World} {base : Nat} {e : TypeId} {size n : Nat} {v : Value} {xs : List Value} (h : w.ownsRow base e size v n xs) (ho : Only S w w') (hS : ∀ k, S k → base ≤ k → False) : w'.ownsRow base e size v n xs := by
 refine ⟨h.1, ?_⟩
 rcases h.2 with h' | ⟨g, cap, cur, h1, h2, h3, h4⟩
 ·exact .inl h'
 ·refine .inr ⟨g, cap, cur, h1, h2, ?_, h4⟩
  have hlt : g < w.heap.size := by
   rcases Nat.lt_or_ge g w.heap.size with h | h
   ·exact h
   ·rw [Array.getElem?_eq_none h] at h3; cases h3
  exact (ho.block g hlt (fun e => hS g e h2)).trans h3
theorem row_bel {w w' : World} {base : Nat} {e : TypeId} {size n : Nat} {v : Value} {xs : List Value} (h : w.ownsRow base e size v n xs) (hb : Below w.heap.size w w') : w'.ownsRow base e size v n xs :=
 row_only (S := fun _ => False) h (Only.of_below hb) (fun _ h => h.elim)
theorem row_form {z : World} {B m size : Nat} {e : TypeId} {v : Value} {xs : List Value} (h : z.ownsRow B e size v m xs) : ∃ ao cap, v = .slice ao m cap := by
 rcases h.2 with ⟨rfl, rfl⟩ | ⟨b, cap, cur, rfl, _⟩
 ·exact ⟨none, 0, rfl⟩
 ·exact ⟨_, cap, rfl⟩
end Go.Proofs.Ytmmahgfijiocfaa
end
