/- A tree of classes in memory. -/
import Derived.Test.YtlenmhbhakeonaaHi1
import Derived.Test.YtlenmhbhakeonaaIk0
namespace Go.Proofs.Ytlenmhbhakeonaa
set_option linter.unusedVariables false
set_option linter.unusedSimpArgs false
set_option maxRecDepth 100000
open Go.RowKit Fg Reg Go.Maps
attribute [local irreducible] Reg.wE

def clv (c : Cls) : Value := .agg #[.int .i64 (c).id, .int .i64 (c).par, .bool (c).leaf, .int .u64 (c).ra, .int .u64 (c).rb, .int .u64 (c).rc, .int .u64 (c).la, .int .u64 (c).lb, .int .u64 (c).lc, .int .u64 (c).ua, .int .u64 (c).ub, .int .u64 (c).uc, .int .i64 (c).pk, .int .i64 (c).bt]
structure HT (z : World) (tb mb : Nat) (f : Int → Option Cls) : Prop where
  c0 : z.cell? ⟨tb, 0, none⟩ = some (.map (some mb))
  lt : tb < z.heap.size
  ne : mb ≠ tb
  mp : ∃ n, Mp ikv clv iok f n z mb
theorem HT.mlt {z : World} {tb mb : Nat} {f : Int → Option Cls} (h : HT z tb mb f) : mb < z.heap.size := by
  obtain ⟨n, hn⟩ := h.mp
  exact hn.lt
theorem HT.below {z z' : World} {tb mb : Nat} {f : Int → Option Cls} (h : HT z tb mb f) (hb : Below z.heap.size z z') : HT z' tb mb f := by
  obtain ⟨n, hn⟩ := h.mp
  exact ⟨(hb.cell (p := ⟨tb, 0, none⟩) h.lt).trans h.c0, Nat.lt_of_lt_of_le h.lt hb.size, h.ne, n, hn.below hb hn.lt⟩
theorem c_zv (w : World) : (zeroValue 31).run Try.prog w = .ok (.agg #[.int .i64 0, .int .i64 0, .bool false, .int .u64 0, .int .u64 0, .int .u64 0, .int .u64 0, .int .u64 0, .int .u64 0, .int .u64 0, .int .u64 0, .int .u64 0, .int .i64 0, .int .i64 0]) w := by kernel_rfl
theorem HT.look {z : World} {tb mb : Nat} {f : Int → Option Cls} (h : HT z tb mb f) {i : Int} (hi : iok i) (c : Bool) : (Instr.lookup 108 (.map (some mb)) (.int .i64 i) c).run Try.prog z = .ok (if c then .tuple #[mget (.agg #[.int .i64 0, .int .i64 0, .bool false, .int .u64 0, .int .u64 0, .int .u64 0, .int .u64 0, .int .u64 0, .int .u64 0, .int .u64 0, .int .u64 0, .int .u64 0, .int .i64 0, .int .i64 0]) clv (f i), .bool (f i).isSome] else mget (.agg #[.int .i64 0, .int .i64 0, .bool false, .int .u64 0, .int .u64 0, .int .u64 0, .int .u64 0, .int .u64 0, .int .u64 0, .int .u64 0, .int .u64 0, .int .u64 0, .int .i64 0, .int .i64 0]) clv (f i)) z := by
  obtain ⟨n, hn⟩ := h.mp
  exact Mp.look c hn ikok Try.underlying108 (c_zv z) hi
theorem hnew_c (w : World) : Calls Try.prog 13 #[] w fun e w' => ∃ tb mb, e = .returned (.pointer (some ⟨tb, 0, none⟩)) ∧ w.heap.size ≤ tb ∧ w.heap.size ≤ mb ∧ HT w' tb mb (fun _ => none) ∧ Below w.heap.size w w' := by
  have hmm := @run_makeMap Try.prog
  have hma := Mp.made (κ := Int) ikv clv iok w
  have hht : HT ((w.alloc (.map #[] 0)).alloc (.cells #[.map (some w.heap.size)] 110)) (w.heap.size + 1) w.heap.size (fun _ => none) := ⟨by simp [go_sem], by simp, by omega, 0, hma.alloc _⟩
  have HH := Lib.hid hht
  clear hma hht
  go_enter Try.func13, Try.ntmps13
  go_wp2
  refine bodyPost_ret (v := .pointer (some ⟨(w.heap.size + 1), 0, none⟩)) (by simp [results, Try.results13, go_sem, *]) rfl ⟨_, _, rfl, by omega, Nat.le_refl _, HH.out, ?_⟩
  (repeat' (first | assumption | exact Below.refl _ _ | refine Below.setCell ?_ (by first | (simp; done) | omega | (simp; omega)) _ | refine Below.alloc ?_ (by first | (simp; done) | omega | (simp; omega)) _ | refine Below.drew ?_ | refine below_drewN ?_ _))
theorem hget_y {w : World} {tb mb : Nat} {f : Int → Option Cls} (h : HT w tb mb f) {i : Int} (hi : iok i) {c : Cls} (hc : f i = some c) : Calls Try.prog 21 #[.pointer (some ⟨tb, 0, none⟩), .int .i64 i] w fun ee w' => ee = .returned (.tuple #[.agg #[.int .i64 (c).id, .int .i64 (c).par, .bool (c).leaf, .int .u64 (c).ra, .int .u64 (c).rb, .int .u64 (c).rc, .int .u64 (c).la, .int .u64 (c).lb, .int .u64 (c).lc, .int .u64 (c).ua, .int .u64 (c).ub, .int .u64 (c).uc, .int .i64 (c).pk, .int .i64 (c).bt], .int .i64 0]) ∧ Below w.heap.size w w' := by
  have h1 : HT (w.alloc (.cells #[.int .i64 0, .int .i64 0, .bool false, .int .u64 0, .int .u64 0, .int .u64 0, .int .u64 0, .int .u64 0, .int .u64 0, .int .u64 0, .int .u64 0, .int .u64 0, .int .i64 0, .int .i64 0] 31)) tb mb f := h.below (by (repeat' (first | assumption | exact Below.refl _ _ | refine Below.setCell ?_ (by first | (simp; done) | omega | (simp; omega)) _ | refine Below.alloc ?_ (by first | (simp; done) | omega | (simp; omega)) _ | refine Below.drew ?_ | refine below_drewN ?_ _)))
  have hl : (Instr.lookup 108 (.map (some mb)) (.int .i64 i) true).run Try.prog (w.alloc (.cells #[.int .i64 0, .int .i64 0, .bool false, .int .u64 0, .int .u64 0, .int .u64 0, .int .u64 0, .int .u64 0, .int .u64 0, .int .u64 0, .int .u64 0, .int .u64 0, .int .i64 0, .int .i64 0] 31)) = .ok (.tuple #[.agg #[.int .i64 (c).id, .int .i64 (c).par, .bool (c).leaf, .int .u64 (c).ra, .int .u64 (c).rb, .int .u64 (c).rc, .int .u64 (c).la, .int .u64 (c).lb, .int .u64 (c).lc, .int .u64 (c).ua, .int .u64 (c).ub, .int .u64 (c).uc, .int .i64 (c).pk, .int .i64 (c).bt], .bool true]) (w.alloc (.cells #[.int .i64 0, .int .i64 0, .bool false, .int .u64 0, .int .u64 0, .int .u64 0, .int .u64 0, .int .u64 0, .int .u64 0, .int .u64 0, .int .u64 0, .int .u64 0, .int .i64 0, .int .i64 0] 31)) := by
    have := h1.look hi true
    rw [hc] at this
    exact this
  have c0 := h1.c0
  have lt := h.lt
  clear h hc h1
  go_enter Try.func21, Try.ntmps21
  go_wp2
  refine bodyPost_ret (v := (.tuple #[.agg #[.int .i64 (c).id, .int .i64 (c).par, .bool (c).leaf, .int .u64 (c).ra, .int .u64 (c).rb, .int .u64 (c).rc, .int .u64 (c).la, .int .u64 (c).lb, .int .u64 (c).lc, .int .u64 (c).ua, .int .u64 (c).ub, .int .u64 (c).uc, .int .i64 (c).pk, .int .i64 (c).bt], .int .i64 0])) (by simp [results, Try.results21, go_sem, *]) rfl ⟨rfl, ?_⟩
  (repeat' (first | assumption | exact Below.refl _ _ | refine Below.setCell ?_ (by first | (simp; done) | omega | (simp; omega)) _ | refine Below.alloc ?_ (by first | (simp; done) | omega | (simp; omega)) _ | refine Below.drew ?_ | refine below_drewN ?_ _))
theorem hget_n {w : World} {tb mb : Nat} {f : Int → Option Cls} (h : HT w tb mb f) {i : Int} (hi : iok i) (hc : f i = none) : Calls Try.prog 21 #[.pointer (some ⟨tb, 0, none⟩), .int .i64 i] w fun ee w' => ee = .returned (.tuple #[.agg #[.int .i64 0, .int .i64 0, .bool false, .int .u64 0, .int .u64 0, .int .u64 0, .int .u64 0, .int .u64 0, .int .u64 0, .int .u64 0, .int .u64 0, .int .u64 0, .int .i64 0, .int .i64 0], .int .i64 6]) ∧ Below w.heap.size w w' := by
  have h1 : HT (w.alloc (.cells #[.int .i64 0, .int .i64 0, .bool false, .int .u64 0, .int .u64 0, .int .u64 0, .int .u64 0, .int .u64 0, .int .u64 0, .int .u64 0, .int .u64 0, .int .u64 0, .int .i64 0, .int .i64 0] 31)) tb mb f := h.below (by (repeat' (first | assumption | exact Below.refl _ _ | refine Below.setCell ?_ (by first | (simp; done) | omega | (simp; omega)) _ | refine Below.alloc ?_ (by first | (simp; done) | omega | (simp; omega)) _ | refine Below.drew ?_ | refine below_drewN ?_ _)))
  have hl : (Instr.lookup 108 (.map (some mb)) (.int .i64 i) true).run Try.prog (w.alloc (.cells #[.int .i64 0, .int .i64 0, .bool false, .int .u64 0, .int .u64 0, .int .u64 0, .int .u64 0, .int .u64 0, .int .u64 0, .int .u64 0, .int .u64 0, .int .u64 0, .int .i64 0, .int .i64 0] 31)) = .ok (.tuple #[.agg #[.int .i64 0, .int .i64 0, .bool false, .int .u64 0, .int .u64 0, .int .u64 0, .int .u64 0, .int .u64 0, .int .u64 0, .int .u64 0, .int .u64 0, .int .u64 0, .int .i64 0, .int .i64 0], .bool false]) (w.alloc (.cells #[.int .i64 0, .int .i64 0, .bool false, .int .u64 0, .int .u64 0, .int .u64 0, .int .u64 0, .int .u64 0, .int .u64 0, .int .u64 0, .int .u64 0, .int .u64 0, .int .i64 0, .int .i64 0] 31)) := by
    have := h1.look hi true
    rw [hc] at this
    exact this
  have c0 := h1.c0
  have lt := h.lt
  clear h hc h1
  go_enter Try.func21, Try.ntmps21
  go_wp2
  refine bodyPost_ret (v := (.tuple #[.agg #[.int .i64 0, .int .i64 0, .bool false, .int .u64 0, .int .u64 0, .int .u64 0, .int .u64 0, .int .u64 0, .int .u64 0, .int .u64 0, .int .u64 0, .int .u64 0, .int .i64 0, .int .i64 0], .int .i64 6])) (by simp [results, Try.results21, go_sem, *]) rfl ⟨rfl, ?_⟩
  (repeat' (first | assumption | exact Below.refl _ _ | refine Below.setCell ?_ (by first | (simp; done) | omega | (simp; omega)) _ | refine Below.alloc ?_ (by first | (simp; done) | omega | (simp; omega)) _ | refine Below.drew ?_ | refine below_drewN ?_ _))
end Go.Proofs.Ytlenmhbhakeonaa
