/- Children. -/
import Derived.Test.YtlenmhbhakeonaaHi9
import Derived.Deep.Onto
namespace Go.Proofs.Ytlenmhbhakeonaa
set_option linter.unusedVariables false
set_option linter.unusedSimpArgs false
set_option maxRecDepth 100000
open Go.RowKit Fg Reg Go.Maps
attribute [local irreducible] Reg.wE

theorem children_c {w : World} {tb mb : Nat} {f : Int → Option Cls} (h : HT w tb mb f) (num : Int) (L : List Int) (hL : L.Pairwise (· < ·)) (hm : ∀ x, (f x).isSome = true ↔ x ∈ L) (hn : L.length ≤ 1000) (hok : ∀ x ∈ L, iok x) :
    Calls Try.prog 25 #[.pointer (some ⟨tb, 0, none⟩), .int .i64 num] w fun e w' => ∃ v, e = .returned v ∧ w'.ownsRow (w.heap.size + 1) 3 1 v (L.filter (sel f (fun c => c.par == num))).length ((L.filter (sel f (fun c => c.par == num))).map (Value.int .i64)) ∧ Below w.heap.size w w' := by
  have hb0 : Below w.heap.size w (w.alloc (.cells #[.int .i64 num] 3)) := by (repeat' (first | assumption | exact Below.refl _ _ | refine Below.setCell ?_ (by first | (simp; done) | omega | (simp; omega)) _ | refine Below.alloc ?_ (by first | (simp; done) | omega | (simp; omega)) _ | refine Below.drew ?_ | refine below_drewN ?_ _))
  have hT : HT (w.alloc (.cells #[.int .i64 num] 3)) tb mb f := h.below hb0
  have K : Hid (Calls Try.prog 68 #[.pointer (some ⟨tb, 0, none⟩), .func (.func 76) #[] #[.pointer (some ⟨(w.heap.size), 0, none⟩)]] (w.alloc (.cells #[.int .i64 num] 3)) fun e w' => ∃ v : Value, e = .returned v ∧ w'.ownsRow (w.heap.size + 1) 3 1 v (L.filter (sel f (fun c => c.par == num))).length ((L.filter (sel f (fun c => c.par == num))).map (Value.int .i64)) ∧ Below w.heap.size w w') := Lib.hid (by
    refine (thoseChi_c (cb := w.heap.size) (num := num) hT L (by simp [go_sem]) (by simp) (nd_lt hL) hm hn hok).mono ?_
    rintro e w' ⟨v, M, rfl, hp, hr, hb⟩
    rw [ms_eq (hL.filter _) hp, hp.length_eq] at hr
    exact ⟨v, rfl, World.ownsRow.mono hr (by simp), hb0.trans (hb.mono (by simp))⟩)
  clear h hm hok hT hb0
  go_enter Try.func25, Try.ntmps25
  go_wp2_with (first | go_guarded | (go_at_call 68; (with_reducible refine K.out.mono ?_); rintro _ w1 ⟨v, rfl, hr, hb⟩))
  go_ret
  exact ⟨v, rfl, hr, hb⟩
end Go.Proofs.Ytlenmhbhakeonaa
