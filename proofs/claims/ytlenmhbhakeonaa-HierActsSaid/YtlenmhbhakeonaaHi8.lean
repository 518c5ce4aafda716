/- Leaves. -/
import Derived.Test.YtlenmhbhakeonaaHi7
namespace Go.Proofs.Ytlenmhbhakeonaa
set_option linter.unusedVariables false
set_option linter.unusedSimpArgs false
set_option maxRecDepth 100000
open Go.RowKit Fg Reg Go.Maps
attribute [local irreducible] Reg.wE

theorem leaves_c {w : World} {tb mb : Nat} {f : Int → Option Cls} (h : HT w tb mb f) (L : List Int) (hL : L.Pairwise (· < ·)) (hm : ∀ x, (f x).isSome = true ↔ x ∈ L) (hn : L.length ≤ 1000) (hok : ∀ x ∈ L, iok x) :
    Calls Try.prog 18 #[.pointer (some ⟨tb, 0, none⟩)] w fun e w' => ∃ v, e = .returned v ∧ w'.ownsRow (w.heap.size + 1) 3 1 v (L.filter (sel f Cls.leaf)).length ((L.filter (sel f Cls.leaf)).map (Value.int .i64)) ∧ Below w.heap.size w w' := by
  have K : Hid (Calls Try.prog 68 #[.pointer (some ⟨tb, 0, none⟩), .func (.func 69) #[] #[]] w fun e w' => ∃ v : Value, e = .returned v ∧ w'.ownsRow (w.heap.size + 1) 3 1 v (L.filter (sel f Cls.leaf)).length ((L.filter (sel f Cls.leaf)).map (Value.int .i64)) ∧ Below w.heap.size w w') := Lib.hid (by
    refine (thoseLeaf_c h L (nd_lt hL) hm hn hok).mono ?_
    rintro e w' ⟨v, M, rfl, hp, hr, hb⟩
    rw [ms_eq (hL.filter _) hp, hp.length_eq] at hr
    exact ⟨v, rfl, hr, hb⟩)
  clear h hm hok
  go_enter Try.func18, Try.ntmps18
  go_wp2_with (first | go_guarded | (go_at_call 68; (with_reducible refine K.out.mono ?_); rintro _ w1 ⟨v, rfl, hr, hb⟩))
  go_ret
  exact ⟨v, rfl, hr, hb⟩
end Go.Proofs.Ytlenmhbhakeonaa
