/- IDs. -/
import Derived.Test.YtlenmhbhakeonaaHi5
namespace Go.Proofs.Ytlenmhbhakeonaa
set_option linter.unusedVariables false
set_option linter.unusedSimpArgs false
set_option maxRecDepth 100000
open Go.RowKit Fg Reg Go.Maps
attribute [local irreducible] Reg.wE

theorem ms_eq {L M : List Int} (h : L.Pairwise (· < ·)) (hp : M.Perm L) : M.mergeSort (fun x y => decide (x ≤ y)) = L := by
  refine List.Perm.eq_of_pairwise (le := fun x y : Int => x ≤ y) (fun a b _ _ h1 h2 => by omega) ?_ ?_ ((List.mergeSort_perm _ _).trans hp)
  · refine List.Pairwise.imp ?_ (List.pairwise_mergeSort (le := fun x y => decide ((x : Int) ≤ y)) (fun a b c h1 h2 => ?_) (fun a b => ?_) M)
    · intro a b h; exact of_decide_eq_true h
    · have h1 := of_decide_eq_true h1; have h2 := of_decide_eq_true h2; exact decide_eq_true (by omega)
    · simp only [Bool.or_eq_true, decide_eq_true_eq]; omega
  · exact h.imp fun h => by omega
theorem nd_lt {L : List Int} (h : L.Pairwise (· < ·)) : L.Nodup := h.imp fun h => by omega
theorem ids_c {w : World} {tb mb : Nat} {f : Int → Option Cls} (h : HT w tb mb f) (L : List Int) (hL : L.Pairwise (· < ·)) (hm : ∀ x, (f x).isSome = true ↔ x ∈ L) (hn : L.length ≤ 1000) (hok : ∀ x ∈ L, iok x) :
    Calls Try.prog 20 #[.pointer (some ⟨tb, 0, none⟩)] w fun e w' => ∃ v, e = .returned v ∧ w'.ownsRow (w.heap.size + 1) 3 1 v L.length (L.map (Value.int .i64)) ∧ Below w.heap.size w w' := by
  have K : Hid (Calls Try.prog 68 #[.pointer (some ⟨tb, 0, none⟩), .func (.func 70) #[] #[]] w fun e w' => ∃ v : Value, e = .returned v ∧ w'.ownsRow (w.heap.size + 1) 3 1 v L.length (L.map (Value.int .i64)) ∧ Below w.heap.size w w') := Lib.hid (by
    refine (thoseAll_c h L (nd_lt hL) hm hn hok).mono ?_
    rintro e w' ⟨v, M, rfl, hp, hr, hb⟩
    rw [ms_eq hL hp, hp.length_eq] at hr
    exact ⟨v, rfl, hr, hb⟩)
  clear h hm hok
  go_enter Try.func20, Try.ntmps20
  go_wp2_with (first | go_guarded | (go_at_call 68; (with_reducible refine K.out.mono ?_); rintro _ w1 ⟨v, rfl, hr, hb⟩))
  go_ret
  exact ⟨v, rfl, hr, hb⟩
end Go.Proofs.Ytlenmhbhakeonaa
