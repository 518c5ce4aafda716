/- The reference: Less, First. -/
import Derived.Test.YtikmdkmejbcmmaaAv23
namespace Go.Proofs.Ytikmdkmejbcmmaa
set_option linter.unusedVariables false
set_option linter.unusedSimpArgs false
set_option maxRecDepth 100000
open Go.RowKit Fg Reg
attribute [local irreducible] Reg.wE NT

theorem rless_c (a b : It) (w : World) : Calls Try.prog 56 #[.agg #[.int .u64 (a).ka, .int .i64 (a).ki], .agg #[.int .u64 (b).ka, .int .i64 (b).ki]] w fun ee w' => ee = .returned (.bool (kl a b)) ∧ Below w.heap.size w w' := by
  by_cases h1 : a.ka < b.ka
  · have e : kl a b = true := kl_iff.2 (.inl h1)
    rw [e]
    clear e
    go_enter Try.func56, Try.ntmps56
    go_wp2_with go_guarded
    go_ret
    refine ⟨rfl, ?_⟩
    (repeat' (first | assumption | exact Below.refl _ _ | refine Below.setCell ?_ (by first | (simp; done) | omega | (simp; omega)) _ | refine Below.alloc ?_ (by first | (simp; done) | omega | (simp; omega)) _ | refine Below.drew ?_))
  · by_cases h2 : a.ka = b.ka
    · have e : kl a b = decide (a.ki < b.ki) := by
        unfold kl
        rw [decide_eq_decide]
        omega
      rw [e, h2]
      clear e h1
      go_enter Try.func56, Try.ntmps56
      go_wp2_with go_guarded
      go_ret
      refine ⟨rfl, ?_⟩
      (repeat' (first | assumption | exact Below.refl _ _ | refine Below.setCell ?_ (by first | (simp; done) | omega | (simp; omega)) _ | refine Below.alloc ?_ (by first | (simp; done) | omega | (simp; omega)) _ | refine Below.drew ?_))
    · have e : kl a b = false := kl_not.2 (by omega)
      rw [e]
      clear e
      go_enter Try.func56, Try.ntmps56
      go_wp2_with go_guarded
      go_ret
      refine ⟨rfl, ?_⟩
      (repeat' (first | assumption | exact Below.refl _ _ | refine Below.setCell ?_ (by first | (simp; done) | omega | (simp; omega)) _ | refine Below.alloc ?_ (by first | (simp; done) | omega | (simp; omega)) _ | refine Below.drew ?_))
theorem rfirst_n {a : Int} {l : List It} (h : ∀ j, j < l.length → ¬ (itn l j).va ≤ a) : fstL a l = none := by
  unfold fstL
  rw [List.find?_eq_none]
  intro x hx hxa
  obtain ⟨j, hj, rfl⟩ := List.getElem_of_mem hx
  have e : itn l j = l[j] := by unfold itn; rw [List.getD_eq_getElem?_getD, List.getElem?_eq_getElem hj]; rfl
  exact h j hj (by rw [e]; exact of_decide_eq_true hxa)
theorem rfirst_y {a : Int} {l : List It} {i : Nat} (hi : i < l.length) (h : ∀ j, j < i → ¬ (itn l j).va ≤ a) (hy : (itn l i).va ≤ a) : fstL a l = some (itn l i) := by
  have e0 : l = l.take i ++ itn l i :: l.drop (i + 1) := by
    have e : itn l i = l[i] := by unfold itn; rw [List.getD_eq_getElem?_getD, List.getElem?_eq_getElem hi]; rfl
    rw [e, ← List.drop_eq_getElem_cons hi, List.take_append_drop]
  have e1 : fstL a (l.take i) = none := by
    refine rfirst_n fun j hj => ?_
    have hj' : j < i := by rw [List.length_take] at hj; omega
    have : itn (l.take i) j = itn l j := by unfold itn; rw [List.getD_eq_getElem?_getD, List.getD_eq_getElem?_getD, List.getElem?_take]; rw [if_pos hj']
    rw [this]; exact h j hj'
  have := fst_parts a (itn l i) (l.take i) (l.drop (i + 1))
  rw [← e0, e1, if_pos hy] at this
  exact this
set_option maxHeartbeats 4000000 in
theorem rfirst_c (l : List It) (n : Nat) (hln : l.length = n) (hn : n ≤ 1000) (ad : Option Addr) (cap : Nat) (tk : Int) (w : World) (hR : RwV It.cells 4 w ad l) :
    Calls Try.prog 60 #[.slice ad n cap, .int .u64 tk] w fun ee w' => ee = .returned (.agg #[.int .u64 ((fv (fstL tk l))).ka, .int .i64 ((fv (fstL tk l))).ki, .int .u64 ((fv (fstL tk l))).va, .int .i64 ((fv (fstL tk l))).vi, .bool (fstL tk l).isSome]) ∧ Below w.heap.size w w' := by
  have HR := Lib.hid hR
  have HLN := Lib.hid hln
  obtain ⟨X, hX⟩ : ∃ X, fstL tk l = X := ⟨_, rfl⟩
  rw [hX]
  have HX := Lib.hid hX
  clear hR hln hX
  go_enter Try.func60, Try.ntmps60
  go_wp2
  go_loopg [9] n (fun k9 s9 wr => ∃ (i : Nat), s9 = .int .i64 i ∧ i ≤ n ∧ n - i ≤ k9 ∧ (∀ j, j < i → ¬ (itn l j).va ≤ tk) ∧ (wr.cell? ⟨w.heap.size, 0, none⟩ = some (.int .u64 ((⟨0, 0, 0, 0⟩ : It)).ka) ∧ wr.cell? ⟨w.heap.size, 1, none⟩ = some (.int .i64 ((⟨0, 0, 0, 0⟩ : It)).ki) ∧ wr.cell? ⟨w.heap.size, 2, none⟩ = some (.int .u64 ((⟨0, 0, 0, 0⟩ : It)).va) ∧ wr.cell? ⟨w.heap.size, 3, none⟩ = some (.int .i64 ((⟨0, 0, 0, 0⟩ : It)).vi) ∧ w.heap.size < wr.heap.size) ∧ wr.cell? ⟨w.heap.size, 4, none⟩ = some (.bool false) ∧ (wr.frozen? ⟨w.heap.size, 0, none⟩ = false ∧ wr.frozen? ⟨w.heap.size, 1, none⟩ = false ∧ wr.frozen? ⟨w.heap.size, 2, none⟩ = false ∧ wr.frozen? ⟨w.heap.size, 3, none⟩ = false) ∧ wr.frozen? ⟨w.heap.size, 4, none⟩ = false ∧ Below w.heap.size w wr)
  case atStart => exact ⟨0, rfl, by omega, by omega, fun j hj => by omega, ⟨by simp [go_sem], by simp [go_sem], by simp [go_sem], by simp [go_sem], by simp [go_sem]⟩, by simp [go_sem], ⟨by simp [go_sem], by simp [go_sem], by simp [go_sem], by simp [go_sem]⟩, by simp [go_sem], by (repeat' (first | assumption | exact Below.refl _ _ | refine Below.setCell ?_ (by first | (simp; done) | omega | (simp; omega)) _ | refine Below.alloc ?_ (by first | (simp; done) | omega | (simp; omega)) _ | refine Below.drew ?_))⟩
  case round =>
    obtain ⟨i, rfl, hi, hk, hA, ⟨z0, z1, z2, z3, zl⟩, z4, ⟨q0, q1, q2, q3⟩, q4, hB⟩ := hrel
    have HB := Lib.hid hB
    have HA := Lib.hid hA
    clear hA
    by_cases hin : i < n
    · obtain ⟨pb, po, had, hpb, p0, p1, p2, p3⟩ := it_cells HR.out (i := i) (by rw [HLN.out]; exact hin)
      subst had
      have p0 := (hB.cell hpb).trans p0
      have p1 := (hB.cell hpb).trans p1
      have p2 := (hB.cell hpb).trans p2
      have p3 := (hB.cell hpb).trans p3
      have hpr := Nat.lt_of_lt_of_le hpb hB.size
      have W4 : IntKind.i64.wrap ((i : Int) + 1) = ((i + 1 : Nat) : Int) := by rw [IntKind.wrap_i64]; omega
      clear hB
      by_cases hy : (itn l i).va ≤ tk
      · have ex : X = some (itn l i) := by rw [← HX.out]; exact rfirst_y (by rw [HLN.out]; exact hin) HA.out hy
        obtain ⟨Y, hY⟩ : ∃ Y, itn l i = Y := ⟨_, rfl⟩
        rw [hY] at p0 p1 p2 p3 hy ex
        subst ex
        clear hY
        go_wp2
        refine bodyPost_ret (v := .agg #[.int .u64 (Y).ka, .int .i64 (Y).ki, .int .u64 (Y).va, .int .i64 (Y).vi, .bool true]) (by simp [results, Try.results60, go_sem, *]) rfl ⟨rfl, ?_⟩
        have hB := HB.out
        (repeat' (first | assumption | exact Below.refl _ _ | refine Below.setCell ?_ (by first | (simp; done) | omega | (simp; omega)) _ | refine Below.alloc ?_ (by first | (simp; done) | omega | (simp; omega)) _ | refine Below.drew ?_))
      · have HY := Lib.hid hy
        go_wp2
        go_roundg (n - (i + 1))
        case rel =>
          refine ⟨i + 1, by first | rfl | go_num | (congr 1; omega), by omega, Nat.le_refl _, fun j hj => ?_, ⟨by simp [go_sem, *], by simp [go_sem, *], by simp [go_sem, *], by simp [go_sem, *], by simp [go_sem]; omega⟩, by simp [go_sem, *], ⟨by simp [go_sem, *], by simp [go_sem, *], by simp [go_sem, *], by simp [go_sem, *]⟩, by simp [go_sem, *], ?_⟩
          · by_cases hji : j = i
            · subst hji; exact HY.out
            · exact HA.out j (by omega)
          · have hB := HB.out
            (repeat' (first | assumption | exact Below.refl _ _ | refine Below.setCell ?_ (by first | (simp; done) | omega | (simp; omega)) _ | refine Below.alloc ?_ (by first | (simp; done) | omega | (simp; omega)) _ | refine Below.drew ?_))
        case measure => omega
    · have hie : i = n := by omega
      subst hie
      have ex : X = none := by rw [← HX.out]; exact rfirst_n fun j hj => HA.out j (by rw [← HLN.out]; exact hj)
      subst ex
      clear hin
      go_wp2
      refine bodyPost_ret (v := .agg #[.int .u64 ((⟨0, 0, 0, 0⟩ : It)).ka, .int .i64 ((⟨0, 0, 0, 0⟩ : It)).ki, .int .u64 ((⟨0, 0, 0, 0⟩ : It)).va, .int .i64 ((⟨0, 0, 0, 0⟩ : It)).vi, .bool false]) (by simp [results, Try.results60, go_sem, *]) rfl ⟨rfl, ?_⟩
      have hB := HB.out
      (repeat' (first | assumption | exact Below.refl _ _ | refine Below.setCell ?_ (by first | (simp; done) | omega | (simp; omega)) _ | refine Below.alloc ?_ (by first | (simp; done) | omega | (simp; omega)) _ | refine Below.drew ?_))
end Go.Proofs.Ytikmdkmejbcmmaa
