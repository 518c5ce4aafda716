/- The reference: Find, Needs, ref, item. -/
import Derived.Test.YtikmdkmejbcmmaaAv20
namespace Go.Proofs.Ytikmdkmejbcmmaa
set_option linter.unusedVariables false
set_option linter.unusedSimpArgs false
set_option maxRecDepth 100000
open Go.RowKit Fg Reg
attribute [local irreducible] Reg.wE NT

theorem ref_c (k : It) (w : World) : Calls Try.prog 15 #[.agg #[.int .u64 (k).ka, .int .i64 (k).ki]] w fun ee w' => ee = .returned (.agg #[.int .u64 (k).ka, .int .i64 (k).ki]) ∧ Below w.heap.size w w' := by
  go_enter Try.func15, Try.ntmps15
  go_wp2
  refine bodyPost_ret (v := (.agg #[.int .u64 (k).ka, .int .i64 (k).ki])) (by simp [results, Try.results15, go_sem, *]) rfl ⟨rfl, ?_⟩
  (repeat' (first | assumption | exact Below.refl _ _ | refine Below.setCell ?_ (by first | (simp; done) | omega | (simp; omega)) _ | refine Below.alloc ?_ (by first | (simp; done) | omega | (simp; omega)) _ | refine Below.drew ?_))
theorem fnd_all {l : List It} {k : It} (h : ∀ j, j < l.length → ke (itn l j) k = false) : fndL k l = none := fnd_no fun y hy => by
  obtain ⟨j, hj, rfl⟩ := List.getElem_of_mem hy
  have e : itn l j = l[j] := by unfold itn; rw [List.getD_eq_getElem?_getD, List.getElem?_eq_getElem hj]; rfl
  rw [← e]; exact h j hj
theorem itn_mem {l : List It} {j : Nat} (hj : j < l.length) : itn l j ∈ l := by
  have e : itn l j = l[j] := by unfold itn; rw [List.getD_eq_getElem?_getD, List.getElem?_eq_getElem hj]; rfl
  rw [e]; exact List.getElem_mem _
theorem fnd_has {l : List It} {k : It} {j : Nat} (hj : j < l.length) (h : ke (itn l j) k = true) : (fndL k l).isSome = true := by
  cases hf : fndL k l with
  | some y => rfl
  | none => have := fnd_none hf _ (itn_mem hj); rw [h] at this; exact absurd this (by simp)
set_option maxHeartbeats 4000000 in
theorem rfind_c (l : List It) (n : Nat) (hln : l.length = n) (hn : n ≤ 1000) (ad : Option Addr) (cap : Nat) (k : It) (w : World) (hR : RwV It.cells 4 w ad l) :
    Calls Try.prog 14 #[.slice ad n cap, .agg #[.int .u64 (k).ka, .int .i64 (k).ki]] w fun e w' => (∃ r : Int, e = .returned (.int .i64 r) ∧ decide (0 ≤ r) = (fndL k l).isSome) ∧ Below w.heap.size w w' := by
  have HR := Lib.hid hR
  have HLN := Lib.hid hln
  clear hR hln
  go_enter Try.func14, Try.ntmps14
  go_wp2
  go_loopg [9] n (fun k9 s9 wr => ∃ (i : Nat), s9 = .int .i64 i ∧ i ≤ n ∧ n - i ≤ k9 ∧ (∀ j, j < i → ke (itn l j) k = false) ∧ (wr.cell? ⟨w.heap.size, 0, none⟩ = some (.int .u64 (k).ka) ∧ wr.cell? ⟨w.heap.size, 1, none⟩ = some (.int .i64 (k).ki) ∧ w.heap.size < wr.heap.size) ∧ Below w.heap.size w wr)
  case atStart => exact ⟨0, rfl, by omega, by omega, fun j hj => by omega, ⟨by simp [go_sem], by simp [go_sem], by simp [go_sem]⟩, by (repeat' (first | assumption | exact Below.refl _ _ | refine Below.setCell ?_ (by first | (simp; done) | omega | (simp; omega)) _ | refine Below.alloc ?_ (by first | (simp; done) | omega | (simp; omega)) _ | refine Below.drew ?_))⟩
  case round =>
    obtain ⟨i, rfl, hi, hk, hA, ⟨k0, k1, k4⟩, hB⟩ := hrel
    have HB := Lib.hid hB
    have HA := Lib.hid hA
    clear hA
    by_cases hin : i < n
    · obtain ⟨pb, po, had, hpb, p0, p1, p2, p3⟩ := it_cells HR.out (i := i) (by rw [HLN.out]; exact hin)
      subst had
      have p0 := (hB.cell hpb).trans p0
      have p1 := (hB.cell hpb).trans p1
      have p2 := (hB.cell hpb).trans p2
      have p3 := (hB.cell hpb).trans p3
      have hpr := Nat.lt_of_lt_of_le hpb hB.size
      have W4 : IntKind.i64.wrap ((i : Int) + 1) = ((i + 1 : Nat) : Int) := by rw [IntKind.wrap_i64]; omega
      clear hB
      cases hke : ke (itn l i) k with
      | true =>
        have HF := Lib.hid (fnd_has (by rw [HLN.out]; exact hin) hke)
        obtain ⟨g1, g2⟩ := ke_iff.1 hke
        rw [g1] at p0
        rw [g2] at p1
        clear hke g1 g2
        go_wp2
        go_ret
        refine ⟨⟨(i : Int), rfl, ?_⟩, ?_⟩
        · rw [HF.out]; exact decide_eq_true (by omega)
        · have hB := HB.out
          (repeat' (first | assumption | exact Below.refl _ _ | refine Below.setCell ?_ (by first | (simp; done) | omega | (simp; omega)) _ | refine Below.alloc ?_ (by first | (simp; done) | omega | (simp; omega)) _ | refine Below.drew ?_))
      | false =>
        have HKE := Lib.hid hke
        have g : ¬ ((itn l i).ka = k.ka ∧ (itn l i).ki = k.ki) := fun g => by rw [ke_iff.2 g] at hke; exact absurd hke (by simp)
        have D : decide ((itn l i).ka = k.ka ∧ (itn l i).ki = k.ki) = false := decide_eq_false g
        have g2 : (itn l i).ka = k.ka → ¬ (itn l i).ki = k.ki := fun a b => g ⟨a, b⟩
        clear hke
        go_wp2
        all_goals go_roundg (n - (i + 1))
        all_goals first
          | (show n - (i + 1) < gk; omega)
          | (refine ⟨i + 1, by first | rfl | go_num | (congr 1; omega), by omega, Nat.le_refl _, fun j hj => ?_, ⟨by simp [go_sem, *], by simp [go_sem, *], by simp [go_sem]; omega⟩, ?_⟩
             · by_cases hji : j = i
               · subst hji; exact HKE.out
               · exact HA.out j (by omega)
             · have hB := HB.out
               (repeat' (first | assumption | exact Below.refl _ _ | refine Below.setCell ?_ (by first | (simp; done) | omega | (simp; omega)) _ | refine Below.alloc ?_ (by first | (simp; done) | omega | (simp; omega)) _ | refine Below.drew ?_)))
    · have hie : i = n := by omega
      subst hie
      have HF := Lib.hid (fnd_all (k := k) (l := l) fun j hj => HA.out j (by rw [← HLN.out]; exact hj))
      clear hin
      go_wp2
      go_ret
      refine ⟨⟨-1, rfl, ?_⟩, by with_reducible assumption⟩
      rw [HF.out]; rfl
end Go.Proofs.Ytikmdkmejbcmmaa
