/- The reference: Without. -/
import Derived.Test.YtikmdkmejbcmmaaAv22
namespace Go.Proofs.Ytikmdkmejbcmmaa
set_option linter.unusedVariables false
set_option linter.unusedSimpArgs false
set_option maxRecDepth 100000
open Go.RowKit Fg Reg
attribute [local irreducible] Reg.wE NT

theorem ri_info : (Try.prog.info? 41).map (fun i => (i.zero, i.size, i.bytes)) = some (some (.agg #[.int .u64 0, .int .i64 0, .int .u64 0, .int .i64 0]), 4, 32) := by kernel_rfl
theorem ri_parts : ∃ i, Try.prog.info? 41 = some i ∧ i.zero = some (.agg #[.int .u64 0, .int .i64 0, .int .u64 0, .int .i64 0]) ∧ i.size = 4 ∧ i.bytes = 32 := by
  obtain ⟨i, hi, h⟩ := Option.map_eq_some_iff.1 ri_info
  injection h with h1 h2
  injection h2 with h2 h3
  exact ⟨i, hi, h1, h2, h3⟩
theorem take_next {l : List It} {i : Nat} (hi : i < l.length) : l.take (i + 1) = l.take i ++ [itn l i] := by
  have e : itn l i = l[i] := by unfold itn; rw [List.getD_eq_getElem?_getD, List.getElem?_eq_getElem hi]; rfl
  rw [e, List.take_succ_eq_append_getElem hi]
theorem own_snoc {z : World} {base : Nat} {M : List It} {v : Value} {x : It} (h : z.ownsRow base 41 4 v (M.length + 1) (M.flatMap It.cells ++ It.cells x)) : ∃ ao cap, v = .slice ao (M ++ [x]).length cap ∧ z.ownsRow base 41 4 (.slice ao (M ++ [x]).length cap) (M ++ [x]).length ((M ++ [x]).flatMap It.cells) := by
  obtain ⟨ao, cap, rfl⟩ := row_form h
  have e : (M ++ [x]).length = M.length + 1 := by simp
  refine ⟨ao, cap, by rw [e], ?_⟩
  rw [e, List.flatMap_append, List.flatMap_singleton]
  exact h
theorem rem_yes {k : It} {M : List It} {y : It} (h : ke y k = true) : remL k (M ++ [y]) = remL k M := by unfold remL; rw [List.filter_append]; simp [h]
theorem rem_no {k : It} {M : List It} {y : It} (h : ke y k = false) : remL k (M ++ [y]) = remL k M ++ [y] := by unfold remL; rw [List.filter_append]; simp [h]
theorem rem_le (k : It) (M : List It) : (remL k M).length ≤ M.length := List.length_filter_le _ _
set_option maxHeartbeats 4000000 in
theorem rwithout_c (l : List It) (n : Nat) (hln : l.length = n) (hn : n ≤ 1000) (ad : Option Addr) (cap : Nat) (k : It) (w : World) (hR : RwV It.cells 4 w ad l) :
    Calls Try.prog 17 #[.slice ad n cap, .agg #[.int .u64 (k).ka, .int .i64 (k).ki]] w fun e w' => (∃ ao c, e = .returned (.slice ao (remL k l).length c) ∧ RwV It.cells 4 w' ao (remL k l) ∧ ∀ ad, ao = some ad → w.heap.size ≤ ad.block) ∧ Below w.heap.size w w' := by
  obtain ⟨ii, ci0, cz0, cz1, cz2⟩ := ri_parts
  have CI0 := Lib.hid ci0
  have CZ0 := Lib.hid cz0
  have CZ1 := Lib.hid cz1
  have CZ2 := Lib.hid cz2
  have HR := Lib.hid hR
  have HLN := Lib.hid hln
  clear hR hln ci0 cz0 cz1 cz2
  obtain ⟨base, hbase⟩ : ∃ base, w.heap.size + 1 = base := ⟨_, rfl⟩
  have HBA := Lib.hid hbase
  clear hbase
  go_enter Try.func17, Try.ntmps17
  go_wp2
  go_loopg [10, 5] n (fun k9 s10 s5 wr => ∃ (i : Nat) (M : List It) (ao : Option Addr) (c : Nat), s10 = .int .i64 i ∧ s5 = .slice ao M.length c ∧ i ≤ n ∧ n - i ≤ k9 ∧ M = remL k (l.take i) ∧ M.length ≤ i ∧ wr.ownsRow base 41 4 (.slice ao (M).length c) (M).length ((M).flatMap It.cells) ∧ base ≤ wr.heap.size ∧ (wr.cell? ⟨w.heap.size, 0, none⟩ = some (.int .u64 (k).ka) ∧ wr.cell? ⟨w.heap.size, 1, none⟩ = some (.int .i64 (k).ki) ∧ w.heap.size < wr.heap.size) ∧ Below w.heap.size w wr)
  case atStart => exact ⟨0, [], none, 0, rfl, rfl, by omega, by omega, rfl, by simp, World.ownsRow_nil _ _ _ _, by rw [← HBA.out]; simp, ⟨by simp [go_sem], by simp [go_sem], by simp [go_sem]⟩, by (repeat' (first | assumption | exact Below.refl _ _ | refine Below.setCell ?_ (by first | (simp; done) | omega | (simp; omega)) _ | refine Below.alloc ?_ (by first | (simp; done) | omega | (simp; omega)) _ | refine Below.drew ?_))⟩
  case round =>
    obtain ⟨i, M, ao, c, rfl, rfl, hi, hk, hM, hMl, hO, hbs, ⟨k0, k1, k4⟩, hB⟩ := hrel
    have HB := Lib.hid hB
    have HO := Lib.hid hO
    have HM := Lib.hid hM
    clear hO hM
    by_cases hin : i < n
    · obtain ⟨pb, po, had, hpb, p0, p1, p2, p3⟩ := it_cells HR.out (i := i) (by rw [HLN.out]; exact hin)
      subst had
      have p0 := (hB.cell hpb).trans p0
      have p1 := (hB.cell hpb).trans p1
      have p2 := (hB.cell hpb).trans p2
      have p3 := (hB.cell hpb).trans p3
      have hpr := Nat.lt_of_lt_of_le hpb hB.size
      have W4 : IntKind.i64.wrap ((i : Int) + 1) = ((i + 1 : Nat) : Int) := by rw [IntKind.wrap_i64]; omega
      have HTN := Lib.hid (take_next (l := l) (i := i) (by rw [HLN.out]; exact hin))
      clear hB
      cases hke : ke (itn l i) k with
      | true =>
        have HKE := Lib.hid hke
        obtain ⟨g1, g2⟩ := ke_iff.1 hke
        rw [g1] at p0
        rw [g2] at p1
        clear hke g1 g2
        go_wp2
        go_roundg (n - (i + 1))
        case rel =>
          refine ⟨i + 1, M, ao, c, by first | rfl | go_num | (congr 1; omega), rfl, by omega, Nat.le_refl _, by rw [HTN.out, rem_yes HKE.out, HM.out], by omega, World.ownsRow.alloc HO.out _, by simp; omega, ⟨by simp [go_sem, *], by simp [go_sem, *], by simp [go_sem]; omega⟩, ?_⟩
          have hB := HB.out
          (repeat' (first | assumption | exact Below.refl _ _ | refine Below.setCell ?_ (by first | (simp; done) | omega | (simp; omega)) _ | refine Below.alloc ?_ (by first | (simp; done) | omega | (simp; omega)) _ | refine Below.drew ?_))
        case measure => omega
      | false =>
        have HKE := Lib.hid hke
        obtain ⟨Y, hY⟩ : ∃ Y, itn l i = Y := ⟨_, rfl⟩
        rw [hY] at p0 p1 p2 p3 hke
        have HY := Lib.hid hY
        have g : ¬ (Y.ka = k.ka ∧ Y.ki = k.ki) := fun g => by rw [ke_iff.2 g] at hke; exact absurd hke (by simp)
        have D : (!decide (Y.ka = k.ka ∧ Y.ki = k.ki)) = true := by rw [decide_eq_false g]; rfl
        have g2 : Y.ka = k.ka → ¬ Y.ki = k.ki := fun a b => g ⟨a, b⟩
        clear hke hY
        by_cases hka : Y.ka = k.ka
        · have hki : ¬ Y.ki = k.ki := g2 hka
          have k0' := k0
          rw [← hka] at k0
          have HK0 := Lib.hid k0'
          clear k0' hka
          clear g D g2
          go_wp2_with ((at_builtin; refine wpList_append_own _ rfl _ _ 26 rfl (base) 41 ii (.agg #[.int .u64 0, .int .i64 0, .int .u64 0, .int .i64 0]) 4 32 Try.underlying26 CI0.out CZ0.out CZ1.out CZ2.out rfl (by decide) (.slice ao (M).length c) _ _ rfl (World.ownsRow.alloc (World.ownsRow.alloc HO.out _) _) ⟨_, 0, none⟩ 1 1 (It.cells (Y)) rfl rfl ?c1 ?c2 ?c3 ?c4 ?c5 ?_; (case c1 => (intro j u hu; unfold It.cells at hu; rcases j with _ | _ | _ | _ | j <;> simp at hu <;> (try subst hu) <;> simp [Addr.add, go_sem])); (case c2 => (exact itC.one _)); (case c3 => (unfold maxLen; omega)); (case c4 => omega); (case c5 => (simp; omega)); intro v2 z2 hown2 hg2 _); (have hb2 : Below base wr z2 := (Below.alloc (Below.alloc (Below.refl _ _) (by omega) _) (by simp; omega) _).grown hg2 (by simp; omega) (fun q hq => (HO.out.lt q hq).1)); obtain ⟨a2, c2, rfl, hown9⟩ := own_snoc hown2; (have HO2 := Lib.hid hown9); (have HB2 := Lib.hid hb2); clear hown2 hown9 hg2 hb2)
          go_roundg (n - (i + 1))
          case rel =>
            have hlt : w.heap.size < base := by have := HBA.out; omega
            refine ⟨i + 1, M ++ [Y], a2, c2, by first | rfl | go_num | (congr 1; omega), by first | rfl | simp, by omega, Nat.le_refl _, by rw [HTN.out, rem_no HKE.out, HM.out, HY.out], by rw [List.length_append, List.length_singleton]; omega, HO2.out, Nat.le_trans hbs HB2.out.size, ⟨(HB2.out.cell hlt).trans HK0.out, (HB2.out.cell hlt).trans k1, Nat.lt_of_lt_of_le k4 HB2.out.size⟩, HB.out.trans (HB2.out.mono (by omega))⟩
          case measure => omega
        · clear g D g2
          go_wp2_with ((at_builtin; refine wpList_append_own _ rfl _ _ 26 rfl (base) 41 ii (.agg #[.int .u64 0, .int .i64 0, .int .u64 0, .int .i64 0]) 4 32 Try.underlying26 CI0.out CZ0.out CZ1.out CZ2.out rfl (by decide) (.slice ao (M).length c) _ _ rfl (World.ownsRow.alloc (World.ownsRow.alloc HO.out _) _) ⟨_, 0, none⟩ 1 1 (It.cells (Y)) rfl rfl ?c1 ?c2 ?c3 ?c4 ?c5 ?_; (case c1 => (intro j u hu; unfold It.cells at hu; rcases j with _ | _ | _ | _ | j <;> simp at hu <;> (try subst hu) <;> simp [Addr.add, go_sem])); (case c2 => (exact itC.one _)); (case c3 => (unfold maxLen; omega)); (case c4 => omega); (case c5 => (simp; omega)); intro v2 z2 hown2 hg2 _); (have hb2 : Below base wr z2 := (Below.alloc (Below.alloc (Below.refl _ _) (by omega) _) (by simp; omega) _).grown hg2 (by simp; omega) (fun q hq => (HO.out.lt q hq).1)); obtain ⟨a2, c2, rfl, hown9⟩ := own_snoc hown2; (have HO2 := Lib.hid hown9); (have HB2 := Lib.hid hb2); clear hown2 hown9 hg2 hb2)
          go_roundg (n - (i + 1))
          case rel =>
            have hlt : w.heap.size < base := by have := HBA.out; omega
            refine ⟨i + 1, M ++ [Y], a2, c2, by first | rfl | go_num | (congr 1; omega), by first | rfl | simp, by omega, Nat.le_refl _, by rw [HTN.out, rem_no HKE.out, HM.out, HY.out], by rw [List.length_append, List.length_singleton]; omega, HO2.out, Nat.le_trans hbs HB2.out.size, ⟨(HB2.out.cell hlt).trans k0, (HB2.out.cell hlt).trans k1, Nat.lt_of_lt_of_le k4 HB2.out.size⟩, HB.out.trans (HB2.out.mono (by omega))⟩
          case measure => omega
    · have hie : i = n := by omega
      subst hie
      have HT : Hid (l.take i = l) := Lib.hid (List.take_of_length_le (by rw [HLN.out]; exact Nat.le_refl _))
      clear hin
      go_wp2
      go_ret
      have hML : M = remL k l := by rw [HM.out, HT.out]
      subst hML
      obtain ⟨a9, c9, e9, hr9, -, -, hlo9⟩ := RwV.of_own itC HO.out
      injection e9 with e1 e2 e3
      subst e1 e3
      exact ⟨⟨ao, c, rfl, hr9, fun ad9 had9 => by have h1 := (hlo9 ad9 had9).1; have h2 := HBA.out; omega⟩, HB.out⟩
end Go.Proofs.Ytikmdkmejbcmmaa
