/- The reference: Below. -/
import Derived.Test.YtikmdkmejbcmmaaAv26
namespace Go.Proofs.Ytikmdkmejbcmmaa
set_option linter.unusedVariables false
set_option linter.unusedSimpArgs false
set_option maxRecDepth 100000
open Go.RowKit Fg Reg
attribute [local irreducible] Reg.wE NT

set_option maxHeartbeats 8000000 in
theorem rbelow_c (l : List It) (n : Nat) (hln : l.length = n) (hn : n ≤ 1000) (ad : Option Addr) (cap : Nat) (tk : Int) (w : World) (hR : RwV It.cells 4 w ad l) :
    Calls Try.prog 59 #[.slice ad n cap, .int .u64 tk] w fun ee w' => ee = .returned (.agg #[.int .u64 ((fv (belL tk l))).ka, .int .i64 ((fv (belL tk l))).ki, .int .u64 ((fv (belL tk l))).va, .int .i64 ((fv (belL tk l))).vi, .bool (belL tk l).isSome]) ∧ Below w.heap.size w w' := by
  have HR := Lib.hid hR
  have HLN := Lib.hid hln
  obtain ⟨X, hX⟩ : ∃ X, belL tk l = X := ⟨_, rfl⟩
  rw [hX]
  have HX := Lib.hid hX
  clear hR hln hX
  go_enter Try.func59, Try.ntmps59
  go_wp2
  go_loopg [11] n (fun k9 s11 wr => ∃ (i : Nat) (o : Option It), s11 = .int .i64 i ∧ i ≤ n ∧ n - i ≤ k9 ∧ (l.take i).foldl (bstp tk) none = o ∧ ((wr.cell? ⟨w.heap.size + 1, 0, none⟩ = some (.int .u64 ((fv o)).ka) ∧ wr.cell? ⟨w.heap.size + 1, 1, none⟩ = some (.int .i64 ((fv o)).ki) ∧ wr.cell? ⟨w.heap.size + 1, 2, none⟩ = some (.int .u64 ((fv o)).va) ∧ wr.cell? ⟨w.heap.size + 1, 3, none⟩ = some (.int .i64 ((fv o)).vi) ∧ w.heap.size + 1 < wr.heap.size) ∧ wr.cell? ⟨w.heap.size + 1, 4, none⟩ = some (.bool o.isSome) ∧ (wr.frozen? ⟨w.heap.size + 1, 0, none⟩ = false ∧ wr.frozen? ⟨w.heap.size + 1, 1, none⟩ = false ∧ wr.frozen? ⟨w.heap.size + 1, 2, none⟩ = false ∧ wr.frozen? ⟨w.heap.size + 1, 3, none⟩ = false) ∧ wr.frozen? ⟨w.heap.size + 1, 4, none⟩ = false) ∧ ((wr.cell? ⟨w.heap.size, 0, none⟩ = some (.int .u64 ((⟨0, 0, 0, 0⟩ : It)).ka) ∧ wr.cell? ⟨w.heap.size, 1, none⟩ = some (.int .i64 ((⟨0, 0, 0, 0⟩ : It)).ki) ∧ wr.cell? ⟨w.heap.size, 2, none⟩ = some (.int .u64 ((⟨0, 0, 0, 0⟩ : It)).va) ∧ wr.cell? ⟨w.heap.size, 3, none⟩ = some (.int .i64 ((⟨0, 0, 0, 0⟩ : It)).vi) ∧ w.heap.size < wr.heap.size) ∧ wr.cell? ⟨w.heap.size, 4, none⟩ = some (.bool false) ∧ (wr.frozen? ⟨w.heap.size, 0, none⟩ = false ∧ wr.frozen? ⟨w.heap.size, 1, none⟩ = false ∧ wr.frozen? ⟨w.heap.size, 2, none⟩ = false ∧ wr.frozen? ⟨w.heap.size, 3, none⟩ = false) ∧ wr.frozen? ⟨w.heap.size, 4, none⟩ = false) ∧ Below w.heap.size w wr)
  case atStart => exact ⟨0, none, rfl, by omega, by omega, rfl, ⟨⟨by simp [go_sem, fv], by simp [go_sem, fv], by simp [go_sem, fv], by simp [go_sem, fv], by simp [go_sem]⟩, by simp [go_sem], ⟨by simp [go_sem], by simp [go_sem], by simp [go_sem], by simp [go_sem]⟩, by simp [go_sem]⟩, ⟨⟨by simp [go_sem], by simp [go_sem], by simp [go_sem], by simp [go_sem], by simp [go_sem]⟩, by simp [go_sem], ⟨by simp [go_sem], by simp [go_sem], by simp [go_sem], by simp [go_sem]⟩, by simp [go_sem]⟩, by (repeat' (first | assumption | exact Below.refl _ _ | refine Below.setCell ?_ (by first | (simp; done) | omega | (simp; omega)) _ | refine Below.alloc ?_ (by first | (simp; done) | omega | (simp; omega)) _ | refine Below.drew ?_))⟩
  case round =>
    obtain ⟨i, o, rfl, hi, hk, hM, ⟨⟨y0, y1, y2, y3, yl⟩, y4, ⟨g0, g1, g2, g3⟩, g4⟩, ⟨⟨z0, z1, z2, z3, zl⟩, z4, ⟨q0, q1, q2, q3⟩, q4⟩, hB⟩ := hrel
    have HB := Lib.hid hB
    have HM := Lib.hid hM
    clear hM
    by_cases hin : i < n
    · obtain ⟨pb, po, had, hpb, p0, p1, p2, p3⟩ := it_cells HR.out (i := i) (by rw [HLN.out]; exact hin)
      subst had
      have p0 := (hB.cell hpb).trans p0
      have p1 := (hB.cell hpb).trans p1
      have p2 := (hB.cell hpb).trans p2
      have p3 := (hB.cell hpb).trans p3
      have hpr := Nat.lt_of_lt_of_le hpb hB.size
      have W4 : IntKind.i64.wrap ((i : Int) + 1) = ((i + 1 : Nat) : Int) := by rw [IntKind.wrap_i64]; omega
      have htn := take_next (l := l) (i := i) (by rw [HLN.out]; exact hin)
      obtain ⟨Y, hY⟩ : ∃ Y, itn l i = Y := ⟨_, rfl⟩
      rw [hY] at p0 p1 p2 p3 htn
      have HTN := Lib.hid htn
      clear hB htn hY
      by_cases hka : Y.ka ≤ tk
      · cases o with
        | none =>
          have HST : Hid ([Y].foldl (bstp tk) none = some Y) := Lib.hid (by show bstp tk none Y = _; unfold bstp; rw [if_pos ⟨hka, by simp⟩])
          have y4 : wr.cell? ⟨w.heap.size + 1, 4, none⟩ = some (.bool false) := y4
          go_wp2_with go_guarded
          go_roundg (n - (i + 1))
          case rel =>
            refine ⟨i + 1, some Y, by first | rfl | go_num | (congr 1; omega), by omega, Nat.le_refl _, by rw [HTN.out, List.foldl_append, HM.out]; exact HST.out, ⟨⟨by simp [go_sem, fv, *], by simp [go_sem, fv, *], by simp [go_sem, fv, *], by simp [go_sem, fv, *], by first | omega | (simp [go_sem]; omega)⟩, by simp [go_sem, *], ⟨by simp [go_sem, *], by simp [go_sem, *], by simp [go_sem, *], by simp [go_sem, *]⟩, by simp [go_sem, *]⟩, ⟨⟨by simp [go_sem, fv, *], by simp [go_sem, fv, *], by simp [go_sem, fv, *], by simp [go_sem, fv, *], by first | omega | (simp [go_sem]; omega)⟩, by simp [go_sem, *], ⟨by simp [go_sem, *], by simp [go_sem, *], by simp [go_sem, *], by simp [go_sem, *]⟩, by simp [go_sem, *]⟩, ?_⟩
            have hB := HB.out
            (repeat' (first | assumption | exact Below.refl _ _ | refine Below.setCell ?_ (by first | (simp; done) | omega | (simp; omega)) _ | refine Below.alloc ?_ (by first | (simp; done) | omega | (simp; omega)) _ | refine Below.drew ?_))
          case measure => omega
        | some m =>
          dsimp only [fv, Option.getD, Option.isSome] at y0 y1 y2 y3 y4
          by_cases hv : Y.va < m.va ∨ (Y.va = m.va ∧ Y.vi < m.vi)
          · have HST : Hid ([Y].foldl (bstp tk) (some m) = some Y) := Lib.hid (by show bstp tk (some m) Y = _; unfold bstp; rw [if_pos ⟨hka, fun q hq => by injection hq with hq; subst hq; exact decide_eq_true hv⟩])
            have kl9 : ∀ z, Calls Try.prog 56 #[.agg #[.int .u64 (Y).va, .int .i64 (Y).vi], .agg #[.int .u64 (m).va, .int .i64 (m).vi]] z fun e w' => e = .returned (.bool true) ∧ Below z.heap.size z w' := fun z => by
              have h := rless_c ⟨Y.va, Y.vi, 0, 0⟩ ⟨m.va, m.vi, 0, 0⟩ z
              rw [show kl ⟨Y.va, Y.vi, 0, 0⟩ ⟨m.va, m.vi, 0, 0⟩ = true from kl_iff.2 hv] at h
              exact h
            have KL := Lib.hid kl9
            clear kl9 hv
            have hBQ := HB.out
            go_wp2_with (first | go_guarded | (go_at_call 56; ((with_reducible refine (KL.out _).mono ?_); rintro e w5 ⟨rfl, hbel⟩; obtain ⟨hcc, hff⟩ := bcell hbel; have hsz := hbel.size; (try simp at hsz); have hF : (w5.cell? ⟨wr.heap.size, 0, none⟩ = some (.int .u64 (Y).ka) ∧ w5.cell? ⟨wr.heap.size, 1, none⟩ = some (.int .i64 (Y).ki) ∧ w5.cell? ⟨wr.heap.size, 2, none⟩ = some (.int .u64 (Y).va) ∧ w5.cell? ⟨wr.heap.size, 3, none⟩ = some (.int .i64 (Y).vi) ∧ wr.heap.size < w5.heap.size) ∧ ((w5.cell? ⟨w.heap.size + 1, 0, none⟩ = some (.int .u64 (m).ka) ∧ w5.cell? ⟨w.heap.size + 1, 1, none⟩ = some (.int .i64 (m).ki) ∧ w5.cell? ⟨w.heap.size + 1, 2, none⟩ = some (.int .u64 (m).va) ∧ w5.cell? ⟨w.heap.size + 1, 3, none⟩ = some (.int .i64 (m).vi) ∧ w.heap.size + 1 < w5.heap.size) ∧ w5.cell? ⟨w.heap.size + 1, 4, none⟩ = some (.bool true) ∧ (w5.frozen? ⟨w.heap.size + 1, 0, none⟩ = false ∧ w5.frozen? ⟨w.heap.size + 1, 1, none⟩ = false ∧ w5.frozen? ⟨w.heap.size + 1, 2, none⟩ = false ∧ w5.frozen? ⟨w.heap.size + 1, 3, none⟩ = false) ∧ w5.frozen? ⟨w.heap.size + 1, 4, none⟩ = false) ∧ ((w5.cell? ⟨w.heap.size, 0, none⟩ = some (.int .u64 ((⟨0, 0, 0, 0⟩ : It)).ka) ∧ w5.cell? ⟨w.heap.size, 1, none⟩ = some (.int .i64 ((⟨0, 0, 0, 0⟩ : It)).ki) ∧ w5.cell? ⟨w.heap.size, 2, none⟩ = some (.int .u64 ((⟨0, 0, 0, 0⟩ : It)).va) ∧ w5.cell? ⟨w.heap.size, 3, none⟩ = some (.int .i64 ((⟨0, 0, 0, 0⟩ : It)).vi) ∧ w.heap.size < w5.heap.size) ∧ w5.cell? ⟨w.heap.size, 4, none⟩ = some (.bool false) ∧ (w5.frozen? ⟨w.heap.size, 0, none⟩ = false ∧ w5.frozen? ⟨w.heap.size, 1, none⟩ = false ∧ w5.frozen? ⟨w.heap.size, 2, none⟩ = false ∧ w5.frozen? ⟨w.heap.size, 3, none⟩ = false) ∧ w5.frozen? ⟨w.heap.size, 4, none⟩ = false) ∧ w.heap.size + 1 < w5.heap.size ∧ Below w.heap.size w w5 := (by ((repeat' apply And.intro) <;> first | (simp [go_sem, *]; done) | omega | (repeat' (first | with_reducible exact Below.refl _ _ | with_reducible assumption | ((with_reducible refine Below.drew ?_)) | ((with_reducible refine below_drewN ?_ _)) | ((with_reducible refine Below.alloc ?_ ?_ _); rotate_left; focus (first | omega | (simp; done) | (simp; omega))) | ((with_reducible refine Below.setCell ?_ ?_ _); rotate_left; focus (first | omega | (simp; done) | (simp; omega))) | ((with_reducible refine Below.trans ?_ (Below.mono (by with_reducible assumption) ?_)); rotate_left; focus (first | omega | (simp; done) | (simp; omega))))))); go_split_ands; clear hcc hff hbel)))
            go_roundg (n - (i + 1))
            case rel =>
              refine ⟨i + 1, some Y, by first | rfl | go_num | (congr 1; omega), by omega, Nat.le_refl _, by rw [HTN.out, List.foldl_append, HM.out]; exact HST.out, ⟨⟨by simp [go_sem, fv, *], by simp [go_sem, fv, *], by simp [go_sem, fv, *], by simp [go_sem, fv, *], by first | omega | (simp [go_sem]; omega)⟩, by simp [go_sem, *], ⟨by simp [go_sem, *], by simp [go_sem, *], by simp [go_sem, *], by simp [go_sem, *]⟩, by simp [go_sem, *]⟩, ⟨⟨by simp [go_sem, fv, *], by simp [go_sem, fv, *], by simp [go_sem, fv, *], by simp [go_sem, fv, *], by first | omega | (simp [go_sem]; omega)⟩, by simp [go_sem, *], ⟨by simp [go_sem, *], by simp [go_sem, *], by simp [go_sem, *], by simp [go_sem, *]⟩, by simp [go_sem, *]⟩, ?_⟩
              have hB := HB.out
              (repeat' (first | assumption | exact Below.refl _ _ | refine Below.setCell ?_ (by first | (simp; done) | omega | (simp; omega)) _ | refine Below.alloc ?_ (by first | (simp; done) | omega | (simp; omega)) _ | refine Below.drew ?_))
            case measure => omega
          · have HST : Hid ([Y].foldl (bstp tk) (some m) = some m) := Lib.hid (by show bstp tk (some m) Y = _; unfold bstp; rw [if_neg (fun h => hv (of_decide_eq_true (h.2 m rfl)))])
            have kl9 : ∀ z, Calls Try.prog 56 #[.agg #[.int .u64 (Y).va, .int .i64 (Y).vi], .agg #[.int .u64 (m).va, .int .i64 (m).vi]] z fun e w' => e = .returned (.bool false) ∧ Below z.heap.size z w' := fun z => by
              have h := rless_c ⟨Y.va, Y.vi, 0, 0⟩ ⟨m.va, m.vi, 0, 0⟩ z
              rw [show kl ⟨Y.va, Y.vi, 0, 0⟩ ⟨m.va, m.vi, 0, 0⟩ = false from kl_not.2 hv] at h
              exact h
            have KL := Lib.hid kl9
            clear kl9 hv
            have hBQ := HB.out
            go_wp2_with (first | go_guarded | (go_at_call 56; ((with_reducible refine (KL.out _).mono ?_); rintro e w5 ⟨rfl, hbel⟩; obtain ⟨hcc, hff⟩ := bcell hbel; have hsz := hbel.size; (try simp at hsz); have hF : (w5.cell? ⟨wr.heap.size, 0, none⟩ = some (.int .u64 (Y).ka) ∧ w5.cell? ⟨wr.heap.size, 1, none⟩ = some (.int .i64 (Y).ki) ∧ w5.cell? ⟨wr.heap.size, 2, none⟩ = some (.int .u64 (Y).va) ∧ w5.cell? ⟨wr.heap.size, 3, none⟩ = some (.int .i64 (Y).vi) ∧ wr.heap.size < w5.heap.size) ∧ ((w5.cell? ⟨w.heap.size + 1, 0, none⟩ = some (.int .u64 (m).ka) ∧ w5.cell? ⟨w.heap.size + 1, 1, none⟩ = some (.int .i64 (m).ki) ∧ w5.cell? ⟨w.heap.size + 1, 2, none⟩ = some (.int .u64 (m).va) ∧ w5.cell? ⟨w.heap.size + 1, 3, none⟩ = some (.int .i64 (m).vi) ∧ w.heap.size + 1 < w5.heap.size) ∧ w5.cell? ⟨w.heap.size + 1, 4, none⟩ = some (.bool true) ∧ (w5.frozen? ⟨w.heap.size + 1, 0, none⟩ = false ∧ w5.frozen? ⟨w.heap.size + 1, 1, none⟩ = false ∧ w5.frozen? ⟨w.heap.size + 1, 2, none⟩ = false ∧ w5.frozen? ⟨w.heap.size + 1, 3, none⟩ = false) ∧ w5.frozen? ⟨w.heap.size + 1, 4, none⟩ = false) ∧ ((w5.cell? ⟨w.heap.size, 0, none⟩ = some (.int .u64 ((⟨0, 0, 0, 0⟩ : It)).ka) ∧ w5.cell? ⟨w.heap.size, 1, none⟩ = some (.int .i64 ((⟨0, 0, 0, 0⟩ : It)).ki) ∧ w5.cell? ⟨w.heap.size, 2, none⟩ = some (.int .u64 ((⟨0, 0, 0, 0⟩ : It)).va) ∧ w5.cell? ⟨w.heap.size, 3, none⟩ = some (.int .i64 ((⟨0, 0, 0, 0⟩ : It)).vi) ∧ w.heap.size < w5.heap.size) ∧ w5.cell? ⟨w.heap.size, 4, none⟩ = some (.bool false) ∧ (w5.frozen? ⟨w.heap.size, 0, none⟩ = false ∧ w5.frozen? ⟨w.heap.size, 1, none⟩ = false ∧ w5.frozen? ⟨w.heap.size, 2, none⟩ = false ∧ w5.frozen? ⟨w.heap.size, 3, none⟩ = false) ∧ w5.frozen? ⟨w.heap.size, 4, none⟩ = false) ∧ w.heap.size + 1 < w5.heap.size ∧ Below w.heap.size w w5 := (by ((repeat' apply And.intro) <;> first | (simp [go_sem, *]; done) | omega | (repeat' (first | with_reducible exact Below.refl _ _ | with_reducible assumption | ((with_reducible refine Below.drew ?_)) | ((with_reducible refine below_drewN ?_ _)) | ((with_reducible refine Below.alloc ?_ ?_ _); rotate_left; focus (first | omega | (simp; done) | (simp; omega))) | ((with_reducible refine Below.setCell ?_ ?_ _); rotate_left; focus (first | omega | (simp; done) | (simp; omega))) | ((with_reducible refine Below.trans ?_ (Below.mono (by with_reducible assumption) ?_)); rotate_left; focus (first | omega | (simp; done) | (simp; omega))))))); go_split_ands; clear hcc hff hbel)))
            go_roundg (n - (i + 1))
            case rel =>
              refine ⟨i + 1, some m, by first | rfl | go_num | (congr 1; omega), by omega, Nat.le_refl _, by rw [HTN.out, List.foldl_append, HM.out]; exact HST.out, ⟨⟨by simp [go_sem, fv, *], by simp [go_sem, fv, *], by simp [go_sem, fv, *], by simp [go_sem, fv, *], by first | omega | (simp [go_sem]; omega)⟩, by simp [go_sem, *], ⟨by simp [go_sem, *], by simp [go_sem, *], by simp [go_sem, *], by simp [go_sem, *]⟩, by simp [go_sem, *]⟩, ⟨⟨by simp [go_sem, fv, *], by simp [go_sem, fv, *], by simp [go_sem, fv, *], by simp [go_sem, fv, *], by first | omega | (simp [go_sem]; omega)⟩, by simp [go_sem, *], ⟨by simp [go_sem, *], by simp [go_sem, *], by simp [go_sem, *], by simp [go_sem, *]⟩, by simp [go_sem, *]⟩, ?_⟩
              have hB := HB.out
              (repeat' (first | assumption | exact Below.refl _ _ | refine Below.setCell ?_ (by first | (simp; done) | omega | (simp; omega)) _ | refine Below.alloc ?_ (by first | (simp; done) | omega | (simp; omega)) _ | refine Below.drew ?_))
            case measure => omega
      · have HST : Hid ([Y].foldl (bstp tk) o = o) := Lib.hid (by show bstp tk o Y = _; unfold bstp; rw [if_neg (fun h => hka h.1)])
        go_wp2_with go_guarded
        go_roundg (n - (i + 1))
        case rel =>
          refine ⟨i + 1, o, by first | rfl | go_num | (congr 1; omega), by omega, Nat.le_refl _, by rw [HTN.out, List.foldl_append, HM.out]; exact HST.out, ⟨⟨by simp [go_sem, fv, *], by simp [go_sem, fv, *], by simp [go_sem, fv, *], by simp [go_sem, fv, *], by first | omega | (simp [go_sem]; omega)⟩, by simp [go_sem, *], ⟨by simp [go_sem, *], by simp [go_sem, *], by simp [go_sem, *], by simp [go_sem, *]⟩, by simp [go_sem, *]⟩, ⟨⟨by simp [go_sem, fv, *], by simp [go_sem, fv, *], by simp [go_sem, fv, *], by simp [go_sem, fv, *], by first | omega | (simp [go_sem]; omega)⟩, by simp [go_sem, *], ⟨by simp [go_sem, *], by simp [go_sem, *], by simp [go_sem, *], by simp [go_sem, *]⟩, by simp [go_sem, *]⟩, ?_⟩
          have hB := HB.out
          (repeat' (first | assumption | exact Below.refl _ _ | refine Below.setCell ?_ (by first | (simp; done) | omega | (simp; omega)) _ | refine Below.alloc ?_ (by first | (simp; done) | omega | (simp; omega)) _ | refine Below.drew ?_))
        case measure => omega
    · have hie : i = n := by omega
      subst hie
      have ex : o = X := by rw [← HM.out, ← HX.out, List.take_of_length_le (by rw [HLN.out]; exact Nat.le_refl _)]; rfl
      subst ex
      obtain ⟨ov, hov⟩ : ∃ ov, fv o = ov := ⟨_, rfl⟩
      obtain ⟨os, hos⟩ : ∃ os, o.isSome = os := ⟨_, rfl⟩
      rw [hov] at y0 y1 y2 y3
      rw [hos] at y4
      have HOV := Lib.hid hov
      have HOS := Lib.hid hos
      clear hov hos hin
      go_wp2
      refine bodyPost_ret (v := .agg #[.int .u64 (ov).ka, .int .i64 (ov).ki, .int .u64 (ov).va, .int .i64 (ov).vi, .bool os]) (by simp [results, Try.results59, go_sem, *]) rfl ⟨by rw [HOV.out, HOS.out], ?_⟩
      have hB := HB.out
      (repeat' (first | assumption | exact Below.refl _ _ | refine Below.setCell ?_ (by first | (simp; done) | omega | (simp; omega)) _ | refine Below.alloc ?_ (by first | (simp; done) | omega | (simp; omega)) _ | refine Below.drew ?_))
end Go.Proofs.Ytikmdkmejbcmmaa
