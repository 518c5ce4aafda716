/- Wrong is the code of the event. -/
import Derived.Test.YtlenmhbhakeonaaAu12
import Derived.Test.YtlenmhbhakeonaaAu13
namespace Go.Proofs.Ytlenmhbhakeonaa
set_option linter.unusedVariables false
set_option linter.unusedSimpArgs false
set_option maxRecDepth 100000
open Go.RowKit Fg Reg
attribute [local irreducible] Reg.wE QR

set_option maxHeartbeats 4000000 in
theorem wro_0 (T lm : Int) (e p : Ev) (eb eo n i j cap : Nat) (w : World) (heb : eb < w.heap.size) (hin : 0 < n) (hcap : n ≤ cap) (hcm : cap ≤ maxLen) (hr : ∀ z, Below w.heap.size w z → z.rangeAt eb eo e.cells) (D : Int) (W : Int → List Pk) (WL : List Pk) (hW : W e.cls = WL) (m : Nat) (hm : WL.length = m)
    (kw : ∀ z, Below w.heap.size w z → Calls Try.prog 50 #[.slice (some ⟨eb, eo, none⟩) 0 cap, .int .i64 e.cls] z fun e w' => (∃ ao c, e = .returned (.slice ao m c) ∧ RwV Pk.cells 6 w' ao WL) ∧ Below z.heap.size z w')
    (kd : ∀ z, Below w.heap.size w z → Calls Try.prog 83 #[.slice (some ⟨eb, eo, none⟩) 0 cap] z fun ee w' => ee = .returned (.int .u64 D) ∧ Below z.heap.size z w')
    (kt : 1 ≤ e.ln → e.ln ≤ lm → ∀ z, Calls Try.prog 84 #[.int .i64 T, .int .i64 e.ln] z fun ee w' => ee = .returned (.int .u64 (e.ln * T)) ∧ Below z.heap.size z w') :
    Calls Try.prog 47 #[.agg #[.int .i64 T, .int .i64 lm], .slice (some ⟨eb, eo, none⟩) n cap, .int .i64 0] w fun ee w' => ee = .returned (.int .i64 (code ⟨T, lm, 0, 0, D⟩ W e)) ∧ Below w.heap.size w w' := by
  by_cases a1 : e.op < 0
  · clear kw kd kt
    rw [show code ⟨T, lm, 0, 0, D⟩ W e = 1 by simp [code, qb1, qb2, qb3, qb4, qb5, qb6, qb7, qb8, tkd, *]]
    exact wro_0_1a T lm e p eb eo n i j cap w heb hin hcap hcm hr (decide_eq_true a1)
  by_cases a3 : e.cls < 1
  · clear kw kd kt
    rw [show code ⟨T, lm, 0, 0, D⟩ W e = 1 by simp [code, qb1, qb2, qb3, qb4, qb5, qb6, qb7, qb8, tkd, *]]
    exact wro_0_1b T lm e p eb eo n i j cap w heb hin hcap hcm hr (decide_eq_false a1) (decide_eq_true a3)
  by_cases b1 : e.tm < 0
  · clear kw kd kt
    rw [show code ⟨T, lm, 0, 0, D⟩ W e = 27 by simp [code, qb1, qb2, qb3, qb4, qb5, qb6, qb7, qb8, tkd, *]]
    exact wro_0_2a T lm e p eb eo n i j cap w heb hin hcap hcm hr (decide_eq_false a1) (decide_eq_false a3) (decide_eq_true b1)
  by_cases b2 : 4611686018427387904 < e.tm
  · clear kw kd kt
    rw [show code ⟨T, lm, 0, 0, D⟩ W e = 27 by simp [code, qb1, qb2, qb3, qb4, qb5, qb6, qb7, qb8, tkd, *]]
    exact wro_0_2b T lm e p eb eo n i j cap w heb hin hcap hcm hr (decide_eq_false a1) (decide_eq_false a3) (decide_eq_false b1) (decide_eq_true b2)
  by_cases c1 : e.ln < 1
  · clear kw kd kt
    rw [show code ⟨T, lm, 0, 0, D⟩ W e = 26 by simp [code, qb1, qb2, qb3, qb4, qb5, qb6, qb7, qb8, tkd, *]]
    exact wro_0_3a T lm e p eb eo n i j cap w heb hin hcap hcm hr (decide_eq_false a1) (decide_eq_false a3) (decide_eq_false b1) (decide_eq_false b2) (decide_eq_true c1)
  by_cases c2 : lm < e.ln
  · clear kw kd kt
    rw [show code ⟨T, lm, 0, 0, D⟩ W e = 26 by simp [code, qb1, qb2, qb3, qb4, qb5, qb6, qb7, qb8, tkd, *]]
    exact wro_0_3b T lm e p eb eo n i j cap w heb hin hcap hcm hr (decide_eq_false a1) (decide_eq_false a3) (decide_eq_false b1) (decide_eq_false b2) (decide_eq_false c1) (decide_eq_true c2)
  replace kt := kt (by omega) (by omega)
  cases hi : e.inn with
  | true =>
    cases hd : (e.dn != 0) with
    | true =>
      clear kw kd kt
      rw [show code ⟨T, lm, 0, 0, D⟩ W e = 4 by simp [code, qb1, qb2, qb3, qb4, qb5, qb6, qb7, qb8, tkd, *]]
      exact wro_0_4a T lm e p eb eo n i j cap w heb hin hcap hcm hr (decide_eq_false a1) (decide_eq_false a3) (decide_eq_false b1) (decide_eq_false b2) (decide_eq_false c1) (decide_eq_false c2) hi hd
    | false =>
      cases hl : e.real with
      | true =>
        clear kw kd kt
        rw [show code ⟨T, lm, 0, 0, D⟩ W e = 4 by simp [code, qb1, qb2, qb3, qb4, qb5, qb6, qb7, qb8, tkd, *]]
        exact wro_0_4b T lm e p eb eo n i j cap w heb hin hcap hcm hr (decide_eq_false a1) (decide_eq_false a3) (decide_eq_false b1) (decide_eq_false b2) (decide_eq_false c1) (decide_eq_false c2) hi hd hl
      | false =>
        clear kw kd kt
        rw [show code ⟨T, lm, 0, 0, D⟩ W e = 0 by simp [code, qb1, qb2, qb3, qb4, qb5, qb6, qb7, qb8, tkd, *]]
        exact wro_0_0i T lm e p eb eo n i j cap w heb hin hcap hcm hr (decide_eq_false a1) (decide_eq_false a3) (decide_eq_false b1) (decide_eq_false b2) (decide_eq_false c1) (decide_eq_false c2) hi hd hl
  | false =>
    rcases WL with _ | ⟨P, R⟩
    · have hm0 : m = 0 := hm.symm
      clear kd kt
      rw [show code ⟨T, lm, 0, 0, D⟩ W e = 6 by clear hm hm0 kw; simp [code, qb1, qb2, qb3, qb4, qb5, qb6, qb7, qb8, tkd, *]]
      exact wro_0_5 T lm e p eb eo n i j cap w heb hin hcap hcm hr (decide_eq_false a1) (decide_eq_false a3) (decide_eq_false b1) (decide_eq_false b2) (decide_eq_false c1) (decide_eq_false c2) hi _ m hm kw hm0
    have hm0 : 0 < m := by rw [← hm]; simp
    have hPh : (P :: R).head? = some P := rfl
    by_cases hPe : P = e.pk
    · by_cases d7 : e.tm < D
      · clear kt
        rw [show code ⟨T, lm, 0, 0, D⟩ W e = 24 by simp [code, qb1, qb2, qb3, qb4, qb5, qb6, qb7, qb8, tkd, *]]
        exact wro_0_7 T lm e p eb eo n i j cap w heb hin hcap hcm hr D (decide_eq_false a1) (decide_eq_false a3) (decide_eq_false b1) (decide_eq_false b2) (decide_eq_false c1) (decide_eq_false c2) hi (decide_eq_true d7) _ m hm kw hm0 P hPh hPe kd
      cases h8 : (e.dn != IntKind.u64.wrap (e.tm + e.ln * T)) with
      | true =>
        rw [show code ⟨T, lm, 0, 0, D⟩ W e = 20 by simp [code, qb1, qb2, qb3, qb4, qb5, qb6, qb7, qb8, tkd, *]]
        exact wro_0_8 T lm e p eb eo n i j cap w heb hin hcap hcm hr D (decide_eq_false a1) (decide_eq_false a3) (decide_eq_false b1) (decide_eq_false b2) (decide_eq_false c1) (decide_eq_false c2) hi (decide_eq_false d7) h8 _ m hm kw hm0 P hPh hPe kd kt
      | false =>
        rw [show code ⟨T, lm, 0, 0, D⟩ W e = 0 by simp [code, qb1, qb2, qb3, qb4, qb5, qb6, qb7, qb8, tkd, *]]
        exact wro_0_0o T lm e p eb eo n i j cap w heb hin hcap hcm hr D (decide_eq_false a1) (decide_eq_false a3) (decide_eq_false b1) (decide_eq_false b2) (decide_eq_false c1) (decide_eq_false c2) hi (decide_eq_false d7) h8 _ m hm kw hm0 P hPh hPe kd kt
    · clear kd kt
      rw [show code ⟨T, lm, 0, 0, D⟩ W e = 8 by clear hm hm0 kw hPh; simp [code, qb1, qb2, qb3, qb4, qb5, qb6, qb7, qb8, tkd, *]]
      exact wro_0_6 T lm e p eb eo n i j cap w heb hin hcap hcm hr (decide_eq_false a1) (decide_eq_false a3) (decide_eq_false b1) (decide_eq_false b2) (decide_eq_false c1) (decide_eq_false c2) hi _ m hm kw hm0 P hPh hPe
set_option maxHeartbeats 4000000 in
theorem wro_S (T lm : Int) (e p : Ev) (eb eo n i j cap : Nat) (w : World) (heb : eb < w.heap.size) (hin : i < n) (hcap : n ≤ cap) (hcm : cap ≤ maxLen) (hij : j + 1 = i) (hp : ∀ z, Below w.heap.size w z → z.rangeAt eb (eo + j * 12) p.cells) (hop : 0 ≤ p.op) (hr : ∀ z, Below w.heap.size w z → z.rangeAt eb (eo + i * 12) e.cells) (D : Int) (W : Int → List Pk) (WL : List Pk) (hW : W e.cls = WL) (m : Nat) (hm : WL.length = m)
    (kw : ∀ z, Below w.heap.size w z → Calls Try.prog 50 #[.slice (some ⟨eb, eo, none⟩) i cap, .int .i64 e.cls] z fun e w' => (∃ ao c, e = .returned (.slice ao m c) ∧ RwV Pk.cells 6 w' ao WL) ∧ Below z.heap.size z w')
    (kd : ∀ z, Below w.heap.size w z → Calls Try.prog 83 #[.slice (some ⟨eb, eo, none⟩) i cap] z fun ee w' => ee = .returned (.int .u64 D) ∧ Below z.heap.size z w')
    (kt : 1 ≤ e.ln → e.ln ≤ lm → ∀ z, Calls Try.prog 84 #[.int .i64 T, .int .i64 e.ln] z fun ee w' => ee = .returned (.int .u64 (e.ln * T)) ∧ Below z.heap.size z w') :
    Calls Try.prog 47 #[.agg #[.int .i64 T, .int .i64 lm], .slice (some ⟨eb, eo, none⟩) n cap, .int .i64 (i : Int)] w fun ee w' => ee = .returned (.int .i64 (code ⟨T, lm, p.op, p.tm, D⟩ W e)) ∧ Below w.heap.size w w' := by
  by_cases a1 : e.op < p.op
  · clear kw kd kt
    rw [show code ⟨T, lm, p.op, p.tm, D⟩ W e = 1 by simp [code, qb1, qb2, qb3, qb4, qb5, qb6, qb7, qb8, tkd, *]]
    exact wro_S_1a T lm e p eb eo n i j cap w heb hin hcap hcm hij hp hr (decide_eq_true a1)
  have a2 : ¬ e.op < 0 := by omega
  by_cases a3 : e.cls < 1
  · clear kw kd kt
    rw [show code ⟨T, lm, p.op, p.tm, D⟩ W e = 1 by simp [code, qb1, qb2, qb3, qb4, qb5, qb6, qb7, qb8, tkd, *]]
    exact wro_S_1b T lm e p eb eo n i j cap w heb hin hcap hcm hij hp hr (decide_eq_false a1) (decide_eq_false a2) (decide_eq_true a3)
  by_cases b1 : e.tm < p.tm
  · clear kw kd kt
    rw [show code ⟨T, lm, p.op, p.tm, D⟩ W e = 27 by simp [code, qb1, qb2, qb3, qb4, qb5, qb6, qb7, qb8, tkd, *]]
    exact wro_S_2a T lm e p eb eo n i j cap w heb hin hcap hcm hij hp hr (decide_eq_false a1) (decide_eq_false a2) (decide_eq_false a3) (decide_eq_true b1)
  by_cases b2 : 4611686018427387904 < e.tm
  · clear kw kd kt
    rw [show code ⟨T, lm, p.op, p.tm, D⟩ W e = 27 by simp [code, qb1, qb2, qb3, qb4, qb5, qb6, qb7, qb8, tkd, *]]
    exact wro_S_2b T lm e p eb eo n i j cap w heb hin hcap hcm hij hp hr (decide_eq_false a1) (decide_eq_false a2) (decide_eq_false a3) (decide_eq_false b1) (decide_eq_true b2)
  by_cases c1 : e.ln < 1
  · clear kw kd kt
    rw [show code ⟨T, lm, p.op, p.tm, D⟩ W e = 26 by simp [code, qb1, qb2, qb3, qb4, qb5, qb6, qb7, qb8, tkd, *]]
    exact wro_S_3a T lm e p eb eo n i j cap w heb hin hcap hcm hij hp hr (decide_eq_false a1) (decide_eq_false a2) (decide_eq_false a3) (decide_eq_false b1) (decide_eq_false b2) (decide_eq_true c1)
  by_cases c2 : lm < e.ln
  · clear kw kd kt
    rw [show code ⟨T, lm, p.op, p.tm, D⟩ W e = 26 by simp [code, qb1, qb2, qb3, qb4, qb5, qb6, qb7, qb8, tkd, *]]
    exact wro_S_3b T lm e p eb eo n i j cap w heb hin hcap hcm hij hp hr (decide_eq_false a1) (decide_eq_false a2) (decide_eq_false a3) (decide_eq_false b1) (decide_eq_false b2) (decide_eq_false c1) (decide_eq_true c2)
  replace kt := kt (by omega) (by omega)
  cases hi : e.inn with
  | true =>
    cases hd : (e.dn != 0) with
    | true =>
      clear kw kd kt
      rw [show code ⟨T, lm, p.op, p.tm, D⟩ W e = 4 by simp [code, qb1, qb2, qb3, qb4, qb5, qb6, qb7, qb8, tkd, *]]
      exact wro_S_4a T lm e p eb eo n i j cap w heb hin hcap hcm hij hp hr (decide_eq_false a1) (decide_eq_false a2) (decide_eq_false a3) (decide_eq_false b1) (decide_eq_false b2) (decide_eq_false c1) (decide_eq_false c2) hi hd
    | false =>
      cases hl : e.real with
      | true =>
        clear kw kd kt
        rw [show code ⟨T, lm, p.op, p.tm, D⟩ W e = 4 by simp [code, qb1, qb2, qb3, qb4, qb5, qb6, qb7, qb8, tkd, *]]
        exact wro_S_4b T lm e p eb eo n i j cap w heb hin hcap hcm hij hp hr (decide_eq_false a1) (decide_eq_false a2) (decide_eq_false a3) (decide_eq_false b1) (decide_eq_false b2) (decide_eq_false c1) (decide_eq_false c2) hi hd hl
      | false =>
        clear kw kd kt
        rw [show code ⟨T, lm, p.op, p.tm, D⟩ W e = 0 by simp [code, qb1, qb2, qb3, qb4, qb5, qb6, qb7, qb8, tkd, *]]
        exact wro_S_0i T lm e p eb eo n i j cap w heb hin hcap hcm hij hp hr (decide_eq_false a1) (decide_eq_false a2) (decide_eq_false a3) (decide_eq_false b1) (decide_eq_false b2) (decide_eq_false c1) (decide_eq_false c2) hi hd hl
  | false =>
    rcases WL with _ | ⟨P, R⟩
    · have hm0 : m = 0 := hm.symm
      clear kd kt
      rw [show code ⟨T, lm, p.op, p.tm, D⟩ W e = 6 by clear hm hm0 kw; simp [code, qb1, qb2, qb3, qb4, qb5, qb6, qb7, qb8, tkd, *]]
      exact wro_S_5 T lm e p eb eo n i j cap w heb hin hcap hcm hij hp hr (decide_eq_false a1) (decide_eq_false a2) (decide_eq_false a3) (decide_eq_false b1) (decide_eq_false b2) (decide_eq_false c1) (decide_eq_false c2) hi _ m hm kw hm0
    have hm0 : 0 < m := by rw [← hm]; simp
    have hPh : (P :: R).head? = some P := rfl
    by_cases hPe : P = e.pk
    · by_cases d7 : e.tm < D
      · clear kt
        rw [show code ⟨T, lm, p.op, p.tm, D⟩ W e = 24 by simp [code, qb1, qb2, qb3, qb4, qb5, qb6, qb7, qb8, tkd, *]]
        exact wro_S_7 T lm e p eb eo n i j cap w heb hin hcap hcm hij hp hr D (decide_eq_false a1) (decide_eq_false a2) (decide_eq_false a3) (decide_eq_false b1) (decide_eq_false b2) (decide_eq_false c1) (decide_eq_false c2) hi (decide_eq_true d7) _ m hm kw hm0 P hPh hPe kd
      cases h8 : (e.dn != IntKind.u64.wrap (e.tm + e.ln * T)) with
      | true =>
        rw [show code ⟨T, lm, p.op, p.tm, D⟩ W e = 20 by simp [code, qb1, qb2, qb3, qb4, qb5, qb6, qb7, qb8, tkd, *]]
        exact wro_S_8 T lm e p eb eo n i j cap w heb hin hcap hcm hij hp hr D (decide_eq_false a1) (decide_eq_false a2) (decide_eq_false a3) (decide_eq_false b1) (decide_eq_false b2) (decide_eq_false c1) (decide_eq_false c2) hi (decide_eq_false d7) h8 _ m hm kw hm0 P hPh hPe kd kt
      | false =>
        rw [show code ⟨T, lm, p.op, p.tm, D⟩ W e = 0 by simp [code, qb1, qb2, qb3, qb4, qb5, qb6, qb7, qb8, tkd, *]]
        exact wro_S_0o T lm e p eb eo n i j cap w heb hin hcap hcm hij hp hr D (decide_eq_false a1) (decide_eq_false a2) (decide_eq_false a3) (decide_eq_false b1) (decide_eq_false b2) (decide_eq_false c1) (decide_eq_false c2) hi (decide_eq_false d7) h8 _ m hm kw hm0 P hPh hPe kd kt
    · clear kd kt
      rw [show code ⟨T, lm, p.op, p.tm, D⟩ W e = 8 by clear hm hm0 kw hPh; simp [code, qb1, qb2, qb3, qb4, qb5, qb6, qb7, qb8, tkd, *]]
      exact wro_S_6 T lm e p eb eo n i j cap w heb hin hcap hcm hij hp hr (decide_eq_false a1) (decide_eq_false a2) (decide_eq_false a3) (decide_eq_false b1) (decide_eq_false b2) (decide_eq_false c1) (decide_eq_false c2) hi _ m hm kw hm0 P hPh hPe
theorem op_ok {T lm : Int} {l : List Ev} : ∀ i, i ≤ l.length → (∀ j, j < i → codeAt T lm l j = 0) → 0 ≤ (stOf T lm (l.take i)).op
  | 0, _, _ => by simp [stOf]
  | i + 1, hi, h => by
    have h0 := op_ok i (by omega) fun j hj => h j (by omega)
    have h1 := (code0 (h i (by omega))).1
    rw [st_next T lm (by omega)]
    show 0 ≤ (evn l i).op
    unfold qb1 at h1
    simp at h1
    omega
theorem evs_take {z : World} {ad : Option Addr} {l : List Ev} (h : EvsV z ad l) (i : Nat) : EvsV z ad (l.take i) := fun k hk => by
  have hk2 : k < l.length := by rw [List.length_take] at hk; omega
  obtain ⟨b, o, h1, h2, h3⟩ := h k hk2
  exact ⟨b, o, h1, h2, by rw [List.getElem_take]; exact h3⟩
theorem evs_at {w : World} {eb eo : Nat} {l : List Ev} (h : EvsV w (some ⟨eb, eo, none⟩) l) {i : Nat} (hi : i < l.length) (z : World) (hb : Below w.heap.size w z) : z.rangeAt eb (eo + i * 12) (evn l i).cells := by
  obtain ⟨b, o, h1, _, h3⟩ := (h.below hb) i hi
  injection h1 with h1
  injection h1 with h4 h5
  subst h4 h5
  have e9 : l[i] = evn l i := by unfold evn; rw [List.getD_eq_getElem?_getD, List.getElem?_eq_getElem hi]; rfl
  rw [e9] at h3
  exact h3
theorem wrong_c (T lm : Int) (l : List Ev) (n : Nat) (hln : l.length = n) (hn : n ≤ 500) (h1 : 1 ≤ T ∧ T ≤ 65536 ∧ 1 ≤ lm ∧ lm ≤ 16384) (i : Nat) (hi : i < n) (h0 : ∀ j, j < i → codeAt T lm l j = 0) (ad : Option Addr) (cap : Nat) (hcap : n ≤ cap) (hcm : cap ≤ maxLen) (w : World) (hE : EvsV w ad l) :
    Calls Try.prog 47 #[.agg #[.int .i64 T, .int .i64 lm], .slice ad n cap, .int .i64 i] w fun ee w' => ee = .returned (.int .i64 (codeAt T lm l i)) ∧ Below w.heap.size w w' := by
  have hil : i < l.length := by omega
  obtain ⟨eb, eo, had, heb, -⟩ := hE i hil
  subst had
  have hlt : (l.take i).length = i := by rw [List.length_take]; omega
  have hop := op_ok (T := T) (lm := lm) i (by omega) h0
  have kw := fun z (hb : Below w.heap.size w z) => rwait_c (l.take i) i hlt (by omega) (evn l i).cls _ cap z (evs_take (hE.below hb) i)
  have kd := fun z (hb : Below w.heap.size w z) => rdone_c T lm (l.take i) i hlt (by omega) _ cap z (evs_take (hE.below hb) i)
  have kt := fun (a : 1 ≤ (evn l i).ln) (b : (evn l i).ln ≤ lm) z => rticks_c T (evn l i).ln h1.1 h1.2.1 a (by omega) z
  have hr := evs_at hE hil
  have hfx := st_fix T lm (l.take i)
  unfold codeAt
  rcases i with _ | j
  · have e0 : stOf T lm (l.take 0) = ⟨T, lm, 0, 0, (stOf T lm (l.take 0)).dn⟩ := rfl
    rw [e0]
    rw [Nat.zero_mul, Nat.add_zero] at hr
    exact wro_0 T lm (evn l 0) (evn l 0) eb eo n 0 0 cap w heb hi hcap hcm hr _ _ _ rfl _ rfl kw kd kt
  · have hjl : j < l.length := by omega
    have hs := st_next T lm hjl
    have e0 : stOf T lm (l.take (j + 1)) = ⟨T, lm, (evn l j).op, (evn l j).tm, (stOf T lm (l.take (j + 1))).dn⟩ := by
      have h2 : (stOf T lm (l.take (j + 1))).op = (evn l j).op := by rw [hs]; rfl
      have h3 : (stOf T lm (l.take (j + 1))).tm = (evn l j).tm := by rw [hs]; rfl
      rw [← h2, ← h3]
      rcases hst : stOf T lm (l.take (j + 1)) with ⟨a, b, c, d, f⟩
      rw [hst] at hfx
      obtain ⟨rfl, rfl⟩ := hfx
      rfl
    have hop2 : 0 ≤ (evn l j).op := by rw [hs] at hop; exact hop
    rw [e0]
    exact wro_S T lm (evn l (j + 1)) (evn l j) eb eo n (j + 1) j cap w heb hi hcap hcm rfl (evs_at hE hjl) hop2 hr _ _ _ rfl _ rfl kw kd kt
end Go.Proofs.Ytlenmhbhakeonaa
