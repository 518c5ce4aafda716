/- Below. -/
import Derived.Test.YtikmdkmejbcmmaaAv13
namespace Go.Proofs.Ytikmdkmejbcmmaa
set_option linter.unusedVariables false
set_option linter.unusedSimpArgs false
set_option maxRecDepth 100000
open Go.RowKit Fg Reg
attribute [local irreducible] Reg.wE NT FO Mn

theorem onlyB {S : Nat → Prop} {B : Nat} {w w' : World} (h : Only S w w') (hB : B ≤ w.heap.size) (hS : ∀ k, S k → B ≤ k) : Below B w w' :=
  ⟨h.os, h.tape, h.output, h.size, fun k hk => h.block k (by omega) (fun hs => by have := hS k hs; omega)⟩
theorem bel_n (a : Int) (w : World) : Calls Try.prog 23 #[.pointer none, .int .u64 a] w fun e w' => e = .returned (.tuple #[.agg #[.int .u64 0, .int .i64 0, .int .u64 0, .int .i64 0], .bool false]) ∧ Below w.heap.size w w' := by
  go_enter Try.func23, Try.ntmps23
  go_wp2
  refine bodyPost_ret (v := (.tuple #[.agg #[.int .u64 0, .int .i64 0, .int .u64 0, .int .i64 0], .bool false])) (by simp [results, Try.results23, go_sem, *]) rfl ⟨rfl, ?_⟩
  (repeat' (first | assumption | exact Below.refl _ _ | refine Below.setCell ?_ (by first | (simp; done) | omega | (simp; omega)) _ | refine Below.alloc ?_ (by first | (simp; done) | omega | (simp; omega)) _ | refine Below.drew ?_))
theorem FO.mk {z : World} {fb ob : Nat} {o : Option It} (h : (z.cell? ⟨fb, 0, none⟩ = some (.int .u64 ((fv o)).ka) ∧ z.cell? ⟨fb, 1, none⟩ = some (.int .i64 ((fv o)).ki) ∧ z.cell? ⟨fb, 2, none⟩ = some (.int .u64 ((fv o)).va) ∧ z.cell? ⟨fb, 3, none⟩ = some (.int .i64 ((fv o)).vi) ∧ fb < z.heap.size) ∧ (z.frozen? ⟨fb, 0, none⟩ = false ∧ z.frozen? ⟨fb, 1, none⟩ = false ∧ z.frozen? ⟨fb, 2, none⟩ = false ∧ z.frozen? ⟨fb, 3, none⟩ = false) ∧ z.cell? ⟨ob, 0, none⟩ = some (.bool o.isSome) ∧ z.frozen? ⟨ob, 0, none⟩ = false ∧ ob < z.heap.size) : FO z fb ob o := by unfold FO; exact h
theorem FO.out {z : World} {fb ob : Nat} {o : Option It} (h : FO z fb ob o) : (z.cell? ⟨fb, 0, none⟩ = some (.int .u64 ((fv o)).ka) ∧ z.cell? ⟨fb, 1, none⟩ = some (.int .i64 ((fv o)).ki) ∧ z.cell? ⟨fb, 2, none⟩ = some (.int .u64 ((fv o)).va) ∧ z.cell? ⟨fb, 3, none⟩ = some (.int .i64 ((fv o)).vi) ∧ fb < z.heap.size) ∧ (z.frozen? ⟨fb, 0, none⟩ = false ∧ z.frozen? ⟨fb, 1, none⟩ = false ∧ z.frozen? ⟨fb, 2, none⟩ = false ∧ z.frozen? ⟨fb, 3, none⟩ = false) ∧ z.cell? ⟨ob, 0, none⟩ = some (.bool o.isSome) ∧ z.frozen? ⟨ob, 0, none⟩ = false ∧ ob < z.heap.size := by unfold FO at h; exact h
theorem Mn.nil (a : Int) : Mn a [] none := by unfold Mn; simp
set_option maxHeartbeats 4000000 in
theorem belm_c (a : Nat) (t : Tr) (at' : Int) (w : World) (h : TR w a t) : Calls Try.prog 23 #[.pointer (some ⟨a, 0, none⟩), .int .u64 at'] w fun e w' => e = .returned (.tuple #[.agg #[.int .u64 ((fv (belL at' (tl t)))).ka, .int .i64 ((fv (belL at' (tl t)))).ki, .int .u64 ((fv (belL at' (tl t)))).va, .int .i64 ((fv (belL at' (tl t)))).vi], .bool (belL at' (tl t)).isSome]) ∧ Below w.heap.size w w' := by
  obtain ⟨r0, r1, f0, f1, lt, nt, nd, bl, ss, ha⟩ := h
  have hMn := bel_mn at' (tl t) ss
  obtain ⟨X, hX⟩ : ∃ X, belL at' (tl t) = X := ⟨_, rfl⟩
  rw [hX] at hMn ⊢
  have HMn := Lib.hid hMn
  have HT := Lib.hid nt
  have HS := Lib.hid ss
  obtain ⟨u0, hu0⟩ := pt_ptr t
  rw [hu0] at r0
  have HU0 := Lib.hid hu0
  clear hX hMn r1 f0 f1 nt nd bl ss ha hu0
  have lt2 : a < w.heap.size + 1 := by omega
  have lt3 : a < w.heap.size + 1 + 1 := by omega
  go_enter Try.func23, Try.ntmps23
  go_wp2
  go_loopg [9] (hgt t) (fun k9 p wr => ∃ (t' : Tr) (acc : List It) (o : Option It), p = pt t' ∧ NT w t' ∧ hgt t' ≤ k9 ∧ SS (tl t') ∧ Mn at' acc o ∧ (∀ x ∈ acc, x ∈ tl t) ∧ (∀ x ∈ tl t', x ∈ tl t) ∧ (∀ x ∈ tl t, x.ka ≤ at' → x ∈ acc ∨ x ∈ tl t') ∧ FO wr (w.heap.size + 1) (w.heap.size + 1 + 1) o ∧ (wr.cell? ⟨w.heap.size, 0, none⟩ = some (.int .u64 ((⟨0, 0, 0, 0⟩ : It)).ka) ∧ wr.cell? ⟨w.heap.size, 1, none⟩ = some (.int .i64 ((⟨0, 0, 0, 0⟩ : It)).ki) ∧ wr.cell? ⟨w.heap.size, 2, none⟩ = some (.int .u64 ((⟨0, 0, 0, 0⟩ : It)).va) ∧ wr.cell? ⟨w.heap.size, 3, none⟩ = some (.int .i64 ((⟨0, 0, 0, 0⟩ : It)).vi) ∧ w.heap.size < wr.heap.size) ∧ (wr.frozen? ⟨w.heap.size, 0, none⟩ = false ∧ wr.frozen? ⟨w.heap.size, 1, none⟩ = false ∧ wr.frozen? ⟨w.heap.size, 2, none⟩ = false ∧ wr.frozen? ⟨w.heap.size, 3, none⟩ = false) ∧ Below w.heap.size w wr)
  case atStart => exact ⟨t, [], none, HU0.out.symm, HT.out, Nat.le_refl _, HS.out, Mn.nil _, by simp, fun x hx => hx, fun x hx _ => .inr hx, FO.mk ⟨⟨by simp [go_sem, fv], by simp [go_sem, fv], by simp [go_sem, fv], by simp [go_sem, fv], by simp [go_sem]⟩, ⟨by simp [go_sem], by simp [go_sem], by simp [go_sem], by simp [go_sem]⟩, by simp [go_sem], by simp [go_sem], by simp [go_sem]⟩, ⟨by simp [go_sem], by simp [go_sem], by simp [go_sem], by simp [go_sem], by first | (simp; done) | omega | (simp; omega)⟩, ⟨by simp [go_sem], by simp [go_sem], by simp [go_sem], by simp [go_sem]⟩, by (repeat' (first | assumption | exact Below.refl _ _ | refine Below.setCell ?_ (by first | (simp; done) | omega | (simp; omega)) _ | refine Below.alloc ?_ (by first | (simp; done) | omega | (simp; omega)) _ | refine Below.drew ?_))⟩
  case round =>
    obtain ⟨t', acc, o, rfl, hT, hg, hS, hM, hA1, hA2, hA3, hF, ⟨z0, z1, z2, z3, zl⟩, ⟨q0, q1, q2, q3⟩, hB⟩ := hrel
    have HB := Lib.hid hB
    have HF := Lib.hid hF
    have HA1 := Lib.hid hA1
    have HA2 := Lib.hid hA2
    have HA3 := Lib.hid hA3
    have HM := Lib.hid hM
    clear hB hF hA1 hA2 hA3 hM
    cases t' with
    | nil =>
      have ex : o = X := by
        refine Mn.uniq (Mn.cover HM.out HA1.out fun x hx hxa => ?_) HMn.out
        rcases HA3.out x hx hxa with g | g
        · exact g
        · simp [tl] at g
      subst ex
      obtain ⟨⟨a0, a1, a2, a3, a4⟩, ⟨b0, b1, b2, b3⟩, c0, c1, c2⟩ := HF.out.out
      clear hT hS hg HT HS HU0
      dsimp only [pt] at *
      obtain ⟨ov, hov⟩ : ∃ ov, fv o = ov := ⟨_, rfl⟩
      obtain ⟨os, hos⟩ : ∃ os, o.isSome = os := ⟨_, rfl⟩
      rw [hov] at a0 a1 a2 a3
      rw [hos] at c0
      have HOV := Lib.hid hov
      have HOS := Lib.hid hos
      clear hov hos
      go_wp2
      go_region
      all_goals go_wp2
      all_goals refine bodyPost_ret (v := .tuple #[.agg #[.int .u64 (ov).ka, .int .i64 (ov).ki, .int .u64 (ov).va, .int .i64 (ov).vi], .bool os]) (by simp [results, Try.results23, go_sem, *]) rfl ⟨by rw [HOV.out, HOS.out], ?_⟩
      all_goals have hB := HB.out
      all_goals (repeat' (first | assumption | exact Below.refl _ _ | refine Below.setCell ?_ (by first | (simp; done) | omega | (simp; omega)) _ | refine Below.alloc ?_ (by first | (simp; done) | omega | (simp; omega)) _ | refine Below.drew ?_))
    | node b y l r =>
      have hTT := hT
      unfold NT at hTT
      obtain ⟨hN, hl, hr⟩ := hTT
      have ltb := hN.lt
      obtain ⟨ul, hul⟩ := pt_ptr l
      obtain ⟨ur, hur⟩ := pt_ptr r
      rw [hul, hur] at hN
      have HN := Lib.hid hN
      have hc : ∀ {o : Nat} {v : Value}, w.cell? ⟨b, o, none⟩ = some v → wr.cell? ⟨b, o, none⟩ = some v := fun h => (HB.out.cell ltb).trans h
      have c0 := hc hN.c0
      have c1 := hc hN.c1
      have c2 := hc hN.c2
      have c3 := hc hN.c3
      have c4 := hc hN.c4
      have c5 := hc hN.c5
      have HPl := Lib.hid hul
      have HPr := Lib.hid hur
      have HTl := Lib.hid hl
      have HTr := Lib.hid hr
      obtain ⟨s1, s2, s3, s4, -⟩ := ss_parts (show SS (tl l ++ y :: tl r) from hS)
      have HSl := Lib.hid s1
      have HSr := Lib.hid s2
      rw [hgt_node] at hg
      have Hgl := Lib.hid (show hgt l < gk by omega)
      have Hgr := Lib.hid (show hgt r < gk by omega)
      have HL3 := Lib.hid s3
      have HL4 := Lib.hid s4
      have HIN : Hid (∀ x, x ∈ tl (.node b y l r) ↔ x ∈ tl l ∨ x = y ∨ x ∈ tl r) := Lib.hid fun x => by simp [tl]
      clear hT hS hg hc hN hul hur s1 s2 s3 s4 HT HS HU0
      dsimp only [pt] at *
      by_cases hka : at' < y.ka
      · go_wp2
        go_roundg (hgt l)
        case rel =>
          refine ⟨l, acc, o, HPl.out.symm, HTl.out, Nat.le_refl _, HSl.out, HM.out, HA1.out, fun x hx => HA2.out x ((HIN.out x).2 (.inl hx)), fun x hx hxa => ?_, HF.out, ⟨z0, z1, z2, z3, zl⟩, ⟨q0, q1, q2, q3⟩, HB.out⟩
          rcases HA3.out x hx hxa with g | g
          · exact .inl g
          · rcases (HIN.out x).1 g with g | g | g
            · exact .inr g
            · subst g; omega
            · have := HL4.out x g
              rw [kl_iff] at this
              omega
        case measure => exact Hgl.out
      · have hyA : y ∈ tl t := HA2.out y ((HIN.out y).2 (.inr (.inl rfl)))
        have HM1 : Hid (Mn at' ([y] ++ acc) (stp o y)) := Lib.hid (HM.out.step (List.mem_singleton.2 rfl) fun z hz => by
          have : z = y := List.mem_singleton.1 hz
          subst this
          exact ⟨by omega, .inl rfl⟩)
        cases hnl : isN l with
        | true =>
          have hnil := isN_nil hnl
          subst hnil
          have hu : ul = none := by have := HPl.out; injection this with h; exact h.symm
          subst hu
          have HYA := Lib.hid hyA
          clear hl hr hnl hyA
          go_wp2_with (go_at_call 61; (with_reducible refine (take_c y o (w.heap.size + 1) (w.heap.size + 1 + 1) wr HF.out (by omega)).mono ?_); rintro _ w1 ⟨rfl, hf1, ho1⟩; have HB1 : Hid (Below w.heap.size w w1) := Lib.hid (HB.out.trans (onlyB ho1 HB.out.size (by intro j hj; (try dsimp only at hj); omega))); have HF1 := Lib.hid hf1; have z0 := (ho1.cell zl (by first | omega | (dsimp only; omega))).trans z0; have z1 := (ho1.cell zl (by first | omega | (dsimp only; omega))).trans z1; have z2 := (ho1.cell zl (by first | omega | (dsimp only; omega))).trans z2; have z3 := (ho1.cell zl (by first | omega | (dsimp only; omega))).trans z3; have q0 := (ho1.frozen zl (by first | omega | (dsimp only; omega))).trans q0; have q1 := (ho1.frozen zl (by first | omega | (dsimp only; omega))).trans q1; have q2 := (ho1.frozen zl (by first | omega | (dsimp only; omega))).trans q2; have q3 := (ho1.frozen zl (by first | omega | (dsimp only; omega))).trans q3; have zl := Nat.lt_of_lt_of_le zl ho1.size; have c4 := (HB1.out.cell (p := ⟨b, 4, none⟩) ltb).trans HN.out.c4; have c5 := (HB1.out.cell (p := ⟨b, 5, none⟩) ltb).trans HN.out.c5; clear hf1 ho1)
          go_roundg (hgt r)
          case rel =>
            refine ⟨r, [y] ++ acc, stp o y, HPr.out.symm, HTr.out, Nat.le_refl _, HSr.out, HM1.out, fun x hx => ?_, fun x hx => HA2.out x ((HIN.out x).2 (.inr (.inr hx))), fun x hx hxa => ?_, HF1.out, ⟨z0, z1, z2, z3, zl⟩, ⟨q0, q1, q2, q3⟩, HB1.out⟩
            · rcases List.mem_append.1 hx with g | g
              · rw [List.mem_singleton.1 g]; exact HYA.out
              · exact HA1.out x g
            · rcases HA3.out x hx hxa with g | g
              · exact .inl (List.mem_append.2 (.inr g))
              · rcases (HIN.out x).1 g with g | g | g
                · simp [tl] at g
                · exact .inl (by simp [g])
                · exact .inr g
          case measure => exact Hgr.out
        | false =>
          obtain ⟨m1, m2⟩ := bst_min l hnl
          have HM2 : Hid (Mn at' (tl l ++ ([y] ++ acc)) (stp (stp o y) (bst l))) := Lib.hid (HM1.out.step m1 fun z hz => by
            have h3 := HL3.out z hz
            rw [kl_iff] at h3
            exact ⟨by omega, m2 z hz⟩)
          clear m1 m2
          cases l with
          | nil => simp [isN] at hnl
          | node b1 y1 l1 r1 =>
            have hu : ul = some ⟨b1, 0, none⟩ := by have := HPl.out; injection this with h; exact h.symm
            subst hu
            have hN1 : NC w b1 y1 (pt l1) (pt r1) (hgt (.node b1 y1 l1 r1)) (bst (.node b1 y1 l1 r1)) := by unfold NT at hl; exact hl.1
            have ltb1 := hN1.lt
            have HYA := Lib.hid hyA
            obtain ⟨BB, hBB⟩ : ∃ BB, bst (.node b1 y1 l1 r1) = BB := ⟨_, rfl⟩
            rw [hBB] at hN1 HM2
            have HN1 := Lib.hid hN1
            clear hl hr hnl hyA hN1 hBB
            go_wp2_with (go_at_call 61; first | ((with_reducible refine (take_c y o (w.heap.size + 1) (w.heap.size + 1 + 1) wr HF.out (by omega)).mono ?_); rintro _ w1 ⟨rfl, hf1, ho1⟩; have HB1 : Hid (Below w.heap.size w w1) := Lib.hid (HB.out.trans (onlyB ho1 HB.out.size (by intro j hj; (try dsimp only at hj); omega))); have HF1 := Lib.hid hf1; have z0 := (ho1.cell zl (by first | omega | (dsimp only; omega))).trans z0; have z1 := (ho1.cell zl (by first | omega | (dsimp only; omega))).trans z1; have z2 := (ho1.cell zl (by first | omega | (dsimp only; omega))).trans z2; have z3 := (ho1.cell zl (by first | omega | (dsimp only; omega))).trans z3; have q0 := (ho1.frozen zl (by first | omega | (dsimp only; omega))).trans q0; have q1 := (ho1.frozen zl (by first | omega | (dsimp only; omega))).trans q1; have q2 := (ho1.frozen zl (by first | omega | (dsimp only; omega))).trans q2; have q3 := (ho1.frozen zl (by first | omega | (dsimp only; omega))).trans q3; have zl := Nat.lt_of_lt_of_le zl ho1.size; have c4 := (HB1.out.cell (p := ⟨b, 4, none⟩) ltb).trans HN.out.c4; have c5 := (HB1.out.cell (p := ⟨b, 5, none⟩) ltb).trans HN.out.c5; have g7 := (HB1.out.cell (p := ⟨b1, 7, none⟩) ltb1).trans HN1.out.c7; have g8 := (HB1.out.cell (p := ⟨b1, 8, none⟩) ltb1).trans HN1.out.c8; have g9 := (HB1.out.cell (p := ⟨b1, 9, none⟩) ltb1).trans HN1.out.c9; have g10 := (HB1.out.cell (p := ⟨b1, 10, none⟩) ltb1).trans HN1.out.c10; clear hf1 ho1) | ((with_reducible refine (take_c BB (stp o y) (w.heap.size + 1) (w.heap.size + 1 + 1) w1 HF1.out (by omega)).mono ?_); rintro _ w2 ⟨rfl, hf2, ho2⟩; have HB2 : Hid (Below w.heap.size w w2) := Lib.hid (HB1.out.trans (onlyB ho2 HB1.out.size (by intro j hj; (try dsimp only at hj); omega))); have HF2 := Lib.hid hf2; have z0 := (ho2.cell zl (by first | omega | (dsimp only; omega))).trans z0; have z1 := (ho2.cell zl (by first | omega | (dsimp only; omega))).trans z1; have z2 := (ho2.cell zl (by first | omega | (dsimp only; omega))).trans z2; have z3 := (ho2.cell zl (by first | omega | (dsimp only; omega))).trans z3; have q0 := (ho2.frozen zl (by first | omega | (dsimp only; omega))).trans q0; have q1 := (ho2.frozen zl (by first | omega | (dsimp only; omega))).trans q1; have q2 := (ho2.frozen zl (by first | omega | (dsimp only; omega))).trans q2; have q3 := (ho2.frozen zl (by first | omega | (dsimp only; omega))).trans q3; have zl := Nat.lt_of_lt_of_le zl ho2.size; have c5 := (HB2.out.cell (p := ⟨b, 5, none⟩) ltb).trans HN.out.c5; clear hf2 ho2))
            go_roundg (hgt r)
            case rel =>
              refine ⟨r, tl (.node b1 y1 l1 r1) ++ ([y] ++ acc), stp (stp o y) BB, HPr.out.symm, HTr.out, Nat.le_refl _, HSr.out, HM2.out, fun x hx => ?_, fun x hx => HA2.out x ((HIN.out x).2 (.inr (.inr hx))), fun x hx hxa => ?_, HF2.out, ⟨z0, z1, z2, z3, zl⟩, ⟨q0, q1, q2, q3⟩, HB2.out⟩
              · rcases List.mem_append.1 hx with g | g
                · exact HA2.out x ((HIN.out x).2 (.inl g))
                · rcases List.mem_append.1 g with g | g
                  · rw [List.mem_singleton.1 g]; exact HYA.out
                  · exact HA1.out x g
              · rcases HA3.out x hx hxa with g | g
                · exact .inl (by simp [g])
                · rcases (HIN.out x).1 g with g | g | g
                  · exact .inl (List.mem_append.2 (.inl g))
                  · exact .inl (by simp [g])
                  · exact .inr g
            case measure => exact Hgr.out
end Go.Proofs.Ytikmdkmejbcmmaa
