/- The reference: Put, of a list in order or not. -/
import Derived.Test.YtikmdkmejbcmmaaAv24
namespace Go.Proofs.Ytikmdkmejbcmmaa
set_option linter.unusedVariables false
set_option linter.unusedSimpArgs false
set_option maxRecDepth 100000
open Go.RowKit Fg Reg
attribute [local irreducible] Reg.wE NT

theorem insL_no (x : It) : ∀ (A B : List It), (∀ a ∈ A, kl x a = false) → insL x (A ++ B) = A ++ insL x B
  | [], _, _ => rfl
  | a :: A, B, h => by
    have h1 := h a (by simp)
    simp only [List.cons_append, insL, h1]
    rw [insL_no x A B fun b hb => h b (by simp [hb])]
    simp
theorem insL_yes (x : It) : ∀ (A B : List It), (∃ a ∈ A, kl x a = true) → insL x (A ++ B) = insL x A ++ B
  | [], _, ⟨a, ha, _⟩ => by simp at ha
  | a :: A, B, ⟨y, hy, hk⟩ => by
    simp only [List.cons_append, insL]
    split
    · simp
    · rename_i h
      have hyA : y ∈ A := by
        rcases List.mem_cons.1 hy with rfl | g
        · exact absurd hk h
        · exact g
      rw [insL_yes x A B ⟨y, hyA, hk⟩]
      simp
/-- What Put has so far. -/
def putM (x : It) (A : List It) (pb : Bool) (M : List It) : Prop := if pb = true then (∃ a ∈ A, kl x a = true) ∧ M = insL x A else (∀ a ∈ A, kl x a = false) ∧ M = A
theorem putM.yes {x y : It} {A M : List It} (h : putM x A true M) : putM x (A ++ [y]) true (M ++ [y]) := by
  unfold putM at *
  rw [if_pos rfl] at *
  obtain ⟨⟨a, ha, hk⟩, rfl⟩ := h
  exact ⟨⟨a, by simp [ha], hk⟩, (insL_yes x A [y] ⟨a, ha, hk⟩).symm⟩
theorem putM.no {x y : It} {A M : List It} (h : putM x A false M) (hy : kl x y = false) : putM x (A ++ [y]) false (M ++ [y]) := by
  unfold putM at *
  rw [if_neg (by simp)] at *
  obtain ⟨h1, rfl⟩ := h
  exact ⟨fun a ha => by rcases List.mem_append.1 ha with g | g; exact h1 a g; rw [List.mem_singleton.1 g]; exact hy, rfl⟩
theorem putM.now {x y : It} {A M : List It} (h : putM x A false M) (hy : kl x y = true) : putM x (A ++ [y]) true (M ++ [x] ++ [y]) := by
  unfold putM at *
  rw [if_neg (by simp)] at h
  rw [if_pos rfl]
  obtain ⟨h1, rfl⟩ := h
  refine ⟨⟨y, by simp, hy⟩, ?_⟩
  rw [insL_no x M [y] h1]
  simp [insL, hy]
theorem putM.end1 {x : It} {A M : List It} (h : putM x A true M) : M = insL x A := by unfold putM at h; rw [if_pos rfl] at h; exact h.2
theorem putM.end0 {x : It} {A M : List It} (h : putM x A false M) : M ++ [x] = insL x A := by
  unfold putM at h
  rw [if_neg (by simp)] at h
  obtain ⟨h1, rfl⟩ := h
  have := insL_no x M [] h1
  simpa [insL] using this.symm
theorem own_snoc2 {z : World} {base : Nat} {M : List It} {v : Value} {x : It} (h : z.ownsRow base 41 4 v (M.length + 1) (M.flatMap It.cells ++ It.cells x)) : ∃ M2 ao cap, M2 = M ++ [x] ∧ M2.length ≤ M.length + 1 ∧ v = .slice ao M2.length cap ∧ z.ownsRow base 41 4 (.slice ao (M2).length cap) (M2).length ((M2).flatMap It.cells) := by
  obtain ⟨ao, cap, h1, h2⟩ := own_snoc h
  exact ⟨_, ao, cap, rfl, by simp, h1, h2⟩
set_option maxHeartbeats 8000000 in
theorem rput_c (l : List It) (n : Nat) (hln : l.length = n) (hn : n ≤ 1000) (ad : Option Addr) (cap : Nat) (x : It) (w : World) (hR : RwV It.cells 4 w ad l) :
    Calls Try.prog 19 #[.slice ad n cap, .agg #[.int .u64 (x).ka, .int .i64 (x).ki, .int .u64 (x).va, .int .i64 (x).vi]] w fun e w' => (∃ ao c, e = .returned (.slice ao (insL x l).length c) ∧ RwV It.cells 4 w' ao (insL x l) ∧ ∀ ad, ao = some ad → w.heap.size ≤ ad.block) ∧ Below w.heap.size w w' := by
  obtain ⟨ii, ci0, cz0, cz1, cz2⟩ := ri_parts
  have CI0 := Lib.hid ci0
  have CZ0 := Lib.hid cz0
  have CZ1 := Lib.hid cz1
  have CZ2 := Lib.hid cz2
  have HR := Lib.hid hR
  have HLN := Lib.hid hln
  clear hR hln ci0 cz0 cz1 cz2
  obtain ⟨base, hbase⟩ : ∃ base, w.heap.size + 1 = base := ⟨_, rfl⟩
  have HBA := Lib.hid hbase
  clear hbase
  go_enter Try.func19, Try.ntmps19
  go_wp2
  go_loopg [11, 5, 6] n (fun k9 s11 s5 s6 wr => ∃ (i : Nat) (M : List It) (pb : Bool) (ao : Option Addr) (c : Nat), s11 = .int .i64 i ∧ s5 = .slice ao M.length c ∧ s6 = .bool pb ∧ i ≤ n ∧ n - i ≤ k9 ∧ putM x (l.take i) pb M ∧ M.length ≤ i + (if pb = true then 1 else 0) ∧ wr.ownsRow base 41 4 (.slice ao (M).length c) (M).length ((M).flatMap It.cells) ∧ base ≤ wr.heap.size ∧ (wr.cell? ⟨w.heap.size, 0, none⟩ = some (.int .u64 (x).ka) ∧ wr.cell? ⟨w.heap.size, 1, none⟩ = some (.int .i64 (x).ki) ∧ wr.cell? ⟨w.heap.size, 2, none⟩ = some (.int .u64 (x).va) ∧ wr.cell? ⟨w.heap.size, 3, none⟩ = some (.int .i64 (x).vi) ∧ w.heap.size < wr.heap.size) ∧ Below w.heap.size w wr)
  case atStart => exact ⟨0, [], false, none, 0, rfl, rfl, rfl, by omega, by omega, by simp [putM], by simp, World.ownsRow_nil _ _ _ _, by rw [← HBA.out]; simp, ⟨by simp [go_sem], by simp [go_sem], by simp [go_sem], by simp [go_sem], by simp [go_sem]⟩, by (repeat' (first | assumption | exact Below.refl _ _ | refine Below.setCell ?_ (by first | (simp; done) | omega | (simp; omega)) _ | refine Below.alloc ?_ (by first | (simp; done) | omega | (simp; omega)) _ | refine Below.drew ?_))⟩
  case round =>
    obtain ⟨i, M, pb, ao, c, rfl, rfl, rfl, hi, hk, hM, hMl, hO, hbs, ⟨x0, x1, x2, x3, x4⟩, hB⟩ := hrel
    have HB := Lib.hid hB
    have HO := Lib.hid hO
    have HM := Lib.hid hM
    have HML := Lib.hid hMl
    have hMl2 : M.length ≤ i + 1 := by cases pb <;> simp at hMl <;> omega
    clear hO hM hMl
    by_cases hin : i < n
    · obtain ⟨pp, po, had, hpb, p0, p1, p2, p3⟩ := it_cells HR.out (i := i) (by rw [HLN.out]; exact hin)
      subst had
      have p0 := (hB.cell hpb).trans p0
      have p1 := (hB.cell hpb).trans p1
      have p2 := (hB.cell hpb).trans p2
      have p3 := (hB.cell hpb).trans p3
      have hpr := Nat.lt_of_lt_of_le hpb hB.size
      have W4 : IntKind.i64.wrap ((i : Int) + 1) = ((i + 1 : Nat) : Int) := by rw [IntKind.wrap_i64]; omega
      have htn := take_next (l := l) (i := i) (by rw [HLN.out]; exact hin)
      obtain ⟨Y, hY⟩ : ∃ Y, itn l i = Y := ⟨_, rfl⟩
      rw [hY] at p0 p1 p2 p3 htn
      have HTN := Lib.hid htn
      clear hB htn hY
      cases pb with
      | true =>
        go_wp2_with (first | go_guarded | ((at_builtin; refine wpList_append_own _ rfl _ _ 26 rfl (base) 41 ii (.agg #[.int .u64 0, .int .i64 0, .int .u64 0, .int .i64 0]) 4 32 Try.underlying26 CI0.out CZ0.out CZ1.out CZ2.out rfl (by decide) (.slice ao (M).length c) _ _ rfl (World.ownsRow.alloc (World.ownsRow.alloc HO.out _) _) ⟨_, 0, none⟩ 1 1 (It.cells (Y)) rfl rfl ?c1 ?c2 ?c3 ?c4 ?c5 ?_; (case c1 => (intro j u hu; unfold It.cells at hu; rcases j with _ | _ | _ | _ | j <;> simp at hu <;> (try subst hu) <;> simp [Addr.add, go_sem])); (case c2 => (exact itC.one _)); (case c3 => (unfold maxLen; omega)); (case c4 => omega); (case c5 => (simp; omega)); intro v2 z2 hown2 hg2 _); (have hb2 : Below base wr z2 := (Below.alloc (Below.alloc (Below.refl _ _) (by omega) _) (by simp; omega) _).grown hg2 (by simp; omega) (fun q hq => (HO.out.lt q hq).1)); obtain ⟨a2, c2, rfl, hown9⟩ := own_snoc hown2; (have HO2 := Lib.hid hown9); (have HB2 := Lib.hid hb2); clear hown2 hown9 hg2 hb2))
        go_roundg (n - (i + 1))
        case rel =>
          have hlt : w.heap.size < base := by have := HBA.out; omega
          refine ⟨i + 1, M ++ [Y], true, a2, c2, by first | rfl | go_num | (congr 1; omega), by first | rfl | simp, rfl, by omega, Nat.le_refl _, by rw [HTN.out]; exact HM.out.yes, by have hq := HML.out; simp at hq ⊢; omega, HO2.out, Nat.le_trans hbs HB2.out.size, ⟨(HB2.out.cell hlt).trans x0, (HB2.out.cell hlt).trans x1, (HB2.out.cell hlt).trans x2, (HB2.out.cell hlt).trans x3, Nat.lt_of_lt_of_le x4 HB2.out.size⟩, HB.out.trans (HB2.out.mono (by omega))⟩
        case measure => omega
      | false =>
        have kl9 := fun z => rless_c x Y z
        cases hxy : kl x Y with
        | false =>
          rw [hxy] at kl9
          have KL := Lib.hid kl9
          have HXY := Lib.hid hxy
          clear kl9 hxy
          go_wp2_with (first | go_guarded | (go_at_call 56; (with_reducible refine (KL.out _).mono ?_); rintro _ w5 ⟨rfl, hbel⟩; (have HB5 : Hid (Below base wr w5) := Lib.hid ((Below.alloc (Below.refl _ _) (by omega) _).trans (hbel.mono (by simp; omega)))); (have HO5 := Lib.hid (row_bel (World.ownsRow.alloc HO.out _) hbel)); (have hs5 := HB5.out.size); obtain ⟨hcc, hff⟩ := bcell hbel; have hsz := hbel.size; (try simp at hsz); have hF : (w5.cell? ⟨wr.heap.size, 0, none⟩ = some (.int .u64 (Y).ka) ∧ w5.cell? ⟨wr.heap.size, 1, none⟩ = some (.int .i64 (Y).ki) ∧ w5.cell? ⟨wr.heap.size, 2, none⟩ = some (.int .u64 (Y).va) ∧ w5.cell? ⟨wr.heap.size, 3, none⟩ = some (.int .i64 (Y).vi) ∧ wr.heap.size < w5.heap.size) ∧ (w5.cell? ⟨w.heap.size, 0, none⟩ = some (.int .u64 (x).ka) ∧ w5.cell? ⟨w.heap.size, 1, none⟩ = some (.int .i64 (x).ki) ∧ w5.cell? ⟨w.heap.size, 2, none⟩ = some (.int .u64 (x).va) ∧ w5.cell? ⟨w.heap.size, 3, none⟩ = some (.int .i64 (x).vi) ∧ w.heap.size < w5.heap.size) := (by ((repeat' apply And.intro) <;> first | (simp [go_sem, *]; done) | omega | (repeat' (first | with_reducible exact Below.refl _ _ | with_reducible assumption | ((with_reducible refine Below.drew ?_)) | ((with_reducible refine below_drewN ?_ _)) | ((with_reducible refine Below.alloc ?_ ?_ _); rotate_left; focus (first | omega | (simp; done) | (simp; omega))) | ((with_reducible refine Below.setCell ?_ ?_ _); rotate_left; focus (first | omega | (simp; done) | (simp; omega))) | ((with_reducible refine Below.trans ?_ (Below.mono (by with_reducible assumption) ?_)); rotate_left; focus (first | omega | (simp; done) | (simp; omega))))))); go_split_ands; clear hcc hff hbel) | ((at_builtin; refine wpList_append_own _ rfl _ _ 26 rfl (base) 41 ii (.agg #[.int .u64 0, .int .i64 0, .int .u64 0, .int .i64 0]) 4 32 Try.underlying26 CI0.out CZ0.out CZ1.out CZ2.out rfl (by decide) (.slice ao (M).length c) _ _ rfl (World.ownsRow.alloc HO5.out _) ⟨_, 0, none⟩ 1 1 (It.cells (Y)) rfl rfl ?c1 ?c2 ?c3 ?c4 ?c5 ?_; (case c1 => (intro j u hu; unfold It.cells at hu; rcases j with _ | _ | _ | _ | j <;> simp at hu <;> (try subst hu) <;> simp [Addr.add, go_sem])); (case c2 => (exact itC.one _)); (case c3 => (unfold maxLen; omega)); (case c4 => omega); (case c5 => (simp; omega)); intro v2 z2 hown2 hg2 _); (have hb2 : Below base w5 z2 := (Below.alloc (Below.refl _ _) (by omega) _).grown hg2 (by simp; omega) (fun q hq => (HO5.out.lt q hq).1)); obtain ⟨a2, c2, rfl, hown9⟩ := own_snoc hown2; (have HO2 := Lib.hid hown9); (have HB2 := Lib.hid (HB5.out.trans hb2)); clear hown2 hown9 hg2 hb2))
          go_roundg (n - (i + 1))
          case rel =>
            have hlt : w.heap.size < base := by have := HBA.out; omega
            refine ⟨i + 1, M ++ [Y], false, a2, c2, by first | rfl | go_num | (congr 1; omega), by first | rfl | simp, rfl, by omega, Nat.le_refl _, by rw [HTN.out]; exact HM.out.no HXY.out, by have hq := HML.out; simp at hq ⊢; omega, HO2.out, Nat.le_trans hbs HB2.out.size, ⟨(HB2.out.cell hlt).trans x0, (HB2.out.cell hlt).trans x1, (HB2.out.cell hlt).trans x2, (HB2.out.cell hlt).trans x3, Nat.lt_of_lt_of_le x4 HB2.out.size⟩, HB.out.trans (HB2.out.mono (by omega))⟩
          case measure => omega
        | true =>
          rw [hxy] at kl9
          have KL := Lib.hid kl9
          have HXY := Lib.hid hxy
          clear kl9 hxy
          go_wp2_with (first | go_guarded | (go_at_call 56; (with_reducible refine (KL.out _).mono ?_); rintro _ w5 ⟨rfl, hbel⟩; (have HB5 : Hid (Below base wr w5) := Lib.hid ((Below.alloc (Below.refl _ _) (by omega) _).trans (hbel.mono (by simp; omega)))); (have HO5 := Lib.hid (row_bel (World.ownsRow.alloc HO.out _) hbel)); (have hs5 := HB5.out.size); obtain ⟨hcc, hff⟩ := bcell hbel; have hsz := hbel.size; (try simp at hsz); have hF : (w5.cell? ⟨wr.heap.size, 0, none⟩ = some (.int .u64 (Y).ka) ∧ w5.cell? ⟨wr.heap.size, 1, none⟩ = some (.int .i64 (Y).ki) ∧ w5.cell? ⟨wr.heap.size, 2, none⟩ = some (.int .u64 (Y).va) ∧ w5.cell? ⟨wr.heap.size, 3, none⟩ = some (.int .i64 (Y).vi) ∧ wr.heap.size < w5.heap.size) ∧ (w5.cell? ⟨w.heap.size, 0, none⟩ = some (.int .u64 (x).ka) ∧ w5.cell? ⟨w.heap.size, 1, none⟩ = some (.int .i64 (x).ki) ∧ w5.cell? ⟨w.heap.size, 2, none⟩ = some (.int .u64 (x).va) ∧ w5.cell? ⟨w.heap.size, 3, none⟩ = some (.int .i64 (x).vi) ∧ w.heap.size < w5.heap.size) := (by ((repeat' apply And.intro) <;> first | (simp [go_sem, *]; done) | omega | (repeat' (first | with_reducible exact Below.refl _ _ | with_reducible assumption | ((with_reducible refine Below.drew ?_)) | ((with_reducible refine below_drewN ?_ _)) | ((with_reducible refine Below.alloc ?_ ?_ _); rotate_left; focus (first | omega | (simp; done) | (simp; omega))) | ((with_reducible refine Below.setCell ?_ ?_ _); rotate_left; focus (first | omega | (simp; done) | (simp; omega))) | ((with_reducible refine Below.trans ?_ (Below.mono (by with_reducible assumption) ?_)); rotate_left; focus (first | omega | (simp; done) | (simp; omega))))))); go_split_ands; clear hcc hff hbel) | ((at_builtin; refine wpList_append_own _ rfl _ _ 26 rfl (base) 41 ii (.agg #[.int .u64 0, .int .i64 0, .int .u64 0, .int .i64 0]) 4 32 Try.underlying26 CI0.out CZ0.out CZ1.out CZ2.out rfl (by decide) (.slice a2 (M2).length c2) _ _ rfl (World.ownsRow.alloc HO2.out _) ⟨_, 0, none⟩ 1 1 (It.cells (Y)) rfl rfl ?c1 ?c2 ?c3 ?c4 ?c5 ?_; (case c1 => (intro j u hu; unfold It.cells at hu; rcases j with _ | _ | _ | _ | j <;> simp at hu <;> (try subst hu) <;> simp [Addr.add, go_sem])); (case c2 => (exact itC.one _)); (case c3 => (unfold maxLen; omega)); (case c4 => omega); (case c5 => (simp; omega)); intro v2 z3 hown2 hg2 _); (have hb2 : Below base z2 z3 := (Below.alloc (Below.refl _ _) (by omega) _).grown hg2 (by simp; omega) (fun q hq => (HO2.out.lt q hq).1)); obtain ⟨a3, c3, rfl, hown9⟩ := own_snoc hown2; (have HO3 := Lib.hid hown9); (have HB3 := Lib.hid (HB2.out.trans hb2)); clear hown2 hown9 hg2 hb2) | ((at_builtin; refine wpList_append_own _ rfl _ _ 26 rfl (base) 41 ii (.agg #[.int .u64 0, .int .i64 0, .int .u64 0, .int .i64 0]) 4 32 Try.underlying26 CI0.out CZ0.out CZ1.out CZ2.out rfl (by decide) (.slice ao (M).length c) _ _ rfl (World.ownsRow.alloc HO5.out _) ⟨_, 0, none⟩ 1 1 (It.cells (x)) rfl rfl ?c1 ?c2 ?c3 ?c4 ?c5 ?_; (case c1 => (intro j u hu; unfold It.cells at hu; rcases j with _ | _ | _ | _ | j <;> simp at hu <;> (try subst hu) <;> simp [Addr.add, go_sem])); (case c2 => (exact itC.one _)); (case c3 => (unfold maxLen; omega)); (case c4 => omega); (case c5 => (simp; omega)); intro v2 z2 hown2 hg2 _); (have hb2 : Below base w5 z2 := (Below.alloc (Below.refl _ _) (by omega) _).grown hg2 (by simp; omega) (fun q hq => (HO5.out.lt q hq).1)); (have hY9 : ∀ {o : Nat} {v : Value}, w5.cell? ⟨wr.heap.size, o, none⟩ = some v → z2.cell? ⟨wr.heap.size, o, none⟩ = some v := fun h => ((only_grown' hg2).cell (b := wr.heap.size) (by simp; omega) (fun h => absurd (HO.out.lt _ h).2 (Nat.lt_irrefl _))).trans (((Below.alloc (Below.refl w5.heap.size w5) (Nat.le_refl _) _).cell (p := ⟨wr.heap.size, _, none⟩) (by show wr.heap.size < w5.heap.size; omega)).trans h)); (have t0 := hY9 (show w5.cell? ⟨wr.heap.size, 0, none⟩ = some (.int .u64 Y.ka) by assumption)); (have t1 := hY9 (show w5.cell? ⟨wr.heap.size, 1, none⟩ = some (.int .i64 Y.ki) by assumption)); (have t2 := hY9 (show w5.cell? ⟨wr.heap.size, 2, none⟩ = some (.int .u64 Y.va) by assumption)); (have t3 := hY9 (show w5.cell? ⟨wr.heap.size, 3, none⟩ = some (.int .i64 Y.vi) by assumption)); obtain ⟨M2, a2, c2, hM2, hl2, rfl, hown9⟩ := own_snoc2 hown2; (have HM2 := Lib.hid hM2); clear hM2; (have HO2 := Lib.hid hown9); (have HB2 := Lib.hid (HB5.out.trans hb2)); (have hsz2 := HB2.out.size); (have hwl : wr.heap.size < z2.heap.size := by have := hb2.size; omega); clear hY9 hown2 hown9 hg2 hb2))
          go_roundg (n - (i + 1))
          case rel =>
            have hlt : w.heap.size < base := by have := HBA.out; omega
            refine ⟨i + 1, M2 ++ [Y], true, a3, c3, by first | rfl | go_num | (congr 1; omega), by first | rfl | simp, rfl, by omega, Nat.le_refl _, by rw [HTN.out, HM2.out]; exact HM.out.now HXY.out, by have hq := HML.out; simp at hq ⊢; omega, HO3.out, Nat.le_trans hbs HB3.out.size, ⟨(HB3.out.cell hlt).trans x0, (HB3.out.cell hlt).trans x1, (HB3.out.cell hlt).trans x2, (HB3.out.cell hlt).trans x3, Nat.lt_of_lt_of_le x4 HB3.out.size⟩, HB.out.trans (HB3.out.mono (by omega))⟩
          case measure => omega
    · have hie : i = n := by omega
      subst hie
      have HT : Hid (l.take i = l) := Lib.hid (List.take_of_length_le (by rw [HLN.out]; exact Nat.le_refl _))
      clear hin
      cases pb with
      | true =>
        go_wp2
        go_ret
        have hML : M = insL x l := by rw [← HT.out]; exact HM.out.end1
        subst hML
        obtain ⟨a9, c9, e9, hr9, -, -, hlo9⟩ := RwV.of_own itC HO.out
        injection e9 with e1 e2 e3
        subst e1 e3
        first | exact ⟨⟨ao, c, rfl, hr9, fun ad9 had9 => by have h1 := (hlo9 ad9 had9).1; have h2 := HBA.out; omega⟩, HB.out⟩ | exact ⟨⟨ao, ⟨c, rfl⟩, hr9, fun ad9 had9 => by have h1 := (hlo9 ad9 had9).1; have h2 := HBA.out; omega⟩, HB.out⟩
      | false =>
        go_wp2_with (first | go_guarded | ((at_builtin; refine wpList_append_own _ rfl _ _ 26 rfl (base) 41 ii (.agg #[.int .u64 0, .int .i64 0, .int .u64 0, .int .i64 0]) 4 32 Try.underlying26 CI0.out CZ0.out CZ1.out CZ2.out rfl (by decide) (.slice ao (M).length c) _ _ rfl (World.ownsRow.alloc HO.out _) ⟨_, 0, none⟩ 1 1 (It.cells (x)) rfl rfl ?c1 ?c2 ?c3 ?c4 ?c5 ?_; (case c1 => (intro j u hu; unfold It.cells at hu; rcases j with _ | _ | _ | _ | j <;> simp at hu <;> (try subst hu) <;> simp [Addr.add, go_sem])); (case c2 => (exact itC.one _)); (case c3 => (unfold maxLen; omega)); (case c4 => omega); (case c5 => (simp; omega)); intro v2 z2 hown2 hg2 _); (have hb2 : Below base wr z2 := (Below.alloc (Below.refl _ _) (by omega) _).grown hg2 (by simp; omega) (fun q hq => (HO.out.lt q hq).1)); obtain ⟨a2, c2, rfl, hown9⟩ := own_snoc hown2; (have HO2 := Lib.hid hown9); (have HB2 := Lib.hid hb2); clear hown2 hown9 hg2 hb2))
        go_ret
        have hML : M ++ [x] = insL x l := by rw [← HT.out]; exact HM.out.end0
        obtain ⟨a9, c9, e9, hr9, -, -, hlo9⟩ := RwV.of_own itC HO2.out
        injection e9 with e1 e2 e3
        subst e1 e3
        rw [hML] at hr9
        exact ⟨⟨a2, c2, by rw [← hML]; simp, hr9, fun ad9 had9 => by have h1 := (hlo9 ad9 had9).1; have h2 := HBA.out; omega⟩, HB.out.trans (HB2.out.mono (by have := HBA.out; omega))⟩
end Go.Proofs.Ytikmdkmejbcmmaa
