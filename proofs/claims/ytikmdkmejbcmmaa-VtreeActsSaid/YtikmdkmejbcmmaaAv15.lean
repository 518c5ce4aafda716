/- First. -/
import Derived.Test.YtikmdkmejbcmmaaAv14
namespace Go.Proofs.Ytikmdkmejbcmmaa
set_option linter.unusedVariables false
set_option linter.unusedSimpArgs false
set_option maxRecDepth 100000
open Go.RowKit Fg Reg
attribute [local irreducible] Reg.wE NT

def thr (a : Int) (t : Tr) : Bool := !isN t && decide ((bst t).va ≤ a)
def fstL (a : Int) (L : List It) : Option It := L.find? fun x => decide (x.va ≤ a)
theorem thr_some {a : Int} {t : Tr} (h : thr a t = true) : ∃ x ∈ tl t, x.va ≤ a := by
  unfold thr at h
  simp only [Bool.and_eq_true, Bool.not_eq_true', decide_eq_true_eq] at h
  exact ⟨bst t, (bst_min t h.1).1, h.2⟩
theorem thr_none {a : Int} {t : Tr} (h : thr a t = false) : fstL a (tl t) = none := by
  unfold fstL
  rw [List.find?_eq_none]
  intro x hx hxa
  have hxa := of_decide_eq_true hxa
  cases hn : isN t with
  | true => rw [isN_nil hn] at hx; simp [tl] at hx
  | false =>
    have hb : (bst t).va ≤ x.va := by
      rcases (bst_min t hn).2 x hx with e | e
      · rw [e]; exact Int.le_refl _
      · exact ahd_va e
    unfold thr at h
    rw [hn] at h
    have := of_decide_eq_false (show decide ((bst t).va ≤ a) = false by simpa using h)
    omega
theorem fst_parts (a : Int) (y : It) (A B : List It) : fstL a (A ++ y :: B) = (fstL a A).or (if y.va ≤ a then some y else fstL a B) := by
  unfold fstL
  rw [List.find?_append, List.find?_cons]
  by_cases h : y.va ≤ a <;> simp [h]
theorem fst_l {a : Int} {b : Nat} {y : It} {l r : Tr} (h : thr a l = true) : fstL a (tl (.node b y l r)) = fstL a (tl l) := by
  show fstL a (tl l ++ y :: tl r) = _
  rw [fst_parts]
  obtain ⟨x, hx, hxa⟩ := thr_some h
  cases he : fstL a (tl l) with
  | none =>
    unfold fstL at he
    rw [List.find?_eq_none] at he
    exact absurd (decide_eq_true hxa) (he x hx)
  | some z => simp
theorem fst_y {a : Int} {b : Nat} {y : It} {l r : Tr} (h : thr a l = false) (hy : y.va ≤ a) : fstL a (tl (.node b y l r)) = some y := by
  show fstL a (tl l ++ y :: tl r) = _
  rw [fst_parts, thr_none h, if_pos hy]; rfl
theorem fst_r {a : Int} {b : Nat} {y : It} {l r : Tr} (h : thr a l = false) (hy : ¬ y.va ≤ a) : fstL a (tl (.node b y l r)) = fstL a (tl r) := by
  show fstL a (tl l ++ y :: tl r) = _
  rw [fst_parts, thr_none h, if_neg hy]; rfl
theorem thr_c (t : Tr) (cb : Nat) (at' : Int) (w : World) (hT : NT w t) (hc : w.cell? ⟨cb, 0, none⟩ = some (.int .u64 at')) (hl : cb < w.heap.size) :
    Calls Try.prog 63 #[pt t, .pointer (some ⟨cb, 0, none⟩)] w fun e w' => e = .returned (.bool (thr at' t)) ∧ Below w.heap.size w w' := by
  cases t with
  | nil =>
    show Calls Try.prog 63 #[.pointer none, .pointer (some ⟨cb, 0, none⟩)] w fun e w' => e = .returned (.bool false) ∧ Below w.heap.size w w'
    clear hT
    go_enter Try.func63, Try.ntmps63
    go_wp2
    obtain ⟨Cl, hCl⟩ : ∃ Cl : List Value → World → Prop, Cl = ((fun ps wz => wz.cell? ⟨cb, 0, none⟩ = some (.int .u64 at') ∧ Below w.heap.size w wz)) := ⟨_, rfl⟩; have HCl := Lib.hid hCl; clear hCl; refine wp_region_eff [] Cl (by kernel_rfl) (by kernel_rfl) (by rw [HCl.out]; (try simp only [List.nil_append, List.cons_append]); (try dsimp only); ((repeat' apply And.intro) <;> first | (simp [go_sem, *]; done) | omega | (repeat' (first | with_reducible exact Below.refl _ _ | with_reducible assumption | ((with_reducible refine Below.drew ?_)) | ((with_reducible refine below_drewN ?_ _)) | ((with_reducible refine Below.alloc ?_ ?_ _); rotate_left; focus (first | omega | (simp; done) | (simp; omega))) | ((with_reducible refine Below.setCell ?_ ?_ _); rotate_left; focus (first | omega | (simp; done) | (simp; omega))) | ((with_reducible refine Below.trans ?_ (Below.mono (by with_reducible assumption) ?_)); rotate_left; focus (first | omega | (simp; done) | (simp; omega))))))) ?_
    (repeat (first | (refine wE_skip (by rfl) ?_; simp only [Act.put, Nat.reduceAdd, List.setIfInBounds_toArray, List.set_cons_zero, List.set_cons_succ, List.nil_append, List.cons_append]) | (refine wE_open (by rfl) (by rfl) ?_; apply Exists.intro; refine ⟨fun vs wq hw => ?_, ?_⟩; (focus (rw [HCl.out] at hw; (try simp only [List.nil_append, List.cons_append] at hw); (try dsimp only at hw); go_split_ands; go_simp <;> first | with_reducible exact (rfl : Value.bool false = _) | with_reducible exact (rfl : Value.bool true = _) | ((try go_bits) <;> exact rfl))); simp only [Act.put, Nat.reduceAdd, List.setIfInBounds_toArray, List.set_cons_zero, List.set_cons_succ, List.nil_append, List.cons_append]) | (refine wE_seal (by rfl) (by rfl) (by kernel_rfl) ?_; apply Exists.intro; refine ⟨fun wq hw => ?_, ?_⟩; (focus (rw [HCl.out] at hw; (try simp only [List.nil_append, List.cons_append] at hw); (try dsimp only at hw); go_split_ands; go_simp <;> (try go_bits) <;> exact rfl)); simp only [Act.put, Nat.reduceAdd, List.setIfInBounds_toArray, List.set_cons_zero, List.set_cons_succ, List.nil_append, List.cons_append]) | (refine wE_seal (by rfl) (by rfl) (by kernel_rfl) ?_; apply Exists.intro; refine ⟨fun wq hw => ?_, ?_⟩; (focus (rw [HCl.out] at hw; (try simp only [List.nil_append, List.cons_append] at hw); (try dsimp only at hw); go_split_ands; go_simp; fail)); simp only [Act.put, Nat.reduceAdd, List.setIfInBounds_toArray, List.set_cons_zero, List.set_cons_succ, List.nil_append, List.cons_append]) | (refine wE_eff (by rfl) (by rfl) (fun wq hw => ?_) (fun u hu => ?_); (focus (rw [HCl.out] at hw; (try simp only [List.nil_append, List.cons_append] at hw); (try dsimp only at hw); go_split_ands; go_simp; rw [HCl.out]; (try simp only [List.nil_append, List.cons_append]); (try dsimp only); fail; ((repeat' apply And.intro) <;> first | (simp [go_sem, *]; done) | omega | (repeat' (first | with_reducible exact Below.refl _ _ | with_reducible assumption | ((with_reducible refine Below.drew ?_)) | ((with_reducible refine below_drewN ?_ _)) | ((with_reducible refine Below.alloc ?_ ?_ _); rotate_left; focus (first | omega | (simp; done) | (simp; omega))) | ((with_reducible refine Below.setCell ?_ ?_ _); rotate_left; focus (first | omega | (simp; done) | (simp; omega))) | ((with_reducible refine Below.trans ?_ (Below.mono (by with_reducible assumption) ?_)); rotate_left; focus (first | omega | (simp; done) | (simp; omega)))))))); clear hu; simp only [Act.put, Nat.reduceAdd, List.setIfInBounds_toArray, List.set_cons_zero, List.set_cons_succ, List.nil_append, List.cons_append])))
    refine wE_nil ?_; intro w' hw; rw [HCl.out] at hw; (try simp only [List.nil_append, List.cons_append] at hw); (try dsimp only at hw); clear HCl
    go_split_ands
    go_wp2
    go_ret
    exact ⟨rfl, by assumption⟩
  | node b y l r =>
    unfold NT at hT
    have c9 := hT.1.c9
    have hlt := hT.1.lt
    have e : thr at' (.node b y l r) = decide ((bst (.node b y l r)).va ≤ at') := by unfold thr; simp [isN]
    rw [e]
    obtain ⟨BB, hBB⟩ : ∃ BB, (bst (.node b y l r)).va = BB := ⟨_, rfl⟩
    rw [hBB] at c9 ⊢
    clear e hT hBB
    show Calls Try.prog 63 #[.pointer (some ⟨b, 0, none⟩), .pointer (some ⟨cb, 0, none⟩)] w _
    go_enter Try.func63, Try.ntmps63
    go_wp2
    obtain ⟨Cl, hCl⟩ : ∃ Cl : List Value → World → Prop, Cl = ((fun ps wz => wz.cell? ⟨cb, 0, none⟩ = some (.int .u64 at') ∧ wz.cell? ⟨b, 9, none⟩ = some (.int .u64 BB) ∧ b < wz.heap.size ∧ Below w.heap.size w wz)) := ⟨_, rfl⟩; have HCl := Lib.hid hCl; clear hCl; refine wp_region_eff [] Cl (by kernel_rfl) (by kernel_rfl) (by rw [HCl.out]; (try simp only [List.nil_append, List.cons_append]); (try dsimp only); ((repeat' apply And.intro) <;> first | (simp [go_sem, *]; done) | omega | (repeat' (first | with_reducible exact Below.refl _ _ | with_reducible assumption | ((with_reducible refine Below.drew ?_)) | ((with_reducible refine below_drewN ?_ _)) | ((with_reducible refine Below.alloc ?_ ?_ _); rotate_left; focus (first | omega | (simp; done) | (simp; omega))) | ((with_reducible refine Below.setCell ?_ ?_ _); rotate_left; focus (first | omega | (simp; done) | (simp; omega))) | ((with_reducible refine Below.trans ?_ (Below.mono (by with_reducible assumption) ?_)); rotate_left; focus (first | omega | (simp; done) | (simp; omega))))))) ?_
    (repeat (first | (refine wE_skip (by rfl) ?_; simp only [Act.put, Nat.reduceAdd, List.setIfInBounds_toArray, List.set_cons_zero, List.set_cons_succ, List.nil_append, List.cons_append]) | (refine wE_open (by rfl) (by rfl) ?_; apply Exists.intro; refine ⟨fun vs wq hw => ?_, ?_⟩; (focus (rw [HCl.out] at hw; (try simp only [List.nil_append, List.cons_append] at hw); (try dsimp only at hw); go_split_ands; go_simp <;> first | with_reducible exact (rfl : Value.bool false = _) | with_reducible exact (rfl : Value.bool true = _) | ((try go_bits) <;> exact rfl))); simp only [Act.put, Nat.reduceAdd, List.setIfInBounds_toArray, List.set_cons_zero, List.set_cons_succ, List.nil_append, List.cons_append]) | (refine wE_seal (by rfl) (by rfl) (by kernel_rfl) ?_; apply Exists.intro; refine ⟨fun wq hw => ?_, ?_⟩; (focus (rw [HCl.out] at hw; (try simp only [List.nil_append, List.cons_append] at hw); (try dsimp only at hw); go_split_ands; go_simp <;> (try go_bits) <;> exact rfl)); simp only [Act.put, Nat.reduceAdd, List.setIfInBounds_toArray, List.set_cons_zero, List.set_cons_succ, List.nil_append, List.cons_append]) | (refine wE_seal (by rfl) (by rfl) (by kernel_rfl) ?_; apply Exists.intro; refine ⟨fun wq hw => ?_, ?_⟩; (focus (rw [HCl.out] at hw; (try simp only [List.nil_append, List.cons_append] at hw); (try dsimp only at hw); go_split_ands; go_simp; fail)); simp only [Act.put, Nat.reduceAdd, List.setIfInBounds_toArray, List.set_cons_zero, List.set_cons_succ, List.nil_append, List.cons_append]) | (refine wE_eff (by rfl) (by rfl) (fun wq hw => ?_) (fun u hu => ?_); (focus (rw [HCl.out] at hw; (try simp only [List.nil_append, List.cons_append] at hw); (try dsimp only at hw); go_split_ands; go_simp; rw [HCl.out]; (try simp only [List.nil_append, List.cons_append]); (try dsimp only); fail; ((repeat' apply And.intro) <;> first | (simp [go_sem, *]; done) | omega | (repeat' (first | with_reducible exact Below.refl _ _ | with_reducible assumption | ((with_reducible refine Below.drew ?_)) | ((with_reducible refine below_drewN ?_ _)) | ((with_reducible refine Below.alloc ?_ ?_ _); rotate_left; focus (first | omega | (simp; done) | (simp; omega))) | ((with_reducible refine Below.setCell ?_ ?_ _); rotate_left; focus (first | omega | (simp; done) | (simp; omega))) | ((with_reducible refine Below.trans ?_ (Below.mono (by with_reducible assumption) ?_)); rotate_left; focus (first | omega | (simp; done) | (simp; omega)))))))); clear hu; simp only [Act.put, Nat.reduceAdd, List.setIfInBounds_toArray, List.set_cons_zero, List.set_cons_succ, List.nil_append, List.cons_append])))
    refine wE_nil ?_; intro w' hw; rw [HCl.out] at hw; (try simp only [List.nil_append, List.cons_append] at hw); (try dsimp only at hw); clear HCl
    go_split_ands
    go_wp2
    go_ret
    exact ⟨rfl, by assumption⟩
theorem fst_n (a : Int) (w : World) : Calls Try.prog 24 #[.pointer none, .int .u64 a] w fun e w' => e = .returned (.tuple #[.agg #[.int .u64 0, .int .i64 0, .int .u64 0, .int .i64 0], .bool false]) ∧ Below w.heap.size w w' := by
  go_enter Try.func24, Try.ntmps24
  go_wp2
  refine bodyPost_ret (v := (.tuple #[.agg #[.int .u64 0, .int .i64 0, .int .u64 0, .int .i64 0], .bool false])) (by simp [results, Try.results24, go_sem, *]) rfl ⟨rfl, ?_⟩
  (repeat' (first | assumption | exact Below.refl _ _ | refine Below.setCell ?_ (by first | (simp; done) | omega | (simp; omega)) _ | refine Below.alloc ?_ (by first | (simp; done) | omega | (simp; omega)) _ | refine Below.drew ?_))
set_option maxHeartbeats 4000000 in
theorem fstm_c (a : Nat) (t : Tr) (at' : Int) (w : World) (h : TR w a t) : Calls Try.prog 24 #[.pointer (some ⟨a, 0, none⟩), .int .u64 at'] w fun e w' => e = .returned (.tuple #[.agg #[.int .u64 ((fv (fstL at' (tl t)))).ka, .int .i64 ((fv (fstL at' (tl t)))).ki, .int .u64 ((fv (fstL at' (tl t)))).va, .int .i64 ((fv (fstL at' (tl t)))).vi], .bool (fstL at' (tl t)).isSome]) ∧ Below w.heap.size w w' := by
  obtain ⟨r0, r1, f0, f1, lt, nt, nd, bl, ss, ha⟩ := h
  obtain ⟨X, hX⟩ : ∃ X, fstL at' (tl t) = X := ⟨_, rfl⟩
  rw [hX]
  have HX := Lib.hid hX
  have HT := Lib.hid nt
  obtain ⟨u0, hu0⟩ := pt_ptr t
  rw [hu0] at r0
  have HU0 := Lib.hid hu0
  clear hX r1 f0 f1 nt nd bl ss ha hu0
  have lt2 : a < w.heap.size + 1 := by omega
  have lt3 : a < w.heap.size + 1 + 1 := by omega
  go_enter Try.func24, Try.ntmps24
  go_wp2
  go_loopg [7] (hgt t) (fun k9 p wr => ∃ (t' : Tr), p = pt t' ∧ NT w t' ∧ fstL at' (tl t') = X ∧ hgt t' ≤ k9 ∧ Below w.heap.size w wr ∧ wr.cell? ⟨w.heap.size, 0, none⟩ = some (.int .u64 at') ∧ w.heap.size < wr.heap.size ∧ (wr.cell? ⟨w.heap.size + 1, 0, none⟩ = some (.int .u64 ((⟨0, 0, 0, 0⟩ : It)).ka) ∧ wr.cell? ⟨w.heap.size + 1, 1, none⟩ = some (.int .i64 ((⟨0, 0, 0, 0⟩ : It)).ki) ∧ wr.cell? ⟨w.heap.size + 1, 2, none⟩ = some (.int .u64 ((⟨0, 0, 0, 0⟩ : It)).va) ∧ wr.cell? ⟨w.heap.size + 1, 3, none⟩ = some (.int .i64 ((⟨0, 0, 0, 0⟩ : It)).vi) ∧ w.heap.size + 1 < wr.heap.size) ∧ (wr.frozen? ⟨w.heap.size + 1, 0, none⟩ = false ∧ wr.frozen? ⟨w.heap.size + 1, 1, none⟩ = false ∧ wr.frozen? ⟨w.heap.size + 1, 2, none⟩ = false ∧ wr.frozen? ⟨w.heap.size + 1, 3, none⟩ = false))
  case atStart => exact ⟨t, HU0.out.symm, HT.out, HX.out, Nat.le_refl _, by (repeat' (first | assumption | exact Below.refl _ _ | refine Below.setCell ?_ (by first | (simp; done) | omega | (simp; omega)) _ | refine Below.alloc ?_ (by first | (simp; done) | omega | (simp; omega)) _ | refine Below.drew ?_)), by simp [go_sem], by first | (simp; done) | omega | (simp; omega), ⟨by simp [go_sem], by simp [go_sem], by simp [go_sem], by simp [go_sem], by simp [go_sem]⟩, ⟨by simp [go_sem], by simp [go_sem], by simp [go_sem], by simp [go_sem]⟩⟩
  case round =>
    obtain ⟨t', rfl, hT, hx, hg, hB, x0, xl, ⟨z0, z1, z2, z3, zl⟩, ⟨q0, q1, q2, q3⟩⟩ := hrel
    have HB := Lib.hid hB
    have k1 := thr_c t' w.heap.size at' wr (NT.below hB hT) x0 xl
    clear hB
    cases t' with
    | nil =>
      have ex : X = none := by rw [← hx]; rfl
      subst ex
      have K1 : Hid (Calls Try.prog 63 #[.pointer none, .pointer (some ⟨w.heap.size, 0, none⟩)] wr fun e w' => e = .returned (.bool false) ∧ Below wr.heap.size wr w') := Lib.hid k1
      clear hT hx hg HX HT HU0 k1
      dsimp only [pt] at *
      go_wp2_with (go_at_call 63; (with_reducible refine K1.out.mono ?_); rintro _ w1 ⟨rfl, hb1⟩; have HB1 := Lib.hid (HB.out.trans (hb1.mono HB.out.size)); have z0 := (hb1.cell zl).trans z0; have z1 := (hb1.cell zl).trans z1; have z2 := (hb1.cell zl).trans z2; have z3 := (hb1.cell zl).trans z3; have q0 := (hb1.frozen zl).trans q0; have q1 := (hb1.frozen zl).trans q1; have q2 := (hb1.frozen zl).trans q2; have q3 := (hb1.frozen zl).trans q3; have x0 := (hb1.cell xl).trans x0; have zl := Nat.lt_of_lt_of_le zl hb1.size; have xl := Nat.lt_of_lt_of_le xl hb1.size; clear hb1)
      refine bodyPost_ret (v := .tuple #[.agg #[.int .u64 0, .int .i64 0, .int .u64 0, .int .i64 0], .bool false]) (by simp [results, Try.results24, go_sem, *]) rfl ⟨rfl, ?_⟩
      have hB := HB1.out
      (repeat' (first | assumption | exact Below.refl _ _ | refine Below.setCell ?_ (by first | (simp; done) | omega | (simp; omega)) _ | refine Below.alloc ?_ (by first | (simp; done) | omega | (simp; omega)) _ | refine Below.drew ?_))
    | node b y l r =>
      have hTT := hT
      unfold NT at hTT
      obtain ⟨hN, hl, hr⟩ := hTT
      have ltb := hN.lt
      obtain ⟨ul, hul⟩ := pt_ptr l
      obtain ⟨ur, hur⟩ := pt_ptr r
      rw [hul, hur] at hN
      have HN := Lib.hid hN
      have HPl := Lib.hid hul
      have HPr := Lib.hid hur
      have HTl := Lib.hid hl
      have HTr := Lib.hid hr
      rw [hgt_node] at hg
      have Hgl := Lib.hid (show hgt l < gk by omega)
      have Hgr := Lib.hid (show hgt r < gk by omega)
      cases hth : thr at' (.node b y l r) with
      | false =>
        have ex : X = none := by rw [← hx]; exact thr_none hth
        subst ex
        rw [hth] at k1
        have K1 : Hid (Calls Try.prog 63 #[.pointer (some ⟨b, 0, none⟩), .pointer (some ⟨w.heap.size, 0, none⟩)] wr fun e w' => e = .returned (.bool false) ∧ Below wr.heap.size wr w') := Lib.hid k1
        clear hT hx hg HX HT HU0 k1 hN hl hr hul hur hth
        dsimp only [pt] at *
        go_wp2_with (go_at_call 63; (with_reducible refine K1.out.mono ?_); rintro _ w1 ⟨rfl, hb1⟩; have HB1 := Lib.hid (HB.out.trans (hb1.mono HB.out.size)); have z0 := (hb1.cell zl).trans z0; have z1 := (hb1.cell zl).trans z1; have z2 := (hb1.cell zl).trans z2; have z3 := (hb1.cell zl).trans z3; have q0 := (hb1.frozen zl).trans q0; have q1 := (hb1.frozen zl).trans q1; have q2 := (hb1.frozen zl).trans q2; have q3 := (hb1.frozen zl).trans q3; have x0 := (hb1.cell xl).trans x0; have zl := Nat.lt_of_lt_of_le zl hb1.size; have xl := Nat.lt_of_lt_of_le xl hb1.size; have c0 := (HB1.out.cell (p := ⟨b, 0, none⟩) ltb).trans HN.out.c0; have c1 := (HB1.out.cell (p := ⟨b, 1, none⟩) ltb).trans HN.out.c1; have c2 := (HB1.out.cell (p := ⟨b, 2, none⟩) ltb).trans HN.out.c2; have c3 := (HB1.out.cell (p := ⟨b, 3, none⟩) ltb).trans HN.out.c3; have c4 := (HB1.out.cell (p := ⟨b, 4, none⟩) ltb).trans HN.out.c4; have c5 := (HB1.out.cell (p := ⟨b, 5, none⟩) ltb).trans HN.out.c5; have blt := Nat.lt_of_lt_of_le ltb HB1.out.size; clear hb1)
        refine bodyPost_ret (v := .tuple #[.agg #[.int .u64 0, .int .i64 0, .int .u64 0, .int .i64 0], .bool false]) (by simp [results, Try.results24, go_sem, *]) rfl ⟨rfl, ?_⟩
        have hB := HB1.out
        (repeat' (first | assumption | exact Below.refl _ _ | refine Below.setCell ?_ (by first | (simp; done) | omega | (simp; omega)) _ | refine Below.alloc ?_ (by first | (simp; done) | omega | (simp; omega)) _ | refine Below.drew ?_))
      | true =>
        rw [hth] at k1
        have K1 : Hid (Calls Try.prog 63 #[.pointer (some ⟨b, 0, none⟩), .pointer (some ⟨w.heap.size, 0, none⟩)] wr fun e w' => e = .returned (.bool true) ∧ Below wr.heap.size wr w') := Lib.hid k1
        have k2 := fun z h1 h2 h3 => thr_c l w.heap.size at' z h1 h2 h3
        simp only [hul] at k2
        cases hthl : thr at' l with
        | true =>
          have HF2 := Lib.hid (show fstL at' (tl l) = X by rw [← hx]; exact (fst_l hthl).symm)
          simp only [hthl] at k2
          have K2 := Lib.hid k2
          clear hT hx hg HX HT HU0 k1 k2 hN hl hr hul hur hth hthl
          dsimp only [pt] at *
          go_wp2_with (go_at_call 63; first | ((with_reducible refine K1.out.mono ?_); rintro _ w1 ⟨rfl, hb1⟩; have HB1 := Lib.hid (HB.out.trans (hb1.mono HB.out.size)); have z0 := (hb1.cell zl).trans z0; have z1 := (hb1.cell zl).trans z1; have z2 := (hb1.cell zl).trans z2; have z3 := (hb1.cell zl).trans z3; have q0 := (hb1.frozen zl).trans q0; have q1 := (hb1.frozen zl).trans q1; have q2 := (hb1.frozen zl).trans q2; have q3 := (hb1.frozen zl).trans q3; have x0 := (hb1.cell xl).trans x0; have zl := Nat.lt_of_lt_of_le zl hb1.size; have xl := Nat.lt_of_lt_of_le xl hb1.size; have c0 := (HB1.out.cell (p := ⟨b, 0, none⟩) ltb).trans HN.out.c0; have c1 := (HB1.out.cell (p := ⟨b, 1, none⟩) ltb).trans HN.out.c1; have c2 := (HB1.out.cell (p := ⟨b, 2, none⟩) ltb).trans HN.out.c2; have c3 := (HB1.out.cell (p := ⟨b, 3, none⟩) ltb).trans HN.out.c3; have c4 := (HB1.out.cell (p := ⟨b, 4, none⟩) ltb).trans HN.out.c4; have c5 := (HB1.out.cell (p := ⟨b, 5, none⟩) ltb).trans HN.out.c5; have blt := Nat.lt_of_lt_of_le ltb HB1.out.size; clear hb1) | ((with_reducible refine (K2.out w1 (NT.below HB1.out HTl.out) x0 xl).mono ?_); rintro _ w2 ⟨rfl, hb2⟩; have HB2 := Lib.hid (HB1.out.trans (hb2.mono HB1.out.size)); have z0 := (hb2.cell zl).trans z0; have z1 := (hb2.cell zl).trans z1; have z2 := (hb2.cell zl).trans z2; have z3 := (hb2.cell zl).trans z3; have q0 := (hb2.frozen zl).trans q0; have q1 := (hb2.frozen zl).trans q1; have q2 := (hb2.frozen zl).trans q2; have q3 := (hb2.frozen zl).trans q3; have x0 := (hb2.cell xl).trans x0; have zl := Nat.lt_of_lt_of_le zl hb2.size; have xl := Nat.lt_of_lt_of_le xl hb2.size; have c0 := (HB2.out.cell (p := ⟨b, 0, none⟩) ltb).trans HN.out.c0; have c1 := (HB2.out.cell (p := ⟨b, 1, none⟩) ltb).trans HN.out.c1; have c2 := (HB2.out.cell (p := ⟨b, 2, none⟩) ltb).trans HN.out.c2; have c3 := (HB2.out.cell (p := ⟨b, 3, none⟩) ltb).trans HN.out.c3; have c4 := (HB2.out.cell (p := ⟨b, 4, none⟩) ltb).trans HN.out.c4; have c5 := (HB2.out.cell (p := ⟨b, 5, none⟩) ltb).trans HN.out.c5; have blt := Nat.lt_of_lt_of_le ltb HB2.out.size; clear hb2))
          go_roundg (hgt l)
          case rel => exact ⟨l, HPl.out.symm, HTl.out, HF2.out, Nat.le_refl _, HB2.out, by first | assumption | (simp [go_sem, *]; done), by first | assumption | (simp [go_sem, *]; done), ⟨by first | assumption | (simp [go_sem, *]; done), by first | assumption | (simp [go_sem, *]; done), by first | assumption | (simp [go_sem, *]; done), by first | assumption | (simp [go_sem, *]; done), by first | assumption | (simp [go_sem, *]; done)⟩, ⟨by first | assumption | (simp [go_sem, *]; done), by first | assumption | (simp [go_sem, *]; done), by first | assumption | (simp [go_sem, *]; done), by first | assumption | (simp [go_sem, *]; done)⟩⟩
          case measure => exact Hgl.out
        | false =>
          simp only [hthl] at k2
          have K2 := Lib.hid k2
          by_cases hya : y.va ≤ at'
          · have ex : X = some y := by rw [← hx]; exact fst_y hthl hya
            subst ex
            clear hT hx hg HX HT HU0 k1 k2 hN hl hr hul hur hth hthl
            dsimp only [pt] at *
            go_wp2_with (go_at_call 63; first | ((with_reducible refine K1.out.mono ?_); rintro _ w1 ⟨rfl, hb1⟩; have HB1 := Lib.hid (HB.out.trans (hb1.mono HB.out.size)); have z0 := (hb1.cell zl).trans z0; have z1 := (hb1.cell zl).trans z1; have z2 := (hb1.cell zl).trans z2; have z3 := (hb1.cell zl).trans z3; have q0 := (hb1.frozen zl).trans q0; have q1 := (hb1.frozen zl).trans q1; have q2 := (hb1.frozen zl).trans q2; have q3 := (hb1.frozen zl).trans q3; have x0 := (hb1.cell xl).trans x0; have zl := Nat.lt_of_lt_of_le zl hb1.size; have xl := Nat.lt_of_lt_of_le xl hb1.size; have c0 := (HB1.out.cell (p := ⟨b, 0, none⟩) ltb).trans HN.out.c0; have c1 := (HB1.out.cell (p := ⟨b, 1, none⟩) ltb).trans HN.out.c1; have c2 := (HB1.out.cell (p := ⟨b, 2, none⟩) ltb).trans HN.out.c2; have c3 := (HB1.out.cell (p := ⟨b, 3, none⟩) ltb).trans HN.out.c3; have c4 := (HB1.out.cell (p := ⟨b, 4, none⟩) ltb).trans HN.out.c4; have c5 := (HB1.out.cell (p := ⟨b, 5, none⟩) ltb).trans HN.out.c5; have blt := Nat.lt_of_lt_of_le ltb HB1.out.size; clear hb1) | ((with_reducible refine (K2.out w1 (NT.below HB1.out HTl.out) x0 xl).mono ?_); rintro _ w2 ⟨rfl, hb2⟩; have HB2 := Lib.hid (HB1.out.trans (hb2.mono HB1.out.size)); have z0 := (hb2.cell zl).trans z0; have z1 := (hb2.cell zl).trans z1; have z2 := (hb2.cell zl).trans z2; have z3 := (hb2.cell zl).trans z3; have q0 := (hb2.frozen zl).trans q0; have q1 := (hb2.frozen zl).trans q1; have q2 := (hb2.frozen zl).trans q2; have q3 := (hb2.frozen zl).trans q3; have x0 := (hb2.cell xl).trans x0; have zl := Nat.lt_of_lt_of_le zl hb2.size; have xl := Nat.lt_of_lt_of_le xl hb2.size; have c0 := (HB2.out.cell (p := ⟨b, 0, none⟩) ltb).trans HN.out.c0; have c1 := (HB2.out.cell (p := ⟨b, 1, none⟩) ltb).trans HN.out.c1; have c2 := (HB2.out.cell (p := ⟨b, 2, none⟩) ltb).trans HN.out.c2; have c3 := (HB2.out.cell (p := ⟨b, 3, none⟩) ltb).trans HN.out.c3; have c4 := (HB2.out.cell (p := ⟨b, 4, none⟩) ltb).trans HN.out.c4; have c5 := (HB2.out.cell (p := ⟨b, 5, none⟩) ltb).trans HN.out.c5; have blt := Nat.lt_of_lt_of_le ltb HB2.out.size; clear hb2))
            obtain ⟨Cl, hCl⟩ : ∃ Cl : List Value → World → Prop, Cl = ((fun ps wz => wz.cell? ⟨b, 0, none⟩ = some (.int .u64 y.ka) ∧ wz.cell? ⟨b, 1, none⟩ = some (.int .i64 y.ki) ∧ wz.cell? ⟨b, 2, none⟩ = some (.int .u64 y.va) ∧ wz.cell? ⟨b, 3, none⟩ = some (.int .i64 y.vi) ∧ wz.cell? ⟨b, 5, none⟩ = some (.pointer ur) ∧ b < wz.heap.size ∧ wz.cell? ⟨w.heap.size, 0, none⟩ = some (.int .u64 at') ∧ w.heap.size < wz.heap.size ∧ (wz.cell? ⟨w.heap.size + 1, 0, none⟩ = some (.int .u64 ((⟨0, 0, 0, 0⟩ : It)).ka) ∧ wz.cell? ⟨w.heap.size + 1, 1, none⟩ = some (.int .i64 ((⟨0, 0, 0, 0⟩ : It)).ki) ∧ wz.cell? ⟨w.heap.size + 1, 2, none⟩ = some (.int .u64 ((⟨0, 0, 0, 0⟩ : It)).va) ∧ wz.cell? ⟨w.heap.size + 1, 3, none⟩ = some (.int .i64 ((⟨0, 0, 0, 0⟩ : It)).vi) ∧ w.heap.size + 1 < wz.heap.size) ∧ (wz.frozen? ⟨w.heap.size + 1, 0, none⟩ = false ∧ wz.frozen? ⟨w.heap.size + 1, 1, none⟩ = false ∧ wz.frozen? ⟨w.heap.size + 1, 2, none⟩ = false ∧ wz.frozen? ⟨w.heap.size + 1, 3, none⟩ = false) ∧ Below w2.heap.size w2 wz)) := ⟨_, rfl⟩; have HCl := Lib.hid hCl; clear hCl; refine wp_region_eff [] Cl (by kernel_rfl) (by kernel_rfl) (by rw [HCl.out]; (try simp only [List.nil_append, List.cons_append]); (try dsimp only); ((repeat' apply And.intro) <;> first | (simp [go_sem, *]; done) | omega | (repeat' (first | with_reducible exact Below.refl _ _ | with_reducible assumption | ((with_reducible refine Below.drew ?_)) | ((with_reducible refine below_drewN ?_ _)) | ((with_reducible refine Below.alloc ?_ ?_ _); rotate_left; focus (first | omega | (simp; done) | (simp; omega))) | ((with_reducible refine Below.setCell ?_ ?_ _); rotate_left; focus (first | omega | (simp; done) | (simp; omega))) | ((with_reducible refine Below.trans ?_ (Below.mono (by with_reducible assumption) ?_)); rotate_left; focus (first | omega | (simp; done) | (simp; omega))))))) ?_
            (repeat (first | (refine wE_skip (by rfl) ?_; simp only [Act.put, Nat.reduceAdd, List.setIfInBounds_toArray, List.set_cons_zero, List.set_cons_succ, List.nil_append, List.cons_append]) | (refine wE_open (by rfl) (by rfl) ?_; apply Exists.intro; refine ⟨fun vs wq hw => ?_, ?_⟩; (focus (rw [HCl.out] at hw; (try simp only [List.nil_append, List.cons_append] at hw); (try dsimp only at hw); go_split_ands; go_simp <;> first | with_reducible exact (rfl : Value.bool false = _) | with_reducible exact (rfl : Value.bool true = _) | ((try go_bits) <;> exact rfl))); simp only [Act.put, Nat.reduceAdd, List.setIfInBounds_toArray, List.set_cons_zero, List.set_cons_succ, List.nil_append, List.cons_append]) | (refine wE_seal (by rfl) (by rfl) (by kernel_rfl) ?_; apply Exists.intro; refine ⟨fun wq hw => ?_, ?_⟩; (focus (rw [HCl.out] at hw; (try simp only [List.nil_append, List.cons_append] at hw); (try dsimp only at hw); go_split_ands; go_simp <;> (try go_bits) <;> exact rfl)); simp only [Act.put, Nat.reduceAdd, List.setIfInBounds_toArray, List.set_cons_zero, List.set_cons_succ, List.nil_append, List.cons_append]) | (refine wE_seal (by rfl) (by rfl) (by kernel_rfl) ?_; apply Exists.intro; refine ⟨fun wq hw => ?_, ?_⟩; (focus (rw [HCl.out] at hw; (try simp only [List.nil_append, List.cons_append] at hw); (try dsimp only at hw); go_split_ands; go_simp; fail)); simp only [Act.put, Nat.reduceAdd, List.setIfInBounds_toArray, List.set_cons_zero, List.set_cons_succ, List.nil_append, List.cons_append]) | (refine wE_eff (by rfl) (by rfl) (fun wq hw => ?_) (fun u hu => ?_); (focus (rw [HCl.out] at hw; (try simp only [List.nil_append, List.cons_append] at hw); (try dsimp only at hw); go_split_ands; go_simp; rw [HCl.out]; (try simp only [List.nil_append, List.cons_append]); (try dsimp only); fail; ((repeat' apply And.intro) <;> first | (simp [go_sem, *]; done) | omega | (repeat' (first | with_reducible exact Below.refl _ _ | with_reducible assumption | ((with_reducible refine Below.drew ?_)) | ((with_reducible refine below_drewN ?_ _)) | ((with_reducible refine Below.alloc ?_ ?_ _); rotate_left; focus (first | omega | (simp; done) | (simp; omega))) | ((with_reducible refine Below.setCell ?_ ?_ _); rotate_left; focus (first | omega | (simp; done) | (simp; omega))) | ((with_reducible refine Below.trans ?_ (Below.mono (by with_reducible assumption) ?_)); rotate_left; focus (first | omega | (simp; done) | (simp; omega)))))))); clear hu; simp only [Act.put, Nat.reduceAdd, List.setIfInBounds_toArray, List.set_cons_zero, List.set_cons_succ, List.nil_append, List.cons_append])))
            refine wE_nil ?_; intro w' hw; rw [HCl.out] at hw; (try simp only [List.nil_append, List.cons_append] at hw); (try dsimp only at hw); clear HCl
            go_split_ands
            rename Below w2.heap.size w2 _ => hbq
            rename World => w3
            have HB3 := Lib.hid (HB2.out.trans (hbq.mono HB2.out.size))
            clear hbq
            go_wp2
            refine bodyPost_ret (v := .tuple #[.agg #[.int .u64 (y).ka, .int .i64 (y).ki, .int .u64 (y).va, .int .i64 (y).vi], .bool true]) (by simp [results, Try.results24, go_sem, *]) rfl ⟨rfl, ?_⟩
            have hB := HB3.out
            (repeat' (first | assumption | exact Below.refl _ _ | refine Below.setCell ?_ (by first | (simp; done) | omega | (simp; omega)) _ | refine Below.alloc ?_ (by first | (simp; done) | omega | (simp; omega)) _ | refine Below.drew ?_))
          · have HF2 := Lib.hid (show fstL at' (tl r) = X by rw [← hx]; exact (fst_r hthl hya).symm)
            clear hT hx hg HX HT HU0 k1 k2 hN hl hr hul hur hth hthl
            dsimp only [pt] at *
            go_wp2_with (go_at_call 63; first | ((with_reducible refine K1.out.mono ?_); rintro _ w1 ⟨rfl, hb1⟩; have HB1 := Lib.hid (HB.out.trans (hb1.mono HB.out.size)); have z0 := (hb1.cell zl).trans z0; have z1 := (hb1.cell zl).trans z1; have z2 := (hb1.cell zl).trans z2; have z3 := (hb1.cell zl).trans z3; have q0 := (hb1.frozen zl).trans q0; have q1 := (hb1.frozen zl).trans q1; have q2 := (hb1.frozen zl).trans q2; have q3 := (hb1.frozen zl).trans q3; have x0 := (hb1.cell xl).trans x0; have zl := Nat.lt_of_lt_of_le zl hb1.size; have xl := Nat.lt_of_lt_of_le xl hb1.size; have c0 := (HB1.out.cell (p := ⟨b, 0, none⟩) ltb).trans HN.out.c0; have c1 := (HB1.out.cell (p := ⟨b, 1, none⟩) ltb).trans HN.out.c1; have c2 := (HB1.out.cell (p := ⟨b, 2, none⟩) ltb).trans HN.out.c2; have c3 := (HB1.out.cell (p := ⟨b, 3, none⟩) ltb).trans HN.out.c3; have c4 := (HB1.out.cell (p := ⟨b, 4, none⟩) ltb).trans HN.out.c4; have c5 := (HB1.out.cell (p := ⟨b, 5, none⟩) ltb).trans HN.out.c5; have blt := Nat.lt_of_lt_of_le ltb HB1.out.size; clear hb1) | ((with_reducible refine (K2.out w1 (NT.below HB1.out HTl.out) x0 xl).mono ?_); rintro _ w2 ⟨rfl, hb2⟩; have HB2 := Lib.hid (HB1.out.trans (hb2.mono HB1.out.size)); have z0 := (hb2.cell zl).trans z0; have z1 := (hb2.cell zl).trans z1; have z2 := (hb2.cell zl).trans z2; have z3 := (hb2.cell zl).trans z3; have q0 := (hb2.frozen zl).trans q0; have q1 := (hb2.frozen zl).trans q1; have q2 := (hb2.frozen zl).trans q2; have q3 := (hb2.frozen zl).trans q3; have x0 := (hb2.cell xl).trans x0; have zl := Nat.lt_of_lt_of_le zl hb2.size; have xl := Nat.lt_of_lt_of_le xl hb2.size; have c0 := (HB2.out.cell (p := ⟨b, 0, none⟩) ltb).trans HN.out.c0; have c1 := (HB2.out.cell (p := ⟨b, 1, none⟩) ltb).trans HN.out.c1; have c2 := (HB2.out.cell (p := ⟨b, 2, none⟩) ltb).trans HN.out.c2; have c3 := (HB2.out.cell (p := ⟨b, 3, none⟩) ltb).trans HN.out.c3; have c4 := (HB2.out.cell (p := ⟨b, 4, none⟩) ltb).trans HN.out.c4; have c5 := (HB2.out.cell (p := ⟨b, 5, none⟩) ltb).trans HN.out.c5; have blt := Nat.lt_of_lt_of_le ltb HB2.out.size; clear hb2))
            obtain ⟨Cl, hCl⟩ : ∃ Cl : List Value → World → Prop, Cl = ((fun ps wz => wz.cell? ⟨b, 0, none⟩ = some (.int .u64 y.ka) ∧ wz.cell? ⟨b, 1, none⟩ = some (.int .i64 y.ki) ∧ wz.cell? ⟨b, 2, none⟩ = some (.int .u64 y.va) ∧ wz.cell? ⟨b, 3, none⟩ = some (.int .i64 y.vi) ∧ wz.cell? ⟨b, 5, none⟩ = some (.pointer ur) ∧ b < wz.heap.size ∧ wz.cell? ⟨w.heap.size, 0, none⟩ = some (.int .u64 at') ∧ w.heap.size < wz.heap.size ∧ (wz.cell? ⟨w.heap.size + 1, 0, none⟩ = some (.int .u64 ((⟨0, 0, 0, 0⟩ : It)).ka) ∧ wz.cell? ⟨w.heap.size + 1, 1, none⟩ = some (.int .i64 ((⟨0, 0, 0, 0⟩ : It)).ki) ∧ wz.cell? ⟨w.heap.size + 1, 2, none⟩ = some (.int .u64 ((⟨0, 0, 0, 0⟩ : It)).va) ∧ wz.cell? ⟨w.heap.size + 1, 3, none⟩ = some (.int .i64 ((⟨0, 0, 0, 0⟩ : It)).vi) ∧ w.heap.size + 1 < wz.heap.size) ∧ (wz.frozen? ⟨w.heap.size + 1, 0, none⟩ = false ∧ wz.frozen? ⟨w.heap.size + 1, 1, none⟩ = false ∧ wz.frozen? ⟨w.heap.size + 1, 2, none⟩ = false ∧ wz.frozen? ⟨w.heap.size + 1, 3, none⟩ = false) ∧ Below w2.heap.size w2 wz)) := ⟨_, rfl⟩; have HCl := Lib.hid hCl; clear hCl; refine wp_region_eff [] Cl (by kernel_rfl) (by kernel_rfl) (by rw [HCl.out]; (try simp only [List.nil_append, List.cons_append]); (try dsimp only); ((repeat' apply And.intro) <;> first | (simp [go_sem, *]; done) | omega | (repeat' (first | with_reducible exact Below.refl _ _ | with_reducible assumption | ((with_reducible refine Below.drew ?_)) | ((with_reducible refine below_drewN ?_ _)) | ((with_reducible refine Below.alloc ?_ ?_ _); rotate_left; focus (first | omega | (simp; done) | (simp; omega))) | ((with_reducible refine Below.setCell ?_ ?_ _); rotate_left; focus (first | omega | (simp; done) | (simp; omega))) | ((with_reducible refine Below.trans ?_ (Below.mono (by with_reducible assumption) ?_)); rotate_left; focus (first | omega | (simp; done) | (simp; omega))))))) ?_
            (repeat (first | (refine wE_skip (by rfl) ?_; simp only [Act.put, Nat.reduceAdd, List.setIfInBounds_toArray, List.set_cons_zero, List.set_cons_succ, List.nil_append, List.cons_append]) | (refine wE_open (by rfl) (by rfl) ?_; apply Exists.intro; refine ⟨fun vs wq hw => ?_, ?_⟩; (focus (rw [HCl.out] at hw; (try simp only [List.nil_append, List.cons_append] at hw); (try dsimp only at hw); go_split_ands; go_simp <;> first | with_reducible exact (rfl : Value.bool false = _) | with_reducible exact (rfl : Value.bool true = _) | ((try go_bits) <;> exact rfl))); simp only [Act.put, Nat.reduceAdd, List.setIfInBounds_toArray, List.set_cons_zero, List.set_cons_succ, List.nil_append, List.cons_append]) | (refine wE_seal (by rfl) (by rfl) (by kernel_rfl) ?_; apply Exists.intro; refine ⟨fun wq hw => ?_, ?_⟩; (focus (rw [HCl.out] at hw; (try simp only [List.nil_append, List.cons_append] at hw); (try dsimp only at hw); go_split_ands; go_simp <;> (try go_bits) <;> exact rfl)); simp only [Act.put, Nat.reduceAdd, List.setIfInBounds_toArray, List.set_cons_zero, List.set_cons_succ, List.nil_append, List.cons_append]) | (refine wE_seal (by rfl) (by rfl) (by kernel_rfl) ?_; apply Exists.intro; refine ⟨fun wq hw => ?_, ?_⟩; (focus (rw [HCl.out] at hw; (try simp only [List.nil_append, List.cons_append] at hw); (try dsimp only at hw); go_split_ands; go_simp; fail)); simp only [Act.put, Nat.reduceAdd, List.setIfInBounds_toArray, List.set_cons_zero, List.set_cons_succ, List.nil_append, List.cons_append]) | (refine wE_eff (by rfl) (by rfl) (fun wq hw => ?_) (fun u hu => ?_); (focus (rw [HCl.out] at hw; (try simp only [List.nil_append, List.cons_append] at hw); (try dsimp only at hw); go_split_ands; go_simp; rw [HCl.out]; (try simp only [List.nil_append, List.cons_append]); (try dsimp only); fail; ((repeat' apply And.intro) <;> first | (simp [go_sem, *]; done) | omega | (repeat' (first | with_reducible exact Below.refl _ _ | with_reducible assumption | ((with_reducible refine Below.drew ?_)) | ((with_reducible refine below_drewN ?_ _)) | ((with_reducible refine Below.alloc ?_ ?_ _); rotate_left; focus (first | omega | (simp; done) | (simp; omega))) | ((with_reducible refine Below.setCell ?_ ?_ _); rotate_left; focus (first | omega | (simp; done) | (simp; omega))) | ((with_reducible refine Below.trans ?_ (Below.mono (by with_reducible assumption) ?_)); rotate_left; focus (first | omega | (simp; done) | (simp; omega)))))))); clear hu; simp only [Act.put, Nat.reduceAdd, List.setIfInBounds_toArray, List.set_cons_zero, List.set_cons_succ, List.nil_append, List.cons_append])))
            refine wE_nil ?_; intro w' hw; rw [HCl.out] at hw; (try simp only [List.nil_append, List.cons_append] at hw); (try dsimp only at hw); clear HCl
            go_split_ands
            rename Below w2.heap.size w2 _ => hbq
            rename World => w3
            have HB3 := Lib.hid (HB2.out.trans (hbq.mono HB2.out.size))
            clear hbq
            go_wp2
            go_roundg (hgt r)
            case rel => exact ⟨r, HPr.out.symm, HTr.out, HF2.out, Nat.le_refl _, HB3.out, by first | assumption | (simp [go_sem, *]; done), by first | assumption | (simp [go_sem, *]; done), ⟨by first | assumption | (simp [go_sem, *]; done), by first | assumption | (simp [go_sem, *]; done), by first | assumption | (simp [go_sem, *]; done), by first | assumption | (simp [go_sem, *]; done), by first | assumption | (simp [go_sem, *]; done)⟩, ⟨by first | assumption | (simp [go_sem, *]; done), by first | assumption | (simp [go_sem, *]; done), by first | assumption | (simp [go_sem, *]; done), by first | assumption | (simp [go_sem, *]; done)⟩⟩
            case measure => exact Hgr.out
end Go.Proofs.Ytikmdkmejbcmmaa
