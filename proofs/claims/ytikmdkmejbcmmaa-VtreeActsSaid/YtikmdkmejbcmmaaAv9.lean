/- cut. -/
import Derived.Test.YtikmdkmejbcmmaaAv8
namespace Go.Proofs.Ytikmdkmejbcmmaa
set_option linter.unusedVariables false
set_option linter.unusedSimpArgs false
set_option maxRecDepth 100000
open Go.RowKit Fg Reg
attribute [local irreducible] Reg.wE NT PB

theorem NC.setI {z : World} {b : Nat} {x m : It} {vl vr : Value} {h : Int} (H : NC z b x vl vr h m) (q : It) :
    NC ((((z.setCell ⟨b, 0, none⟩ (.int .u64 q.ka)).setCell ⟨b, 1, none⟩ (.int .i64 q.ki)).setCell ⟨b, 2, none⟩ (.int .u64 q.va)).setCell ⟨b, 3, none⟩ (.int .i64 q.vi)) b q vl vr h m := by
  obtain ⟨c0, c1, c2, c3, c4, c5, c6, c7, c8, c9, c10, fz, lt⟩ := H
  exact ⟨by simp [go_sem, *], by simp [go_sem, *], by simp [go_sem, *], by simp [go_sem, *], by simp [go_sem, *], by simp [go_sem, *], by simp [go_sem, *], by simp [go_sem, *], by simp [go_sem, *], by simp [go_sem, *], by simp [go_sem, *], fun j => by simp [go_sem, *], by simpa [go_sem] using lt⟩
theorem pt_some {t : Tr} (h : isN t = false) : ∃ b, pt t = .pointer (some ⟨b, 0, none⟩) := by
  cases t with
  | nil => simp [isN] at h
  | node b x l r => exact ⟨b, rfl⟩
theorem PB.drew {w z : World} {b : Nat} {y : It} {vl vr : Value} {H : Int} {M : It} {t1 t2 : Tr} {S : Nat → Prop} (h : PB w z b y vl vr H M t1 t2 S) : PB w z.drew b y vl vr H M t1 t2 S := by
  obtain ⟨p1, p2, p3, p4⟩ := PB.out h
  exact PB.mk (p1.below (Below.drew (Below.refl _ _))) (NT.below (Below.drew (Below.refl _ _)) p2) (NT.below (Below.drew (Below.refl _ _)) p3) p4.drew
theorem key_left {k y : It} {b : Nat} {l r : Tr} (hs : SS (tl (.node b y l r))) (hq : ∃ z ∈ tl (.node b y l r), ke z k = true) (h : kl k y = true) : ∃ z ∈ tl l, ke z k = true := by
  obtain ⟨q, hq, hqk⟩ := hq
  obtain ⟨s1, s2, s3, s4, s5⟩ := ss_parts (show SS (tl l ++ y :: tl r) from hs)
  rcases (show q ∈ tl l ∨ q = y ∨ q ∈ tl r by simpa [tl] using hq) with g | g | g
  · exact ⟨q, g, hqk⟩
  · subst g; rw [(kl_nke h).2] at hqk; exact absurd hqk (by simp)
  · have g2 := kl_trans h (s4 q g)
    rw [(kl_nke g2).2] at hqk; exact absurd hqk (by simp)
theorem key_right {k y : It} {b : Nat} {l r : Tr} (hs : SS (tl (.node b y l r))) (hq : ∃ z ∈ tl (.node b y l r), ke z k = true) (h : kl y k = true) : ∃ z ∈ tl r, ke z k = true := by
  obtain ⟨q, hq, hqk⟩ := hq
  obtain ⟨s1, s2, s3, s4, s5⟩ := ss_parts (show SS (tl l ++ y :: tl r) from hs)
  rcases (show q ∈ tl l ∨ q = y ∨ q ∈ tl r by simpa [tl] using hq) with g | g | g
  · have g2 := kl_trans (s3 q g) h
    rw [(kl_nke g2).1] at hqk; exact absurd hqk (by simp)
  · subst g; rw [(kl_nke h).1] at hqk; exact absurd hqk (by simp)
  · exact ⟨q, g, hqk⟩
theorem cnt_mem {a b : List Nat} (h : ∀ j, a.count j ≤ b.count j) (j : Nat) (hj : j ∈ a) : j ∈ b := by
  have := List.count_pos_iff.2 hj
  exact List.count_pos_iff.1 (Nat.lt_of_lt_of_le this (h j))
theorem cnt_nodup_left (b : Nat) {y : It} {l l' r : Tr} (h : ∀ j, (fp l').count j ≤ (fp l).count j) (hn : (fp (.node b y l r)).Nodup) : (b :: (fp l' ++ fp r)).Nodup := by
  rw [List.nodup_iff_count] at *
  intro j
  have h1 := hn j
  have h2 := h j
  simp only [fp, List.count_cons, List.count_append] at *
  omega
theorem cnt_nodup_right (b : Nat) {y : It} {l r r' : Tr} (h : ∀ j, (fp r').count j ≤ (fp r).count j) (hn : (fp (.node b y l r)).Nodup) : (b :: (fp l ++ fp r')).Nodup := by
  rw [List.nodup_iff_count] at *
  intro j
  have h1 := hn j
  have h2 := h j
  simp only [fp, List.count_cons, List.count_append] at *
  omega
theorem kcmp_lt {k y : It} (h : kl k y = true) : kcmp k.ka k.ki y.ka y.ki = -1 := by
  have := kcmp_kl k y
  rw [h] at this
  have := of_decide_eq_true this
  unfold kcmp at *
  split at this
  · omega
  · split at this <;> first | omega | (rename_i h1 h2; rw [if_neg h1, if_pos h2])
theorem kcmp_gt {k y : It} (h : kl y k = true) : kcmp k.ka k.ki y.ka y.ki = 1 := by
  unfold kl at h
  have := of_decide_eq_true h
  unfold kcmp
  split
  · omega
  · split
    · omega
    · rfl
theorem kcmp_eq {k y : It} (h : kl k y = false) (h2 : kl y k = false) : kcmp k.ka k.ki y.ka y.ki = 0 := by
  unfold kl at h h2
  have := of_decide_eq_false h
  have := of_decide_eq_false h2
  unfold kcmp
  split
  · rfl
  · first | omega | (split <;> omega)
set_option maxHeartbeats 4000000 in
theorem cut_c : ∀ (t : Tr) (k : It) (w : World), NT w t → (fp t).Nodup → bal t → SS (tl t) → hgt t ≤ 800 → (∃ z ∈ tl t, ke z k = true) →
    Calls Try.prog 54 #[pt t, .agg #[.int .u64 (k).ka, .int .i64 (k).ki]] w fun e w' => e = .returned (pt (cutT k t)) ∧ NT w' (cutT k t) ∧ Only (fun j => j ∈ fp t) w w' := by
  intro t
  induction t with
  | nil =>
    intro k w hT hnd0 hbt hst hgt0 hkey
    obtain ⟨z, hz, -⟩ := hkey
    simp [tl] at hz
  | node b y l r ihl ihr =>
    intro k w hT hnd0 hbt hst hgt0 hkey
    have hTT := hT
    unfold NT at hTT
    obtain ⟨hN, hl, hr⟩ := hTT
    have hnd := hnd0
    simp only [fp, List.nodup_cons, List.mem_append, not_or, List.nodup_append] at hnd
    obtain ⟨⟨hbln, hbrn⟩, hndl, hndr, hdj⟩ := hnd
    have hdisj : ∀ k, k ∈ fp l → k ∈ fp r → False := fun k h1 h2 => hdj k h1 k h2 rfl
    obtain ⟨-, -, hbl, hbr⟩ := hbt
    obtain ⟨hsl, hsr, -, -, -⟩ := ss_parts (show SS (tl l ++ y :: tl r) from hst)
    rw [hgt_node] at hgt0
    have ltb := hN.lt
    obtain ⟨H, hH⟩ : ∃ H : Int, ((hgt (.node b y l r) : Nat) : Int) = H := ⟨_, rfl⟩
    obtain ⟨M, hM⟩ : ∃ M, bst (.node b y l r) = M := ⟨_, rfl⟩
    rw [hH, hM] at hN
    clear hH hM
    obtain ⟨ul, hul⟩ := pt_ptr l
    obtain ⟨ur, hur⟩ := pt_ptr r
    rw [hul, hur] at hN
    have HN := Lib.hid hN
    have c0 := hN.c0
    have c1 := hN.c1
    have kc := fun z => kcmp_c k.ka k.ki y.ka y.ki z
    clear hN
    show Calls Try.prog 54 #[.pointer (some ⟨b, 0, none⟩), .agg #[.int .u64 (k).ka, .int .i64 (k).ki]] w _
    cases hkl : kl k y with
    | true =>
      rw [kcmp_lt hkl] at kc
      have KC := Lib.hid kc
      have HU1 := Lib.hid hul
      have HU2 := Lib.hid hur
      have kp := ihl k
      have hky := key_left hst hkey hkl
      have hpa := cutT_all k l hbl hsl hky
      have hcm := cnt_mem hpa.2.2.2.1
      have HCN := Lib.hid hpa.2.2.2.1
      have HCH := Lib.hid hpa.2.1
      clear hpa
      clear ihl ihr kc hkey
      go_enter Try.func54, Try.ntmps54
      go_wp2
      obtain ⟨Cl, hCl⟩ : ∃ Cl : List Value → World → Prop, Cl = ((fun ps wz => (wz.cell? ⟨w.heap.size, 0, none⟩ = some (.int .u64 (k).ka) ∧ wz.cell? ⟨w.heap.size, 1, none⟩ = some (.int .i64 (k).ki) ∧ w.heap.size < wz.heap.size) ∧ wz.cell? ⟨b, 0, none⟩ = some (.int .u64 y.ka) ∧ wz.cell? ⟨b, 1, none⟩ = some (.int .i64 y.ki) ∧ b < wz.heap.size ∧ b < w.heap.size ∧ w.heap.size ≤ wz.heap.size ∧ Below w.heap.size w wz)) := ⟨_, rfl⟩; have HCl := Lib.hid hCl; clear hCl; refine wp_region_eff [] Cl (by kernel_rfl) (by kernel_rfl) (by rw [HCl.out]; (try simp only [List.nil_append, List.cons_append]); (try dsimp only); ((repeat' apply And.intro) <;> first | (simp [go_sem, *]; done) | omega | (repeat' (first | with_reducible exact Below.refl _ _ | with_reducible assumption | ((with_reducible refine Below.drew ?_)) | ((with_reducible refine below_drewN ?_ _)) | ((with_reducible refine Below.alloc ?_ ?_ _); rotate_left; focus (first | omega | (simp; done) | (simp; omega))) | ((with_reducible refine Below.setCell ?_ ?_ _); rotate_left; focus (first | omega | (simp; done) | (simp; omega))) | ((with_reducible refine Below.trans ?_ (Below.mono (by with_reducible assumption) ?_)); rotate_left; focus (first | omega | (simp; done) | (simp; omega))))))) ?_
      (repeat (first | (refine wE_skip (by rfl) ?_; simp only [Act.put, Nat.reduceAdd, List.setIfInBounds_toArray, List.set_cons_zero, List.set_cons_succ, List.nil_append, List.cons_append]) | (refine wE_open (by rfl) (by rfl) ?_; apply Exists.intro; refine ⟨fun vs wq hw => ?_, ?_⟩; (focus (rw [HCl.out] at hw; (try simp only [List.nil_append, List.cons_append] at hw); (try dsimp only at hw); go_split_ands; go_simp <;> first | with_reducible exact (rfl : Value.bool false = _) | with_reducible exact (rfl : Value.bool true = _) | ((try go_bits) <;> exact rfl))); simp only [Act.put, Nat.reduceAdd, List.setIfInBounds_toArray, List.set_cons_zero, List.set_cons_succ, List.nil_append, List.cons_append]) | (refine wE_seal (by rfl) (by rfl) (by kernel_rfl) ?_; apply Exists.intro; refine ⟨fun wq hw => ?_, ?_⟩; (focus (rw [HCl.out] at hw; (try simp only [List.nil_append, List.cons_append] at hw); (try dsimp only at hw); go_split_ands; go_simp <;> (try go_bits) <;> exact rfl)); simp only [Act.put, Nat.reduceAdd, List.setIfInBounds_toArray, List.set_cons_zero, List.set_cons_succ, List.nil_append, List.cons_append]) | (refine wE_seal (by rfl) (by rfl) (by kernel_rfl) ?_; apply Exists.intro; refine ⟨fun wq hw => ?_, ?_⟩; (focus (rw [HCl.out] at hw; (try simp only [List.nil_append, List.cons_append] at hw); (try dsimp only at hw); go_split_ands; go_simp; (go_at_call 66; ((with_reducible refine (KC.out _).mono ?_); rintro e w' ⟨rfl, hbel⟩; obtain ⟨hcc, hff⟩ := bcell hbel; have hsz := hbel.size; (try simp at hsz); refine ⟨rfl, ?_⟩; rw [HCl.out]; (try simp only [List.nil_append, List.cons_append]); (try dsimp only); ((repeat' apply And.intro) <;> first | (simp [go_sem, *]; done) | omega | (repeat' (first | with_reducible exact Below.refl _ _ | with_reducible assumption | ((with_reducible refine Below.drew ?_)) | ((with_reducible refine below_drewN ?_ _)) | ((with_reducible refine Below.alloc ?_ ?_ _); rotate_left; focus (first | omega | (simp; done) | (simp; omega))) | ((with_reducible refine Below.setCell ?_ ?_ _); rotate_left; focus (first | omega | (simp; done) | (simp; omega))) | ((with_reducible refine Below.trans ?_ (Below.mono (by with_reducible assumption) ?_)); rotate_left; focus (first | omega | (simp; done) | (simp; omega)))))))))); simp only [Act.put, Nat.reduceAdd, List.setIfInBounds_toArray, List.set_cons_zero, List.set_cons_succ, List.nil_append, List.cons_append]) | (refine wE_eff (by rfl) (by rfl) (fun wq hw => ?_) (fun u hu => ?_); (focus (rw [HCl.out] at hw; (try simp only [List.nil_append, List.cons_append] at hw); (try dsimp only at hw); go_split_ands; go_simp; rw [HCl.out]; (try simp only [List.nil_append, List.cons_append]); (try dsimp only); fail; ((repeat' apply And.intro) <;> first | (simp [go_sem, *]; done) | omega | (repeat' (first | with_reducible exact Below.refl _ _ | with_reducible assumption | ((with_reducible refine Below.drew ?_)) | ((with_reducible refine below_drewN ?_ _)) | ((with_reducible refine Below.alloc ?_ ?_ _); rotate_left; focus (first | omega | (simp; done) | (simp; omega))) | ((with_reducible refine Below.setCell ?_ ?_ _); rotate_left; focus (first | omega | (simp; done) | (simp; omega))) | ((with_reducible refine Below.trans ?_ (Below.mono (by with_reducible assumption) ?_)); rotate_left; focus (first | omega | (simp; done) | (simp; omega)))))))); clear hu; simp only [Act.put, Nat.reduceAdd, List.setIfInBounds_toArray, List.set_cons_zero, List.set_cons_succ, List.nil_append, List.cons_append])))
      refine wE_nil ?_; intro w' hw; rw [HCl.out] at hw; (try simp only [List.nil_append, List.cons_append] at hw); (try dsimp only at hw); clear HCl
      go_split_ands
      rename Below w.heap.size w _ => hbq
      rename World => w1
      go_wp2
      have hN1 := HN.out.below hbq
      have hl1 := NT.below hbq hl
      have hr1 := NT.below hbq hr
      obtain ⟨Cl, hCl⟩ : ∃ Cl : List (Nat × Value) → World → Prop, Cl = ((fun ps wz => (wz.cell? ⟨w.heap.size, 0, none⟩ = some (.int .u64 (k).ka) ∧ wz.cell? ⟨w.heap.size, 1, none⟩ = some (.int .i64 (k).ki) ∧ w.heap.size < wz.heap.size) ∧ wz.frozen? ⟨b, 4, none⟩ = false ∧ b < wz.heap.size ∧ (match ps with
          | [] => wz.cell? ⟨b, 4, none⟩ = some (.pointer ul) ∧ PB w wz b y (.pointer ul) (.pointer ur) H M l r (fun k => k ∈ fp (.node b y l r))
          | [(_, u4)] => u4 = .pointer ul ∧ wz.cell? ⟨b, 4, none⟩ = some (.pointer ul) ∧ PB w wz b y (.pointer ul) (.pointer ur) H M l r (fun k => k ∈ fp (.node b y l r))
          | [_, (_, v)] => ∃ uv, v = .pointer uv ∧ pt (cutT k l) = .pointer uv ∧ wz.cell? ⟨b, 4, none⟩ = some (.pointer ul) ∧ PB w wz b y (.pointer ul) (.pointer ur) H M (cutT k l) r (fun k => k ∈ fp (.node b y l r))
          | _ => ∃ uv, pt (cutT k l) = .pointer uv ∧ PB w wz b y (pt (cutT k l)) (.pointer ur) H M (cutT k l) r (fun k => k ∈ fp (.node b y l r))))) := ⟨_, rfl⟩; have HCl := Lib.hid hCl; clear hCl; refine Reg2.wp_region_lineS [(0, false), (1, false), (2, false), (3, false), (5, false), (4, false), (6, false), (7, false), (8, false), (9, false)] [4, 6, 9] Cl (by kernel_rfl) (by kernel_rfl) (by kernel_rfl) (by rw [HCl.out]; (try simp only [List.nil_append, List.cons_append]); (try dsimp only); exact ⟨⟨by simp [go_sem, *], by simp [go_sem, *], by simpa [go_sem] using (show w.heap.size < w1.heap.size by assumption)⟩, by simpa [go_sem] using hN1.fz 4, by simpa [go_sem] using hN1.lt, by simpa [go_sem] using hN1.c4, PB.mk (hN1.below (Below.drew (Below.refl _ _))) (NT.below (Below.drew (Below.refl _ _)) hl1) (NT.below (Below.drew (Below.refl _ _)) hr1) (Only.of_below hbq).drew⟩) ?_
      (repeat (first | (refine Reg2.wS_skip (by (simp only [List.getElem?_toArray, List.getElem?_cons_succ, List.getElem?_cons_zero]) <;> rfl) (by rfl) ?_; simp only [Act.put, Nat.reduceAdd, List.setIfInBounds_toArray, List.set_cons_zero, List.set_cons_succ, List.nil_append, List.cons_append]) | (refine Reg2.wS_open (by (simp only [List.getElem?_toArray, List.getElem?_cons_succ, List.getElem?_cons_zero]) <;> rfl) (by rfl) (by rfl) ?_; apply Exists.intro; refine ⟨fun vs wq hw => ?_, ?_⟩; (focus (rw [HCl.out] at hw; (try simp only [List.nil_append, List.cons_append] at hw); (try dsimp only at hw); go_split_ands; go_simp <;> first | with_reducible exact (rfl : Value.bool false = _) | with_reducible exact (rfl : Value.bool true = _) | ((try go_bits) <;> exact rfl))); simp only [Act.put, Nat.reduceAdd, List.setIfInBounds_toArray, List.set_cons_zero, List.set_cons_succ, List.nil_append, List.cons_append])))
      -- the load
      refine Reg2.wS_eff (by (simp only [List.getElem?_toArray, List.getElem?_cons_succ, List.getElem?_cons_zero]) <;> rfl) (by rfl) (by rfl) (fun wq hw => ?_) (fun u hu => ?_)
      focus
        rw [HCl.out] at hw; (try simp only [List.nil_append, List.cons_append] at hw); (try dsimp only at hw)
        obtain ⟨⟨i0, i1, i4⟩, g1, g2, g3, g4⟩ := hw
        go_simp
        rw [HCl.out]; (try simp only [List.nil_append, List.cons_append]); (try dsimp only)
        first | exact ⟨⟨i0, i1, i4⟩, g1, g2, rfl, g3, g4⟩ | exact ⟨⟨i0, i1, i4⟩, g1, g2, trivial, g3, g4⟩
      obtain ⟨wz, hz⟩ := hu
      rw [HCl.out] at hz
      (try simp only [List.nil_append, List.cons_append] at hz)
      (try dsimp only at hz)
      obtain ⟨-, -, -, rfl, -, -⟩ := hz
      clear wz
      simp only [Act.put, Nat.reduceAdd, List.setIfInBounds_toArray, List.set_cons_zero, List.set_cons_succ, List.nil_append, List.cons_append]
      -- the call
      refine Reg2.wS_eff (by (simp only [List.getElem?_toArray, List.getElem?_cons_succ, List.getElem?_cons_zero]) <;> rfl) (by rfl) (by rfl) (fun wq hw => ?_) (fun u hu => ?_)
      focus
        rw [HCl.out] at hw; (try simp only [List.nil_append, List.cons_append] at hw); (try dsimp only at hw)
        obtain ⟨⟨i0, i1, i4⟩, g1, g2, -, g3, g4⟩ := hw
        obtain ⟨p1, p2, p3, p4⟩ := PB.out g4
        go_simp
        go_at_call 54
        have kq := kp wq p2 hndl hbl hsl (by omega) hky
        rw [HU1.out] at kq
        (with_reducible refine kq.mono ?_)
        rintro e w' ⟨rfl, hN, hO⟩
        have hws : w.heap.size ≤ wq.heap.size := p4.size
        have hbn : b ∉ fp l := hbln
        obtain ⟨uv, huv⟩ := pt_ptr (cutT k l)
        refine ⟨_, rfl, ?_⟩
        rw [HCl.out]; (try simp only [List.nil_append, List.cons_append]); (try dsimp only)
        have hxs : ¬ w.heap.size ∈ fp l := fun h => by have := NT.lt hl _ h; omega
        refine ⟨⟨(hO.cell i4 hxs).trans i0, (hO.cell i4 hxs).trans i1, Nat.lt_of_lt_of_le i4 hO.size⟩, (hO.frozen g2 hbn).trans g1, Nat.lt_of_lt_of_le g2 hO.size, uv, huv, huv, (hO.cell g2 hbn).trans g3, PB.mk (p1.only hO hbn) hN (NT.only hO p3 (fun k hk hh => hdisj k hh hk)) (p4.trans (hO.mono fun k hk => by simp [fp, hk]))⟩
      obtain ⟨wz, hz⟩ := hu
      rw [HCl.out] at hz
      (try simp only [List.nil_append, List.cons_append] at hz)
      (try dsimp only at hz)
      obtain ⟨-, -, -, uv0, rfl, -, -, -⟩ := hz
      clear wz
      simp only [Act.put, Nat.reduceAdd, List.setIfInBounds_toArray, List.set_cons_zero, List.set_cons_succ, List.nil_append, List.cons_append]
      (repeat (first | (refine Reg2.wS_skip (by (simp only [List.getElem?_toArray, List.getElem?_cons_succ, List.getElem?_cons_zero]) <;> rfl) (by rfl) ?_; simp only [Act.put, Nat.reduceAdd, List.setIfInBounds_toArray, List.set_cons_zero, List.set_cons_succ, List.nil_append, List.cons_append]) | (refine Reg2.wS_open (by (simp only [List.getElem?_toArray, List.getElem?_cons_succ, List.getElem?_cons_zero]) <;> rfl) (by rfl) (by rfl) ?_; apply Exists.intro; refine ⟨fun vs wq hw => ?_, ?_⟩; (focus (rw [HCl.out] at hw; (try simp only [List.nil_append, List.cons_append] at hw); (try dsimp only at hw); go_split_ands; go_simp <;> first | with_reducible exact (rfl : Value.bool false = _) | with_reducible exact (rfl : Value.bool true = _) | ((try go_bits) <;> exact rfl))); simp only [Act.put, Nat.reduceAdd, List.setIfInBounds_toArray, List.set_cons_zero, List.set_cons_succ, List.nil_append, List.cons_append])))
      -- the store
      refine Reg2.wS_eff (by (simp only [List.getElem?_toArray, List.getElem?_cons_succ, List.getElem?_cons_zero]) <;> rfl) (by rfl) (by rfl) (fun wq hw => ?_) (fun u hu => ?_)
      focus
        rw [HCl.out] at hw; (try simp only [List.nil_append, List.cons_append] at hw); (try dsimp only at hw)
        obtain ⟨⟨i0, i1, i4⟩, g1, g2, uv, hvv, huv, g3, g4⟩ := hw
        obtain ⟨p1, p2, p3, p4⟩ := PB.out g4
        cases hvv
        go_simp
        rw [HCl.out]; (try simp only [List.nil_append, List.cons_append]); (try dsimp only)
        have hne : ¬ w.heap.size = b := by omega
        have hfb : b ∉ fp (cutT k l) := fun h => hbln (hcm b h)
        refine ⟨⟨by simp [go_sem, *], by simp [go_sem, *], by simpa [go_sem] using i4⟩, by simpa [go_sem] using g1, by simpa [go_sem] using g2, _, huv, PB.mk (huv ▸ p1.setL _) (p2.set hfb) (p3.set hbrn) (p4.setCell (p := ⟨b, 4, none⟩) (.inl (by simp [fp])) _)⟩
      clear hu
      simp only [Act.put, Nat.reduceAdd, List.setIfInBounds_toArray, List.set_cons_zero, List.set_cons_succ, List.nil_append, List.cons_append]
      refine Reg2.wS_nil ?_; intro w' hw; rw [HCl.out] at hw; (try simp only [List.nil_append, List.cons_append] at hw); (try dsimp only at hw); clear HCl
      obtain ⟨-, -, -, uv, huv, g4⟩ := hw
      obtain ⟨p1, p2, p3, p4⟩ := PB.out g4
      clear g4
      go_wp2_with fail
      have kb := blc_c b y (cutT k l) r H M _ (HU2.out ▸ p1) p2 p3 (cnt_nodup_left b HCN.out hnd0) (by have := HCH.out; omega) (by have := HCH.out; omega)
      with_reducible refine kb.mono ?_
      rintro _ w9 ⟨rfl, hN9, hO9⟩
      go_wp2
      go_ret
      have eT : cutT k (.node b y l r) = blc b y (cutT k l) r := by
        show (if kl k y then _ else _) = _
        rw [hkl]; rfl
      refine ⟨by rw [eT]; rfl, by rw [eT]; exact hN9, p4.trans (hO9.mono fun k hk => ?_)⟩
      rcases hk with rfl | hk | hk
      · simp [fp]
      · have := hcm _ hk; simp [fp, this]
      · simp [fp, hk]
    | false =>
      have hkn := hkl
      cases hkl : kl y k with
      | true =>
        rw [kcmp_gt hkl] at kc
        have KC := Lib.hid kc
        have HU1 := Lib.hid hur
        have HU2 := Lib.hid hul
        have kp := ihr k
        have hky := key_right hst hkey hkl
        have hpa := cutT_all k r hbr hsr hky
        have hcm := cnt_mem hpa.2.2.2.1
        have HCN := Lib.hid hpa.2.2.2.1
        have HCH := Lib.hid hpa.2.1
        clear hpa
        clear ihl ihr kc hkey
        go_enter Try.func54, Try.ntmps54
        go_wp2
        obtain ⟨Cl, hCl⟩ : ∃ Cl : List Value → World → Prop, Cl = ((fun ps wz => (wz.cell? ⟨w.heap.size, 0, none⟩ = some (.int .u64 (k).ka) ∧ wz.cell? ⟨w.heap.size, 1, none⟩ = some (.int .i64 (k).ki) ∧ w.heap.size < wz.heap.size) ∧ wz.cell? ⟨b, 0, none⟩ = some (.int .u64 y.ka) ∧ wz.cell? ⟨b, 1, none⟩ = some (.int .i64 y.ki) ∧ b < wz.heap.size ∧ b < w.heap.size ∧ w.heap.size ≤ wz.heap.size ∧ Below w.heap.size w wz)) := ⟨_, rfl⟩; have HCl := Lib.hid hCl; clear hCl; refine wp_region_eff [] Cl (by kernel_rfl) (by kernel_rfl) (by rw [HCl.out]; (try simp only [List.nil_append, List.cons_append]); (try dsimp only); ((repeat' apply And.intro) <;> first | (simp [go_sem, *]; done) | omega | (repeat' (first | with_reducible exact Below.refl _ _ | with_reducible assumption | ((with_reducible refine Below.drew ?_)) | ((with_reducible refine below_drewN ?_ _)) | ((with_reducible refine Below.alloc ?_ ?_ _); rotate_left; focus (first | omega | (simp; done) | (simp; omega))) | ((with_reducible refine Below.setCell ?_ ?_ _); rotate_left; focus (first | omega | (simp; done) | (simp; omega))) | ((with_reducible refine Below.trans ?_ (Below.mono (by with_reducible assumption) ?_)); rotate_left; focus (first | omega | (simp; done) | (simp; omega))))))) ?_
        (repeat (first | (refine wE_skip (by rfl) ?_; simp only [Act.put, Nat.reduceAdd, List.setIfInBounds_toArray, List.set_cons_zero, List.set_cons_succ, List.nil_append, List.cons_append]) | (refine wE_open (by rfl) (by rfl) ?_; apply Exists.intro; refine ⟨fun vs wq hw => ?_, ?_⟩; (focus (rw [HCl.out] at hw; (try simp only [List.nil_append, List.cons_append] at hw); (try dsimp only at hw); go_split_ands; go_simp <;> first | with_reducible exact (rfl : Value.bool false = _) | with_reducible exact (rfl : Value.bool true = _) | ((try go_bits) <;> exact rfl))); simp only [Act.put, Nat.reduceAdd, List.setIfInBounds_toArray, List.set_cons_zero, List.set_cons_succ, List.nil_append, List.cons_append]) | (refine wE_seal (by rfl) (by rfl) (by kernel_rfl) ?_; apply Exists.intro; refine ⟨fun wq hw => ?_, ?_⟩; (focus (rw [HCl.out] at hw; (try simp only [List.nil_append, List.cons_append] at hw); (try dsimp only at hw); go_split_ands; go_simp <;> (try go_bits) <;> exact rfl)); simp only [Act.put, Nat.reduceAdd, List.setIfInBounds_toArray, List.set_cons_zero, List.set_cons_succ, List.nil_append, List.cons_append]) | (refine wE_seal (by rfl) (by rfl) (by kernel_rfl) ?_; apply Exists.intro; refine ⟨fun wq hw => ?_, ?_⟩; (focus (rw [HCl.out] at hw; (try simp only [List.nil_append, List.cons_append] at hw); (try dsimp only at hw); go_split_ands; go_simp; (go_at_call 66; ((with_reducible refine (KC.out _).mono ?_); rintro e w' ⟨rfl, hbel⟩; obtain ⟨hcc, hff⟩ := bcell hbel; have hsz := hbel.size; (try simp at hsz); refine ⟨rfl, ?_⟩; rw [HCl.out]; (try simp only [List.nil_append, List.cons_append]); (try dsimp only); ((repeat' apply And.intro) <;> first | (simp [go_sem, *]; done) | omega | (repeat' (first | with_reducible exact Below.refl _ _ | with_reducible assumption | ((with_reducible refine Below.drew ?_)) | ((with_reducible refine below_drewN ?_ _)) | ((with_reducible refine Below.alloc ?_ ?_ _); rotate_left; focus (first | omega | (simp; done) | (simp; omega))) | ((with_reducible refine Below.setCell ?_ ?_ _); rotate_left; focus (first | omega | (simp; done) | (simp; omega))) | ((with_reducible refine Below.trans ?_ (Below.mono (by with_reducible assumption) ?_)); rotate_left; focus (first | omega | (simp; done) | (simp; omega)))))))))); simp only [Act.put, Nat.reduceAdd, List.setIfInBounds_toArray, List.set_cons_zero, List.set_cons_succ, List.nil_append, List.cons_append]) | (refine wE_eff (by rfl) (by rfl) (fun wq hw => ?_) (fun u hu => ?_); (focus (rw [HCl.out] at hw; (try simp only [List.nil_append, List.cons_append] at hw); (try dsimp only at hw); go_split_ands; go_simp; rw [HCl.out]; (try simp only [List.nil_append, List.cons_append]); (try dsimp only); fail; ((repeat' apply And.intro) <;> first | (simp [go_sem, *]; done) | omega | (repeat' (first | with_reducible exact Below.refl _ _ | with_reducible assumption | ((with_reducible refine Below.drew ?_)) | ((with_reducible refine below_drewN ?_ _)) | ((with_reducible refine Below.alloc ?_ ?_ _); rotate_left; focus (first | omega | (simp; done) | (simp; omega))) | ((with_reducible refine Below.setCell ?_ ?_ _); rotate_left; focus (first | omega | (simp; done) | (simp; omega))) | ((with_reducible refine Below.trans ?_ (Below.mono (by with_reducible assumption) ?_)); rotate_left; focus (first | omega | (simp; done) | (simp; omega)))))))); clear hu; simp only [Act.put, Nat.reduceAdd, List.setIfInBounds_toArray, List.set_cons_zero, List.set_cons_succ, List.nil_append, List.cons_append])))
        refine wE_nil ?_; intro w' hw; rw [HCl.out] at hw; (try simp only [List.nil_append, List.cons_append] at hw); (try dsimp only at hw); clear HCl
        go_split_ands
        rename Below w.heap.size w _ => hbq
        rename World => w1
        go_wp2
        have hN1 := HN.out.below hbq
        have hl1 := NT.below hbq hl
        have hr1 := NT.below hbq hr
        obtain ⟨Cl, hCl⟩ : ∃ Cl : List (Nat × Value) → World → Prop, Cl = ((fun ps wz => (wz.cell? ⟨w.heap.size, 0, none⟩ = some (.int .u64 (k).ka) ∧ wz.cell? ⟨w.heap.size, 1, none⟩ = some (.int .i64 (k).ki) ∧ w.heap.size < wz.heap.size) ∧ wz.frozen? ⟨b, 5, none⟩ = false ∧ b < wz.heap.size ∧ (match ps with
            | [] => wz.cell? ⟨b, 5, none⟩ = some (.pointer ur) ∧ PB w wz b y (.pointer ul) (.pointer ur) H M r l (fun k => k ∈ fp (.node b y l r))
            | [(_, u4)] => u4 = .pointer ur ∧ wz.cell? ⟨b, 5, none⟩ = some (.pointer ur) ∧ PB w wz b y (.pointer ul) (.pointer ur) H M r l (fun k => k ∈ fp (.node b y l r))
            | [_, (_, v)] => ∃ uv, v = .pointer uv ∧ pt (cutT k r) = .pointer uv ∧ wz.cell? ⟨b, 5, none⟩ = some (.pointer ur) ∧ PB w wz b y (.pointer ul) (.pointer ur) H M (cutT k r) l (fun k => k ∈ fp (.node b y l r))
            | _ => ∃ uv, pt (cutT k r) = .pointer uv ∧ PB w wz b y (.pointer ul) (pt (cutT k r)) H M (cutT k r) l (fun k => k ∈ fp (.node b y l r))))) := ⟨_, rfl⟩; have HCl := Lib.hid hCl; clear hCl; refine Reg2.wp_region_lineS [(0, false), (1, false), (2, false), (3, false), (5, false), (4, false), (6, false), (7, false), (8, false), (9, false)] [4, 6, 9] Cl (by kernel_rfl) (by kernel_rfl) (by kernel_rfl) (by rw [HCl.out]; (try simp only [List.nil_append, List.cons_append]); (try dsimp only); exact ⟨⟨by simp [go_sem, *], by simp [go_sem, *], by simpa [go_sem] using (show w.heap.size < w1.heap.size by assumption)⟩, by simpa [go_sem] using hN1.fz 5, by simpa [go_sem] using hN1.lt, by simpa [go_sem] using hN1.c5, PB.mk (hN1.below (Below.drew (Below.refl _ _))) (NT.below (Below.drew (Below.refl _ _)) hr1) (NT.below (Below.drew (Below.refl _ _)) hl1) (Only.of_below hbq).drew⟩) ?_
        (repeat (first | (refine Reg2.wS_skip (by (simp only [List.getElem?_toArray, List.getElem?_cons_succ, List.getElem?_cons_zero]) <;> rfl) (by rfl) ?_; simp only [Act.put, Nat.reduceAdd, List.setIfInBounds_toArray, List.set_cons_zero, List.set_cons_succ, List.nil_append, List.cons_append]) | (refine Reg2.wS_open (by (simp only [List.getElem?_toArray, List.getElem?_cons_succ, List.getElem?_cons_zero]) <;> rfl) (by rfl) (by rfl) ?_; apply Exists.intro; refine ⟨fun vs wq hw => ?_, ?_⟩; (focus (rw [HCl.out] at hw; (try simp only [List.nil_append, List.cons_append] at hw); (try dsimp only at hw); go_split_ands; go_simp <;> first | with_reducible exact (rfl : Value.bool false = _) | with_reducible exact (rfl : Value.bool true = _) | ((try go_bits) <;> exact rfl))); simp only [Act.put, Nat.reduceAdd, List.setIfInBounds_toArray, List.set_cons_zero, List.set_cons_succ, List.nil_append, List.cons_append])))
        -- the load
        refine Reg2.wS_eff (by (simp only [List.getElem?_toArray, List.getElem?_cons_succ, List.getElem?_cons_zero]) <;> rfl) (by rfl) (by rfl) (fun wq hw => ?_) (fun u hu => ?_)
        focus
          rw [HCl.out] at hw; (try simp only [List.nil_append, List.cons_append] at hw); (try dsimp only at hw)
          obtain ⟨⟨i0, i1, i4⟩, g1, g2, g3, g4⟩ := hw
          go_simp
          rw [HCl.out]; (try simp only [List.nil_append, List.cons_append]); (try dsimp only)
          first | exact ⟨⟨i0, i1, i4⟩, g1, g2, rfl, g3, g4⟩ | exact ⟨⟨i0, i1, i4⟩, g1, g2, trivial, g3, g4⟩
        obtain ⟨wz, hz⟩ := hu
        rw [HCl.out] at hz
        (try simp only [List.nil_append, List.cons_append] at hz)
        (try dsimp only at hz)
        obtain ⟨-, -, -, rfl, -, -⟩ := hz
        clear wz
        simp only [Act.put, Nat.reduceAdd, List.setIfInBounds_toArray, List.set_cons_zero, List.set_cons_succ, List.nil_append, List.cons_append]
        -- the call
        refine Reg2.wS_eff (by (simp only [List.getElem?_toArray, List.getElem?_cons_succ, List.getElem?_cons_zero]) <;> rfl) (by rfl) (by rfl) (fun wq hw => ?_) (fun u hu => ?_)
        focus
          rw [HCl.out] at hw; (try simp only [List.nil_append, List.cons_append] at hw); (try dsimp only at hw)
          obtain ⟨⟨i0, i1, i4⟩, g1, g2, -, g3, g4⟩ := hw
          obtain ⟨p1, p2, p3, p4⟩ := PB.out g4
          go_simp
          go_at_call 54
          have kq := kp wq p2 hndr hbr hsr (by omega) hky
          rw [HU1.out] at kq
          (with_reducible refine kq.mono ?_)
          rintro e w' ⟨rfl, hN, hO⟩
          have hws : w.heap.size ≤ wq.heap.size := p4.size
          have hbn : b ∉ fp r := hbrn
          obtain ⟨uv, huv⟩ := pt_ptr (cutT k r)
          refine ⟨_, rfl, ?_⟩
          rw [HCl.out]; (try simp only [List.nil_append, List.cons_append]); (try dsimp only)
          have hxs : ¬ w.heap.size ∈ fp r := fun h => by have := NT.lt hr _ h; omega
          refine ⟨⟨(hO.cell i4 hxs).trans i0, (hO.cell i4 hxs).trans i1, Nat.lt_of_lt_of_le i4 hO.size⟩, (hO.frozen g2 hbn).trans g1, Nat.lt_of_lt_of_le g2 hO.size, uv, huv, huv, (hO.cell g2 hbn).trans g3, PB.mk (p1.only hO hbn) hN (NT.only hO p3 (fun k hk hh => hdisj k hk hh)) (p4.trans (hO.mono fun k hk => by simp [fp, hk]))⟩
        obtain ⟨wz, hz⟩ := hu
        rw [HCl.out] at hz
        (try simp only [List.nil_append, List.cons_append] at hz)
        (try dsimp only at hz)
        obtain ⟨-, -, -, uv0, rfl, -, -, -⟩ := hz
        clear wz
        simp only [Act.put, Nat.reduceAdd, List.setIfInBounds_toArray, List.set_cons_zero, List.set_cons_succ, List.nil_append, List.cons_append]
        (repeat (first | (refine Reg2.wS_skip (by (simp only [List.getElem?_toArray, List.getElem?_cons_succ, List.getElem?_cons_zero]) <;> rfl) (by rfl) ?_; simp only [Act.put, Nat.reduceAdd, List.setIfInBounds_toArray, List.set_cons_zero, List.set_cons_succ, List.nil_append, List.cons_append]) | (refine Reg2.wS_open (by (simp only [List.getElem?_toArray, List.getElem?_cons_succ, List.getElem?_cons_zero]) <;> rfl) (by rfl) (by rfl) ?_; apply Exists.intro; refine ⟨fun vs wq hw => ?_, ?_⟩; (focus (rw [HCl.out] at hw; (try simp only [List.nil_append, List.cons_append] at hw); (try dsimp only at hw); go_split_ands; go_simp <;> first | with_reducible exact (rfl : Value.bool false = _) | with_reducible exact (rfl : Value.bool true = _) | ((try go_bits) <;> exact rfl))); simp only [Act.put, Nat.reduceAdd, List.setIfInBounds_toArray, List.set_cons_zero, List.set_cons_succ, List.nil_append, List.cons_append])))
        -- the store
        refine Reg2.wS_eff (by (simp only [List.getElem?_toArray, List.getElem?_cons_succ, List.getElem?_cons_zero]) <;> rfl) (by rfl) (by rfl) (fun wq hw => ?_) (fun u hu => ?_)
        focus
          rw [HCl.out] at hw; (try simp only [List.nil_append, List.cons_append] at hw); (try dsimp only at hw)
          obtain ⟨⟨i0, i1, i4⟩, g1, g2, uv, hvv, huv, g3, g4⟩ := hw
          obtain ⟨p1, p2, p3, p4⟩ := PB.out g4
          cases hvv
          go_simp
          rw [HCl.out]; (try simp only [List.nil_append, List.cons_append]); (try dsimp only)
          have hne : ¬ w.heap.size = b := by omega
          have hfb : b ∉ fp (cutT k r) := fun h => hbrn (hcm b h)
          refine ⟨⟨by simp [go_sem, *], by simp [go_sem, *], by simpa [go_sem] using i4⟩, by simpa [go_sem] using g1, by simpa [go_sem] using g2, _, huv, PB.mk (huv ▸ p1.setR _) (p2.set hfb) (p3.set hbln) (p4.setCell (p := ⟨b, 5, none⟩) (.inl (by simp [fp])) _)⟩
        clear hu
        simp only [Act.put, Nat.reduceAdd, List.setIfInBounds_toArray, List.set_cons_zero, List.set_cons_succ, List.nil_append, List.cons_append]
        refine Reg2.wS_nil ?_; intro w' hw; rw [HCl.out] at hw; (try simp only [List.nil_append, List.cons_append] at hw); (try dsimp only at hw); clear HCl
        obtain ⟨-, -, -, uv, huv, g4⟩ := hw
        obtain ⟨p1, p2, p3, p4⟩ := PB.out g4
        clear g4
        go_wp2_with fail
        have kb := blc_c b y l (cutT k r) H M _ (HU2.out ▸ p1) p3 p2 (cnt_nodup_right b HCN.out hnd0) (by have := HCH.out; omega) (by have := HCH.out; omega)
        with_reducible refine kb.mono ?_
        rintro _ w9 ⟨rfl, hN9, hO9⟩
        go_wp2
        go_ret
        have eT : cutT k (.node b y l r) = blc b y l (cutT k r) := by
          show (if kl k y then _ else if kl y k then _ else _) = _
          rw [if_neg (by rw [hkn]; simp), hkl]; rfl
        refine ⟨by rw [eT]; rfl, by rw [eT]; exact hN9, p4.trans (hO9.mono fun k hk => ?_)⟩
        rcases hk with rfl | hk | hk
        · simp [fp]
        · simp [fp, hk]
        · have := hcm _ hk; simp [fp, this]
      | false =>
        have hkm := hkl
        rw [kcmp_eq hkn hkm] at kc
        have KC := Lib.hid kc
        cases hnl : isN l with
        | true =>
          have hnil := isN_nil hnl
          subst hnil
          have eT : cutT k (.node b y .nil r) = r := by
            show (if kl k y then _ else if kl y k then _ else _) = _
            rw [if_neg (by rw [hkn]; simp), if_neg (by rw [hkm]; simp)]
            rfl
          rw [eT]
          have HUR := Lib.hid hur
          cases hul
          clear kc ihr
          go_enter Try.func54, Try.ntmps54
          go_wp2
          obtain ⟨Cl, hCl⟩ : ∃ Cl : List Value → World → Prop, Cl = ((fun ps wz => (wz.cell? ⟨w.heap.size, 0, none⟩ = some (.int .u64 (k).ka) ∧ wz.cell? ⟨w.heap.size, 1, none⟩ = some (.int .i64 (k).ki) ∧ w.heap.size < wz.heap.size) ∧ wz.cell? ⟨b, 0, none⟩ = some (.int .u64 y.ka) ∧ wz.cell? ⟨b, 1, none⟩ = some (.int .i64 y.ki) ∧ b < wz.heap.size ∧ b < w.heap.size ∧ w.heap.size ≤ wz.heap.size ∧ Below w.heap.size w wz)) := ⟨_, rfl⟩; have HCl := Lib.hid hCl; clear hCl; refine wp_region_eff [] Cl (by kernel_rfl) (by kernel_rfl) (by rw [HCl.out]; (try simp only [List.nil_append, List.cons_append]); (try dsimp only); ((repeat' apply And.intro) <;> first | (simp [go_sem, *]; done) | omega | (repeat' (first | with_reducible exact Below.refl _ _ | with_reducible assumption | ((with_reducible refine Below.drew ?_)) | ((with_reducible refine below_drewN ?_ _)) | ((with_reducible refine Below.alloc ?_ ?_ _); rotate_left; focus (first | omega | (simp; done) | (simp; omega))) | ((with_reducible refine Below.setCell ?_ ?_ _); rotate_left; focus (first | omega | (simp; done) | (simp; omega))) | ((with_reducible refine Below.trans ?_ (Below.mono (by with_reducible assumption) ?_)); rotate_left; focus (first | omega | (simp; done) | (simp; omega))))))) ?_
          (repeat (first | (refine wE_skip (by rfl) ?_; simp only [Act.put, Nat.reduceAdd, List.setIfInBounds_toArray, List.set_cons_zero, List.set_cons_succ, List.nil_append, List.cons_append]) | (refine wE_open (by rfl) (by rfl) ?_; apply Exists.intro; refine ⟨fun vs wq hw => ?_, ?_⟩; (focus (rw [HCl.out] at hw; (try simp only [List.nil_append, List.cons_append] at hw); (try dsimp only at hw); go_split_ands; go_simp <;> first | with_reducible exact (rfl : Value.bool false = _) | with_reducible exact (rfl : Value.bool true = _) | ((try go_bits) <;> exact rfl))); simp only [Act.put, Nat.reduceAdd, List.setIfInBounds_toArray, List.set_cons_zero, List.set_cons_succ, List.nil_append, List.cons_append]) | (refine wE_seal (by rfl) (by rfl) (by kernel_rfl) ?_; apply Exists.intro; refine ⟨fun wq hw => ?_, ?_⟩; (focus (rw [HCl.out] at hw; (try simp only [List.nil_append, List.cons_append] at hw); (try dsimp only at hw); go_split_ands; go_simp <;> (try go_bits) <;> exact rfl)); simp only [Act.put, Nat.reduceAdd, List.setIfInBounds_toArray, List.set_cons_zero, List.set_cons_succ, List.nil_append, List.cons_append]) | (refine wE_seal (by rfl) (by rfl) (by kernel_rfl) ?_; apply Exists.intro; refine ⟨fun wq hw => ?_, ?_⟩; (focus (rw [HCl.out] at hw; (try simp only [List.nil_append, List.cons_append] at hw); (try dsimp only at hw); go_split_ands; go_simp; (go_at_call 66; ((with_reducible refine (KC.out _).mono ?_); rintro e w' ⟨rfl, hbel⟩; obtain ⟨hcc, hff⟩ := bcell hbel; have hsz := hbel.size; (try simp at hsz); refine ⟨rfl, ?_⟩; rw [HCl.out]; (try simp only [List.nil_append, List.cons_append]); (try dsimp only); ((repeat' apply And.intro) <;> first | (simp [go_sem, *]; done) | omega | (repeat' (first | with_reducible exact Below.refl _ _ | with_reducible assumption | ((with_reducible refine Below.drew ?_)) | ((with_reducible refine below_drewN ?_ _)) | ((with_reducible refine Below.alloc ?_ ?_ _); rotate_left; focus (first | omega | (simp; done) | (simp; omega))) | ((with_reducible refine Below.setCell ?_ ?_ _); rotate_left; focus (first | omega | (simp; done) | (simp; omega))) | ((with_reducible refine Below.trans ?_ (Below.mono (by with_reducible assumption) ?_)); rotate_left; focus (first | omega | (simp; done) | (simp; omega)))))))))); simp only [Act.put, Nat.reduceAdd, List.setIfInBounds_toArray, List.set_cons_zero, List.set_cons_succ, List.nil_append, List.cons_append]) | (refine wE_eff (by rfl) (by rfl) (fun wq hw => ?_) (fun u hu => ?_); (focus (rw [HCl.out] at hw; (try simp only [List.nil_append, List.cons_append] at hw); (try dsimp only at hw); go_split_ands; go_simp; rw [HCl.out]; (try simp only [List.nil_append, List.cons_append]); (try dsimp only); fail; ((repeat' apply And.intro) <;> first | (simp [go_sem, *]; done) | omega | (repeat' (first | with_reducible exact Below.refl _ _ | with_reducible assumption | ((with_reducible refine Below.drew ?_)) | ((with_reducible refine below_drewN ?_ _)) | ((with_reducible refine Below.alloc ?_ ?_ _); rotate_left; focus (first | omega | (simp; done) | (simp; omega))) | ((with_reducible refine Below.setCell ?_ ?_ _); rotate_left; focus (first | omega | (simp; done) | (simp; omega))) | ((with_reducible refine Below.trans ?_ (Below.mono (by with_reducible assumption) ?_)); rotate_left; focus (first | omega | (simp; done) | (simp; omega)))))))); clear hu; simp only [Act.put, Nat.reduceAdd, List.setIfInBounds_toArray, List.set_cons_zero, List.set_cons_succ, List.nil_append, List.cons_append])))
          refine wE_nil ?_; intro w' hw; rw [HCl.out] at hw; (try simp only [List.nil_append, List.cons_append] at hw); (try dsimp only at hw); clear HCl
          go_split_ands
          rename Below w.heap.size w _ => hbq
          rename World => w1
          have hc : ∀ {o : Nat} {v : Value}, w.cell? ⟨b, o, none⟩ = some v → w1.cell? ⟨b, o, none⟩ = some v := fun h => (hbq.cell ltb).trans h
          have c4 := hc HN.out.c4
          have c5 := hc HN.out.c5
          have HBQ := Lib.hid hbq
          have HX := Lib.hid hr
          clear hbq hr hc
          go_wp2
          go_ret
          refine ⟨by rw [HUR.out]; rfl, NT.below (by first | exact HBQ.out | exact HBQ.out.drew | exact HBQ.out.drewN _) HX.out, by first | exact Only.of_below HBQ.out | exact (Only.of_below HBQ.out).drew | exact (Only.of_below HBQ.out).trans (only_drewN _ _)⟩
        | false =>
          obtain ⟨b1, hp1⟩ := pt_some hnl
          have hu1 : ul = some ⟨b1, 0, none⟩ := by rw [hp1] at hul; injection hul with h; exact h.symm
          subst hu1
          cases hnr : isN r with
          | true =>
            have hnil := isN_nil hnr
            subst hnil
            have eT : cutT k (.node b y l .nil) = l := by
              show (if kl k y then _ else if kl y k then _ else if isN l then _ else _) = _
              rw [if_neg (by rw [hkn]; simp), if_neg (by rw [hkm]; simp), if_neg (by rw [hnl]; simp)]
              rfl
            rw [eT]
            have HUL := Lib.hid hul
            cases hur
            clear kc ihr
            go_enter Try.func54, Try.ntmps54
            go_wp2
            obtain ⟨Cl, hCl⟩ : ∃ Cl : List Value → World → Prop, Cl = ((fun ps wz => (wz.cell? ⟨w.heap.size, 0, none⟩ = some (.int .u64 (k).ka) ∧ wz.cell? ⟨w.heap.size, 1, none⟩ = some (.int .i64 (k).ki) ∧ w.heap.size < wz.heap.size) ∧ wz.cell? ⟨b, 0, none⟩ = some (.int .u64 y.ka) ∧ wz.cell? ⟨b, 1, none⟩ = some (.int .i64 y.ki) ∧ b < wz.heap.size ∧ b < w.heap.size ∧ w.heap.size ≤ wz.heap.size ∧ Below w.heap.size w wz)) := ⟨_, rfl⟩; have HCl := Lib.hid hCl; clear hCl; refine wp_region_eff [] Cl (by kernel_rfl) (by kernel_rfl) (by rw [HCl.out]; (try simp only [List.nil_append, List.cons_append]); (try dsimp only); ((repeat' apply And.intro) <;> first | (simp [go_sem, *]; done) | omega | (repeat' (first | with_reducible exact Below.refl _ _ | with_reducible assumption | ((with_reducible refine Below.drew ?_)) | ((with_reducible refine below_drewN ?_ _)) | ((with_reducible refine Below.alloc ?_ ?_ _); rotate_left; focus (first | omega | (simp; done) | (simp; omega))) | ((with_reducible refine Below.setCell ?_ ?_ _); rotate_left; focus (first | omega | (simp; done) | (simp; omega))) | ((with_reducible refine Below.trans ?_ (Below.mono (by with_reducible assumption) ?_)); rotate_left; focus (first | omega | (simp; done) | (simp; omega))))))) ?_
            (repeat (first | (refine wE_skip (by rfl) ?_; simp only [Act.put, Nat.reduceAdd, List.setIfInBounds_toArray, List.set_cons_zero, List.set_cons_succ, List.nil_append, List.cons_append]) | (refine wE_open (by rfl) (by rfl) ?_; apply Exists.intro; refine ⟨fun vs wq hw => ?_, ?_⟩; (focus (rw [HCl.out] at hw; (try simp only [List.nil_append, List.cons_append] at hw); (try dsimp only at hw); go_split_ands; go_simp <;> first | with_reducible exact (rfl : Value.bool false = _) | with_reducible exact (rfl : Value.bool true = _) | ((try go_bits) <;> exact rfl))); simp only [Act.put, Nat.reduceAdd, List.setIfInBounds_toArray, List.set_cons_zero, List.set_cons_succ, List.nil_append, List.cons_append]) | (refine wE_seal (by rfl) (by rfl) (by kernel_rfl) ?_; apply Exists.intro; refine ⟨fun wq hw => ?_, ?_⟩; (focus (rw [HCl.out] at hw; (try simp only [List.nil_append, List.cons_append] at hw); (try dsimp only at hw); go_split_ands; go_simp <;> (try go_bits) <;> exact rfl)); simp only [Act.put, Nat.reduceAdd, List.setIfInBounds_toArray, List.set_cons_zero, List.set_cons_succ, List.nil_append, List.cons_append]) | (refine wE_seal (by rfl) (by rfl) (by kernel_rfl) ?_; apply Exists.intro; refine ⟨fun wq hw => ?_, ?_⟩; (focus (rw [HCl.out] at hw; (try simp only [List.nil_append, List.cons_append] at hw); (try dsimp only at hw); go_split_ands; go_simp; (go_at_call 66; ((with_reducible refine (KC.out _).mono ?_); rintro e w' ⟨rfl, hbel⟩; obtain ⟨hcc, hff⟩ := bcell hbel; have hsz := hbel.size; (try simp at hsz); refine ⟨rfl, ?_⟩; rw [HCl.out]; (try simp only [List.nil_append, List.cons_append]); (try dsimp only); ((repeat' apply And.intro) <;> first | (simp [go_sem, *]; done) | omega | (repeat' (first | with_reducible exact Below.refl _ _ | with_reducible assumption | ((with_reducible refine Below.drew ?_)) | ((with_reducible refine below_drewN ?_ _)) | ((with_reducible refine Below.alloc ?_ ?_ _); rotate_left; focus (first | omega | (simp; done) | (simp; omega))) | ((with_reducible refine Below.setCell ?_ ?_ _); rotate_left; focus (first | omega | (simp; done) | (simp; omega))) | ((with_reducible refine Below.trans ?_ (Below.mono (by with_reducible assumption) ?_)); rotate_left; focus (first | omega | (simp; done) | (simp; omega)))))))))); simp only [Act.put, Nat.reduceAdd, List.setIfInBounds_toArray, List.set_cons_zero, List.set_cons_succ, List.nil_append, List.cons_append]) | (refine wE_eff (by rfl) (by rfl) (fun wq hw => ?_) (fun u hu => ?_); (focus (rw [HCl.out] at hw; (try simp only [List.nil_append, List.cons_append] at hw); (try dsimp only at hw); go_split_ands; go_simp; rw [HCl.out]; (try simp only [List.nil_append, List.cons_append]); (try dsimp only); fail; ((repeat' apply And.intro) <;> first | (simp [go_sem, *]; done) | omega | (repeat' (first | with_reducible exact Below.refl _ _ | with_reducible assumption | ((with_reducible refine Below.drew ?_)) | ((with_reducible refine below_drewN ?_ _)) | ((with_reducible refine Below.alloc ?_ ?_ _); rotate_left; focus (first | omega | (simp; done) | (simp; omega))) | ((with_reducible refine Below.setCell ?_ ?_ _); rotate_left; focus (first | omega | (simp; done) | (simp; omega))) | ((with_reducible refine Below.trans ?_ (Below.mono (by with_reducible assumption) ?_)); rotate_left; focus (first | omega | (simp; done) | (simp; omega)))))))); clear hu; simp only [Act.put, Nat.reduceAdd, List.setIfInBounds_toArray, List.set_cons_zero, List.set_cons_succ, List.nil_append, List.cons_append])))
            refine wE_nil ?_; intro w' hw; rw [HCl.out] at hw; (try simp only [List.nil_append, List.cons_append] at hw); (try dsimp only at hw); clear HCl
            go_split_ands
            rename Below w.heap.size w _ => hbq
            rename World => w1
            have hc : ∀ {o : Nat} {v : Value}, w.cell? ⟨b, o, none⟩ = some v → w1.cell? ⟨b, o, none⟩ = some v := fun h => (hbq.cell ltb).trans h
            have c4 := hc HN.out.c4
            have c5 := hc HN.out.c5
            have HBQ := Lib.hid hbq
            have HX := Lib.hid hl
            clear hbq hl hc
            go_wp2
            go_ret
            refine ⟨by rw [HUL.out]; rfl, NT.below (by first | exact HBQ.out | exact HBQ.out.drew | exact HBQ.out.drewN _) HX.out, by first | exact Only.of_below HBQ.out | exact (Only.of_below HBQ.out).drew | exact (Only.of_below HBQ.out).trans (only_drewN _ _)⟩
          | false =>
            obtain ⟨b2, hp2⟩ := pt_some hnr
            have hu2 : ur = some ⟨b2, 0, none⟩ := by rw [hp2] at hur; injection hur with h; exact h.symm
            subst hu2
            have eT : cutT k (.node b y l r) = blc b (lst r) l (cutT (lst r) r) := by
              show (if kl k y then _ else if kl y k then _ else if isN l then _ else if isN r then _ else _) = _
              rw [if_neg (by rw [hkn]; simp), if_neg (by rw [hkm]; simp), if_neg (by rw [hnl]; simp), if_neg (by rw [hnr]; simp)]
            rw [eT]
            obtain ⟨m, hm⟩ : ∃ m, lst r = m := ⟨_, rfl⟩
            have hky : ∃ z ∈ tl r, ke z m = true := by obtain ⟨L, hL⟩ := lst_hd r hnr; exact ⟨m, by rw [hL, hm]; simp, ke_iff.2 ⟨rfl, rfl⟩⟩
            rw [hm]
            have hpa := cutT_all m r hbr hsr hky
            have hcm := cnt_mem hpa.2.2.2.1
            have HCN := Lib.hid hpa.2.2.2.1
            have kp := ihr m
            have kle := fun z hz => lea_c r z hz hnr
            simp only [hp2, hm] at kle
            have KLE := Lib.hid kle
            have HP1 := Lib.hid hp1
            have HP2 := Lib.hid hp2
            have HKY := Lib.hid hky
            clear kc ihr hpa kle hky hm eT hp1 hp2 hul hur hnl hnr
            go_enter Try.func54, Try.ntmps54
            go_wp2
            obtain ⟨Cl, hCl⟩ : ∃ Cl : List Value → World → Prop, Cl = ((fun ps wz => (wz.cell? ⟨w.heap.size, 0, none⟩ = some (.int .u64 (k).ka) ∧ wz.cell? ⟨w.heap.size, 1, none⟩ = some (.int .i64 (k).ki) ∧ w.heap.size < wz.heap.size) ∧ wz.cell? ⟨b, 0, none⟩ = some (.int .u64 y.ka) ∧ wz.cell? ⟨b, 1, none⟩ = some (.int .i64 y.ki) ∧ b < wz.heap.size ∧ b < w.heap.size ∧ w.heap.size ≤ wz.heap.size ∧ Below w.heap.size w wz)) := ⟨_, rfl⟩; have HCl := Lib.hid hCl; clear hCl; refine wp_region_eff [] Cl (by kernel_rfl) (by kernel_rfl) (by rw [HCl.out]; (try simp only [List.nil_append, List.cons_append]); (try dsimp only); ((repeat' apply And.intro) <;> first | (simp [go_sem, *]; done) | omega | (repeat' (first | with_reducible exact Below.refl _ _ | with_reducible assumption | ((with_reducible refine Below.drew ?_)) | ((with_reducible refine below_drewN ?_ _)) | ((with_reducible refine Below.alloc ?_ ?_ _); rotate_left; focus (first | omega | (simp; done) | (simp; omega))) | ((with_reducible refine Below.setCell ?_ ?_ _); rotate_left; focus (first | omega | (simp; done) | (simp; omega))) | ((with_reducible refine Below.trans ?_ (Below.mono (by with_reducible assumption) ?_)); rotate_left; focus (first | omega | (simp; done) | (simp; omega))))))) ?_
            (repeat (first | (refine wE_skip (by rfl) ?_; simp only [Act.put, Nat.reduceAdd, List.setIfInBounds_toArray, List.set_cons_zero, List.set_cons_succ, List.nil_append, List.cons_append]) | (refine wE_open (by rfl) (by rfl) ?_; apply Exists.intro; refine ⟨fun vs wq hw => ?_, ?_⟩; (focus (rw [HCl.out] at hw; (try simp only [List.nil_append, List.cons_append] at hw); (try dsimp only at hw); go_split_ands; go_simp <;> first | with_reducible exact (rfl : Value.bool false = _) | with_reducible exact (rfl : Value.bool true = _) | ((try go_bits) <;> exact rfl))); simp only [Act.put, Nat.reduceAdd, List.setIfInBounds_toArray, List.set_cons_zero, List.set_cons_succ, List.nil_append, List.cons_append]) | (refine wE_seal (by rfl) (by rfl) (by kernel_rfl) ?_; apply Exists.intro; refine ⟨fun wq hw => ?_, ?_⟩; (focus (rw [HCl.out] at hw; (try simp only [List.nil_append, List.cons_append] at hw); (try dsimp only at hw); go_split_ands; go_simp <;> (try go_bits) <;> exact rfl)); simp only [Act.put, Nat.reduceAdd, List.setIfInBounds_toArray, List.set_cons_zero, List.set_cons_succ, List.nil_append, List.cons_append]) | (refine wE_seal (by rfl) (by rfl) (by kernel_rfl) ?_; apply Exists.intro; refine ⟨fun wq hw => ?_, ?_⟩; (focus (rw [HCl.out] at hw; (try simp only [List.nil_append, List.cons_append] at hw); (try dsimp only at hw); go_split_ands; go_simp; (go_at_call 66; ((with_reducible refine (KC.out _).mono ?_); rintro e w' ⟨rfl, hbel⟩; obtain ⟨hcc, hff⟩ := bcell hbel; have hsz := hbel.size; (try simp at hsz); refine ⟨rfl, ?_⟩; rw [HCl.out]; (try simp only [List.nil_append, List.cons_append]); (try dsimp only); ((repeat' apply And.intro) <;> first | (simp [go_sem, *]; done) | omega | (repeat' (first | with_reducible exact Below.refl _ _ | with_reducible assumption | ((with_reducible refine Below.drew ?_)) | ((with_reducible refine below_drewN ?_ _)) | ((with_reducible refine Below.alloc ?_ ?_ _); rotate_left; focus (first | omega | (simp; done) | (simp; omega))) | ((with_reducible refine Below.setCell ?_ ?_ _); rotate_left; focus (first | omega | (simp; done) | (simp; omega))) | ((with_reducible refine Below.trans ?_ (Below.mono (by with_reducible assumption) ?_)); rotate_left; focus (first | omega | (simp; done) | (simp; omega)))))))))); simp only [Act.put, Nat.reduceAdd, List.setIfInBounds_toArray, List.set_cons_zero, List.set_cons_succ, List.nil_append, List.cons_append]) | (refine wE_eff (by rfl) (by rfl) (fun wq hw => ?_) (fun u hu => ?_); (focus (rw [HCl.out] at hw; (try simp only [List.nil_append, List.cons_append] at hw); (try dsimp only at hw); go_split_ands; go_simp; rw [HCl.out]; (try simp only [List.nil_append, List.cons_append]); (try dsimp only); fail; ((repeat' apply And.intro) <;> first | (simp [go_sem, *]; done) | omega | (repeat' (first | with_reducible exact Below.refl _ _ | with_reducible assumption | ((with_reducible refine Below.drew ?_)) | ((with_reducible refine below_drewN ?_ _)) | ((with_reducible refine Below.alloc ?_ ?_ _); rotate_left; focus (first | omega | (simp; done) | (simp; omega))) | ((with_reducible refine Below.setCell ?_ ?_ _); rotate_left; focus (first | omega | (simp; done) | (simp; omega))) | ((with_reducible refine Below.trans ?_ (Below.mono (by with_reducible assumption) ?_)); rotate_left; focus (first | omega | (simp; done) | (simp; omega)))))))); clear hu; simp only [Act.put, Nat.reduceAdd, List.setIfInBounds_toArray, List.set_cons_zero, List.set_cons_succ, List.nil_append, List.cons_append])))
            refine wE_nil ?_; intro w' hw; rw [HCl.out] at hw; (try simp only [List.nil_append, List.cons_append] at hw); (try dsimp only at hw); clear HCl
            go_split_ands
            rename Below w.heap.size w _ => hbq
            rename World => w1
            have hN1 := HN.out.below hbq
            have hl1 := NT.below hbq hl
            have hr1 := NT.below hbq hr
            have HN1 := Lib.hid hN1
            have HL1 := Lib.hid hl1
            have HR1 := Lib.hid hr1
            have HBQ := Lib.hid hbq
            have c4 := hN1.c4
            have c5 := hN1.c5
            clear hN1 hl1 hr1 hbq
            go_wp2_with (go_at_call 67; (with_reducible refine (KLE.out _ HR1.out).mono ?_); rintro _ w2 ⟨rfl, hB2⟩; have hN2 := HN1.out.below hB2; have d0 := hN2.c0; have d1 := hN2.c1; have d2 := hN2.c2; have d3 := hN2.c3; have f0 := hN2.fz 0; have f1 := hN2.fz 1; have f2 := hN2.fz 2; have f3 := hN2.fz 3; have hlt2 := hN2.lt; have HN2 := Lib.hid hN2; have HB2 := Lib.hid hB2; clear hN2 hB2)
            have hPB := PB.mk (HN2.out.setI m) ((((NT.below HB2.out HR1.out).set (b := b) (o := 0) (v := .int .u64 m.ka) hbrn).set (b := b) (o := 1) (v := .int .i64 m.ki) hbrn).set (b := b) (o := 2) (v := .int .u64 m.va) hbrn |>.set (b := b) (o := 3) (v := .int .i64 m.vi) hbrn) ((((NT.below HB2.out HL1.out).set (b := b) (o := 0) (v := .int .u64 m.ka) hbln).set (b := b) (o := 1) (v := .int .i64 m.ki) hbln).set (b := b) (o := 2) (v := .int .u64 m.va) hbln |>.set (b := b) (o := 3) (v := .int .i64 m.vi) hbln) (((((Only.of_below (S := fun k => k ∈ fp (.node b y l r)) HBQ.out).trans (Only.of_below HB2.out)).setCell (p := ⟨b, 0, none⟩) (.inl (by simp [fp])) (.int .u64 m.ka)).setCell (p := ⟨b, 1, none⟩) (.inl (by simp [fp])) (.int .i64 m.ki)).setCell (p := ⟨b, 2, none⟩) (.inl (by simp [fp])) (.int .u64 m.va) |>.setCell (p := ⟨b, 3, none⟩) (.inl (by simp [fp])) (.int .i64 m.vi))
            obtain ⟨Cl, hCl⟩ : ∃ Cl : List (Nat × Value) → World → Prop, Cl = ((fun ps wz => (wz.cell? ⟨b, 0, none⟩ = some (.int .u64 (m).ka) ∧ wz.cell? ⟨b, 1, none⟩ = some (.int .i64 (m).ki) ∧ b < wz.heap.size) ∧ wz.frozen? ⟨b, 5, none⟩ = false ∧ (match ps with
                | [] => wz.cell? ⟨b, 5, none⟩ = some (.pointer (some ⟨b2, 0, none⟩)) ∧ PB w wz b m (.pointer (some ⟨b1, 0, none⟩)) (.pointer (some ⟨b2, 0, none⟩)) H M r l (fun k => k ∈ fp (.node b y l r))
                | [(_, u4)] => u4 = .pointer (some ⟨b2, 0, none⟩) ∧ wz.cell? ⟨b, 5, none⟩ = some (.pointer (some ⟨b2, 0, none⟩)) ∧ PB w wz b m (.pointer (some ⟨b1, 0, none⟩)) (.pointer (some ⟨b2, 0, none⟩)) H M r l (fun k => k ∈ fp (.node b y l r))
                | [_, (_, v)] => ∃ uv, v = .pointer uv ∧ pt (cutT m r) = .pointer uv ∧ wz.cell? ⟨b, 5, none⟩ = some (.pointer (some ⟨b2, 0, none⟩)) ∧ PB w wz b m (.pointer (some ⟨b1, 0, none⟩)) (.pointer (some ⟨b2, 0, none⟩)) H M (cutT m r) l (fun k => k ∈ fp (.node b y l r))
                | _ => ∃ uv, pt (cutT m r) = .pointer uv ∧ PB w wz b m (.pointer (some ⟨b1, 0, none⟩)) (pt (cutT m r)) H M (cutT m r) l (fun k => k ∈ fp (.node b y l r))))) := ⟨_, rfl⟩; have HCl := Lib.hid hCl; clear hCl; refine Reg2.wp_region_lineS [(0, false), (1, false), (2, false), (3, false), (5, false), (6, false), (7, false), (8, false), (9, false), (4, false), (10, false), (11, false), (12, false), (13, false)] [4, 10, 13] Cl (by kernel_rfl) (by kernel_rfl) (by kernel_rfl) (by rw [HCl.out]; (try simp only [List.nil_append, List.cons_append]); (try dsimp only); exact (by
              have hq := (PB.out hPB.drew).1
              exact ⟨⟨hq.c0, hq.c1, hq.lt⟩, hq.fz 5, hq.c5, hPB.drew⟩)) ?_
            clear hPB
            (repeat (first | (refine Reg2.wS_skip (by (simp only [List.getElem?_toArray, List.getElem?_cons_succ, List.getElem?_cons_zero]) <;> rfl) (by rfl) ?_; simp only [Act.put, Nat.reduceAdd, List.setIfInBounds_toArray, List.set_cons_zero, List.set_cons_succ, List.nil_append, List.cons_append]) | (refine Reg2.wS_open (by (simp only [List.getElem?_toArray, List.getElem?_cons_succ, List.getElem?_cons_zero]) <;> rfl) (by rfl) (by rfl) ?_; apply Exists.intro; refine ⟨fun vs wq hw => ?_, ?_⟩; (focus (rw [HCl.out] at hw; (try simp only [List.nil_append, List.cons_append] at hw); (try dsimp only at hw); go_split_ands; go_simp <;> first | with_reducible exact (rfl : Value.bool false = _) | with_reducible exact (rfl : Value.bool true = _) | ((try go_bits) <;> exact rfl))); simp only [Act.put, Nat.reduceAdd, List.setIfInBounds_toArray, List.set_cons_zero, List.set_cons_succ, List.nil_append, List.cons_append])))
            -- the load
            refine Reg2.wS_eff (by (simp only [List.getElem?_toArray, List.getElem?_cons_succ, List.getElem?_cons_zero]) <;> rfl) (by rfl) (by rfl) (fun wq hw => ?_) (fun u hu => ?_)
            focus
              rw [HCl.out] at hw; (try simp only [List.nil_append, List.cons_append] at hw); (try dsimp only at hw)
              obtain ⟨⟨i0, i1, i4⟩, g1, g3, g4⟩ := hw
              go_simp
              rw [HCl.out]; (try simp only [List.nil_append, List.cons_append]); (try dsimp only)
              first | exact ⟨⟨i0, i1, i4⟩, g1, rfl, g3, g4⟩ | exact ⟨⟨i0, i1, i4⟩, g1, trivial, g3, g4⟩
            obtain ⟨wz, hz⟩ := hu
            rw [HCl.out] at hz
            (try simp only [List.nil_append, List.cons_append] at hz)
            (try dsimp only at hz)
            obtain ⟨-, -, rfl, -, -⟩ := hz
            clear wz
            simp only [Act.put, Nat.reduceAdd, List.setIfInBounds_toArray, List.set_cons_zero, List.set_cons_succ, List.nil_append, List.cons_append]
            (repeat (first | (refine Reg2.wS_skip (by (simp only [List.getElem?_toArray, List.getElem?_cons_succ, List.getElem?_cons_zero]) <;> rfl) (by rfl) ?_; simp only [Act.put, Nat.reduceAdd, List.setIfInBounds_toArray, List.set_cons_zero, List.set_cons_succ, List.nil_append, List.cons_append]) | (refine Reg2.wS_open (by (simp only [List.getElem?_toArray, List.getElem?_cons_succ, List.getElem?_cons_zero]) <;> rfl) (by rfl) (by rfl) ?_; apply Exists.intro; refine ⟨fun vs wq hw => ?_, ?_⟩; (focus (rw [HCl.out] at hw; (try simp only [List.nil_append, List.cons_append] at hw); (try dsimp only at hw); go_split_ands; go_simp <;> first | with_reducible exact (rfl : Value.bool false = _) | with_reducible exact (rfl : Value.bool true = _) | ((try go_bits) <;> exact rfl))); simp only [Act.put, Nat.reduceAdd, List.setIfInBounds_toArray, List.set_cons_zero, List.set_cons_succ, List.nil_append, List.cons_append])))
            -- the call
            refine Reg2.wS_eff (by (simp only [List.getElem?_toArray, List.getElem?_cons_succ, List.getElem?_cons_zero]) <;> rfl) (by rfl) (by rfl) (fun wq hw => ?_) (fun u hu => ?_)
            focus
              rw [HCl.out] at hw; (try simp only [List.nil_append, List.cons_append] at hw); (try dsimp only at hw)
              obtain ⟨⟨i0, i1, i4⟩, g1, -, g3, g4⟩ := hw
              obtain ⟨p1, p2, p3, p4⟩ := PB.out g4
              go_simp
              go_at_call 54
              have kq := kp wq p2 hndr hbr hsr (by omega) HKY.out
              rw [HP2.out] at kq
              (with_reducible refine kq.mono ?_)
              rintro e w' ⟨rfl, hN, hO⟩
              obtain ⟨uv, huv⟩ := pt_ptr (cutT m r)
              refine ⟨_, rfl, ?_⟩
              rw [HCl.out]; (try simp only [List.nil_append, List.cons_append]); (try dsimp only)
              refine ⟨⟨(hO.cell i4 hbrn).trans i0, (hO.cell i4 hbrn).trans i1, Nat.lt_of_lt_of_le i4 hO.size⟩, (hO.frozen i4 hbrn).trans g1, uv, huv, huv, (hO.cell i4 hbrn).trans g3, PB.mk (p1.only hO hbrn) hN (NT.only hO p3 (fun k hk hh => hdisj k hk hh)) (p4.trans (hO.mono fun k hk => by simp [fp, hk]))⟩
            obtain ⟨wz, hz⟩ := hu
            rw [HCl.out] at hz
            (try simp only [List.nil_append, List.cons_append] at hz)
            (try dsimp only at hz)
            obtain ⟨-, -, uv0, rfl, -, -, -⟩ := hz
            clear wz
            simp only [Act.put, Nat.reduceAdd, List.setIfInBounds_toArray, List.set_cons_zero, List.set_cons_succ, List.nil_append, List.cons_append]
            (repeat (first | (refine Reg2.wS_skip (by (simp only [List.getElem?_toArray, List.getElem?_cons_succ, List.getElem?_cons_zero]) <;> rfl) (by rfl) ?_; simp only [Act.put, Nat.reduceAdd, List.setIfInBounds_toArray, List.set_cons_zero, List.set_cons_succ, List.nil_append, List.cons_append]) | (refine Reg2.wS_open (by (simp only [List.getElem?_toArray, List.getElem?_cons_succ, List.getElem?_cons_zero]) <;> rfl) (by rfl) (by rfl) ?_; apply Exists.intro; refine ⟨fun vs wq hw => ?_, ?_⟩; (focus (rw [HCl.out] at hw; (try simp only [List.nil_append, List.cons_append] at hw); (try dsimp only at hw); go_split_ands; go_simp <;> first | with_reducible exact (rfl : Value.bool false = _) | with_reducible exact (rfl : Value.bool true = _) | ((try go_bits) <;> exact rfl))); simp only [Act.put, Nat.reduceAdd, List.setIfInBounds_toArray, List.set_cons_zero, List.set_cons_succ, List.nil_append, List.cons_append])))
            -- the store
            refine Reg2.wS_eff (by (simp only [List.getElem?_toArray, List.getElem?_cons_succ, List.getElem?_cons_zero]) <;> rfl) (by rfl) (by rfl) (fun wq hw => ?_) (fun u hu => ?_)
            focus
              rw [HCl.out] at hw; (try simp only [List.nil_append, List.cons_append] at hw); (try dsimp only at hw)
              obtain ⟨⟨i0, i1, i4⟩, g1, uv, hvv, huv, g3, g4⟩ := hw
              obtain ⟨p1, p2, p3, p4⟩ := PB.out g4
              cases hvv
              go_simp
              rw [HCl.out]; (try simp only [List.nil_append, List.cons_append]); (try dsimp only)
              have hfb : b ∉ fp (cutT m r) := fun h => hbrn (hcm b h)
              refine ⟨⟨by simp [go_sem, *], by simp [go_sem, *], by simpa [go_sem] using i4⟩, by simpa [go_sem] using g1, _, huv, PB.mk (huv ▸ p1.setR _) (p2.set hfb) (p3.set hbln) (p4.setCell (p := ⟨b, 5, none⟩) (.inl (by simp [fp])) _)⟩
            clear hu
            simp only [Act.put, Nat.reduceAdd, List.setIfInBounds_toArray, List.set_cons_zero, List.set_cons_succ, List.nil_append, List.cons_append]
            refine Reg2.wS_nil ?_; intro w' hw; rw [HCl.out] at hw; (try simp only [List.nil_append, List.cons_append] at hw); (try dsimp only at hw); clear HCl
            obtain ⟨-, -, uv, huv, g4⟩ := hw
            obtain ⟨p1, p2, p3, p4⟩ := PB.out g4
            clear g4
            go_wp2_with fail
            have kb := blc_c b m l (cutT m r) H M _ (HP1.out ▸ p1) p3 p2 (cnt_nodup_right b HCN.out hnd0) (by omega) (by have := (cutT_all m r hbr hsr HKY.out).2.1; omega)
            with_reducible refine kb.mono ?_
            rintro _ w9 ⟨rfl, hN9, hO9⟩
            go_wp2
            go_ret
            refine ⟨rfl, hN9, p4.trans (hO9.mono fun k hk => ?_)⟩
            rcases hk with rfl | hk | hk
            · simp [fp]
            · simp [fp, hk]
            · have := hcm _ hk; simp [fp, this]
end Go.Proofs.Ytikmdkmejbcmmaa
