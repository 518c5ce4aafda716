/- Find. -/
import Derived.Test.YtikmdkmejbcmmaaAv10
namespace Go.Proofs.Ytikmdkmejbcmmaa
set_option linter.unusedVariables false
set_option linter.unusedSimpArgs false
set_option maxRecDepth 100000
open Go.RowKit Fg Reg
attribute [local irreducible] Reg.wE

def fndL (k : It) (l : List It) : Option It := l.find? fun y => ke y k
def fres : Option It → Value
  | some x => .tuple #[.agg #[.int .u64 (x).va, .int .i64 (x).vi], .int .i64 0]
  | none => .tuple #[.agg #[.int .u64 0, .int .i64 0], .int .i64 6]
theorem fnd_parts (k y : It) (A B : List It) : fndL k (A ++ y :: B) = (fndL k A).or (if ke y k = true then some y else fndL k B) := by
  unfold fndL
  rw [List.find?_append, List.find?_cons]
  cases ke y k <;> simp
theorem fnd_no {k : It} {l : List It} (h : ∀ y ∈ l, ke y k = false) : fndL k l = none := by
  unfold fndL
  rw [List.find?_eq_none]
  intro y hy
  rw [h y hy]; simp
theorem fnd_left {k y : It} {b : Nat} {l r : Tr} (hs : SS (tl (.node b y l r))) (h : kl k y = true) : fndL k (tl (.node b y l r)) = fndL k (tl l) := by
  obtain ⟨s1, s2, s3, s4, s5⟩ := ss_parts (show SS (tl l ++ y :: tl r) from hs)
  show fndL k (tl l ++ y :: tl r) = _
  rw [fnd_parts, if_neg (by rw [(kl_nke h).2]; simp), fnd_no (l := tl r) (fun z hz => (kl_nke (kl_trans h (s4 z hz))).2)]
  simp
theorem fnd_right {k y : It} {b : Nat} {l r : Tr} (hs : SS (tl (.node b y l r))) (h : kl y k = true) : fndL k (tl (.node b y l r)) = fndL k (tl r) := by
  obtain ⟨s1, s2, s3, s4, s5⟩ := ss_parts (show SS (tl l ++ y :: tl r) from hs)
  show fndL k (tl l ++ y :: tl r) = _
  rw [fnd_parts, if_neg (by rw [(kl_nke h).1]; simp), fnd_no (l := tl l) (fun z hz => (kl_nke (kl_trans (s3 z hz) h)).1)]
  simp
theorem fnd_here {k y : It} {b : Nat} {l r : Tr} (hs : SS (tl (.node b y l r))) (h : kl k y = false) (h2 : kl y k = false) : fndL k (tl (.node b y l r)) = some y := by
  obtain ⟨s1, s2, s3, s4, s5⟩ := ss_parts (show SS (tl l ++ y :: tl r) from hs)
  have hyk : ke y k = true := by
    rcases kl_tri y k with g | g | g
    · rw [h2] at g; exact absurd g (by simp)
    · exact g
    · rw [h] at g; exact absurd g (by simp)
  show fndL k (tl l ++ y :: tl r) = _
  rw [fnd_parts, if_pos hyk, fnd_no (l := tl l) (fun z hz => (kl_nke (show kl z k = true by rw [← kl_ke_r hyk]; exact s3 z hz)).1)]
  rfl
theorem fnd_n (k : It) (w : World) : Calls Try.prog 26 #[.pointer none, .agg #[.int .u64 (k).ka, .int .i64 (k).ki]] w fun e w' => e = .returned (.tuple #[.agg #[.int .u64 0, .int .i64 0], .int .i64 7]) ∧ Below w.heap.size w w' := by
  go_enter Try.func26, Try.ntmps26
  go_wp2
  refine bodyPost_ret (v := (.tuple #[.agg #[.int .u64 0, .int .i64 0], .int .i64 7])) (by simp [results, Try.results26, go_sem, *]) rfl ⟨rfl, ?_⟩
  (repeat' (first | assumption | exact Below.refl _ _ | refine Below.setCell ?_ (by simp) _ | refine Below.alloc ?_ (by simp) _ | refine Below.drew ?_))
set_option maxHeartbeats 4000000 in
theorem fnd_c (a : Nat) (t : Tr) (k : It) (w : World) (h : TR w a t) : Calls Try.prog 26 #[.pointer (some ⟨a, 0, none⟩), .agg #[.int .u64 (k).ka, .int .i64 (k).ki]] w fun e w' => e = .returned (fres (fndL k (tl t))) ∧ Below w.heap.size w w' := by
  obtain ⟨r0, r1, f0, f1, lt, nt, nd, bl, ss, ha⟩ := h
  obtain ⟨X, hX⟩ : ∃ X, fndL k (tl t) = X := ⟨_, rfl⟩
  rw [hX]
  obtain ⟨R, hR⟩ : ∃ R, fres X = R := ⟨_, rfl⟩
  rw [hR]
  have HX := Lib.hid hX
  have HR := Lib.hid hR
  have HT := Lib.hid nt
  have HS := Lib.hid ss
  obtain ⟨u0, hu0⟩ := pt_ptr t
  rw [hu0] at r0
  have HU0 := Lib.hid hu0
  clear hX hR r1 f0 f1 nt nd bl ss ha hu0
  go_enter Try.func26, Try.ntmps26
  go_wp2
  go_loopg [6] (hgt t) (fun k9 p wr => ∃ (t' : Tr), p = pt t' ∧ NT w t' ∧ SS (tl t') ∧ fndL k (tl t') = X ∧ hgt t' ≤ k9 ∧ Below w.heap.size w wr ∧ (wr.cell? ⟨w.heap.size, 0, none⟩ = some (.int .u64 (k).ka) ∧ wr.cell? ⟨w.heap.size, 1, none⟩ = some (.int .i64 (k).ki) ∧ w.heap.size < wr.heap.size) ∧ (wr.cell? ⟨w.heap.size + 1, 0, none⟩ = some (.int .u64 0) ∧ wr.cell? ⟨w.heap.size + 1, 1, none⟩ = some (.int .i64 0) ∧ w.heap.size + 1 < wr.heap.size) ∧ (wr.frozen? ⟨w.heap.size + 1, 0, none⟩ = false ∧ wr.frozen? ⟨w.heap.size + 1, 1, none⟩ = false))
  case atStart => exact ⟨t, HU0.out.symm, HT.out, HS.out, HX.out, Nat.le_refl _, by (repeat' (first | assumption | exact Below.refl _ _ | refine Below.setCell ?_ (by simp) _ | refine Below.alloc ?_ (by simp) _ | refine Below.drew ?_)), ⟨by simp [go_sem], by simp [go_sem], by simp [go_sem]⟩, ⟨by simp [go_sem], by simp [go_sem], by simp [go_sem]⟩, ⟨by simp [go_sem], by simp [go_sem]⟩⟩
  case round =>
    obtain ⟨t', rfl, hT, hS, hx, hg, hB, ⟨k0, k1, k4⟩, ⟨d0, d1, d4⟩, ⟨f0, f1⟩⟩ := hrel
    have HB := Lib.hid hB
    cases t' with
    | nil =>
      have ex : X = none := by rw [← hx]; rfl
      subst ex
      clear hT hS hx hg hB HX HT HS HU0
      dsimp only [pt] at *
      go_wp2
      rw [← HR.out]
      refine bodyPost_ret (v := fres none) (by simp [results, Try.results26, go_sem, fres, *]) rfl ⟨rfl, ?_⟩
      have hB := HB.out
      (repeat' (first | assumption | exact Below.refl _ _ | refine Below.setCell ?_ (by simp) _ | refine Below.alloc ?_ (by simp) _ | refine Below.drew ?_))
    | node b y l r =>
      have hTT := hT
      unfold NT at hTT
      obtain ⟨hN, hl, hr⟩ := hTT
      have ltb := hN.lt
      have HSS := Lib.hid hS
      have HX := Lib.hid hx
      obtain ⟨ul, hul⟩ := pt_ptr l
      obtain ⟨ur, hur⟩ := pt_ptr r
      rw [hul, hur] at hN
      have HN := Lib.hid hN
      have hc : ∀ {o : Nat} {v : Value}, w.cell? ⟨b, o, none⟩ = some v → wr.cell? ⟨b, o, none⟩ = some v := fun h => (hB.cell ltb).trans h
      have c0 := hc hN.c0
      have c1 := hc hN.c1
      have ltr : b < wr.heap.size := Nat.lt_of_lt_of_le ltb hB.size
      have HPl := Lib.hid hul
      have HPr := Lib.hid hur
      have HTl := Lib.hid hl
      have HTr := Lib.hid hr
      obtain ⟨s1, s2, -, -, -⟩ := ss_parts (show SS (tl l ++ y :: tl r) from hS)
      have HSl := Lib.hid s1
      have HSr := Lib.hid s2
      rw [hgt_node] at hg
      have Hgl := Lib.hid (show hgt l < gk by omega)
      have Hgr := Lib.hid (show hgt r < gk by omega)
      have kc := fun z => kcmp_c k.ka k.ki y.ka y.ki z
      clear hT hS hx hg hB hc hN hl hr hul hur s1 s2 HT HS HU0
      dsimp only [pt] at *
      cases hkl : kl k y with
      | true =>
        have HX2 := Lib.hid (show fndL k (tl l) = X from by rw [← HX.out]; exact (fnd_left HSS.out hkl).symm)
        rw [kcmp_lt hkl] at kc
        have KC := Lib.hid kc
        clear kc
        go_wp2
        obtain ⟨Cl, hCl⟩ : ∃ Cl : List Value → World → Prop, Cl = ((fun ps wz => (wz.cell? ⟨w.heap.size, 0, none⟩ = some (.int .u64 (k).ka) ∧ wz.cell? ⟨w.heap.size, 1, none⟩ = some (.int .i64 (k).ki) ∧ w.heap.size < wz.heap.size) ∧ wz.cell? ⟨b, 0, none⟩ = some (.int .u64 y.ka) ∧ wz.cell? ⟨b, 1, none⟩ = some (.int .i64 y.ki) ∧ b < wz.heap.size ∧ w.heap.size + 1 < wz.heap.size ∧ wz.cell? ⟨w.heap.size + 1, 0, none⟩ = some (.int .u64 0) ∧ wz.cell? ⟨w.heap.size + 1, 1, none⟩ = some (.int .i64 0) ∧ wz.frozen? ⟨w.heap.size + 1, 0, none⟩ = false ∧ wz.frozen? ⟨w.heap.size + 1, 1, none⟩ = false ∧ wr.heap.size ≤ wz.heap.size ∧ Below wr.heap.size wr wz)) := ⟨_, rfl⟩; have HCl := Lib.hid hCl; clear hCl; refine wp_region_eff [] Cl (by kernel_rfl) (by kernel_rfl) (by rw [HCl.out]; (try simp only [List.nil_append, List.cons_append]); (try dsimp only); ((repeat' apply And.intro) <;> first | (simp [go_sem, *]; done) | omega | (repeat' (first | with_reducible exact Below.refl _ _ | with_reducible assumption | ((with_reducible refine Below.drew ?_)) | ((with_reducible refine below_drewN ?_ _)) | ((with_reducible refine Below.alloc ?_ ?_ _); rotate_left; focus (first | omega | (simp; done) | (simp; omega))) | ((with_reducible refine Below.setCell ?_ ?_ _); rotate_left; focus (first | omega | (simp; done) | (simp; omega))) | ((with_reducible refine Below.trans ?_ (Below.mono (by with_reducible assumption) ?_)); rotate_left; focus (first | omega | (simp; done) | (simp; omega))))))) ?_
        (repeat (first | (refine wE_skip (by rfl) ?_; simp only [Act.put, Nat.reduceAdd, List.setIfInBounds_toArray, List.set_cons_zero, List.set_cons_succ, List.nil_append, List.cons_append]) | (refine wE_open (by rfl) (by rfl) ?_; apply Exists.intro; refine ⟨fun vs wq hw => ?_, ?_⟩; (focus (rw [HCl.out] at hw; (try simp only [List.nil_append, List.cons_append] at hw); (try dsimp only at hw); go_split_ands; go_simp <;> first | with_reducible exact (rfl : Value.bool false = _) | with_reducible exact (rfl : Value.bool true = _) | ((try go_bits) <;> exact rfl))); simp only [Act.put, Nat.reduceAdd, List.setIfInBounds_toArray, List.set_cons_zero, List.set_cons_succ, List.nil_append, List.cons_append]) | (refine wE_seal (by rfl) (by rfl) (by kernel_rfl) ?_; apply Exists.intro; refine ⟨fun wq hw => ?_, ?_⟩; (focus (rw [HCl.out] at hw; (try simp only [List.nil_append, List.cons_append] at hw); (try dsimp only at hw); go_split_ands; go_simp <;> (try go_bits) <;> exact rfl)); simp only [Act.put, Nat.reduceAdd, List.setIfInBounds_toArray, List.set_cons_zero, List.set_cons_succ, List.nil_append, List.cons_append]) | (refine wE_seal (by rfl) (by rfl) (by kernel_rfl) ?_; apply Exists.intro; refine ⟨fun wq hw => ?_, ?_⟩; (focus (rw [HCl.out] at hw; (try simp only [List.nil_append, List.cons_append] at hw); (try dsimp only at hw); go_split_ands; go_simp; (go_at_call 66; ((with_reducible refine (KC.out _).mono ?_); rintro e w' ⟨rfl, hbel⟩; obtain ⟨hcc, hff⟩ := bcell hbel; have hsz := hbel.size; (try simp at hsz); refine ⟨rfl, ?_⟩; rw [HCl.out]; (try simp only [List.nil_append, List.cons_append]); (try dsimp only); ((repeat' apply And.intro) <;> first | (simp [go_sem, *]; done) | omega | (repeat' (first | with_reducible exact Below.refl _ _ | with_reducible assumption | ((with_reducible refine Below.drew ?_)) | ((with_reducible refine below_drewN ?_ _)) | ((with_reducible refine Below.alloc ?_ ?_ _); rotate_left; focus (first | omega | (simp; done) | (simp; omega))) | ((with_reducible refine Below.setCell ?_ ?_ _); rotate_left; focus (first | omega | (simp; done) | (simp; omega))) | ((with_reducible refine Below.trans ?_ (Below.mono (by with_reducible assumption) ?_)); rotate_left; focus (first | omega | (simp; done) | (simp; omega)))))))))); simp only [Act.put, Nat.reduceAdd, List.setIfInBounds_toArray, List.set_cons_zero, List.set_cons_succ, List.nil_append, List.cons_append]) | (refine wE_eff (by rfl) (by rfl) (fun wq hw => ?_) (fun u hu => ?_); (focus (rw [HCl.out] at hw; (try simp only [List.nil_append, List.cons_append] at hw); (try dsimp only at hw); go_split_ands; go_simp; rw [HCl.out]; (try simp only [List.nil_append, List.cons_append]); (try dsimp only); fail; ((repeat' apply And.intro) <;> first | (simp [go_sem, *]; done) | omega | (repeat' (first | with_reducible exact Below.refl _ _ | with_reducible assumption | ((with_reducible refine Below.drew ?_)) | ((with_reducible refine below_drewN ?_ _)) | ((with_reducible refine Below.alloc ?_ ?_ _); rotate_left; focus (first | omega | (simp; done) | (simp; omega))) | ((with_reducible refine Below.setCell ?_ ?_ _); rotate_left; focus (first | omega | (simp; done) | (simp; omega))) | ((with_reducible refine Below.trans ?_ (Below.mono (by with_reducible assumption) ?_)); rotate_left; focus (first | omega | (simp; done) | (simp; omega)))))))); clear hu; simp only [Act.put, Nat.reduceAdd, List.setIfInBounds_toArray, List.set_cons_zero, List.set_cons_succ, List.nil_append, List.cons_append])))
        refine wE_nil ?_; intro w' hw; rw [HCl.out] at hw; (try simp only [List.nil_append, List.cons_append] at hw); (try dsimp only at hw); clear HCl
        go_split_ands
        rename Below wr.heap.size wr _ => hbq
        rename World => w2
        have HBW := Lib.hid (HB.out.trans (hbq.mono HB.out.size))
        clear hbq
        have hc : ∀ {o : Nat} {v : Value}, w.cell? ⟨b, o, none⟩ = some v → w2.cell? ⟨b, o, none⟩ = some v := fun h => (HBW.out.cell ltb).trans h
        have c2 := hc HN.out.c2
        have c3 := hc HN.out.c3
        have c4 := hc HN.out.c4
        have c5 := hc HN.out.c5
        clear hc
        go_wp2
        go_roundg (hgt l)
        case rel => exact ⟨l, HPl.out.symm, HTl.out, HSl.out, HX2.out, Nat.le_refl _, by first | exact HBW.out | exact HBW.out.drew, by ((repeat' apply And.intro) <;> with_reducible assumption), by ((repeat' apply And.intro) <;> with_reducible assumption), by ((repeat' apply And.intro) <;> with_reducible assumption)⟩
        case measure => exact Hgl.out
      | false =>
        have hkn := hkl
        cases hkl : kl y k with
        | true =>
          have HX2 := Lib.hid (show fndL k (tl r) = X from by rw [← HX.out]; exact (fnd_right HSS.out hkl).symm)
          rw [kcmp_gt hkl] at kc
          have KC := Lib.hid kc
          clear kc
          go_wp2
          obtain ⟨Cl, hCl⟩ : ∃ Cl : List Value → World → Prop, Cl = ((fun ps wz => (wz.cell? ⟨w.heap.size, 0, none⟩ = some (.int .u64 (k).ka) ∧ wz.cell? ⟨w.heap.size, 1, none⟩ = some (.int .i64 (k).ki) ∧ w.heap.size < wz.heap.size) ∧ wz.cell? ⟨b, 0, none⟩ = some (.int .u64 y.ka) ∧ wz.cell? ⟨b, 1, none⟩ = some (.int .i64 y.ki) ∧ b < wz.heap.size ∧ w.heap.size + 1 < wz.heap.size ∧ wz.cell? ⟨w.heap.size + 1, 0, none⟩ = some (.int .u64 0) ∧ wz.cell? ⟨w.heap.size + 1, 1, none⟩ = some (.int .i64 0) ∧ wz.frozen? ⟨w.heap.size + 1, 0, none⟩ = false ∧ wz.frozen? ⟨w.heap.size + 1, 1, none⟩ = false ∧ wr.heap.size ≤ wz.heap.size ∧ Below wr.heap.size wr wz)) := ⟨_, rfl⟩; have HCl := Lib.hid hCl; clear hCl; refine wp_region_eff [] Cl (by kernel_rfl) (by kernel_rfl) (by rw [HCl.out]; (try simp only [List.nil_append, List.cons_append]); (try dsimp only); ((repeat' apply And.intro) <;> first | (simp [go_sem, *]; done) | omega | (repeat' (first | with_reducible exact Below.refl _ _ | with_reducible assumption | ((with_reducible refine Below.drew ?_)) | ((with_reducible refine below_drewN ?_ _)) | ((with_reducible refine Below.alloc ?_ ?_ _); rotate_left; focus (first | omega | (simp; done) | (simp; omega))) | ((with_reducible refine Below.setCell ?_ ?_ _); rotate_left; focus (first | omega | (simp; done) | (simp; omega))) | ((with_reducible refine Below.trans ?_ (Below.mono (by with_reducible assumption) ?_)); rotate_left; focus (first | omega | (simp; done) | (simp; omega))))))) ?_
          (repeat (first | (refine wE_skip (by rfl) ?_; simp only [Act.put, Nat.reduceAdd, List.setIfInBounds_toArray, List.set_cons_zero, List.set_cons_succ, List.nil_append, List.cons_append]) | (refine wE_open (by rfl) (by rfl) ?_; apply Exists.intro; refine ⟨fun vs wq hw => ?_, ?_⟩; (focus (rw [HCl.out] at hw; (try simp only [List.nil_append, List.cons_append] at hw); (try dsimp only at hw); go_split_ands; go_simp <;> first | with_reducible exact (rfl : Value.bool false = _) | with_reducible exact (rfl : Value.bool true = _) | ((try go_bits) <;> exact rfl))); simp only [Act.put, Nat.reduceAdd, List.setIfInBounds_toArray, List.set_cons_zero, List.set_cons_succ, List.nil_append, List.cons_append]) | (refine wE_seal (by rfl) (by rfl) (by kernel_rfl) ?_; apply Exists.intro; refine ⟨fun wq hw => ?_, ?_⟩; (focus (rw [HCl.out] at hw; (try simp only [List.nil_append, List.cons_append] at hw); (try dsimp only at hw); go_split_ands; go_simp <;> (try go_bits) <;> exact rfl)); simp only [Act.put, Nat.reduceAdd, List.setIfInBounds_toArray, List.set_cons_zero, List.set_cons_succ, List.nil_append, List.cons_append]) | (refine wE_seal (by rfl) (by rfl) (by kernel_rfl) ?_; apply Exists.intro; refine ⟨fun wq hw => ?_, ?_⟩; (focus (rw [HCl.out] at hw; (try simp only [List.nil_append, List.cons_append] at hw); (try dsimp only at hw); go_split_ands; go_simp; (go_at_call 66; ((with_reducible refine (KC.out _).mono ?_); rintro e w' ⟨rfl, hbel⟩; obtain ⟨hcc, hff⟩ := bcell hbel; have hsz := hbel.size; (try simp at hsz); refine ⟨rfl, ?_⟩; rw [HCl.out]; (try simp only [List.nil_append, List.cons_append]); (try dsimp only); ((repeat' apply And.intro) <;> first | (simp [go_sem, *]; done) | omega | (repeat' (first | with_reducible exact Below.refl _ _ | with_reducible assumption | ((with_reducible refine Below.drew ?_)) | ((with_reducible refine below_drewN ?_ _)) | ((with_reducible refine Below.alloc ?_ ?_ _); rotate_left; focus (first | omega | (simp; done) | (simp; omega))) | ((with_reducible refine Below.setCell ?_ ?_ _); rotate_left; focus (first | omega | (simp; done) | (simp; omega))) | ((with_reducible refine Below.trans ?_ (Below.mono (by with_reducible assumption) ?_)); rotate_left; focus (first | omega | (simp; done) | (simp; omega)))))))))); simp only [Act.put, Nat.reduceAdd, List.setIfInBounds_toArray, List.set_cons_zero, List.set_cons_succ, List.nil_append, List.cons_append]) | (refine wE_eff (by rfl) (by rfl) (fun wq hw => ?_) (fun u hu => ?_); (focus (rw [HCl.out] at hw; (try simp only [List.nil_append, List.cons_append] at hw); (try dsimp only at hw); go_split_ands; go_simp; rw [HCl.out]; (try simp only [List.nil_append, List.cons_append]); (try dsimp only); fail; ((repeat' apply And.intro) <;> first | (simp [go_sem, *]; done) | omega | (repeat' (first | with_reducible exact Below.refl _ _ | with_reducible assumption | ((with_reducible refine Below.drew ?_)) | ((with_reducible refine below_drewN ?_ _)) | ((with_reducible refine Below.alloc ?_ ?_ _); rotate_left; focus (first | omega | (simp; done) | (simp; omega))) | ((with_reducible refine Below.setCell ?_ ?_ _); rotate_left; focus (first | omega | (simp; done) | (simp; omega))) | ((with_reducible refine Below.trans ?_ (Below.mono (by with_reducible assumption) ?_)); rotate_left; focus (first | omega | (simp; done) | (simp; omega)))))))); clear hu; simp only [Act.put, Nat.reduceAdd, List.setIfInBounds_toArray, List.set_cons_zero, List.set_cons_succ, List.nil_append, List.cons_append])))
          refine wE_nil ?_; intro w' hw; rw [HCl.out] at hw; (try simp only [List.nil_append, List.cons_append] at hw); (try dsimp only at hw); clear HCl
          go_split_ands
          rename Below wr.heap.size wr _ => hbq
          rename World => w2
          have HBW := Lib.hid (HB.out.trans (hbq.mono HB.out.size))
          clear hbq
          have hc : ∀ {o : Nat} {v : Value}, w.cell? ⟨b, o, none⟩ = some v → w2.cell? ⟨b, o, none⟩ = some v := fun h => (HBW.out.cell ltb).trans h
          have c2 := hc HN.out.c2
          have c3 := hc HN.out.c3
          have c4 := hc HN.out.c4
          have c5 := hc HN.out.c5
          clear hc
          go_wp2
          go_roundg (hgt r)
          case rel => exact ⟨r, HPr.out.symm, HTr.out, HSr.out, HX2.out, Nat.le_refl _, by first | exact HBW.out | exact HBW.out.drew, by ((repeat' apply And.intro) <;> with_reducible assumption), by ((repeat' apply And.intro) <;> with_reducible assumption), by ((repeat' apply And.intro) <;> with_reducible assumption)⟩
          case measure => exact Hgr.out
        | false =>
          have ex : X = some y := by rw [← HX.out]; exact fnd_here HSS.out hkn hkl
          subst ex
          rw [kcmp_eq hkn hkl] at kc
          have KC := Lib.hid kc
          clear kc
          go_wp2
          obtain ⟨Cl, hCl⟩ : ∃ Cl : List Value → World → Prop, Cl = ((fun ps wz => (wz.cell? ⟨w.heap.size, 0, none⟩ = some (.int .u64 (k).ka) ∧ wz.cell? ⟨w.heap.size, 1, none⟩ = some (.int .i64 (k).ki) ∧ w.heap.size < wz.heap.size) ∧ wz.cell? ⟨b, 0, none⟩ = some (.int .u64 y.ka) ∧ wz.cell? ⟨b, 1, none⟩ = some (.int .i64 y.ki) ∧ b < wz.heap.size ∧ w.heap.size + 1 < wz.heap.size ∧ wz.cell? ⟨w.heap.size + 1, 0, none⟩ = some (.int .u64 0) ∧ wz.cell? ⟨w.heap.size + 1, 1, none⟩ = some (.int .i64 0) ∧ wz.frozen? ⟨w.heap.size + 1, 0, none⟩ = false ∧ wz.frozen? ⟨w.heap.size + 1, 1, none⟩ = false ∧ wr.heap.size ≤ wz.heap.size ∧ Below wr.heap.size wr wz)) := ⟨_, rfl⟩; have HCl := Lib.hid hCl; clear hCl; refine wp_region_eff [] Cl (by kernel_rfl) (by kernel_rfl) (by rw [HCl.out]; (try simp only [List.nil_append, List.cons_append]); (try dsimp only); ((repeat' apply And.intro) <;> first | (simp [go_sem, *]; done) | omega | (repeat' (first | with_reducible exact Below.refl _ _ | with_reducible assumption | ((with_reducible refine Below.drew ?_)) | ((with_reducible refine below_drewN ?_ _)) | ((with_reducible refine Below.alloc ?_ ?_ _); rotate_left; focus (first | omega | (simp; done) | (simp; omega))) | ((with_reducible refine Below.setCell ?_ ?_ _); rotate_left; focus (first | omega | (simp; done) | (simp; omega))) | ((with_reducible refine Below.trans ?_ (Below.mono (by with_reducible assumption) ?_)); rotate_left; focus (first | omega | (simp; done) | (simp; omega))))))) ?_
          (repeat (first | (refine wE_skip (by rfl) ?_; simp only [Act.put, Nat.reduceAdd, List.setIfInBounds_toArray, List.set_cons_zero, List.set_cons_succ, List.nil_append, List.cons_append]) | (refine wE_open (by rfl) (by rfl) ?_; apply Exists.intro; refine ⟨fun vs wq hw => ?_, ?_⟩; (focus (rw [HCl.out] at hw; (try simp only [List.nil_append, List.cons_append] at hw); (try dsimp only at hw); go_split_ands; go_simp <;> first | with_reducible exact (rfl : Value.bool false = _) | with_reducible exact (rfl : Value.bool true = _) | ((try go_bits) <;> exact rfl))); simp only [Act.put, Nat.reduceAdd, List.setIfInBounds_toArray, List.set_cons_zero, List.set_cons_succ, List.nil_append, List.cons_append]) | (refine wE_seal (by rfl) (by rfl) (by kernel_rfl) ?_; apply Exists.intro; refine ⟨fun wq hw => ?_, ?_⟩; (focus (rw [HCl.out] at hw; (try simp only [List.nil_append, List.cons_append] at hw); (try dsimp only at hw); go_split_ands; go_simp <;> (try go_bits) <;> exact rfl)); simp only [Act.put, Nat.reduceAdd, List.setIfInBounds_toArray, List.set_cons_zero, List.set_cons_succ, List.nil_append, List.cons_append]) | (refine wE_seal (by rfl) (by rfl) (by kernel_rfl) ?_; apply Exists.intro; refine ⟨fun wq hw => ?_, ?_⟩; (focus (rw [HCl.out] at hw; (try simp only [List.nil_append, List.cons_append] at hw); (try dsimp only at hw); go_split_ands; go_simp; (go_at_call 66; ((with_reducible refine (KC.out _).mono ?_); rintro e w' ⟨rfl, hbel⟩; obtain ⟨hcc, hff⟩ := bcell hbel; have hsz := hbel.size; (try simp at hsz); refine ⟨rfl, ?_⟩; rw [HCl.out]; (try simp only [List.nil_append, List.cons_append]); (try dsimp only); ((repeat' apply And.intro) <;> first | (simp [go_sem, *]; done) | omega | (repeat' (first | with_reducible exact Below.refl _ _ | with_reducible assumption | ((with_reducible refine Below.drew ?_)) | ((with_reducible refine below_drewN ?_ _)) | ((with_reducible refine Below.alloc ?_ ?_ _); rotate_left; focus (first | omega | (simp; done) | (simp; omega))) | ((with_reducible refine Below.setCell ?_ ?_ _); rotate_left; focus (first | omega | (simp; done) | (simp; omega))) | ((with_reducible refine Below.trans ?_ (Below.mono (by with_reducible assumption) ?_)); rotate_left; focus (first | omega | (simp; done) | (simp; omega)))))))))); simp only [Act.put, Nat.reduceAdd, List.setIfInBounds_toArray, List.set_cons_zero, List.set_cons_succ, List.nil_append, List.cons_append]) | (refine wE_eff (by rfl) (by rfl) (fun wq hw => ?_) (fun u hu => ?_); (focus (rw [HCl.out] at hw; (try simp only [List.nil_append, List.cons_append] at hw); (try dsimp only at hw); go_split_ands; go_simp; rw [HCl.out]; (try simp only [List.nil_append, List.cons_append]); (try dsimp only); fail; ((repeat' apply And.intro) <;> first | (simp [go_sem, *]; done) | omega | (repeat' (first | with_reducible exact Below.refl _ _ | with_reducible assumption | ((with_reducible refine Below.drew ?_)) | ((with_reducible refine below_drewN ?_ _)) | ((with_reducible refine Below.alloc ?_ ?_ _); rotate_left; focus (first | omega | (simp; done) | (simp; omega))) | ((with_reducible refine Below.setCell ?_ ?_ _); rotate_left; focus (first | omega | (simp; done) | (simp; omega))) | ((with_reducible refine Below.trans ?_ (Below.mono (by with_reducible assumption) ?_)); rotate_left; focus (first | omega | (simp; done) | (simp; omega)))))))); clear hu; simp only [Act.put, Nat.reduceAdd, List.setIfInBounds_toArray, List.set_cons_zero, List.set_cons_succ, List.nil_append, List.cons_append])))
          refine wE_nil ?_; intro w' hw; rw [HCl.out] at hw; (try simp only [List.nil_append, List.cons_append] at hw); (try dsimp only at hw); clear HCl
          go_split_ands
          rename Below wr.heap.size wr _ => hbq
          rename World => w2
          have HBW := Lib.hid (HB.out.trans (hbq.mono HB.out.size))
          clear hbq
          have hc : ∀ {o : Nat} {v : Value}, w.cell? ⟨b, o, none⟩ = some v → w2.cell? ⟨b, o, none⟩ = some v := fun h => (HBW.out.cell ltb).trans h
          have c2 := hc HN.out.c2
          have c3 := hc HN.out.c3
          have c4 := hc HN.out.c4
          have c5 := hc HN.out.c5
          clear hc
          go_wp2
          rw [← HR.out]
          refine bodyPost_ret (v := fres (some y)) (by simp [results, Try.results26, go_sem, fres, *]) rfl ⟨rfl, ?_⟩
          have hB := HBW.out
          (repeat' (first | assumption | exact Below.refl _ _ | refine Below.setCell ?_ (by simp) _ | refine Below.alloc ?_ (by simp) _ | refine Below.drew ?_))
end Go.Proofs.Ytikmdkmejbcmmaa
