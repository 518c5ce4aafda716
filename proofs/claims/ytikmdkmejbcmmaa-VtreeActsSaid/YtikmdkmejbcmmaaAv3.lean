/- learn. -/
import Derived.Test.YtikmdkmejbcmmaaAv2
import Derived.Deep.QuietTactic
import Derived.BigQuiet
namespace Go.Proofs.Ytikmdkmejbcmmaa
set_option linter.unusedVariables false
set_option linter.unusedSimpArgs false
set_option maxRecDepth 100000
open Go.RowKit Fg Reg
attribute [local irreducible] Reg.wE NT

theorem NC.setM {z : World} {b : Nat} {x m : It} {vl vr : Value} {h : Int} (H : NC z b x vl vr h m) (q : It) :
    NC ((((z.setCell ⟨b, 7, none⟩ (.int .u64 q.ka)).setCell ⟨b, 8, none⟩ (.int .i64 q.ki)).setCell ⟨b, 9, none⟩ (.int .u64 q.va)).setCell ⟨b, 10, none⟩ (.int .i64 q.vi)) b x vl vr h q := by
  obtain ⟨c0, c1, c2, c3, c4, c5, c6, c7, c8, c9, c10, fz, lt⟩ := H
  exact ⟨by simp [go_sem, *], by simp [go_sem, *], by simp [go_sem, *], by simp [go_sem, *], by simp [go_sem, *], by simp [go_sem, *], by simp [go_sem, *], by simp [go_sem, *], by simp [go_sem, *], by simp [go_sem, *], by simp [go_sem, *], fun j => by simp [go_sem, *], by simpa [go_sem] using lt⟩
theorem pt_ptr (t : Tr) : ∃ u, pt t = .pointer u := by cases t <;> exact ⟨_, rfl⟩
def bk (x : It) (l r : Tr) : Nat → It
  | 0 => x
  | 1 => btr x (isN l) (bst l)
  | _ => btr (btr x (isN l) (bst l)) (isN r) (bst r)
set_option maxHeartbeats 4000000 in
theorem lrn_c (b : Nat) (x : It) (l r : Tr) (h : Int) (m : It) (w : World) (hN : NC w b x (pt l) (pt r) h m) (hl : NT w l) (hr : NT w r) (hbl : b ∉ fp l) (hbr : b ∉ fp r) (hgl : hgt l ≤ 1000000) (hgr : hgt r ≤ 1000000) :
    Calls Try.prog 79 #[.pointer (some ⟨b, 0, none⟩)] w fun e w' => e = .returned (.tuple #[]) ∧ NT w' (.node b x l r) ∧ Only (fun k => k = b) w w' := by
  have k1 := fun (z : World) (hz : NT z l) => hei_c l z hz
  have k2 := fun (z : World) (hz : NT z r) => hei_c r z hz
  have hMX : ∀ z, (Builtin.max_ #[3, 3] 3 #[.int .i64 (hgt l), .int .i64 (hgt r)]).run Try.prog z = .ok (.int .i64 (max (hgt l) (hgt r) : Nat)) z := fun z => by
    have : ((max (hgt l) (hgt r) : Nat) : Int) = if (hgt r : Int) > (hgt l : Int) then (hgt r : Int) else (hgt l : Int) := by split <;> omega
    rw [this]
    simp [Builtin.max_, Builtin.max2]
  obtain ⟨H, hH⟩ : ∃ H, hgt (.node b x l r) = H := ⟨_, rfl⟩
  have hH2 : (1 : Int) + ((max (hgt l) (hgt r) : Nat) : Int) = (H : Int) := by rw [← hH, hgt_node]; omega
  have W1 : IntKind.i64.wrap ((1 : Int) + ((max (hgt l) (hgt r) : Nat) : Int)) = (H : Int) := by rw [hH2, IntKind.wrap_i64]; omega
  have HHH := Lib.hid hH
  have hI0 : ∀ (u v : Value) (z : World), (Instr.index 140 (.agg #[u, v]) (.int .i64 0)).run Try.prog z = .ok u z := fun u v z => by kernel_rfl
  have hI1 : ∀ (u v : Value) (z : World), (Instr.index 140 (.agg #[u, v]) (.int .i64 1)).run Try.prog z = .ok v z := fun u v z => by kernel_rfl
  obtain ⟨ul, hvl⟩ := pt_ptr l
  obtain ⟨ur, hvr⟩ := pt_ptr r
  rw [hvl] at k1
  rw [hvr] at k2
  rw [hvl, hvr] at hN
  generalize max (hgt l) (hgt r) = M at *
  generalize hgt l = gl at *
  generalize hgt r = gr at *
  have K1 := Lib.hid k1
  have K2 := Lib.hid k2
  have HVL := Lib.hid hvl
  have HVR := Lib.hid hvr
  have c4 := hN.c4
  have c5 := hN.c5
  have f6 := hN.fz 6
  have lt := hN.lt
  clear k1 k2 hH hH2 hvl hvr
  go_enter Try.func79, Try.ntmps79
  go_wp2
  obtain ⟨Cl, hCl⟩ : ∃ Cl : List Value → World → Prop, Cl = ((fun ps wz => (match ps with | [] => NC wz b x (.pointer ul) (.pointer ur) h m | _ => NC wz b x (.pointer ul) (.pointer ur) H m) ∧ wz.cell? ⟨b, 4, none⟩ = some (.pointer ul) ∧ wz.cell? ⟨b, 5, none⟩ = some (.pointer ur) ∧ wz.frozen? ⟨b, 6, none⟩ = false ∧ b < wz.heap.size ∧ NT wz l ∧ NT wz r ∧ Only (fun k => k = b) w wz)) := ⟨_, rfl⟩; have HCl := Lib.hid hCl; clear hCl; refine wp_region_eff [15] Cl (by kernel_rfl) (by kernel_rfl) (by rw [HCl.out]; (try simp only [List.nil_append, List.cons_append]); (try dsimp only); exact ⟨hN.below (Below.drew (Below.refl _ _)), c4, c5, f6, lt, NT.below (Below.drew (Below.refl _ _)) hl, NT.below (Below.drew (Below.refl _ _)) hr, (Only.refl _ _).drew⟩) ?_
  (repeat (first | (refine wE_skip (by rfl) ?_; simp only [Act.put, Nat.reduceAdd, List.setIfInBounds_toArray, List.set_cons_zero, List.set_cons_succ, List.nil_append, List.cons_append]) | (refine wE_open (by rfl) (by rfl) ?_; apply Exists.intro; refine ⟨fun vs wq hw => ?_, ?_⟩; (focus (rw [HCl.out] at hw; (try simp only [List.nil_append, List.cons_append] at hw); (try dsimp only at hw); go_split_ands; go_simp <;> first | with_reducible exact (rfl : Value.bool false = _) | with_reducible exact (rfl : Value.bool true = _) | ((try go_bits) <;> exact rfl))); simp only [Act.put, Nat.reduceAdd, List.setIfInBounds_toArray, List.set_cons_zero, List.set_cons_succ, List.nil_append, List.cons_append]) | (refine wE_seal (by rfl) (by rfl) (by kernel_rfl) ?_; apply Exists.intro; refine ⟨fun wq hw => ?_, ?_⟩; (focus (rw [HCl.out] at hw; (try simp only [List.nil_append, List.cons_append] at hw); (try dsimp only at hw); go_split_ands; go_simp <;> (try go_bits) <;> exact rfl)); simp only [Act.put, Nat.reduceAdd, List.setIfInBounds_toArray, List.set_cons_zero, List.set_cons_succ, List.nil_append, List.cons_append]) | (refine wE_seal (by rfl) (by rfl) (by kernel_rfl) ?_; apply Exists.intro; refine ⟨fun wq hw => ?_, ?_⟩; (focus (rw [HCl.out] at hw; (try simp only [List.nil_append, List.cons_append] at hw); (try dsimp only at hw); go_split_ands; go_simp; (first | (go_at_call 68; (with_reducible refine (K1.out _ (by with_reducible assumption)).mono ?_); rintro e w' ⟨rfl, rfl⟩; refine ⟨rfl, ?_⟩; rw [HCl.out]; (try simp only [List.nil_append, List.cons_append]); (try dsimp only); ((repeat' apply And.intro) <;> with_reducible assumption)) | (go_at_call 68; (with_reducible refine (K2.out _ (by with_reducible assumption)).mono ?_); rintro e w' ⟨rfl, rfl⟩; refine ⟨rfl, ?_⟩; rw [HCl.out]; (try simp only [List.nil_append, List.cons_append]); (try dsimp only); ((repeat' apply And.intro) <;> with_reducible assumption))))); simp only [Act.put, Nat.reduceAdd, List.setIfInBounds_toArray, List.set_cons_zero, List.set_cons_succ, List.nil_append, List.cons_append]) | (refine wE_eff (by rfl) (by rfl) (fun wq hw => ?_) (fun u hu => ?_); (focus (rw [HCl.out] at hw; (try simp only [List.nil_append, List.cons_append] at hw); (try dsimp only at hw); go_split_ands; go_simp; rw [HCl.out]; (try simp only [List.nil_append, List.cons_append]); (try dsimp only); fail; ((repeat' apply And.intro) <;> first | (simp [go_sem, *]; done) | omega | (repeat' (first | with_reducible exact Below.refl _ _ | with_reducible assumption | ((with_reducible refine Below.drew ?_)) | ((with_reducible refine below_drewN ?_ _)) | ((with_reducible refine Below.alloc ?_ ?_ _); rotate_left; focus (first | omega | (simp; done) | (simp; omega))) | ((with_reducible refine Below.setCell ?_ ?_ _); rotate_left; focus (first | omega | (simp; done) | (simp; omega))) | ((with_reducible refine Below.trans ?_ (Below.mono (by with_reducible assumption) ?_)); rotate_left; focus (first | omega | (simp; done) | (simp; omega)))))))); clear hu; simp only [Act.put, Nat.reduceAdd, List.setIfInBounds_toArray, List.set_cons_zero, List.set_cons_succ, List.nil_append, List.cons_append])))
  refine wE_eff (by rfl) (by rfl) (fun wq hw => ?_) (fun u hu => ?_)
  focus
    rw [HCl.out] at hw; (try simp only [List.nil_append, List.cons_append] at hw); (try dsimp only at hw)
    obtain ⟨g1, g2, g3, g4, g5, g6, g7, g8⟩ := hw
    have e6 := g1.c6
    go_simp
    rw [HCl.out]; (try simp only [List.nil_append, List.cons_append]); (try dsimp only)
    exact ⟨g1.setH _, by simp [go_sem, g2], by simp [go_sem, g3], by simp [go_sem, g4], by simpa [go_sem] using g5, g6.set hbl, g7.set hbr, g8.setOne _ _ _⟩
  clear hu
  simp only [Act.put, Nat.reduceAdd, List.setIfInBounds_toArray, List.set_cons_zero, List.set_cons_succ, List.nil_append, List.cons_append]
  refine wE_nil ?_
  intro w1 hw
  rw [HCl.out] at hw; (try simp only [List.nil_append, List.cons_append] at hw); (try dsimp only at hw)
  clear HCl
  obtain ⟨g1, -, -, -, -, g6, g7, g8⟩ := hw
  clear c4 c5 f6 lt hN hl hr K1 K2
  have HG1 := Lib.hid g1
  obtain ⟨c0, c1, c2, c3, c4, c5, c6, c7, c8, c9, c10, fz, lt⟩ := g1
  go_wp2
  go_quiet (fail)
  go_wp2
  have hM := HG1.out.setM x
  have hO := (((g8.setOne 7 none (.int .u64 x.ka)).setOne 8 none (.int .i64 x.ki)).setOne 9 none (.int .u64 x.va)).setOne 10 none (.int .i64 x.vi)
  have hL := (((g6.set (o := 7) (v := .int .u64 x.ka) hbl).set (o := 8) (v := .int .i64 x.ki) hbl).set (o := 9) (v := .int .u64 x.va) hbl).set (o := 10) (v := .int .i64 x.vi) hbl
  have hR := (((g7.set (o := 7) (v := .int .u64 x.ka) hbr).set (o := 8) (v := .int .i64 x.ki) hbr).set (o := 9) (v := .int .u64 x.va) hbr).set (o := 10) (v := .int .i64 x.vi) hbr
  have HM := Lib.hid hM
  clear c0 c1 c2 c3 c4 c5 c6 c7 c8 c9 c10 fz lt g6 g7 g8 hM
  go_loopw [35] (fun iv wr => ∃ k : Nat, k ≤ 2 ∧ iv = .int .i64 k ∧ NC wr b x (.pointer ul) (.pointer ur) H (bk x l r k) ∧ NT wr l ∧ NT wr r ∧ Only (fun k => k = b) w wr) (fun iv _ => 2 - (intOf iv).toNat)
  case atStart => exact ⟨0, by omega, rfl, HM.out.below (below_drewN (Below.refl _ _) _), NT.below (below_drewN (Below.refl _ _) _) hL, NT.below (below_drewN (Below.refl _ _) _) hR, hO.trans (Only.of_below (below_drewN (Below.refl _ _) _))⟩
  case round =>
    obtain ⟨k, hk, rfl, hnc, hnl, hnr, ho⟩ := hrel
    clear HM hL hR hO HG1
    have hk3 : k = 0 ∨ k = 1 ∨ k = 2 := by omega
    rcases hk3 with rfl | rfl | rfl
    · clear hI1
      cases l with
      | nil =>
        obtain rfl : ul = none := by have := HVL.out; unfold pt at this; simpa using this.symm
        go_wp2
        go_quiet (fail)
        go_wp2
        go_roundw
        case rel => exact ⟨1, by omega, rfl, hnc.below (below_drewN (Below.refl _ _) _), NT.below (below_drewN (Below.refl _ _) _) hnl, NT.below (below_drewN (Below.refl _ _) _) hnr, ho.trans (Only.of_below (below_drewN (Below.refl _ _) _))⟩
        case measure => simp [intOf]
      | node c y sl sr =>
        obtain rfl : ul = some ⟨c, 0, none⟩ := by have := HVL.out; unfold pt at this; simpa using this.symm
        have hq := hnl
        unfold NT at hq
        have hcc := hq.1
        have hcb : ¬ c = b := fun h => by subst h; exact hbl (by simp [fp])
        have n7 := hcc.c7
        have n8 := hcc.c8
        have n9 := hcc.c9
        have n10 := hcc.c10
        have nlt := hcc.lt
        have hbk : bk x (.node c y sl sr) r 1 = if ahd (bst (.node c y sl sr)) (bk x (.node c y sl sr) r 0) = true then bst (.node c y sl sr) else bk x (.node c y sl sr) r 0 := by
          show btr _ _ _ = _
          unfold btr isN
          rfl
        have HBK := Lib.hid hbk
        have HNC := Lib.hid hnc
        obtain ⟨c0, c1, c2, c3, c4, c5, c6, c7, c8, c9, c10, fz, lt⟩ := hnc
        generalize bst (.node c y sl sr) = q at *
        generalize bk x (.node c y sl sr) r 0 = m1 at *
        have ka := fun z => ahd_c q m1 z
        clear hq hcc hbk
        cases had : ahd q m1 with
        | false =>
          rw [had] at ka
          have KA := Lib.hid ka
          have HB2 := Lib.hid (show bk x (.node c y sl sr) r 1 = m1 by rw [HBK.out, had]; rfl)
          clear ka had HBK
          go_wp2
          obtain ⟨Cl, hCl⟩ : ∃ Cl : List Value → World → Prop, Cl = ((fun ps wz => (wz.cell? ⟨c, 7, none⟩ = some (.int .u64 (q).ka) ∧ wz.cell? ⟨c, 8, none⟩ = some (.int .i64 (q).ki) ∧ wz.cell? ⟨c, 9, none⟩ = some (.int .u64 (q).va) ∧ wz.cell? ⟨c, 10, none⟩ = some (.int .i64 (q).vi) ∧ c < wz.heap.size) ∧ (wz.cell? ⟨b, 7, none⟩ = some (.int .u64 (m1).ka) ∧ wz.cell? ⟨b, 8, none⟩ = some (.int .i64 (m1).ki) ∧ wz.cell? ⟨b, 9, none⟩ = some (.int .u64 (m1).va) ∧ wz.cell? ⟨b, 10, none⟩ = some (.int .i64 (m1).vi) ∧ b < wz.heap.size) ∧ wr.heap.size ≤ wz.heap.size ∧ Below wr.heap.size wr wz)) := ⟨_, rfl⟩; have HCl := Lib.hid hCl; clear hCl; refine wp_region_eff [] Cl (by kernel_rfl) (by kernel_rfl) (by rw [HCl.out]; (try simp only [List.nil_append, List.cons_append]); (try dsimp only); ((repeat' apply And.intro) <;> first | (simp [go_sem, *]; done) | omega | (repeat' (first | with_reducible exact Below.refl _ _ | with_reducible assumption | ((with_reducible refine Below.drew ?_)) | ((with_reducible refine below_drewN ?_ _)) | ((with_reducible refine Below.alloc ?_ ?_ _); rotate_left; focus (first | omega | (simp; done) | (simp; omega))) | ((with_reducible refine Below.setCell ?_ ?_ _); rotate_left; focus (first | omega | (simp; done) | (simp; omega))) | ((with_reducible refine Below.trans ?_ (Below.mono (by with_reducible assumption) ?_)); rotate_left; focus (first | omega | (simp; done) | (simp; omega))))))) ?_
          (repeat (first | (refine wE_skip (by rfl) ?_; simp only [Act.put, Nat.reduceAdd, List.setIfInBounds_toArray, List.set_cons_zero, List.set_cons_succ, List.nil_append, List.cons_append]) | (refine wE_open (by rfl) (by rfl) ?_; apply Exists.intro; refine ⟨fun vs wq hw => ?_, ?_⟩; (focus (rw [HCl.out] at hw; (try simp only [List.nil_append, List.cons_append] at hw); (try dsimp only at hw); go_split_ands; go_simp <;> first | with_reducible exact (rfl : Value.bool false = _) | with_reducible exact (rfl : Value.bool true = _) | ((try go_bits) <;> exact rfl))); simp only [Act.put, Nat.reduceAdd, List.setIfInBounds_toArray, List.set_cons_zero, List.set_cons_succ, List.nil_append, List.cons_append]) | (refine wE_seal (by rfl) (by rfl) (by kernel_rfl) ?_; apply Exists.intro; refine ⟨fun wq hw => ?_, ?_⟩; (focus (rw [HCl.out] at hw; (try simp only [List.nil_append, List.cons_append] at hw); (try dsimp only at hw); go_split_ands; go_simp <;> (try go_bits) <;> exact rfl)); simp only [Act.put, Nat.reduceAdd, List.setIfInBounds_toArray, List.set_cons_zero, List.set_cons_succ, List.nil_append, List.cons_append]) | (refine wE_seal (by rfl) (by rfl) (by kernel_rfl) ?_; apply Exists.intro; refine ⟨fun wq hw => ?_, ?_⟩; (focus (rw [HCl.out] at hw; (try simp only [List.nil_append, List.cons_append] at hw); (try dsimp only at hw); go_split_ands; go_simp; (go_at_call 62; ((with_reducible refine (KA.out _).mono ?_); rintro e w' ⟨rfl, hbel⟩; obtain ⟨hcc, hff⟩ := bcell hbel; have hsz := hbel.size; (try simp at hsz); refine ⟨rfl, ?_⟩; rw [HCl.out]; (try simp only [List.nil_append, List.cons_append]); (try dsimp only); ((repeat' apply And.intro) <;> first | (simp [go_sem, *]; done) | omega | (repeat' (first | with_reducible exact Below.refl _ _ | with_reducible assumption | ((with_reducible refine Below.drew ?_)) | ((with_reducible refine below_drewN ?_ _)) | ((with_reducible refine Below.alloc ?_ ?_ _); rotate_left; focus (first | omega | (simp; done) | (simp; omega))) | ((with_reducible refine Below.setCell ?_ ?_ _); rotate_left; focus (first | omega | (simp; done) | (simp; omega))) | ((with_reducible refine Below.trans ?_ (Below.mono (by with_reducible assumption) ?_)); rotate_left; focus (first | omega | (simp; done) | (simp; omega)))))))))); simp only [Act.put, Nat.reduceAdd, List.setIfInBounds_toArray, List.set_cons_zero, List.set_cons_succ, List.nil_append, List.cons_append]) | (refine wE_eff (by rfl) (by rfl) (fun wq hw => ?_) (fun u hu => ?_); (focus (rw [HCl.out] at hw; (try simp only [List.nil_append, List.cons_append] at hw); (try dsimp only at hw); go_split_ands; go_simp; rw [HCl.out]; (try simp only [List.nil_append, List.cons_append]); (try dsimp only); fail; ((repeat' apply And.intro) <;> first | (simp [go_sem, *]; done) | omega | (repeat' (first | with_reducible exact Below.refl _ _ | with_reducible assumption | ((with_reducible refine Below.drew ?_)) | ((with_reducible refine below_drewN ?_ _)) | ((with_reducible refine Below.alloc ?_ ?_ _); rotate_left; focus (first | omega | (simp; done) | (simp; omega))) | ((with_reducible refine Below.setCell ?_ ?_ _); rotate_left; focus (first | omega | (simp; done) | (simp; omega))) | ((with_reducible refine Below.trans ?_ (Below.mono (by with_reducible assumption) ?_)); rotate_left; focus (first | omega | (simp; done) | (simp; omega)))))))); clear hu; simp only [Act.put, Nat.reduceAdd, List.setIfInBounds_toArray, List.set_cons_zero, List.set_cons_succ, List.nil_append, List.cons_append])))
          refine wE_nil ?_; intro w' hw; rw [HCl.out] at hw; (try simp only [List.nil_append, List.cons_append] at hw); (try dsimp only at hw); clear HCl
          go_split_ands
          rename Below wr.heap.size wr _ => hbq
          go_wp2
          go_roundw
          case rel => exact ⟨1, by omega, rfl, by rw [HB2.out]; exact HNC.out.below hbq, NT.below hbq hnl, NT.below hbq hnr, ho.trans (Only.of_below (Below.mono hbq (Nat.le_refl _)))⟩
          case measure => simp [intOf]
        | true =>
          rw [had] at ka
          have KA := Lib.hid ka
          have HB2 := Lib.hid (show bk x (.node c y sl sr) r 1 = q by rw [HBK.out, had]; rfl)
          clear ka had HBK
          go_wp2
          obtain ⟨Cl, hCl⟩ : ∃ Cl : List Value → World → Prop, Cl = ((fun ps wz => (wz.cell? ⟨c, 7, none⟩ = some (.int .u64 (q).ka) ∧ wz.cell? ⟨c, 8, none⟩ = some (.int .i64 (q).ki) ∧ wz.cell? ⟨c, 9, none⟩ = some (.int .u64 (q).va) ∧ wz.cell? ⟨c, 10, none⟩ = some (.int .i64 (q).vi) ∧ c < wz.heap.size) ∧ (wz.cell? ⟨b, 7, none⟩ = some (.int .u64 (m1).ka) ∧ wz.cell? ⟨b, 8, none⟩ = some (.int .i64 (m1).ki) ∧ wz.cell? ⟨b, 9, none⟩ = some (.int .u64 (m1).va) ∧ wz.cell? ⟨b, 10, none⟩ = some (.int .i64 (m1).vi) ∧ b < wz.heap.size) ∧ wr.heap.size ≤ wz.heap.size ∧ Below wr.heap.size wr wz)) := ⟨_, rfl⟩; have HCl := Lib.hid hCl; clear hCl; refine wp_region_eff [] Cl (by kernel_rfl) (by kernel_rfl) (by rw [HCl.out]; (try simp only [List.nil_append, List.cons_append]); (try dsimp only); ((repeat' apply And.intro) <;> first | (simp [go_sem, *]; done) | omega | (repeat' (first | with_reducible exact Below.refl _ _ | with_reducible assumption | ((with_reducible refine Below.drew ?_)) | ((with_reducible refine below_drewN ?_ _)) | ((with_reducible refine Below.alloc ?_ ?_ _); rotate_left; focus (first | omega | (simp; done) | (simp; omega))) | ((with_reducible refine Below.setCell ?_ ?_ _); rotate_left; focus (first | omega | (simp; done) | (simp; omega))) | ((with_reducible refine Below.trans ?_ (Below.mono (by with_reducible assumption) ?_)); rotate_left; focus (first | omega | (simp; done) | (simp; omega))))))) ?_
          (repeat (first | (refine wE_skip (by rfl) ?_; simp only [Act.put, Nat.reduceAdd, List.setIfInBounds_toArray, List.set_cons_zero, List.set_cons_succ, List.nil_append, List.cons_append]) | (refine wE_open (by rfl) (by rfl) ?_; apply Exists.intro; refine ⟨fun vs wq hw => ?_, ?_⟩; (focus (rw [HCl.out] at hw; (try simp only [List.nil_append, List.cons_append] at hw); (try dsimp only at hw); go_split_ands; go_simp <;> first | with_reducible exact (rfl : Value.bool false = _) | with_reducible exact (rfl : Value.bool true = _) | ((try go_bits) <;> exact rfl))); simp only [Act.put, Nat.reduceAdd, List.setIfInBounds_toArray, List.set_cons_zero, List.set_cons_succ, List.nil_append, List.cons_append]) | (refine wE_seal (by rfl) (by rfl) (by kernel_rfl) ?_; apply Exists.intro; refine ⟨fun wq hw => ?_, ?_⟩; (focus (rw [HCl.out] at hw; (try simp only [List.nil_append, List.cons_append] at hw); (try dsimp only at hw); go_split_ands; go_simp <;> (try go_bits) <;> exact rfl)); simp only [Act.put, Nat.reduceAdd, List.setIfInBounds_toArray, List.set_cons_zero, List.set_cons_succ, List.nil_append, List.cons_append]) | (refine wE_seal (by rfl) (by rfl) (by kernel_rfl) ?_; apply Exists.intro; refine ⟨fun wq hw => ?_, ?_⟩; (focus (rw [HCl.out] at hw; (try simp only [List.nil_append, List.cons_append] at hw); (try dsimp only at hw); go_split_ands; go_simp; (go_at_call 62; ((with_reducible refine (KA.out _).mono ?_); rintro e w' ⟨rfl, hbel⟩; obtain ⟨hcc, hff⟩ := bcell hbel; have hsz := hbel.size; (try simp at hsz); refine ⟨rfl, ?_⟩; rw [HCl.out]; (try simp only [List.nil_append, List.cons_append]); (try dsimp only); ((repeat' apply And.intro) <;> first | (simp [go_sem, *]; done) | omega | (repeat' (first | with_reducible exact Below.refl _ _ | with_reducible assumption | ((with_reducible refine Below.drew ?_)) | ((with_reducible refine below_drewN ?_ _)) | ((with_reducible refine Below.alloc ?_ ?_ _); rotate_left; focus (first | omega | (simp; done) | (simp; omega))) | ((with_reducible refine Below.setCell ?_ ?_ _); rotate_left; focus (first | omega | (simp; done) | (simp; omega))) | ((with_reducible refine Below.trans ?_ (Below.mono (by with_reducible assumption) ?_)); rotate_left; focus (first | omega | (simp; done) | (simp; omega)))))))))); simp only [Act.put, Nat.reduceAdd, List.setIfInBounds_toArray, List.set_cons_zero, List.set_cons_succ, List.nil_append, List.cons_append]) | (refine wE_eff (by rfl) (by rfl) (fun wq hw => ?_) (fun u hu => ?_); (focus (rw [HCl.out] at hw; (try simp only [List.nil_append, List.cons_append] at hw); (try dsimp only at hw); go_split_ands; go_simp; rw [HCl.out]; (try simp only [List.nil_append, List.cons_append]); (try dsimp only); fail; ((repeat' apply And.intro) <;> first | (simp [go_sem, *]; done) | omega | (repeat' (first | with_reducible exact Below.refl _ _ | with_reducible assumption | ((with_reducible refine Below.drew ?_)) | ((with_reducible refine below_drewN ?_ _)) | ((with_reducible refine Below.alloc ?_ ?_ _); rotate_left; focus (first | omega | (simp; done) | (simp; omega))) | ((with_reducible refine Below.setCell ?_ ?_ _); rotate_left; focus (first | omega | (simp; done) | (simp; omega))) | ((with_reducible refine Below.trans ?_ (Below.mono (by with_reducible assumption) ?_)); rotate_left; focus (first | omega | (simp; done) | (simp; omega)))))))); clear hu; simp only [Act.put, Nat.reduceAdd, List.setIfInBounds_toArray, List.set_cons_zero, List.set_cons_succ, List.nil_append, List.cons_append])))
          refine wE_nil ?_; intro w' hw; rw [HCl.out] at hw; (try simp only [List.nil_append, List.cons_append] at hw); (try dsimp only at hw); clear HCl
          go_split_ands
          rename Below wr.heap.size wr _ => hbq
          rename World => w9
          have H9 := Lib.hid (HNC.out.below hbq)
          have fz9 := H9.out.fz
          go_wp2
          go_roundw
          case rel => exact ⟨1, by omega, rfl, by rw [HB2.out]; exact H9.out.setM q, ((((NT.below hbq hnl).set hbl).set hbl).set hbl).set hbl, ((((NT.below hbq hnr).set hbr).set hbr).set hbr).set hbr, ((((ho.trans (Only.of_below hbq)).setOne _ _ _).setOne _ _ _).setOne _ _ _).setOne _ _ _⟩
          case measure => simp [intOf]
    · clear hI0
      cases r with
      | nil =>
        obtain rfl : ur = none := by have := HVR.out; unfold pt at this; simpa using this.symm
        go_wp2
        go_quiet (fail)
        go_wp2
        go_roundw
        case rel => exact ⟨2, by omega, rfl, hnc.below (below_drewN (Below.refl _ _) _), NT.below (below_drewN (Below.refl _ _) _) hnl, NT.below (below_drewN (Below.refl _ _) _) hnr, ho.trans (Only.of_below (below_drewN (Below.refl _ _) _))⟩
        case measure => simp [intOf]
      | node c y sl sr =>
        obtain rfl : ur = some ⟨c, 0, none⟩ := by have := HVR.out; unfold pt at this; simpa using this.symm
        have hq := hnr
        unfold NT at hq
        have hcc := hq.1
        have hcb : ¬ c = b := fun h => by subst h; exact hbr (by simp [fp])
        have n7 := hcc.c7
        have n8 := hcc.c8
        have n9 := hcc.c9
        have n10 := hcc.c10
        have nlt := hcc.lt
        have hbk : bk x l (.node c y sl sr) 2 = if ahd (bst (.node c y sl sr)) (bk x l (.node c y sl sr) 1) = true then bst (.node c y sl sr) else bk x l (.node c y sl sr) 1 := by
          show btr _ _ _ = _
          unfold btr isN
          rfl
        have HBK := Lib.hid hbk
        have HNC := Lib.hid hnc
        obtain ⟨c0, c1, c2, c3, c4, c5, c6, c7, c8, c9, c10, fz, lt⟩ := hnc
        generalize bst (.node c y sl sr) = q at *
        generalize bk x l (.node c y sl sr) 1 = m1 at *
        have ka := fun z => ahd_c q m1 z
        clear hq hcc hbk
        cases had : ahd q m1 with
        | false =>
          rw [had] at ka
          have KA := Lib.hid ka
          have HB2 := Lib.hid (show bk x l (.node c y sl sr) 2 = m1 by rw [HBK.out, had]; rfl)
          clear ka had HBK
          go_wp2
          obtain ⟨Cl, hCl⟩ : ∃ Cl : List Value → World → Prop, Cl = ((fun ps wz => (wz.cell? ⟨c, 7, none⟩ = some (.int .u64 (q).ka) ∧ wz.cell? ⟨c, 8, none⟩ = some (.int .i64 (q).ki) ∧ wz.cell? ⟨c, 9, none⟩ = some (.int .u64 (q).va) ∧ wz.cell? ⟨c, 10, none⟩ = some (.int .i64 (q).vi) ∧ c < wz.heap.size) ∧ (wz.cell? ⟨b, 7, none⟩ = some (.int .u64 (m1).ka) ∧ wz.cell? ⟨b, 8, none⟩ = some (.int .i64 (m1).ki) ∧ wz.cell? ⟨b, 9, none⟩ = some (.int .u64 (m1).va) ∧ wz.cell? ⟨b, 10, none⟩ = some (.int .i64 (m1).vi) ∧ b < wz.heap.size) ∧ wr.heap.size ≤ wz.heap.size ∧ Below wr.heap.size wr wz)) := ⟨_, rfl⟩; have HCl := Lib.hid hCl; clear hCl; refine wp_region_eff [] Cl (by kernel_rfl) (by kernel_rfl) (by rw [HCl.out]; (try simp only [List.nil_append, List.cons_append]); (try dsimp only); ((repeat' apply And.intro) <;> first | (simp [go_sem, *]; done) | omega | (repeat' (first | with_reducible exact Below.refl _ _ | with_reducible assumption | ((with_reducible refine Below.drew ?_)) | ((with_reducible refine below_drewN ?_ _)) | ((with_reducible refine Below.alloc ?_ ?_ _); rotate_left; focus (first | omega | (simp; done) | (simp; omega))) | ((with_reducible refine Below.setCell ?_ ?_ _); rotate_left; focus (first | omega | (simp; done) | (simp; omega))) | ((with_reducible refine Below.trans ?_ (Below.mono (by with_reducible assumption) ?_)); rotate_left; focus (first | omega | (simp; done) | (simp; omega))))))) ?_
          (repeat (first | (refine wE_skip (by rfl) ?_; simp only [Act.put, Nat.reduceAdd, List.setIfInBounds_toArray, List.set_cons_zero, List.set_cons_succ, List.nil_append, List.cons_append]) | (refine wE_open (by rfl) (by rfl) ?_; apply Exists.intro; refine ⟨fun vs wq hw => ?_, ?_⟩; (focus (rw [HCl.out] at hw; (try simp only [List.nil_append, List.cons_append] at hw); (try dsimp only at hw); go_split_ands; go_simp <;> first | with_reducible exact (rfl : Value.bool false = _) | with_reducible exact (rfl : Value.bool true = _) | ((try go_bits) <;> exact rfl))); simp only [Act.put, Nat.reduceAdd, List.setIfInBounds_toArray, List.set_cons_zero, List.set_cons_succ, List.nil_append, List.cons_append]) | (refine wE_seal (by rfl) (by rfl) (by kernel_rfl) ?_; apply Exists.intro; refine ⟨fun wq hw => ?_, ?_⟩; (focus (rw [HCl.out] at hw; (try simp only [List.nil_append, List.cons_append] at hw); (try dsimp only at hw); go_split_ands; go_simp <;> (try go_bits) <;> exact rfl)); simp only [Act.put, Nat.reduceAdd, List.setIfInBounds_toArray, List.set_cons_zero, List.set_cons_succ, List.nil_append, List.cons_append]) | (refine wE_seal (by rfl) (by rfl) (by kernel_rfl) ?_; apply Exists.intro; refine ⟨fun wq hw => ?_, ?_⟩; (focus (rw [HCl.out] at hw; (try simp only [List.nil_append, List.cons_append] at hw); (try dsimp only at hw); go_split_ands; go_simp; (go_at_call 62; ((with_reducible refine (KA.out _).mono ?_); rintro e w' ⟨rfl, hbel⟩; obtain ⟨hcc, hff⟩ := bcell hbel; have hsz := hbel.size; (try simp at hsz); refine ⟨rfl, ?_⟩; rw [HCl.out]; (try simp only [List.nil_append, List.cons_append]); (try dsimp only); ((repeat' apply And.intro) <;> first | (simp [go_sem, *]; done) | omega | (repeat' (first | with_reducible exact Below.refl _ _ | with_reducible assumption | ((with_reducible refine Below.drew ?_)) | ((with_reducible refine below_drewN ?_ _)) | ((with_reducible refine Below.alloc ?_ ?_ _); rotate_left; focus (first | omega | (simp; done) | (simp; omega))) | ((with_reducible refine Below.setCell ?_ ?_ _); rotate_left; focus (first | omega | (simp; done) | (simp; omega))) | ((with_reducible refine Below.trans ?_ (Below.mono (by with_reducible assumption) ?_)); rotate_left; focus (first | omega | (simp; done) | (simp; omega)))))))))); simp only [Act.put, Nat.reduceAdd, List.setIfInBounds_toArray, List.set_cons_zero, List.set_cons_succ, List.nil_append, List.cons_append]) | (refine wE_eff (by rfl) (by rfl) (fun wq hw => ?_) (fun u hu => ?_); (focus (rw [HCl.out] at hw; (try simp only [List.nil_append, List.cons_append] at hw); (try dsimp only at hw); go_split_ands; go_simp; rw [HCl.out]; (try simp only [List.nil_append, List.cons_append]); (try dsimp only); fail; ((repeat' apply And.intro) <;> first | (simp [go_sem, *]; done) | omega | (repeat' (first | with_reducible exact Below.refl _ _ | with_reducible assumption | ((with_reducible refine Below.drew ?_)) | ((with_reducible refine below_drewN ?_ _)) | ((with_reducible refine Below.alloc ?_ ?_ _); rotate_left; focus (first | omega | (simp; done) | (simp; omega))) | ((with_reducible refine Below.setCell ?_ ?_ _); rotate_left; focus (first | omega | (simp; done) | (simp; omega))) | ((with_reducible refine Below.trans ?_ (Below.mono (by with_reducible assumption) ?_)); rotate_left; focus (first | omega | (simp; done) | (simp; omega)))))))); clear hu; simp only [Act.put, Nat.reduceAdd, List.setIfInBounds_toArray, List.set_cons_zero, List.set_cons_succ, List.nil_append, List.cons_append])))
          refine wE_nil ?_; intro w' hw; rw [HCl.out] at hw; (try simp only [List.nil_append, List.cons_append] at hw); (try dsimp only at hw); clear HCl
          go_split_ands
          rename Below wr.heap.size wr _ => hbq
          go_wp2
          go_roundw
          case rel => exact ⟨2, by omega, rfl, by rw [HB2.out]; exact HNC.out.below hbq, NT.below hbq hnl, NT.below hbq hnr, ho.trans (Only.of_below (Below.mono hbq (Nat.le_refl _)))⟩
          case measure => simp [intOf]
        | true =>
          rw [had] at ka
          have KA := Lib.hid ka
          have HB2 := Lib.hid (show bk x l (.node c y sl sr) 2 = q by rw [HBK.out, had]; rfl)
          clear ka had HBK
          go_wp2
          obtain ⟨Cl, hCl⟩ : ∃ Cl : List Value → World → Prop, Cl = ((fun ps wz => (wz.cell? ⟨c, 7, none⟩ = some (.int .u64 (q).ka) ∧ wz.cell? ⟨c, 8, none⟩ = some (.int .i64 (q).ki) ∧ wz.cell? ⟨c, 9, none⟩ = some (.int .u64 (q).va) ∧ wz.cell? ⟨c, 10, none⟩ = some (.int .i64 (q).vi) ∧ c < wz.heap.size) ∧ (wz.cell? ⟨b, 7, none⟩ = some (.int .u64 (m1).ka) ∧ wz.cell? ⟨b, 8, none⟩ = some (.int .i64 (m1).ki) ∧ wz.cell? ⟨b, 9, none⟩ = some (.int .u64 (m1).va) ∧ wz.cell? ⟨b, 10, none⟩ = some (.int .i64 (m1).vi) ∧ b < wz.heap.size) ∧ wr.heap.size ≤ wz.heap.size ∧ Below wr.heap.size wr wz)) := ⟨_, rfl⟩; have HCl := Lib.hid hCl; clear hCl; refine wp_region_eff [] Cl (by kernel_rfl) (by kernel_rfl) (by rw [HCl.out]; (try simp only [List.nil_append, List.cons_append]); (try dsimp only); ((repeat' apply And.intro) <;> first | (simp [go_sem, *]; done) | omega | (repeat' (first | with_reducible exact Below.refl _ _ | with_reducible assumption | ((with_reducible refine Below.drew ?_)) | ((with_reducible refine below_drewN ?_ _)) | ((with_reducible refine Below.alloc ?_ ?_ _); rotate_left; focus (first | omega | (simp; done) | (simp; omega))) | ((with_reducible refine Below.setCell ?_ ?_ _); rotate_left; focus (first | omega | (simp; done) | (simp; omega))) | ((with_reducible refine Below.trans ?_ (Below.mono (by with_reducible assumption) ?_)); rotate_left; focus (first | omega | (simp; done) | (simp; omega))))))) ?_
          (repeat (first | (refine wE_skip (by rfl) ?_; simp only [Act.put, Nat.reduceAdd, List.setIfInBounds_toArray, List.set_cons_zero, List.set_cons_succ, List.nil_append, List.cons_append]) | (refine wE_open (by rfl) (by rfl) ?_; apply Exists.intro; refine ⟨fun vs wq hw => ?_, ?_⟩; (focus (rw [HCl.out] at hw; (try simp only [List.nil_append, List.cons_append] at hw); (try dsimp only at hw); go_split_ands; go_simp <;> first | with_reducible exact (rfl : Value.bool false = _) | with_reducible exact (rfl : Value.bool true = _) | ((try go_bits) <;> exact rfl))); simp only [Act.put, Nat.reduceAdd, List.setIfInBounds_toArray, List.set_cons_zero, List.set_cons_succ, List.nil_append, List.cons_append]) | (refine wE_seal (by rfl) (by rfl) (by kernel_rfl) ?_; apply Exists.intro; refine ⟨fun wq hw => ?_, ?_⟩; (focus (rw [HCl.out] at hw; (try simp only [List.nil_append, List.cons_append] at hw); (try dsimp only at hw); go_split_ands; go_simp <;> (try go_bits) <;> exact rfl)); simp only [Act.put, Nat.reduceAdd, List.setIfInBounds_toArray, List.set_cons_zero, List.set_cons_succ, List.nil_append, List.cons_append]) | (refine wE_seal (by rfl) (by rfl) (by kernel_rfl) ?_; apply Exists.intro; refine ⟨fun wq hw => ?_, ?_⟩; (focus (rw [HCl.out] at hw; (try simp only [List.nil_append, List.cons_append] at hw); (try dsimp only at hw); go_split_ands; go_simp; (go_at_call 62; ((with_reducible refine (KA.out _).mono ?_); rintro e w' ⟨rfl, hbel⟩; obtain ⟨hcc, hff⟩ := bcell hbel; have hsz := hbel.size; (try simp at hsz); refine ⟨rfl, ?_⟩; rw [HCl.out]; (try simp only [List.nil_append, List.cons_append]); (try dsimp only); ((repeat' apply And.intro) <;> first | (simp [go_sem, *]; done) | omega | (repeat' (first | with_reducible exact Below.refl _ _ | with_reducible assumption | ((with_reducible refine Below.drew ?_)) | ((with_reducible refine below_drewN ?_ _)) | ((with_reducible refine Below.alloc ?_ ?_ _); rotate_left; focus (first | omega | (simp; done) | (simp; omega))) | ((with_reducible refine Below.setCell ?_ ?_ _); rotate_left; focus (first | omega | (simp; done) | (simp; omega))) | ((with_reducible refine Below.trans ?_ (Below.mono (by with_reducible assumption) ?_)); rotate_left; focus (first | omega | (simp; done) | (simp; omega)))))))))); simp only [Act.put, Nat.reduceAdd, List.setIfInBounds_toArray, List.set_cons_zero, List.set_cons_succ, List.nil_append, List.cons_append]) | (refine wE_eff (by rfl) (by rfl) (fun wq hw => ?_) (fun u hu => ?_); (focus (rw [HCl.out] at hw; (try simp only [List.nil_append, List.cons_append] at hw); (try dsimp only at hw); go_split_ands; go_simp; rw [HCl.out]; (try simp only [List.nil_append, List.cons_append]); (try dsimp only); fail; ((repeat' apply And.intro) <;> first | (simp [go_sem, *]; done) | omega | (repeat' (first | with_reducible exact Below.refl _ _ | with_reducible assumption | ((with_reducible refine Below.drew ?_)) | ((with_reducible refine below_drewN ?_ _)) | ((with_reducible refine Below.alloc ?_ ?_ _); rotate_left; focus (first | omega | (simp; done) | (simp; omega))) | ((with_reducible refine Below.setCell ?_ ?_ _); rotate_left; focus (first | omega | (simp; done) | (simp; omega))) | ((with_reducible refine Below.trans ?_ (Below.mono (by with_reducible assumption) ?_)); rotate_left; focus (first | omega | (simp; done) | (simp; omega)))))))); clear hu; simp only [Act.put, Nat.reduceAdd, List.setIfInBounds_toArray, List.set_cons_zero, List.set_cons_succ, List.nil_append, List.cons_append])))
          refine wE_nil ?_; intro w' hw; rw [HCl.out] at hw; (try simp only [List.nil_append, List.cons_append] at hw); (try dsimp only at hw); clear HCl
          go_split_ands
          rename Below wr.heap.size wr _ => hbq
          rename World => w9
          have H9 := Lib.hid (HNC.out.below hbq)
          have fz9 := H9.out.fz
          go_wp2
          go_roundw
          case rel => exact ⟨2, by omega, rfl, by rw [HB2.out]; exact H9.out.setM q, ((((NT.below hbq hnl).set hbl).set hbl).set hbl).set hbl, ((((NT.below hbq hnr).set hbr).set hbr).set hbr).set hbr, ((((ho.trans (Only.of_below hbq)).setOne _ _ _).setOne _ _ _).setOne _ _ _).setOne _ _ _⟩
          case measure => simp [intOf]
    · go_wp2
      refine bodyPost_end (v := .tuple #[]) (by simp [results, Try.results79]) rfl ⟨rfl, ?_, ho⟩
      unfold NT
      rw [HVL.out, HVR.out, HHH.out]
      exact ⟨hnc, hnl, hnr⟩
end Go.Proofs.Ytikmdkmejbcmmaa
