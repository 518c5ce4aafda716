/- Law 13: item, same. -/
import Derived.Test.YtikmdkmejbcmmaaAv27
namespace Go.Proofs.Ytikmdkmejbcmmaa
set_option linter.unusedVariables false
set_option linter.unusedSimpArgs false
set_option maxRecDepth 100000
open Go.RowKit Fg Reg
attribute [local irreducible] Reg.wE NT

theorem ref2_c (p q : Int) (w : World) : Calls Try.prog 15 #[.agg #[.int .u64 (p), .int .i64 (q)]] w fun ee w' => ee = .returned (.agg #[.int .u64 (p), .int .i64 (q)]) ∧ Below w.heap.size w w' := ref_c ⟨p, q, 0, 0⟩ w
set_option maxHeartbeats 4000000 in
theorem item_c (x : It) (w : World) : Calls Try.prog 57 #[.agg #[.int .u64 (x).ka, .int .i64 (x).ki, .int .u64 (x).va, .int .i64 (x).vi]] w fun ee w' => ee = .returned (.agg #[.int .u64 (x).ka, .int .i64 (x).ki, .int .u64 (x).va, .int .i64 (x).vi]) ∧ Below w.heap.size w w' := by
  have K := Lib.hid ref2_c
  go_enter Try.func57, Try.ntmps57
  go_wp2
  obtain ⟨Cl, hCl⟩ : ∃ Cl : List Value → World → Prop, Cl = ((fun ps wz => ((wz.cell? ⟨w.heap.size, 0, none⟩ = some (.int .u64 (x).ka) ∧ wz.cell? ⟨w.heap.size, 1, none⟩ = some (.int .i64 (x).ki) ∧ wz.cell? ⟨w.heap.size, 2, none⟩ = some (.int .u64 (x).va) ∧ wz.cell? ⟨w.heap.size, 3, none⟩ = some (.int .i64 (x).vi) ∧ w.heap.size < wz.heap.size) ∧ (wz.frozen? ⟨w.heap.size + 1, 0, none⟩ = false ∧ wz.frozen? ⟨w.heap.size + 1, 1, none⟩ = false ∧ wz.frozen? ⟨w.heap.size + 1, 2, none⟩ = false ∧ wz.frozen? ⟨w.heap.size + 1, 3, none⟩ = false) ∧ w.heap.size + 1 < wz.heap.size ∧ Below w.heap.size w wz) ∧ (match ps with | [] => (wz.cell? ⟨w.heap.size + 1, 0, none⟩ = some (.int .u64 ((⟨0, 0, 0, 0⟩ : It)).ka) ∧ wz.cell? ⟨w.heap.size + 1, 1, none⟩ = some (.int .i64 ((⟨0, 0, 0, 0⟩ : It)).ki) ∧ wz.cell? ⟨w.heap.size + 1, 2, none⟩ = some (.int .u64 ((⟨0, 0, 0, 0⟩ : It)).va) ∧ wz.cell? ⟨w.heap.size + 1, 3, none⟩ = some (.int .i64 ((⟨0, 0, 0, 0⟩ : It)).vi) ∧ w.heap.size + 1 < wz.heap.size) | _ => (wz.cell? ⟨w.heap.size + 1, 0, none⟩ = some (.int .u64 (x).ka) ∧ wz.cell? ⟨w.heap.size + 1, 1, none⟩ = some (.int .i64 (x).ki) ∧ wz.cell? ⟨w.heap.size + 1, 2, none⟩ = some (.int .u64 (x).va) ∧ wz.cell? ⟨w.heap.size + 1, 3, none⟩ = some (.int .i64 (x).vi) ∧ w.heap.size + 1 < wz.heap.size)))) := ⟨_, rfl⟩; have HCl := Lib.hid hCl; clear hCl; refine wp_region_eff [7] Cl (by kernel_rfl) (by kernel_rfl) (by rw [HCl.out]; (try simp only [List.nil_append, List.cons_append]); (try dsimp only); ((repeat' apply And.intro) <;> first | (simp [go_sem, *]; done) | omega | (repeat' (first | with_reducible exact Below.refl _ _ | with_reducible assumption | ((with_reducible refine Below.drew ?_)) | ((with_reducible refine below_drewN ?_ _)) | ((with_reducible refine Below.alloc ?_ ?_ _); rotate_left; focus (first | omega | (simp; done) | (simp; omega))) | ((with_reducible refine Below.setCell ?_ ?_ _); rotate_left; focus (first | omega | (simp; done) | (simp; omega))) | ((with_reducible refine Below.trans ?_ (Below.mono (by with_reducible assumption) ?_)); rotate_left; focus (first | omega | (simp; done) | (simp; omega))))))) ?_
  (repeat (first | (refine wE_skip (by rfl) ?_; simp only [Act.put, Nat.reduceAdd, List.setIfInBounds_toArray, List.set_cons_zero, List.set_cons_succ, List.nil_append, List.cons_append]) | (refine wE_open (by rfl) (by rfl) ?_; apply Exists.intro; refine ⟨fun vs wq hw => ?_, ?_⟩; (focus (rw [HCl.out] at hw; (try simp only [List.nil_append, List.cons_append] at hw); (try dsimp only at hw); go_split_ands; go_simp <;> first | with_reducible exact (rfl : Value.bool false = _) | with_reducible exact (rfl : Value.bool true = _) | ((try go_bits) <;> exact rfl))); simp only [Act.put, Nat.reduceAdd, List.setIfInBounds_toArray, List.set_cons_zero, List.set_cons_succ, List.nil_append, List.cons_append]) | (refine wE_seal (by rfl) (by rfl) (by kernel_rfl) ?_; apply Exists.intro; refine ⟨fun wq hw => ?_, ?_⟩; (focus (rw [HCl.out] at hw; (try simp only [List.nil_append, List.cons_append] at hw); (try dsimp only at hw); go_split_ands; go_simp <;> (try go_bits) <;> exact rfl)); simp only [Act.put, Nat.reduceAdd, List.setIfInBounds_toArray, List.set_cons_zero, List.set_cons_succ, List.nil_append, List.cons_append]) | (refine wE_seal (by rfl) (by rfl) (by kernel_rfl) ?_; apply Exists.intro; refine ⟨fun wq hw => ?_, ?_⟩; (focus (rw [HCl.out] at hw; (try simp only [List.nil_append, List.cons_append] at hw); (try dsimp only at hw); go_split_ands; go_simp; (go_at_call 15; ((with_reducible refine (K.out _ _ _).mono ?_); rintro e w' ⟨rfl, hbel⟩; obtain ⟨hcc, hff⟩ := bcell hbel; have hsz := hbel.size; (try simp at hsz); refine ⟨rfl, ?_⟩; rw [HCl.out]; (try simp only [List.nil_append, List.cons_append]); (try dsimp only); ((repeat' apply And.intro) <;> first | (simp [go_sem, *]; done) | omega | (repeat' (first | with_reducible exact Below.refl _ _ | with_reducible assumption | ((with_reducible refine Below.drew ?_)) | ((with_reducible refine below_drewN ?_ _)) | ((with_reducible refine Below.alloc ?_ ?_ _); rotate_left; focus (first | omega | (simp; done) | (simp; omega))) | ((with_reducible refine Below.setCell ?_ ?_ _); rotate_left; focus (first | omega | (simp; done) | (simp; omega))) | ((with_reducible refine Below.trans ?_ (Below.mono (by with_reducible assumption) ?_)); rotate_left; focus (first | omega | (simp; done) | (simp; omega)))))))))); simp only [Act.put, Nat.reduceAdd, List.setIfInBounds_toArray, List.set_cons_zero, List.set_cons_succ, List.nil_append, List.cons_append]) | (refine wE_eff (by rfl) (by rfl) (fun wq hw => ?_) (fun u hu => ?_); (focus (rw [HCl.out] at hw; (try simp only [List.nil_append, List.cons_append] at hw); (try dsimp only at hw); go_split_ands; go_simp; rw [HCl.out]; (try simp only [List.nil_append, List.cons_append]); (try dsimp only); skip; ((repeat' apply And.intro) <;> first | (simp [go_sem, *]; done) | omega | (repeat' (first | with_reducible exact Below.refl _ _ | with_reducible assumption | ((with_reducible refine Below.drew ?_)) | ((with_reducible refine below_drewN ?_ _)) | ((with_reducible refine Below.alloc ?_ ?_ _); rotate_left; focus (first | omega | (simp; done) | (simp; omega))) | ((with_reducible refine Below.setCell ?_ ?_ _); rotate_left; focus (first | omega | (simp; done) | (simp; omega))) | ((with_reducible refine Below.trans ?_ (Below.mono (by with_reducible assumption) ?_)); rotate_left; focus (first | omega | (simp; done) | (simp; omega)))))))); clear hu; simp only [Act.put, Nat.reduceAdd, List.setIfInBounds_toArray, List.set_cons_zero, List.set_cons_succ, List.nil_append, List.cons_append])))
  refine wE_nil ?_; intro w' hw; rw [HCl.out] at hw; (try simp only [List.nil_append, List.cons_append] at hw); (try dsimp only at hw); clear HCl
  go_split_ands
  go_wp2
  refine bodyPost_ret (v := .agg #[.int .u64 (x).ka, .int .i64 (x).ki, .int .u64 (x).va, .int .i64 (x).vi]) (by simp [results, Try.results57, go_sem, *]) rfl ⟨rfl, ?_⟩
  (repeat' (first | assumption | exact Below.refl _ _ | refine Below.setCell ?_ (by first | (simp; done) | omega | (simp; omega)) _ | refine Below.alloc ?_ (by first | (simp; done) | omega | (simp; omega)) _ | refine Below.drew ?_))
theorem fnd_self {Y : It} {L : List It} (hs : SS L) (hY : Y ∈ L) : fndL Y L = some Y := by
  obtain ⟨A, B, rfl⟩ := List.append_of_mem hY
  obtain ⟨-, -, hA, -, -⟩ := ss_parts hs
  rw [fnd_parts, fnd_no fun a ha => (kl_nke (hA a ha)).1]
  rw [if_pos (ke_iff.2 ⟨rfl, rfl⟩)]
  rfl
theorem fndS_c (a : Nat) (t : Tr) (Y : It) (hY : Y ∈ tl t) (w : World) (h : TR w a t) : Calls Try.prog 26 #[.pointer (some ⟨a, 0, none⟩), .agg #[.int .u64 (Y).ka, .int .i64 (Y).ki]] w fun ee w' => ee = .returned (.tuple #[.agg #[.int .u64 (Y).va, .int .i64 (Y).vi], .int .i64 0]) ∧ Below w.heap.size w w' := by
  have hf := fnd_c a t Y w h
  rw [fnd_self h.ss hY] at hf
  exact hf
set_option maxHeartbeats 8000000 in
theorem same_c (a : Nat) (t : Tr) (n : Nat) (hln : (tl t).length = n) (hn : n ≤ 80) (ad : Option Addr) (cap : Nat) (w : World) (hT : TR w a t) (hR : RwV It.cells 4 w ad (tl t)) :
    Calls Try.prog 20 #[.pointer (some ⟨a, 0, none⟩), .slice ad n cap] w fun ee w' => ee = .returned (.bool true) ∧ Below w.heap.size w w' := by
  have ki := fun z hz => items_c a t z hz (by omega)
  have kl := fun z hz => len_c a t z hz
  have kh := fun z hz => height_c a t z hz
  have kf := fun Y hY z hz => fndS_c a t Y hY z hz
  have hb40 := hgt_40 t hT.bl (by omega)
  have hnd := nd_bal t hT.bl
  have hz0 : hgt t = 0 ↔ n = 0 := by
    constructor
    · intro h
      have := isN_nil (isN_hgt.2 h)
      subst this
      rw [← hln]; rfl
    · intro h
      have := hgt_len t
      omega
  obtain ⟨L, hL⟩ : ∃ L, tl t = L := ⟨_, rfl⟩
  obtain ⟨H, hH⟩ : ∃ H, hgt t = H := ⟨_, rfl⟩
  have hmem : ∀ j, j < n → itn L j ∈ tl t := fun j hj => by rw [← hL]; exact itn_mem (by omega)
  simp only [hL] at ki kl hln hR hnd
  simp only [hln] at ki kl hnd
  simp only [hH] at kh hb40 hnd hz0
  have kn := fun z => rneeds_c H (by omega) z
  obtain ⟨N, hN⟩ : ∃ N, (nd H).1 = N := ⟨_, rfl⟩
  simp only [hN] at kn hnd
  have KI := Lib.hid ki
  have KL := Lib.hid kl
  have KH := Lib.hid kh
  have KF := Lib.hid kf
  have KN := Lib.hid kn
  have HM := Lib.hid hmem
  have HLN := Lib.hid hln
  have HT := Lib.hid hT
  have HR := Lib.hid hR
  have K57 := Lib.hid item_c
  have D40 : decide ((H : Int) < 40) = true := decide_eq_true (by omega)
  have D40b : decide (H < 40) = true := decide_eq_true (by omega)
  have DN : decide ((N : Int) ≤ (n : Int)) = true := decide_eq_true (by omega)
  have DNb : decide (N ≤ n) = true := decide_eq_true (by omega)
  have E0 : ((H : Int) == 0) = ((n : Int) == 0) := by
    by_cases h : n = 0
    · rw [hz0.2 h, h]
    · have h2 : ¬ H = 0 := fun g => h (hz0.1 g)
      rw [show ((H : Int) == 0) = false from by simp; omega, show ((n : Int) == 0) = false from by simp; omega]
  clear ki kl kh kf kn hb40 hnd hz0 hL hH hmem hN hln hT hR
  go_enter Try.func20, Try.ntmps20
  go_wp2_with (first | (go_at_call 25; (with_reducible refine (KI.out _ HT.out).mono ?_); rintro _ w1 ⟨ao, cp, rfl, hr1, -, hbel⟩; have HR1 := Lib.hid hr1; have HR2 := Lib.hid (HR.out.below hbel); have HT1 := Lib.hid (HT.out.below hbel); have HB1 := Lib.hid hbel; have hsz := hbel.size; clear hr1 hbel) | (go_at_call 28; (with_reducible refine (KL.out _ HT1.out).mono ?_); rintro _ _ ⟨rfl, rfl⟩))
  go_loopg [26] n (fun k9 s26 wr => ∃ (i : Nat), s26 = .int .i64 i ∧ i ≤ n ∧ n - i ≤ k9 ∧ Below w1.heap.size w1 wr)
  case atStart => exact ⟨0, rfl, by omega, by omega, Below.refl _ _⟩
  case round =>
    obtain ⟨i, rfl, hi, hk, hB⟩ := hrel
    have HB := Lib.hid hB
    have hszy := hB.size
    by_cases hin : i < n
    · obtain ⟨pb, po, had1, hpb, p0, p1, p2, p3⟩ := it_cells (HR1.out.below HB.out) (i := i) (by rw [HLN.out]; exact hin)
      obtain ⟨qb, qo, had2, hqb, q0, q1, q2, q3⟩ := it_cells (HR2.out.below HB.out) (i := i) (by rw [HLN.out]; exact hin)
      subst had1
      subst had2
      have W4 : IntKind.i64.wrap ((i : Int) + 1) = ((i + 1 : Nat) : Int) := by rw [IntKind.wrap_i64]; omega
      have HMY := HM.out i hin
      obtain ⟨Y, hY⟩ : ∃ Y, itn L i = Y := ⟨_, rfl⟩
      rw [hY] at p0 p1 p2 p3 q0 q1 q2 q3 HMY
      have KFY := Lib.hid (KF.out Y HMY)
      clear hY HMY
      go_wp2_with (go_at_call 26; (with_reducible refine (KFY.out _ (HT1.out.below (HB.out.trans (Below.mono (by (repeat' (first | assumption | exact Below.refl _ _ | refine Below.setCell ?_ (by first | (simp; done) | omega | (simp; omega)) _ | refine Below.alloc ?_ (by first | (simp; done) | omega | (simp; omega)) _ | refine Below.drew ?_))) hszy)))).mono ?_); rintro _ w2 ⟨rfl, hbel⟩; obtain ⟨hcc, hff⟩ := bcell hbel; have hsz := hbel.size; (try simp at hsz); have hF : (w2.cell? ⟨wr.heap.size, 0, none⟩ = some (.int .u64 (Y).ka) ∧ w2.cell? ⟨wr.heap.size, 1, none⟩ = some (.int .i64 (Y).ki) ∧ w2.cell? ⟨wr.heap.size, 2, none⟩ = some (.int .u64 (Y).va) ∧ w2.cell? ⟨wr.heap.size, 3, none⟩ = some (.int .i64 (Y).vi) ∧ wr.heap.size < w2.heap.size) ∧ (w2.cell? ⟨qb, qo + i * 4, none⟩ = some (.int .u64 Y.ka) ∧ w2.cell? ⟨qb, qo + i * 4 + 1, none⟩ = some (.int .i64 Y.ki) ∧ w2.cell? ⟨qb, qo + i * 4 + 2, none⟩ = some (.int .u64 Y.va) ∧ w2.cell? ⟨qb, qo + i * 4 + 3, none⟩ = some (.int .i64 Y.vi) ∧ qb < w2.heap.size) ∧ Below w1.heap.size w1 w2 := (by ((repeat' apply And.intro) <;> first | (simp [go_sem, *]; done) | omega | (repeat' (first | with_reducible exact Below.refl _ _ | with_reducible assumption | ((with_reducible refine Below.drew ?_)) | ((with_reducible refine below_drewN ?_ _)) | ((with_reducible refine Below.alloc ?_ ?_ _); rotate_left; focus (first | omega | (simp; done) | (simp; omega))) | ((with_reducible refine Below.setCell ?_ ?_ _); rotate_left; focus (first | omega | (simp; done) | (simp; omega))) | ((with_reducible refine Below.trans ?_ (Below.mono (by with_reducible assumption) ?_)); rotate_left; focus (first | omega | (simp; done) | (simp; omega))))))); go_split_ands; clear hcc hff hbel)
      have hs9 : w1.heap.size ≤ w2.heap.size + 1 := by omega
      obtain ⟨Cl, hCl⟩ : ∃ Cl : List Value → World → Prop, Cl = ((fun ps wz => (wz.cell? ⟨qb, qo + i * 4, none⟩ = some (.int .u64 Y.ka) ∧ wz.cell? ⟨qb, qo + i * 4 + 1, none⟩ = some (.int .i64 Y.ki) ∧ wz.cell? ⟨qb, qo + i * 4 + 2, none⟩ = some (.int .u64 Y.va) ∧ wz.cell? ⟨qb, qo + i * 4 + 3, none⟩ = some (.int .i64 Y.vi) ∧ qb < wz.heap.size) ∧ (wz.cell? ⟨wr.heap.size, 0, none⟩ = some (.int .u64 (Y).ka) ∧ wz.cell? ⟨wr.heap.size, 1, none⟩ = some (.int .i64 (Y).ki) ∧ wz.cell? ⟨wr.heap.size, 2, none⟩ = some (.int .u64 (Y).va) ∧ wz.cell? ⟨wr.heap.size, 3, none⟩ = some (.int .i64 (Y).vi) ∧ wr.heap.size < wz.heap.size) ∧ (wz.cell? ⟨w2.heap.size, 0, none⟩ = some (.int .u64 Y.va) ∧ wz.cell? ⟨w2.heap.size, 1, none⟩ = some (.int .i64 Y.vi) ∧ w2.heap.size < wz.heap.size) ∧ w1.heap.size ≤ wz.heap.size ∧ Below w1.heap.size w1 wz)) := ⟨_, rfl⟩; have HCl := Lib.hid hCl; clear hCl; refine wp_region_eff [] Cl (by kernel_rfl) (by kernel_rfl) (by rw [HCl.out]; (try simp only [List.nil_append, List.cons_append]); (try dsimp only); ((repeat' apply And.intro) <;> first | (simp [go_sem, *]; done) | omega | (repeat' (first | with_reducible exact Below.refl _ _ | with_reducible assumption | ((with_reducible refine Below.drew ?_)) | ((with_reducible refine below_drewN ?_ _)) | ((with_reducible refine Below.alloc ?_ ?_ _); rotate_left; focus (first | omega | (simp; done) | (simp; omega))) | ((with_reducible refine Below.setCell ?_ ?_ _); rotate_left; focus (first | omega | (simp; done) | (simp; omega))) | ((with_reducible refine Below.trans ?_ (Below.mono (by with_reducible assumption) ?_)); rotate_left; focus (first | omega | (simp; done) | (simp; omega))))))) ?_
      (repeat (first | (refine wE_skip (by rfl) ?_; simp only [Act.put, Nat.reduceAdd, List.setIfInBounds_toArray, List.set_cons_zero, List.set_cons_succ, List.nil_append, List.cons_append]) | (refine wE_open (by rfl) (by rfl) ?_; apply Exists.intro; refine ⟨fun vs wq hw => ?_, ?_⟩; (focus (rw [HCl.out] at hw; (try simp only [List.nil_append, List.cons_append] at hw); (try dsimp only at hw); go_split_ands; go_simp <;> first | with_reducible exact (rfl : Value.bool false = _) | with_reducible exact (rfl : Value.bool true = _) | ((try go_bits) <;> exact rfl))); simp only [Act.put, Nat.reduceAdd, List.setIfInBounds_toArray, List.set_cons_zero, List.set_cons_succ, List.nil_append, List.cons_append]) | (refine wE_seal (by rfl) (by rfl) (by kernel_rfl) ?_; apply Exists.intro; refine ⟨fun wq hw => ?_, ?_⟩; (focus (rw [HCl.out] at hw; (try simp only [List.nil_append, List.cons_append] at hw); (try dsimp only at hw); go_split_ands; go_simp <;> (try go_bits) <;> exact rfl)); simp only [Act.put, Nat.reduceAdd, List.setIfInBounds_toArray, List.set_cons_zero, List.set_cons_succ, List.nil_append, List.cons_append]) | (refine wE_seal (by rfl) (by rfl) (by kernel_rfl) ?_; apply Exists.intro; refine ⟨fun wq hw => ?_, ?_⟩; (focus (rw [HCl.out] at hw; (try simp only [List.nil_append, List.cons_append] at hw); (try dsimp only at hw); go_split_ands; go_simp; (go_at_call 57; ((with_reducible refine (K57.out _ _).mono ?_); rintro e w' ⟨rfl, hbel⟩; obtain ⟨hcc, hff⟩ := bcell hbel; have hsz := hbel.size; (try simp at hsz); refine ⟨rfl, ?_⟩; rw [HCl.out]; (try simp only [List.nil_append, List.cons_append]); (try dsimp only); ((repeat' apply And.intro) <;> first | (simp [go_sem, *]; done) | omega | (repeat' (first | with_reducible exact Below.refl _ _ | with_reducible assumption | ((with_reducible refine Below.drew ?_)) | ((with_reducible refine below_drewN ?_ _)) | ((with_reducible refine Below.alloc ?_ ?_ _); rotate_left; focus (first | omega | (simp; done) | (simp; omega))) | ((with_reducible refine Below.setCell ?_ ?_ _); rotate_left; focus (first | omega | (simp; done) | (simp; omega))) | ((with_reducible refine Below.trans ?_ (Below.mono (by with_reducible assumption) ?_)); rotate_left; focus (first | omega | (simp; done) | (simp; omega)))))))))); simp only [Act.put, Nat.reduceAdd, List.setIfInBounds_toArray, List.set_cons_zero, List.set_cons_succ, List.nil_append, List.cons_append]) | (refine wE_eff (by rfl) (by rfl) (fun wq hw => ?_) (fun u hu => ?_); (focus (rw [HCl.out] at hw; (try simp only [List.nil_append, List.cons_append] at hw); (try dsimp only at hw); go_split_ands; go_simp; rw [HCl.out]; (try simp only [List.nil_append, List.cons_append]); (try dsimp only); fail; ((repeat' apply And.intro) <;> first | (simp [go_sem, *]; done) | omega | (repeat' (first | with_reducible exact Below.refl _ _ | with_reducible assumption | ((with_reducible refine Below.drew ?_)) | ((with_reducible refine below_drewN ?_ _)) | ((with_reducible refine Below.alloc ?_ ?_ _); rotate_left; focus (first | omega | (simp; done) | (simp; omega))) | ((with_reducible refine Below.setCell ?_ ?_ _); rotate_left; focus (first | omega | (simp; done) | (simp; omega))) | ((with_reducible refine Below.trans ?_ (Below.mono (by with_reducible assumption) ?_)); rotate_left; focus (first | omega | (simp; done) | (simp; omega)))))))); clear hu; simp only [Act.put, Nat.reduceAdd, List.setIfInBounds_toArray, List.set_cons_zero, List.set_cons_succ, List.nil_append, List.cons_append])))
      refine wE_nil ?_; intro w' hw; rw [HCl.out] at hw; (try simp only [List.nil_append, List.cons_append] at hw); (try dsimp only at hw); clear HCl
      go_split_ands
      rename Below w1.heap.size w1 _ => hbq
      go_wp2
      go_roundg (n - (i + 1))
      case rel => exact ⟨i + 1, by first | rfl | go_num | (congr 1; omega), by omega, Nat.le_refl _, hbq⟩
      case measure => omega
    · have hie : i = n := by omega
      subst hie
      go_wp2_with (first | (go_at_call 29; (with_reducible refine (KH.out _ (HT1.out.below HB.out)).mono ?_); rintro _ _ ⟨rfl, rfl⟩) | (go_at_call 29; (with_reducible refine (KH.out _ ((HT1.out.below HB.out).below hb3)).mono ?_); rintro _ _ ⟨rfl, rfl⟩) | (go_at_call 58; (with_reducible refine (KN.out _).mono ?_); rintro _ w3 ⟨rfl, hb3⟩))
      go_ret
      refine ⟨by simp, ?_⟩
      exact HB1.out.trans ((HB.out.trans (hb3.mono HB.out.size)).mono HB1.out.size)
end Go.Proofs.Ytikmdkmejbcmmaa
