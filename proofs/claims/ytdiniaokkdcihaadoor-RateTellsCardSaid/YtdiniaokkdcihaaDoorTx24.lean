/- The reference's texts of rates and times. -/
import Derived.Test.YtdiniaokkdcihaaDoorTx4
import Derived.Test.YtdiniaokkdcihaaDoorTx16
namespace Go.Proofs.YtdiniaokkdcihaaDoor
set_option linter.unusedVariables false
set_option linter.unusedSimpArgs false
set_option maxRecDepth 100000
open Go.RowKit Fg Reg
attribute [local irreducible] Reg.wE

set_option maxHeartbeats 8000000 in
theorem rrtx_some (v : Int) (h0 : 0 ≤ v) (h1 : v < 18446744073709551616) (hv0 : ¬ v = 0) (hv1 : v ≤ 1000000000000) (w : World) : Calls Tryd.prog 48 #[.int .u64 v] w fun ee w' => ee = .returned (.string ⟨(rtx v).toArray⟩) ∧ Below w.heap.size w w' := by
  unfold rtx
  have y0 : (v == 0) = false := by simpa using hv0
  have y1 : decide ((1000000000000 : Int) < v) = false := by simp; omega
  rcases rtsel_facts v with ⟨hs, g0⟩ | ⟨hs, g0, g1⟩ | ⟨hs, g0, g1, g2⟩ | ⟨hs, g0, g1, g2⟩
  ·
    rw [hs]
    obtain ⟨q1, hq1⟩ : ∃ q, v / 1000 = q := ⟨_, rfl⟩
    have M0 : IntKind.u64.wrap ((v : Int).tmod 1000) = v % 1000 := by rw [Int.tmod_eq_emod_of_nonneg (by omega), wrap_u64]; omega
    have D0 : IntKind.u64.wrap ((v : Int).tdiv 1000) = q1 := by rw [Int.tdiv_eq_ediv_of_nonneg (by omega), hq1, wrap_u64]; omega
    have n1 : 0 ≤ q1 := by omega
    have u1 : q1 < 18446744073709551616 := by omega
    have z0 : (v % 1000 == 0) = true := by simp only [beq_iff_eq] at *; omega
    obtain ⟨q2, hq2⟩ : ∃ q, q1 / 1000 = q := ⟨_, rfl⟩
    have M1 : IntKind.u64.wrap ((q1 : Int).tmod 1000) = q1 % 1000 := by rw [Int.tmod_eq_emod_of_nonneg (by omega), wrap_u64]; omega
    have D1 : IntKind.u64.wrap ((q1 : Int).tdiv 1000) = q2 := by rw [Int.tdiv_eq_ediv_of_nonneg (by omega), hq2, wrap_u64]; omega
    have n2 : 0 ≤ q2 := by omega
    have u2 : q2 < 18446744073709551616 := by omega
    have z1 : (q1 % 1000 == 0) = true := by simp only [beq_iff_eq] at *; omega
    obtain ⟨q3, hq3⟩ : ∃ q, q2 / 1000 = q := ⟨_, rfl⟩
    have M2 : IntKind.u64.wrap ((q2 : Int).tmod 1000) = q2 % 1000 := by rw [Int.tmod_eq_emod_of_nonneg (by omega), wrap_u64]; omega
    have D2 : IntKind.u64.wrap ((q2 : Int).tdiv 1000) = q3 := by rw [Int.tdiv_eq_ediv_of_nonneg (by omega), hq3, wrap_u64]; omega
    have n3 : 0 ≤ q3 := by omega
    have u3 : q3 < 18446744073709551616 := by omega
    have z2 : (q2 % 1000 == 0) = true := by simp only [beq_iff_eq] at *; omega
    have hqf : v / 1000000000 = q3 := by omega
    have hq0 : 0 ≤ q3 ∧ q3 < 18446744073709551616 := by omega
    have kt := fun w => rtens_c q3 hq0.1 hq0.2 w
    have hadd := add_texts (Lib.decDigits (q3 : Int).toNat) [103, 98, 105, 116] (dec_short q3 hq0.1 hq0.2) (by decide)
    obtain ⟨A, hA⟩ : ∃ A : List UInt8, Lib.decDigits (q3 : Int).toNat ++ [103, 98, 105, 116] = A := ⟨_, rfl⟩
    obtain ⟨D, hD⟩ : ∃ D : ByteArray, (⟨(Lib.decDigits (q3 : Int).toNat).toArray⟩ : ByteArray) = D := ⟨_, rfl⟩
    rw [show (Lib.decDigits (v / rtim 0).toNat ++ rword 0) = A by simp only [rtim, rword]; rw [← hA, hqf]; rfl]
    rw [hA, hD] at hadd
    rw [hD] at kt
    have KT := Lib.hid kt
    clear kt hA hD hqf hs hq1 hq2 hq3
    go_enter Tryd.func48, Tryd.ntmps48
    go_wp2
    refine wp_loop_rounds 4 ?_
    rw [rounds_succ]
    go_wp2
    rw [rounds_succ]
    go_wp2
    rw [rounds_succ]
    go_wp2
    rw [rounds_succ]
    go_wp2
    obtain ⟨Cl, hCl⟩ : ∃ Cl : List Value → World → Prop, Cl = ((fun ps wz => (wz.cell? ⟨w.heap.size, 0, none⟩ = some (.string ⟨#[98, 105, 116]⟩) ∧ wz.cell? ⟨w.heap.size, 1, none⟩ = some (.string ⟨#[107, 98, 105, 116]⟩) ∧ wz.cell? ⟨w.heap.size, 2, none⟩ = some (.string ⟨#[109, 98, 105, 116]⟩) ∧ wz.cell? ⟨w.heap.size, 3, none⟩ = some (.string ⟨#[103, 98, 105, 116]⟩) ∧ w.heap.size < wz.heap.size) ∧ Below w.heap.size w wz)) := ⟨_, rfl⟩; have HCl := Lib.hid hCl; clear hCl; refine wp_region_eff [] Cl (by kernel_rfl) (by kernel_rfl) (by rw [HCl.out]; (try simp only [List.nil_append, List.cons_append]); (try dsimp only); ((repeat' apply And.intro) <;> first | (simp [go_sem, *]; done) | omega | (repeat' (first | with_reducible exact Below.refl _ _ | with_reducible assumption | ((with_reducible refine Below.drew ?_)) | ((with_reducible refine below_drewN ?_ _)) | ((with_reducible refine Below.alloc ?_ ?_ _); rotate_left; focus (first | omega | (simp; done) | (simp; omega))) | ((with_reducible refine Below.setCell ?_ ?_ _); rotate_left; focus (first | omega | (simp; done) | (simp; omega))) | ((with_reducible refine Below.trans ?_ (Below.mono (by with_reducible assumption) ?_)); rotate_left; focus (first | omega | (simp; done) | (simp; omega))))))) ?_
    (repeat (first | (refine wE_skip (by rfl) ?_; simp only [Act.put, Nat.reduceAdd, List.setIfInBounds_toArray, List.set_cons_zero, List.set_cons_succ, List.nil_append, List.cons_append]) | (refine wE_open (by rfl) (by rfl) ?_; apply Exists.intro; refine ⟨fun vs wq hw => ?_, ?_⟩; (focus (rw [HCl.out] at hw; (try simp only [List.nil_append, List.cons_append] at hw); (try dsimp only at hw); go_split_ands; go_simp <;> first | with_reducible exact (rfl : Value.bool false = _) | with_reducible exact (rfl : Value.bool true = _) | ((try go_bits) <;> exact rfl))); simp only [Act.put, Nat.reduceAdd, List.setIfInBounds_toArray, List.set_cons_zero, List.set_cons_succ, List.nil_append, List.cons_append]) | (refine wE_seal (by rfl) (by rfl) (by kernel_rfl) ?_; apply Exists.intro; refine ⟨fun wq hw => ?_, ?_⟩; (focus (rw [HCl.out] at hw; (try simp only [List.nil_append, List.cons_append] at hw); (try dsimp only at hw); go_split_ands; go_simp <;> (try go_bits) <;> exact rfl)); simp only [Act.put, Nat.reduceAdd, List.setIfInBounds_toArray, List.set_cons_zero, List.set_cons_succ, List.nil_append, List.cons_append]) | (refine wE_seal (by rfl) (by rfl) (by kernel_rfl) ?_; apply Exists.intro; refine ⟨fun wq hw => ?_, ?_⟩; (focus (rw [HCl.out] at hw; (try simp only [List.nil_append, List.cons_append] at hw); (try dsimp only at hw); go_split_ands; go_simp; (go_at_call 31; ((with_reducible refine (KT.out _).mono ?_); rintro e w' ⟨rfl, hbel⟩; obtain ⟨hcc, hff⟩ := bcell hbel; have hsz := hbel.size; (try simp at hsz); refine ⟨rfl, ?_⟩; rw [HCl.out]; (try simp only [List.nil_append, List.cons_append]); (try dsimp only); ((repeat' apply And.intro) <;> first | (simp [go_sem, *]; done) | omega | (repeat' (first | with_reducible exact Below.refl _ _ | with_reducible assumption | ((with_reducible refine Below.drew ?_)) | ((with_reducible refine below_drewN ?_ _)) | ((with_reducible refine Below.alloc ?_ ?_ _); rotate_left; focus (first | omega | (simp; done) | (simp; omega))) | ((with_reducible refine Below.setCell ?_ ?_ _); rotate_left; focus (first | omega | (simp; done) | (simp; omega))) | ((with_reducible refine Below.trans ?_ (Below.mono (by with_reducible assumption) ?_)); rotate_left; focus (first | omega | (simp; done) | (simp; omega)))))))))); simp only [Act.put, Nat.reduceAdd, List.setIfInBounds_toArray, List.set_cons_zero, List.set_cons_succ, List.nil_append, List.cons_append]) | (refine wE_eff (by rfl) (by rfl) (fun wq hw => ?_) (fun u hu => ?_); (focus (rw [HCl.out] at hw; (try simp only [List.nil_append, List.cons_append] at hw); (try dsimp only at hw); go_split_ands; go_simp; rw [HCl.out]; (try simp only [List.nil_append, List.cons_append]); (try dsimp only); skip; ((repeat' apply And.intro) <;> first | (simp [go_sem, *]; done) | omega | (repeat' (first | with_reducible exact Below.refl _ _ | with_reducible assumption | ((with_reducible refine Below.drew ?_)) | ((with_reducible refine below_drewN ?_ _)) | ((with_reducible refine Below.alloc ?_ ?_ _); rotate_left; focus (first | omega | (simp; done) | (simp; omega))) | ((with_reducible refine Below.setCell ?_ ?_ _); rotate_left; focus (first | omega | (simp; done) | (simp; omega))) | ((with_reducible refine Below.trans ?_ (Below.mono (by with_reducible assumption) ?_)); rotate_left; focus (first | omega | (simp; done) | (simp; omega)))))))); clear hu; simp only [Act.put, Nat.reduceAdd, List.setIfInBounds_toArray, List.set_cons_zero, List.set_cons_succ, List.nil_append, List.cons_append])))
    refine wE_nil ?_; intro w' hw; rw [HCl.out] at hw; (try simp only [List.nil_append, List.cons_append] at hw); (try dsimp only at hw); clear HCl
    go_split_ands
    go_wp2
    (go_ret; refine ⟨?_, ?_⟩; (focus (exact rfl)); ((repeat' (first | with_reducible exact Below.refl _ _ | with_reducible assumption | ((with_reducible refine Below.drew ?_)) | ((with_reducible refine below_drewN ?_ _)) | ((with_reducible refine Below.alloc ?_ ?_ _); rotate_left; focus (first | omega | (simp; done) | (simp; omega))) | ((with_reducible refine Below.setCell ?_ ?_ _); rotate_left; focus (first | omega | (simp; done) | (simp; omega))) | ((with_reducible refine Below.trans ?_ (Below.mono (by with_reducible assumption) ?_)); rotate_left; focus (first | omega | (simp; done) | (simp; omega))))); done))
  ·
    rw [hs]
    obtain ⟨q1, hq1⟩ : ∃ q, v / 1000 = q := ⟨_, rfl⟩
    have M0 : IntKind.u64.wrap ((v : Int).tmod 1000) = v % 1000 := by rw [Int.tmod_eq_emod_of_nonneg (by omega), wrap_u64]; omega
    have D0 : IntKind.u64.wrap ((v : Int).tdiv 1000) = q1 := by rw [Int.tdiv_eq_ediv_of_nonneg (by omega), hq1, wrap_u64]; omega
    have n1 : 0 ≤ q1 := by omega
    have u1 : q1 < 18446744073709551616 := by omega
    have z0 : (v % 1000 == 0) = true := by simp only [beq_iff_eq] at *; omega
    obtain ⟨q2, hq2⟩ : ∃ q, q1 / 1000 = q := ⟨_, rfl⟩
    have M1 : IntKind.u64.wrap ((q1 : Int).tmod 1000) = q1 % 1000 := by rw [Int.tmod_eq_emod_of_nonneg (by omega), wrap_u64]; omega
    have D1 : IntKind.u64.wrap ((q1 : Int).tdiv 1000) = q2 := by rw [Int.tdiv_eq_ediv_of_nonneg (by omega), hq2, wrap_u64]; omega
    have n2 : 0 ≤ q2 := by omega
    have u2 : q2 < 18446744073709551616 := by omega
    have z1 : (q1 % 1000 == 0) = true := by simp only [beq_iff_eq] at *; omega
    have M2 : IntKind.u64.wrap ((q2 : Int).tmod 1000) = q2 % 1000 := by rw [Int.tmod_eq_emod_of_nonneg (by omega), wrap_u64]; omega
    have z2 : (q2 % 1000 == 0) = false := by simp only [beq_iff_eq, beq_eq_false_iff_ne, ne_eq] at *; omega
    have hqf : v / 1000000 = q2 := by omega
    have hq0 : 0 ≤ q2 ∧ q2 < 18446744073709551616 := by omega
    have kt := fun w => rtens_c q2 hq0.1 hq0.2 w
    have hadd := add_texts (Lib.decDigits (q2 : Int).toNat) [109, 98, 105, 116] (dec_short q2 hq0.1 hq0.2) (by decide)
    obtain ⟨A, hA⟩ : ∃ A : List UInt8, Lib.decDigits (q2 : Int).toNat ++ [109, 98, 105, 116] = A := ⟨_, rfl⟩
    obtain ⟨D, hD⟩ : ∃ D : ByteArray, (⟨(Lib.decDigits (q2 : Int).toNat).toArray⟩ : ByteArray) = D := ⟨_, rfl⟩
    rw [show (Lib.decDigits (v / rtim 1).toNat ++ rword 1) = A by simp only [rtim, rword]; rw [← hA, hqf]; rfl]
    rw [hA, hD] at hadd
    rw [hD] at kt
    have KT := Lib.hid kt
    clear kt hA hD hqf hs hq1 hq2
    go_enter Tryd.func48, Tryd.ntmps48
    go_wp2
    refine wp_loop_rounds 3 ?_
    rw [rounds_succ]
    go_wp2
    rw [rounds_succ]
    go_wp2
    rw [rounds_succ]
    go_wp2
    obtain ⟨Cl, hCl⟩ : ∃ Cl : List Value → World → Prop, Cl = ((fun ps wz => (wz.cell? ⟨w.heap.size, 0, none⟩ = some (.string ⟨#[98, 105, 116]⟩) ∧ wz.cell? ⟨w.heap.size, 1, none⟩ = some (.string ⟨#[107, 98, 105, 116]⟩) ∧ wz.cell? ⟨w.heap.size, 2, none⟩ = some (.string ⟨#[109, 98, 105, 116]⟩) ∧ wz.cell? ⟨w.heap.size, 3, none⟩ = some (.string ⟨#[103, 98, 105, 116]⟩) ∧ w.heap.size < wz.heap.size) ∧ Below w.heap.size w wz)) := ⟨_, rfl⟩; have HCl := Lib.hid hCl; clear hCl; refine wp_region_eff [] Cl (by kernel_rfl) (by kernel_rfl) (by rw [HCl.out]; (try simp only [List.nil_append, List.cons_append]); (try dsimp only); ((repeat' apply And.intro) <;> first | (simp [go_sem, *]; done) | omega | (repeat' (first | with_reducible exact Below.refl _ _ | with_reducible assumption | ((with_reducible refine Below.drew ?_)) | ((with_reducible refine below_drewN ?_ _)) | ((with_reducible refine Below.alloc ?_ ?_ _); rotate_left; focus (first | omega | (simp; done) | (simp; omega))) | ((with_reducible refine Below.setCell ?_ ?_ _); rotate_left; focus (first | omega | (simp; done) | (simp; omega))) | ((with_reducible refine Below.trans ?_ (Below.mono (by with_reducible assumption) ?_)); rotate_left; focus (first | omega | (simp; done) | (simp; omega))))))) ?_
    (repeat (first | (refine wE_skip (by rfl) ?_; simp only [Act.put, Nat.reduceAdd, List.setIfInBounds_toArray, List.set_cons_zero, List.set_cons_succ, List.nil_append, List.cons_append]) | (refine wE_open (by rfl) (by rfl) ?_; apply Exists.intro; refine ⟨fun vs wq hw => ?_, ?_⟩; (focus (rw [HCl.out] at hw; (try simp only [List.nil_append, List.cons_append] at hw); (try dsimp only at hw); go_split_ands; go_simp <;> first | with_reducible exact (rfl : Value.bool false = _) | with_reducible exact (rfl : Value.bool true = _) | ((try go_bits) <;> exact rfl))); simp only [Act.put, Nat.reduceAdd, List.setIfInBounds_toArray, List.set_cons_zero, List.set_cons_succ, List.nil_append, List.cons_append]) | (refine wE_seal (by rfl) (by rfl) (by kernel_rfl) ?_; apply Exists.intro; refine ⟨fun wq hw => ?_, ?_⟩; (focus (rw [HCl.out] at hw; (try simp only [List.nil_append, List.cons_append] at hw); (try dsimp only at hw); go_split_ands; go_simp <;> (try go_bits) <;> exact rfl)); simp only [Act.put, Nat.reduceAdd, List.setIfInBounds_toArray, List.set_cons_zero, List.set_cons_succ, List.nil_append, List.cons_append]) | (refine wE_seal (by rfl) (by rfl) (by kernel_rfl) ?_; apply Exists.intro; refine ⟨fun wq hw => ?_, ?_⟩; (focus (rw [HCl.out] at hw; (try simp only [List.nil_append, List.cons_append] at hw); (try dsimp only at hw); go_split_ands; go_simp; (go_at_call 31; ((with_reducible refine (KT.out _).mono ?_); rintro e w' ⟨rfl, hbel⟩; obtain ⟨hcc, hff⟩ := bcell hbel; have hsz := hbel.size; (try simp at hsz); refine ⟨rfl, ?_⟩; rw [HCl.out]; (try simp only [List.nil_append, List.cons_append]); (try dsimp only); ((repeat' apply And.intro) <;> first | (simp [go_sem, *]; done) | omega | (repeat' (first | with_reducible exact Below.refl _ _ | with_reducible assumption | ((with_reducible refine Below.drew ?_)) | ((with_reducible refine below_drewN ?_ _)) | ((with_reducible refine Below.alloc ?_ ?_ _); rotate_left; focus (first | omega | (simp; done) | (simp; omega))) | ((with_reducible refine Below.setCell ?_ ?_ _); rotate_left; focus (first | omega | (simp; done) | (simp; omega))) | ((with_reducible refine Below.trans ?_ (Below.mono (by with_reducible assumption) ?_)); rotate_left; focus (first | omega | (simp; done) | (simp; omega)))))))))); simp only [Act.put, Nat.reduceAdd, List.setIfInBounds_toArray, List.set_cons_zero, List.set_cons_succ, List.nil_append, List.cons_append]) | (refine wE_eff (by rfl) (by rfl) (fun wq hw => ?_) (fun u hu => ?_); (focus (rw [HCl.out] at hw; (try simp only [List.nil_append, List.cons_append] at hw); (try dsimp only at hw); go_split_ands; go_simp; rw [HCl.out]; (try simp only [List.nil_append, List.cons_append]); (try dsimp only); skip; ((repeat' apply And.intro) <;> first | (simp [go_sem, *]; done) | omega | (repeat' (first | with_reducible exact Below.refl _ _ | with_reducible assumption | ((with_reducible refine Below.drew ?_)) | ((with_reducible refine below_drewN ?_ _)) | ((with_reducible refine Below.alloc ?_ ?_ _); rotate_left; focus (first | omega | (simp; done) | (simp; omega))) | ((with_reducible refine Below.setCell ?_ ?_ _); rotate_left; focus (first | omega | (simp; done) | (simp; omega))) | ((with_reducible refine Below.trans ?_ (Below.mono (by with_reducible assumption) ?_)); rotate_left; focus (first | omega | (simp; done) | (simp; omega)))))))); clear hu; simp only [Act.put, Nat.reduceAdd, List.setIfInBounds_toArray, List.set_cons_zero, List.set_cons_succ, List.nil_append, List.cons_append])))
    refine wE_nil ?_; intro w' hw; rw [HCl.out] at hw; (try simp only [List.nil_append, List.cons_append] at hw); (try dsimp only at hw); clear HCl
    go_split_ands
    go_wp2
    (go_ret; refine ⟨?_, ?_⟩; (focus (exact rfl)); ((repeat' (first | with_reducible exact Below.refl _ _ | with_reducible assumption | ((with_reducible refine Below.drew ?_)) | ((with_reducible refine below_drewN ?_ _)) | ((with_reducible refine Below.alloc ?_ ?_ _); rotate_left; focus (first | omega | (simp; done) | (simp; omega))) | ((with_reducible refine Below.setCell ?_ ?_ _); rotate_left; focus (first | omega | (simp; done) | (simp; omega))) | ((with_reducible refine Below.trans ?_ (Below.mono (by with_reducible assumption) ?_)); rotate_left; focus (first | omega | (simp; done) | (simp; omega))))); done))
  ·
    rw [hs]
    obtain ⟨q1, hq1⟩ : ∃ q, v / 1000 = q := ⟨_, rfl⟩
    have M0 : IntKind.u64.wrap ((v : Int).tmod 1000) = v % 1000 := by rw [Int.tmod_eq_emod_of_nonneg (by omega), wrap_u64]; omega
    have D0 : IntKind.u64.wrap ((v : Int).tdiv 1000) = q1 := by rw [Int.tdiv_eq_ediv_of_nonneg (by omega), hq1, wrap_u64]; omega
    have n1 : 0 ≤ q1 := by omega
    have u1 : q1 < 18446744073709551616 := by omega
    have z0 : (v % 1000 == 0) = true := by simp only [beq_iff_eq] at *; omega
    have M1 : IntKind.u64.wrap ((q1 : Int).tmod 1000) = q1 % 1000 := by rw [Int.tmod_eq_emod_of_nonneg (by omega), wrap_u64]; omega
    have z1 : (q1 % 1000 == 0) = false := by simp only [beq_iff_eq, beq_eq_false_iff_ne, ne_eq] at *; omega
    have hqf : v / 1000 = q1 := by omega
    have hq0 : 0 ≤ q1 ∧ q1 < 18446744073709551616 := by omega
    have kt := fun w => rtens_c q1 hq0.1 hq0.2 w
    have hadd := add_texts (Lib.decDigits (q1 : Int).toNat) [107, 98, 105, 116] (dec_short q1 hq0.1 hq0.2) (by decide)
    obtain ⟨A, hA⟩ : ∃ A : List UInt8, Lib.decDigits (q1 : Int).toNat ++ [107, 98, 105, 116] = A := ⟨_, rfl⟩
    obtain ⟨D, hD⟩ : ∃ D : ByteArray, (⟨(Lib.decDigits (q1 : Int).toNat).toArray⟩ : ByteArray) = D := ⟨_, rfl⟩
    rw [show (Lib.decDigits (v / rtim 2).toNat ++ rword 2) = A by simp only [rtim, rword]; rw [← hA, hqf]; rfl]
    rw [hA, hD] at hadd
    rw [hD] at kt
    have KT := Lib.hid kt
    clear kt hA hD hqf hs hq1
    go_enter Tryd.func48, Tryd.ntmps48
    go_wp2
    refine wp_loop_rounds 2 ?_
    rw [rounds_succ]
    go_wp2
    rw [rounds_succ]
    go_wp2
    obtain ⟨Cl, hCl⟩ : ∃ Cl : List Value → World → Prop, Cl = ((fun ps wz => (wz.cell? ⟨w.heap.size, 0, none⟩ = some (.string ⟨#[98, 105, 116]⟩) ∧ wz.cell? ⟨w.heap.size, 1, none⟩ = some (.string ⟨#[107, 98, 105, 116]⟩) ∧ wz.cell? ⟨w.heap.size, 2, none⟩ = some (.string ⟨#[109, 98, 105, 116]⟩) ∧ wz.cell? ⟨w.heap.size, 3, none⟩ = some (.string ⟨#[103, 98, 105, 116]⟩) ∧ w.heap.size < wz.heap.size) ∧ Below w.heap.size w wz)) := ⟨_, rfl⟩; have HCl := Lib.hid hCl; clear hCl; refine wp_region_eff [] Cl (by kernel_rfl) (by kernel_rfl) (by rw [HCl.out]; (try simp only [List.nil_append, List.cons_append]); (try dsimp only); ((repeat' apply And.intro) <;> first | (simp [go_sem, *]; done) | omega | (repeat' (first | with_reducible exact Below.refl _ _ | with_reducible assumption | ((with_reducible refine Below.drew ?_)) | ((with_reducible refine below_drewN ?_ _)) | ((with_reducible refine Below.alloc ?_ ?_ _); rotate_left; focus (first | omega | (simp; done) | (simp; omega))) | ((with_reducible refine Below.setCell ?_ ?_ _); rotate_left; focus (first | omega | (simp; done) | (simp; omega))) | ((with_reducible refine Below.trans ?_ (Below.mono (by with_reducible assumption) ?_)); rotate_left; focus (first | omega | (simp; done) | (simp; omega))))))) ?_
    (repeat (first | (refine wE_skip (by rfl) ?_; simp only [Act.put, Nat.reduceAdd, List.setIfInBounds_toArray, List.set_cons_zero, List.set_cons_succ, List.nil_append, List.cons_append]) | (refine wE_open (by rfl) (by rfl) ?_; apply Exists.intro; refine ⟨fun vs wq hw => ?_, ?_⟩; (focus (rw [HCl.out] at hw; (try simp only [List.nil_append, List.cons_append] at hw); (try dsimp only at hw); go_split_ands; go_simp <;> first | with_reducible exact (rfl : Value.bool false = _) | with_reducible exact (rfl : Value.bool true = _) | ((try go_bits) <;> exact rfl))); simp only [Act.put, Nat.reduceAdd, List.setIfInBounds_toArray, List.set_cons_zero, List.set_cons_succ, List.nil_append, List.cons_append]) | (refine wE_seal (by rfl) (by rfl) (by kernel_rfl) ?_; apply Exists.intro; refine ⟨fun wq hw => ?_, ?_⟩; (focus (rw [HCl.out] at hw; (try simp only [List.nil_append, List.cons_append] at hw); (try dsimp only at hw); go_split_ands; go_simp <;> (try go_bits) <;> exact rfl)); simp only [Act.put, Nat.reduceAdd, List.setIfInBounds_toArray, List.set_cons_zero, List.set_cons_succ, List.nil_append, List.cons_append]) | (refine wE_seal (by rfl) (by rfl) (by kernel_rfl) ?_; apply Exists.intro; refine ⟨fun wq hw => ?_, ?_⟩; (focus (rw [HCl.out] at hw; (try simp only [List.nil_append, List.cons_append] at hw); (try dsimp only at hw); go_split_ands; go_simp; (go_at_call 31; ((with_reducible refine (KT.out _).mono ?_); rintro e w' ⟨rfl, hbel⟩; obtain ⟨hcc, hff⟩ := bcell hbel; have hsz := hbel.size; (try simp at hsz); refine ⟨rfl, ?_⟩; rw [HCl.out]; (try simp only [List.nil_append, List.cons_append]); (try dsimp only); ((repeat' apply And.intro) <;> first | (simp [go_sem, *]; done) | omega | (repeat' (first | with_reducible exact Below.refl _ _ | with_reducible assumption | ((with_reducible refine Below.drew ?_)) | ((with_reducible refine below_drewN ?_ _)) | ((with_reducible refine Below.alloc ?_ ?_ _); rotate_left; focus (first | omega | (simp; done) | (simp; omega))) | ((with_reducible refine Below.setCell ?_ ?_ _); rotate_left; focus (first | omega | (simp; done) | (simp; omega))) | ((with_reducible refine Below.trans ?_ (Below.mono (by with_reducible assumption) ?_)); rotate_left; focus (first | omega | (simp; done) | (simp; omega)))))))))); simp only [Act.put, Nat.reduceAdd, List.setIfInBounds_toArray, List.set_cons_zero, List.set_cons_succ, List.nil_append, List.cons_append]) | (refine wE_eff (by rfl) (by rfl) (fun wq hw => ?_) (fun u hu => ?_); (focus (rw [HCl.out] at hw; (try simp only [List.nil_append, List.cons_append] at hw); (try dsimp only at hw); go_split_ands; go_simp; rw [HCl.out]; (try simp only [List.nil_append, List.cons_append]); (try dsimp only); skip; ((repeat' apply And.intro) <;> first | (simp [go_sem, *]; done) | omega | (repeat' (first | with_reducible exact Below.refl _ _ | with_reducible assumption | ((with_reducible refine Below.drew ?_)) | ((with_reducible refine below_drewN ?_ _)) | ((with_reducible refine Below.alloc ?_ ?_ _); rotate_left; focus (first | omega | (simp; done) | (simp; omega))) | ((with_reducible refine Below.setCell ?_ ?_ _); rotate_left; focus (first | omega | (simp; done) | (simp; omega))) | ((with_reducible refine Below.trans ?_ (Below.mono (by with_reducible assumption) ?_)); rotate_left; focus (first | omega | (simp; done) | (simp; omega)))))))); clear hu; simp only [Act.put, Nat.reduceAdd, List.setIfInBounds_toArray, List.set_cons_zero, List.set_cons_succ, List.nil_append, List.cons_append])))
    refine wE_nil ?_; intro w' hw; rw [HCl.out] at hw; (try simp only [List.nil_append, List.cons_append] at hw); (try dsimp only at hw); clear HCl
    go_split_ands
    go_wp2
    (go_ret; refine ⟨?_, ?_⟩; (focus (exact rfl)); ((repeat' (first | with_reducible exact Below.refl _ _ | with_reducible assumption | ((with_reducible refine Below.drew ?_)) | ((with_reducible refine below_drewN ?_ _)) | ((with_reducible refine Below.alloc ?_ ?_ _); rotate_left; focus (first | omega | (simp; done) | (simp; omega))) | ((with_reducible refine Below.setCell ?_ ?_ _); rotate_left; focus (first | omega | (simp; done) | (simp; omega))) | ((with_reducible refine Below.trans ?_ (Below.mono (by with_reducible assumption) ?_)); rotate_left; focus (first | omega | (simp; done) | (simp; omega))))); done))
  ·
    rw [hs]
    have M0 : IntKind.u64.wrap ((v : Int).tmod 1000) = v % 1000 := by rw [Int.tmod_eq_emod_of_nonneg (by omega), wrap_u64]; omega
    have z0 : (v % 1000 == 0) = false := by simp only [beq_iff_eq, beq_eq_false_iff_ne, ne_eq] at *; omega
    have hqf : v / 1 = v := by omega
    have hq0 : 0 ≤ v ∧ v < 18446744073709551616 := by omega
    have kt := fun w => rtens_c v hq0.1 hq0.2 w
    have hadd := add_texts (Lib.decDigits (v : Int).toNat) [98, 105, 116] (dec_short v hq0.1 hq0.2) (by decide)
    obtain ⟨A, hA⟩ : ∃ A : List UInt8, Lib.decDigits (v : Int).toNat ++ [98, 105, 116] = A := ⟨_, rfl⟩
    obtain ⟨D, hD⟩ : ∃ D : ByteArray, (⟨(Lib.decDigits (v : Int).toNat).toArray⟩ : ByteArray) = D := ⟨_, rfl⟩
    rw [show (Lib.decDigits (v / rtim 3).toNat ++ rword 3) = A by simp only [rtim, rword]; rw [← hA, hqf]; rfl]
    rw [hA, hD] at hadd
    rw [hD] at kt
    have KT := Lib.hid kt
    clear kt hA hD hqf hs 
    go_enter Tryd.func48, Tryd.ntmps48
    go_wp2
    refine wp_loop_rounds 1 ?_
    rw [rounds_succ]
    go_wp2
    obtain ⟨Cl, hCl⟩ : ∃ Cl : List Value → World → Prop, Cl = ((fun ps wz => (wz.cell? ⟨w.heap.size, 0, none⟩ = some (.string ⟨#[98, 105, 116]⟩) ∧ wz.cell? ⟨w.heap.size, 1, none⟩ = some (.string ⟨#[107, 98, 105, 116]⟩) ∧ wz.cell? ⟨w.heap.size, 2, none⟩ = some (.string ⟨#[109, 98, 105, 116]⟩) ∧ wz.cell? ⟨w.heap.size, 3, none⟩ = some (.string ⟨#[103, 98, 105, 116]⟩) ∧ w.heap.size < wz.heap.size) ∧ Below w.heap.size w wz)) := ⟨_, rfl⟩; have HCl := Lib.hid hCl; clear hCl; refine wp_region_eff [] Cl (by kernel_rfl) (by kernel_rfl) (by rw [HCl.out]; (try simp only [List.nil_append, List.cons_append]); (try dsimp only); ((repeat' apply And.intro) <;> first | (simp [go_sem, *]; done) | omega | (repeat' (first | with_reducible exact Below.refl _ _ | with_reducible assumption | ((with_reducible refine Below.drew ?_)) | ((with_reducible refine below_drewN ?_ _)) | ((with_reducible refine Below.alloc ?_ ?_ _); rotate_left; focus (first | omega | (simp; done) | (simp; omega))) | ((with_reducible refine Below.setCell ?_ ?_ _); rotate_left; focus (first | omega | (simp; done) | (simp; omega))) | ((with_reducible refine Below.trans ?_ (Below.mono (by with_reducible assumption) ?_)); rotate_left; focus (first | omega | (simp; done) | (simp; omega))))))) ?_
    (repeat (first | (refine wE_skip (by rfl) ?_; simp only [Act.put, Nat.reduceAdd, List.setIfInBounds_toArray, List.set_cons_zero, List.set_cons_succ, List.nil_append, List.cons_append]) | (refine wE_open (by rfl) (by rfl) ?_; apply Exists.intro; refine ⟨fun vs wq hw => ?_, ?_⟩; (focus (rw [HCl.out] at hw; (try simp only [List.nil_append, List.cons_append] at hw); (try dsimp only at hw); go_split_ands; go_simp <;> first | with_reducible exact (rfl : Value.bool false = _) | with_reducible exact (rfl : Value.bool true = _) | ((try go_bits) <;> exact rfl))); simp only [Act.put, Nat.reduceAdd, List.setIfInBounds_toArray, List.set_cons_zero, List.set_cons_succ, List.nil_append, List.cons_append]) | (refine wE_seal (by rfl) (by rfl) (by kernel_rfl) ?_; apply Exists.intro; refine ⟨fun wq hw => ?_, ?_⟩; (focus (rw [HCl.out] at hw; (try simp only [List.nil_append, List.cons_append] at hw); (try dsimp only at hw); go_split_ands; go_simp <;> (try go_bits) <;> exact rfl)); simp only [Act.put, Nat.reduceAdd, List.setIfInBounds_toArray, List.set_cons_zero, List.set_cons_succ, List.nil_append, List.cons_append]) | (refine wE_seal (by rfl) (by rfl) (by kernel_rfl) ?_; apply Exists.intro; refine ⟨fun wq hw => ?_, ?_⟩; (focus (rw [HCl.out] at hw; (try simp only [List.nil_append, List.cons_append] at hw); (try dsimp only at hw); go_split_ands; go_simp; (go_at_call 31; ((with_reducible refine (KT.out _).mono ?_); rintro e w' ⟨rfl, hbel⟩; obtain ⟨hcc, hff⟩ := bcell hbel; have hsz := hbel.size; (try simp at hsz); refine ⟨rfl, ?_⟩; rw [HCl.out]; (try simp only [List.nil_append, List.cons_append]); (try dsimp only); ((repeat' apply And.intro) <;> first | (simp [go_sem, *]; done) | omega | (repeat' (first | with_reducible exact Below.refl _ _ | with_reducible assumption | ((with_reducible refine Below.drew ?_)) | ((with_reducible refine below_drewN ?_ _)) | ((with_reducible refine Below.alloc ?_ ?_ _); rotate_left; focus (first | omega | (simp; done) | (simp; omega))) | ((with_reducible refine Below.setCell ?_ ?_ _); rotate_left; focus (first | omega | (simp; done) | (simp; omega))) | ((with_reducible refine Below.trans ?_ (Below.mono (by with_reducible assumption) ?_)); rotate_left; focus (first | omega | (simp; done) | (simp; omega)))))))))); simp only [Act.put, Nat.reduceAdd, List.setIfInBounds_toArray, List.set_cons_zero, List.set_cons_succ, List.nil_append, List.cons_append]) | (refine wE_eff (by rfl) (by rfl) (fun wq hw => ?_) (fun u hu => ?_); (focus (rw [HCl.out] at hw; (try simp only [List.nil_append, List.cons_append] at hw); (try dsimp only at hw); go_split_ands; go_simp; rw [HCl.out]; (try simp only [List.nil_append, List.cons_append]); (try dsimp only); skip; ((repeat' apply And.intro) <;> first | (simp [go_sem, *]; done) | omega | (repeat' (first | with_reducible exact Below.refl _ _ | with_reducible assumption | ((with_reducible refine Below.drew ?_)) | ((with_reducible refine below_drewN ?_ _)) | ((with_reducible refine Below.alloc ?_ ?_ _); rotate_left; focus (first | omega | (simp; done) | (simp; omega))) | ((with_reducible refine Below.setCell ?_ ?_ _); rotate_left; focus (first | omega | (simp; done) | (simp; omega))) | ((with_reducible refine Below.trans ?_ (Below.mono (by with_reducible assumption) ?_)); rotate_left; focus (first | omega | (simp; done) | (simp; omega)))))))); clear hu; simp only [Act.put, Nat.reduceAdd, List.setIfInBounds_toArray, List.set_cons_zero, List.set_cons_succ, List.nil_append, List.cons_append])))
    refine wE_nil ?_; intro w' hw; rw [HCl.out] at hw; (try simp only [List.nil_append, List.cons_append] at hw); (try dsimp only at hw); clear HCl
    go_split_ands
    go_wp2
    (go_ret; refine ⟨?_, ?_⟩; (focus (exact rfl)); ((repeat' (first | with_reducible exact Below.refl _ _ | with_reducible assumption | ((with_reducible refine Below.drew ?_)) | ((with_reducible refine below_drewN ?_ _)) | ((with_reducible refine Below.alloc ?_ ?_ _); rotate_left; focus (first | omega | (simp; done) | (simp; omega))) | ((with_reducible refine Below.setCell ?_ ?_ _); rotate_left; focus (first | omega | (simp; done) | (simp; omega))) | ((with_reducible refine Below.trans ?_ (Below.mono (by with_reducible assumption) ?_)); rotate_left; focus (first | omega | (simp; done) | (simp; omega))))); done))
set_option maxHeartbeats 8000000 in
theorem rttx_some (v : Int) (h0 : 0 ≤ v) (h1 : v < 18446744073709551616) (hv1 : v ≤ 1000000000) (w : World) : Calls Tryd.prog 49 #[.int .u64 v] w fun ee w' => ee = .returned (.string ⟨(ttx v).toArray⟩) ∧ Below w.heap.size w w' := by
  unfold ttx
  have y1 : decide ((1000000000 : Int) < v) = false := by simp; omega
  rcases ttsel_facts v with ⟨hs, g0⟩ | ⟨hs, g0, g1⟩ | ⟨hs, g0, g1⟩
  ·
    rw [hs]
    obtain ⟨q1, hq1⟩ : ∃ q, v / 1000 = q := ⟨_, rfl⟩
    have M0 : IntKind.u64.wrap ((v : Int).tmod 1000) = v % 1000 := by rw [Int.tmod_eq_emod_of_nonneg (by omega), wrap_u64]; omega
    have D0 : IntKind.u64.wrap ((v : Int).tdiv 1000) = q1 := by rw [Int.tdiv_eq_ediv_of_nonneg (by omega), hq1, wrap_u64]; omega
    have n1 : 0 ≤ q1 := by omega
    have u1 : q1 < 18446744073709551616 := by omega
    have z0 : (v % 1000 == 0) = true := by simp only [beq_iff_eq] at *; omega
    obtain ⟨q2, hq2⟩ : ∃ q, q1 / 1000 = q := ⟨_, rfl⟩
    have M1 : IntKind.u64.wrap ((q1 : Int).tmod 1000) = q1 % 1000 := by rw [Int.tmod_eq_emod_of_nonneg (by omega), wrap_u64]; omega
    have D1 : IntKind.u64.wrap ((q1 : Int).tdiv 1000) = q2 := by rw [Int.tdiv_eq_ediv_of_nonneg (by omega), hq2, wrap_u64]; omega
    have n2 : 0 ≤ q2 := by omega
    have u2 : q2 < 18446744073709551616 := by omega
    have z1 : (q1 % 1000 == 0) = true := by simp only [beq_iff_eq] at *; omega
    have hqf : v / 1000000 = q2 := by omega
    have hq0 : 0 ≤ q2 ∧ q2 < 18446744073709551616 := by omega
    have kt := fun w => rtens_c q2 hq0.1 hq0.2 w
    have hadd := add_texts (Lib.decDigits (q2 : Int).toNat) [115] (dec_short q2 hq0.1 hq0.2) (by decide)
    obtain ⟨A, hA⟩ : ∃ A : List UInt8, Lib.decDigits (q2 : Int).toNat ++ [115] = A := ⟨_, rfl⟩
    obtain ⟨D, hD⟩ : ∃ D : ByteArray, (⟨(Lib.decDigits (q2 : Int).toNat).toArray⟩ : ByteArray) = D := ⟨_, rfl⟩
    rw [show (Lib.decDigits (v / ttim 0).toNat ++ tword 0) = A by simp only [ttim, tword]; rw [← hA, hqf]; rfl]
    rw [hA, hD] at hadd
    rw [hD] at kt
    have KT := Lib.hid kt
    clear kt hA hD hqf hs hq1 hq2
    go_enter Tryd.func49, Tryd.ntmps49
    go_wp2
    refine wp_loop_rounds 3 ?_
    rw [rounds_succ]
    go_wp2
    rw [rounds_succ]
    go_wp2
    rw [rounds_succ]
    go_wp2
    obtain ⟨Cl, hCl⟩ : ∃ Cl : List Value → World → Prop, Cl = ((fun ps wz => (wz.cell? ⟨w.heap.size, 0, none⟩ = some (.string ⟨#[117, 115]⟩) ∧ wz.cell? ⟨w.heap.size, 1, none⟩ = some (.string ⟨#[109, 115]⟩) ∧ wz.cell? ⟨w.heap.size, 2, none⟩ = some (.string ⟨#[115]⟩) ∧ w.heap.size < wz.heap.size) ∧ Below w.heap.size w wz)) := ⟨_, rfl⟩; have HCl := Lib.hid hCl; clear hCl; refine wp_region_eff [] Cl (by kernel_rfl) (by kernel_rfl) (by rw [HCl.out]; (try simp only [List.nil_append, List.cons_append]); (try dsimp only); ((repeat' apply And.intro) <;> first | (simp [go_sem, *]; done) | omega | (repeat' (first | with_reducible exact Below.refl _ _ | with_reducible assumption | ((with_reducible refine Below.drew ?_)) | ((with_reducible refine below_drewN ?_ _)) | ((with_reducible refine Below.alloc ?_ ?_ _); rotate_left; focus (first | omega | (simp; done) | (simp; omega))) | ((with_reducible refine Below.setCell ?_ ?_ _); rotate_left; focus (first | omega | (simp; done) | (simp; omega))) | ((with_reducible refine Below.trans ?_ (Below.mono (by with_reducible assumption) ?_)); rotate_left; focus (first | omega | (simp; done) | (simp; omega))))))) ?_
    (repeat (first | (refine wE_skip (by rfl) ?_; simp only [Act.put, Nat.reduceAdd, List.setIfInBounds_toArray, List.set_cons_zero, List.set_cons_succ, List.nil_append, List.cons_append]) | (refine wE_open (by rfl) (by rfl) ?_; apply Exists.intro; refine ⟨fun vs wq hw => ?_, ?_⟩; (focus (rw [HCl.out] at hw; (try simp only [List.nil_append, List.cons_append] at hw); (try dsimp only at hw); go_split_ands; go_simp <;> first | with_reducible exact (rfl : Value.bool false = _) | with_reducible exact (rfl : Value.bool true = _) | ((try go_bits) <;> exact rfl))); simp only [Act.put, Nat.reduceAdd, List.setIfInBounds_toArray, List.set_cons_zero, List.set_cons_succ, List.nil_append, List.cons_append]) | (refine wE_seal (by rfl) (by rfl) (by kernel_rfl) ?_; apply Exists.intro; refine ⟨fun wq hw => ?_, ?_⟩; (focus (rw [HCl.out] at hw; (try simp only [List.nil_append, List.cons_append] at hw); (try dsimp only at hw); go_split_ands; go_simp <;> (try go_bits) <;> exact rfl)); simp only [Act.put, Nat.reduceAdd, List.setIfInBounds_toArray, List.set_cons_zero, List.set_cons_succ, List.nil_append, List.cons_append]) | (refine wE_seal (by rfl) (by rfl) (by kernel_rfl) ?_; apply Exists.intro; refine ⟨fun wq hw => ?_, ?_⟩; (focus (rw [HCl.out] at hw; (try simp only [List.nil_append, List.cons_append] at hw); (try dsimp only at hw); go_split_ands; go_simp; (go_at_call 31; ((with_reducible refine (KT.out _).mono ?_); rintro e w' ⟨rfl, hbel⟩; obtain ⟨hcc, hff⟩ := bcell hbel; have hsz := hbel.size; (try simp at hsz); refine ⟨rfl, ?_⟩; rw [HCl.out]; (try simp only [List.nil_append, List.cons_append]); (try dsimp only); ((repeat' apply And.intro) <;> first | (simp [go_sem, *]; done) | omega | (repeat' (first | with_reducible exact Below.refl _ _ | with_reducible assumption | ((with_reducible refine Below.drew ?_)) | ((with_reducible refine below_drewN ?_ _)) | ((with_reducible refine Below.alloc ?_ ?_ _); rotate_left; focus (first | omega | (simp; done) | (simp; omega))) | ((with_reducible refine Below.setCell ?_ ?_ _); rotate_left; focus (first | omega | (simp; done) | (simp; omega))) | ((with_reducible refine Below.trans ?_ (Below.mono (by with_reducible assumption) ?_)); rotate_left; focus (first | omega | (simp; done) | (simp; omega)))))))))); simp only [Act.put, Nat.reduceAdd, List.setIfInBounds_toArray, List.set_cons_zero, List.set_cons_succ, List.nil_append, List.cons_append]) | (refine wE_eff (by rfl) (by rfl) (fun wq hw => ?_) (fun u hu => ?_); (focus (rw [HCl.out] at hw; (try simp only [List.nil_append, List.cons_append] at hw); (try dsimp only at hw); go_split_ands; go_simp; rw [HCl.out]; (try simp only [List.nil_append, List.cons_append]); (try dsimp only); skip; ((repeat' apply And.intro) <;> first | (simp [go_sem, *]; done) | omega | (repeat' (first | with_reducible exact Below.refl _ _ | with_reducible assumption | ((with_reducible refine Below.drew ?_)) | ((with_reducible refine below_drewN ?_ _)) | ((with_reducible refine Below.alloc ?_ ?_ _); rotate_left; focus (first | omega | (simp; done) | (simp; omega))) | ((with_reducible refine Below.setCell ?_ ?_ _); rotate_left; focus (first | omega | (simp; done) | (simp; omega))) | ((with_reducible refine Below.trans ?_ (Below.mono (by with_reducible assumption) ?_)); rotate_left; focus (first | omega | (simp; done) | (simp; omega)))))))); clear hu; simp only [Act.put, Nat.reduceAdd, List.setIfInBounds_toArray, List.set_cons_zero, List.set_cons_succ, List.nil_append, List.cons_append])))
    refine wE_nil ?_; intro w' hw; rw [HCl.out] at hw; (try simp only [List.nil_append, List.cons_append] at hw); (try dsimp only at hw); clear HCl
    go_split_ands
    go_wp2
    (go_ret; refine ⟨?_, ?_⟩; (focus (exact rfl)); ((repeat' (first | with_reducible exact Below.refl _ _ | with_reducible assumption | ((with_reducible refine Below.drew ?_)) | ((with_reducible refine below_drewN ?_ _)) | ((with_reducible refine Below.alloc ?_ ?_ _); rotate_left; focus (first | omega | (simp; done) | (simp; omega))) | ((with_reducible refine Below.setCell ?_ ?_ _); rotate_left; focus (first | omega | (simp; done) | (simp; omega))) | ((with_reducible refine Below.trans ?_ (Below.mono (by with_reducible assumption) ?_)); rotate_left; focus (first | omega | (simp; done) | (simp; omega))))); done))
  ·
    rw [hs]
    obtain ⟨q1, hq1⟩ : ∃ q, v / 1000 = q := ⟨_, rfl⟩
    have M0 : IntKind.u64.wrap ((v : Int).tmod 1000) = v % 1000 := by rw [Int.tmod_eq_emod_of_nonneg (by omega), wrap_u64]; omega
    have D0 : IntKind.u64.wrap ((v : Int).tdiv 1000) = q1 := by rw [Int.tdiv_eq_ediv_of_nonneg (by omega), hq1, wrap_u64]; omega
    have n1 : 0 ≤ q1 := by omega
    have u1 : q1 < 18446744073709551616 := by omega
    have z0 : (v % 1000 == 0) = true := by simp only [beq_iff_eq] at *; omega
    have M1 : IntKind.u64.wrap ((q1 : Int).tmod 1000) = q1 % 1000 := by rw [Int.tmod_eq_emod_of_nonneg (by omega), wrap_u64]; omega
    have z1 : (q1 % 1000 == 0) = false := by simp only [beq_iff_eq, beq_eq_false_iff_ne, ne_eq] at *; omega
    have hqf : v / 1000 = q1 := by omega
    have hq0 : 0 ≤ q1 ∧ q1 < 18446744073709551616 := by omega
    have kt := fun w => rtens_c q1 hq0.1 hq0.2 w
    have hadd := add_texts (Lib.decDigits (q1 : Int).toNat) [109, 115] (dec_short q1 hq0.1 hq0.2) (by decide)
    obtain ⟨A, hA⟩ : ∃ A : List UInt8, Lib.decDigits (q1 : Int).toNat ++ [109, 115] = A := ⟨_, rfl⟩
    obtain ⟨D, hD⟩ : ∃ D : ByteArray, (⟨(Lib.decDigits (q1 : Int).toNat).toArray⟩ : ByteArray) = D := ⟨_, rfl⟩
    rw [show (Lib.decDigits (v / ttim 1).toNat ++ tword 1) = A by simp only [ttim, tword]; rw [← hA, hqf]; rfl]
    rw [hA, hD] at hadd
    rw [hD] at kt
    have KT := Lib.hid kt
    clear kt hA hD hqf hs hq1
    go_enter Tryd.func49, Tryd.ntmps49
    go_wp2
    refine wp_loop_rounds 2 ?_
    rw [rounds_succ]
    go_wp2
    rw [rounds_succ]
    go_wp2
    obtain ⟨Cl, hCl⟩ : ∃ Cl : List Value → World → Prop, Cl = ((fun ps wz => (wz.cell? ⟨w.heap.size, 0, none⟩ = some (.string ⟨#[117, 115]⟩) ∧ wz.cell? ⟨w.heap.size, 1, none⟩ = some (.string ⟨#[109, 115]⟩) ∧ wz.cell? ⟨w.heap.size, 2, none⟩ = some (.string ⟨#[115]⟩) ∧ w.heap.size < wz.heap.size) ∧ Below w.heap.size w wz)) := ⟨_, rfl⟩; have HCl := Lib.hid hCl; clear hCl; refine wp_region_eff [] Cl (by kernel_rfl) (by kernel_rfl) (by rw [HCl.out]; (try simp only [List.nil_append, List.cons_append]); (try dsimp only); ((repeat' apply And.intro) <;> first | (simp [go_sem, *]; done) | omega | (repeat' (first | with_reducible exact Below.refl _ _ | with_reducible assumption | ((with_reducible refine Below.drew ?_)) | ((with_reducible refine below_drewN ?_ _)) | ((with_reducible refine Below.alloc ?_ ?_ _); rotate_left; focus (first | omega | (simp; done) | (simp; omega))) | ((with_reducible refine Below.setCell ?_ ?_ _); rotate_left; focus (first | omega | (simp; done) | (simp; omega))) | ((with_reducible refine Below.trans ?_ (Below.mono (by with_reducible assumption) ?_)); rotate_left; focus (first | omega | (simp; done) | (simp; omega))))))) ?_
    (repeat (first | (refine wE_skip (by rfl) ?_; simp only [Act.put, Nat.reduceAdd, List.setIfInBounds_toArray, List.set_cons_zero, List.set_cons_succ, List.nil_append, List.cons_append]) | (refine wE_open (by rfl) (by rfl) ?_; apply Exists.intro; refine ⟨fun vs wq hw => ?_, ?_⟩; (focus (rw [HCl.out] at hw; (try simp only [List.nil_append, List.cons_append] at hw); (try dsimp only at hw); go_split_ands; go_simp <;> first | with_reducible exact (rfl : Value.bool false = _) | with_reducible exact (rfl : Value.bool true = _) | ((try go_bits) <;> exact rfl))); simp only [Act.put, Nat.reduceAdd, List.setIfInBounds_toArray, List.set_cons_zero, List.set_cons_succ, List.nil_append, List.cons_append]) | (refine wE_seal (by rfl) (by rfl) (by kernel_rfl) ?_; apply Exists.intro; refine ⟨fun wq hw => ?_, ?_⟩; (focus (rw [HCl.out] at hw; (try simp only [List.nil_append, List.cons_append] at hw); (try dsimp only at hw); go_split_ands; go_simp <;> (try go_bits) <;> exact rfl)); simp only [Act.put, Nat.reduceAdd, List.setIfInBounds_toArray, List.set_cons_zero, List.set_cons_succ, List.nil_append, List.cons_append]) | (refine wE_seal (by rfl) (by rfl) (by kernel_rfl) ?_; apply Exists.intro; refine ⟨fun wq hw => ?_, ?_⟩; (focus (rw [HCl.out] at hw; (try simp only [List.nil_append, List.cons_append] at hw); (try dsimp only at hw); go_split_ands; go_simp; (go_at_call 31; ((with_reducible refine (KT.out _).mono ?_); rintro e w' ⟨rfl, hbel⟩; obtain ⟨hcc, hff⟩ := bcell hbel; have hsz := hbel.size; (try simp at hsz); refine ⟨rfl, ?_⟩; rw [HCl.out]; (try simp only [List.nil_append, List.cons_append]); (try dsimp only); ((repeat' apply And.intro) <;> first | (simp [go_sem, *]; done) | omega | (repeat' (first | with_reducible exact Below.refl _ _ | with_reducible assumption | ((with_reducible refine Below.drew ?_)) | ((with_reducible refine below_drewN ?_ _)) | ((with_reducible refine Below.alloc ?_ ?_ _); rotate_left; focus (first | omega | (simp; done) | (simp; omega))) | ((with_reducible refine Below.setCell ?_ ?_ _); rotate_left; focus (first | omega | (simp; done) | (simp; omega))) | ((with_reducible refine Below.trans ?_ (Below.mono (by with_reducible assumption) ?_)); rotate_left; focus (first | omega | (simp; done) | (simp; omega)))))))))); simp only [Act.put, Nat.reduceAdd, List.setIfInBounds_toArray, List.set_cons_zero, List.set_cons_succ, List.nil_append, List.cons_append]) | (refine wE_eff (by rfl) (by rfl) (fun wq hw => ?_) (fun u hu => ?_); (focus (rw [HCl.out] at hw; (try simp only [List.nil_append, List.cons_append] at hw); (try dsimp only at hw); go_split_ands; go_simp; rw [HCl.out]; (try simp only [List.nil_append, List.cons_append]); (try dsimp only); skip; ((repeat' apply And.intro) <;> first | (simp [go_sem, *]; done) | omega | (repeat' (first | with_reducible exact Below.refl _ _ | with_reducible assumption | ((with_reducible refine Below.drew ?_)) | ((with_reducible refine below_drewN ?_ _)) | ((with_reducible refine Below.alloc ?_ ?_ _); rotate_left; focus (first | omega | (simp; done) | (simp; omega))) | ((with_reducible refine Below.setCell ?_ ?_ _); rotate_left; focus (first | omega | (simp; done) | (simp; omega))) | ((with_reducible refine Below.trans ?_ (Below.mono (by with_reducible assumption) ?_)); rotate_left; focus (first | omega | (simp; done) | (simp; omega)))))))); clear hu; simp only [Act.put, Nat.reduceAdd, List.setIfInBounds_toArray, List.set_cons_zero, List.set_cons_succ, List.nil_append, List.cons_append])))
    refine wE_nil ?_; intro w' hw; rw [HCl.out] at hw; (try simp only [List.nil_append, List.cons_append] at hw); (try dsimp only at hw); clear HCl
    go_split_ands
    go_wp2
    (go_ret; refine ⟨?_, ?_⟩; (focus (exact rfl)); ((repeat' (first | with_reducible exact Below.refl _ _ | with_reducible assumption | ((with_reducible refine Below.drew ?_)) | ((with_reducible refine below_drewN ?_ _)) | ((with_reducible refine Below.alloc ?_ ?_ _); rotate_left; focus (first | omega | (simp; done) | (simp; omega))) | ((with_reducible refine Below.setCell ?_ ?_ _); rotate_left; focus (first | omega | (simp; done) | (simp; omega))) | ((with_reducible refine Below.trans ?_ (Below.mono (by with_reducible assumption) ?_)); rotate_left; focus (first | omega | (simp; done) | (simp; omega))))); done))
  ·
    rw [hs]
    have M0 : IntKind.u64.wrap ((v : Int).tmod 1000) = v % 1000 := by rw [Int.tmod_eq_emod_of_nonneg (by omega), wrap_u64]; omega
    have z0 : (v % 1000 == 0) = false := by simp only [beq_iff_eq, beq_eq_false_iff_ne, ne_eq] at *; omega
    have hqf : v / 1 = v := by omega
    have hq0 : 0 ≤ v ∧ v < 18446744073709551616 := by omega
    have kt := fun w => rtens_c v hq0.1 hq0.2 w
    have hadd := add_texts (Lib.decDigits (v : Int).toNat) [117, 115] (dec_short v hq0.1 hq0.2) (by decide)
    obtain ⟨A, hA⟩ : ∃ A : List UInt8, Lib.decDigits (v : Int).toNat ++ [117, 115] = A := ⟨_, rfl⟩
    obtain ⟨D, hD⟩ : ∃ D : ByteArray, (⟨(Lib.decDigits (v : Int).toNat).toArray⟩ : ByteArray) = D := ⟨_, rfl⟩
    rw [show (Lib.decDigits (v / ttim 2).toNat ++ tword 2) = A by simp only [ttim, tword]; rw [← hA, hqf]; rfl]
    rw [hA, hD] at hadd
    rw [hD] at kt
    have KT := Lib.hid kt
    clear kt hA hD hqf hs 
    go_enter Tryd.func49, Tryd.ntmps49
    go_wp2
    refine wp_loop_rounds 1 ?_
    rw [rounds_succ]
    go_wp2
    obtain ⟨Cl, hCl⟩ : ∃ Cl : List Value → World → Prop, Cl = ((fun ps wz => (wz.cell? ⟨w.heap.size, 0, none⟩ = some (.string ⟨#[117, 115]⟩) ∧ wz.cell? ⟨w.heap.size, 1, none⟩ = some (.string ⟨#[109, 115]⟩) ∧ wz.cell? ⟨w.heap.size, 2, none⟩ = some (.string ⟨#[115]⟩) ∧ w.heap.size < wz.heap.size) ∧ Below w.heap.size w wz)) := ⟨_, rfl⟩; have HCl := Lib.hid hCl; clear hCl; refine wp_region_eff [] Cl (by kernel_rfl) (by kernel_rfl) (by rw [HCl.out]; (try simp only [List.nil_append, List.cons_append]); (try dsimp only); ((repeat' apply And.intro) <;> first | (simp [go_sem, *]; done) | omega | (repeat' (first | with_reducible exact Below.refl _ _ | with_reducible assumption | ((with_reducible refine Below.drew ?_)) | ((with_reducible refine below_drewN ?_ _)) | ((with_reducible refine Below.alloc ?_ ?_ _); rotate_left; focus (first | omega | (simp; done) | (simp; omega))) | ((with_reducible refine Below.setCell ?_ ?_ _); rotate_left; focus (first | omega | (simp; done) | (simp; omega))) | ((with_reducible refine Below.trans ?_ (Below.mono (by with_reducible assumption) ?_)); rotate_left; focus (first | omega | (simp; done) | (simp; omega))))))) ?_
    (repeat (first | (refine wE_skip (by rfl) ?_; simp only [Act.put, Nat.reduceAdd, List.setIfInBounds_toArray, List.set_cons_zero, List.set_cons_succ, List.nil_append, List.cons_append]) | (refine wE_open (by rfl) (by rfl) ?_; apply Exists.intro; refine ⟨fun vs wq hw => ?_, ?_⟩; (focus (rw [HCl.out] at hw; (try simp only [List.nil_append, List.cons_append] at hw); (try dsimp only at hw); go_split_ands; go_simp <;> first | with_reducible exact (rfl : Value.bool false = _) | with_reducible exact (rfl : Value.bool true = _) | ((try go_bits) <;> exact rfl))); simp only [Act.put, Nat.reduceAdd, List.setIfInBounds_toArray, List.set_cons_zero, List.set_cons_succ, List.nil_append, List.cons_append]) | (refine wE_seal (by rfl) (by rfl) (by kernel_rfl) ?_; apply Exists.intro; refine ⟨fun wq hw => ?_, ?_⟩; (focus (rw [HCl.out] at hw; (try simp only [List.nil_append, List.cons_append] at hw); (try dsimp only at hw); go_split_ands; go_simp <;> (try go_bits) <;> exact rfl)); simp only [Act.put, Nat.reduceAdd, List.setIfInBounds_toArray, List.set_cons_zero, List.set_cons_succ, List.nil_append, List.cons_append]) | (refine wE_seal (by rfl) (by rfl) (by kernel_rfl) ?_; apply Exists.intro; refine ⟨fun wq hw => ?_, ?_⟩; (focus (rw [HCl.out] at hw; (try simp only [List.nil_append, List.cons_append] at hw); (try dsimp only at hw); go_split_ands; go_simp; (go_at_call 31; ((with_reducible refine (KT.out _).mono ?_); rintro e w' ⟨rfl, hbel⟩; obtain ⟨hcc, hff⟩ := bcell hbel; have hsz := hbel.size; (try simp at hsz); refine ⟨rfl, ?_⟩; rw [HCl.out]; (try simp only [List.nil_append, List.cons_append]); (try dsimp only); ((repeat' apply And.intro) <;> first | (simp [go_sem, *]; done) | omega | (repeat' (first | with_reducible exact Below.refl _ _ | with_reducible assumption | ((with_reducible refine Below.drew ?_)) | ((with_reducible refine below_drewN ?_ _)) | ((with_reducible refine Below.alloc ?_ ?_ _); rotate_left; focus (first | omega | (simp; done) | (simp; omega))) | ((with_reducible refine Below.setCell ?_ ?_ _); rotate_left; focus (first | omega | (simp; done) | (simp; omega))) | ((with_reducible refine Below.trans ?_ (Below.mono (by with_reducible assumption) ?_)); rotate_left; focus (first | omega | (simp; done) | (simp; omega)))))))))); simp only [Act.put, Nat.reduceAdd, List.setIfInBounds_toArray, List.set_cons_zero, List.set_cons_succ, List.nil_append, List.cons_append]) | (refine wE_eff (by rfl) (by rfl) (fun wq hw => ?_) (fun u hu => ?_); (focus (rw [HCl.out] at hw; (try simp only [List.nil_append, List.cons_append] at hw); (try dsimp only at hw); go_split_ands; go_simp; rw [HCl.out]; (try simp only [List.nil_append, List.cons_append]); (try dsimp only); skip; ((repeat' apply And.intro) <;> first | (simp [go_sem, *]; done) | omega | (repeat' (first | with_reducible exact Below.refl _ _ | with_reducible assumption | ((with_reducible refine Below.drew ?_)) | ((with_reducible refine below_drewN ?_ _)) | ((with_reducible refine Below.alloc ?_ ?_ _); rotate_left; focus (first | omega | (simp; done) | (simp; omega))) | ((with_reducible refine Below.setCell ?_ ?_ _); rotate_left; focus (first | omega | (simp; done) | (simp; omega))) | ((with_reducible refine Below.trans ?_ (Below.mono (by with_reducible assumption) ?_)); rotate_left; focus (first | omega | (simp; done) | (simp; omega)))))))); clear hu; simp only [Act.put, Nat.reduceAdd, List.setIfInBounds_toArray, List.set_cons_zero, List.set_cons_succ, List.nil_append, List.cons_append])))
    refine wE_nil ?_; intro w' hw; rw [HCl.out] at hw; (try simp only [List.nil_append, List.cons_append] at hw); (try dsimp only at hw); clear HCl
    go_split_ands
    go_wp2
    (go_ret; refine ⟨?_, ?_⟩; (focus (exact rfl)); ((repeat' (first | with_reducible exact Below.refl _ _ | with_reducible assumption | ((with_reducible refine Below.drew ?_)) | ((with_reducible refine below_drewN ?_ _)) | ((with_reducible refine Below.alloc ?_ ?_ _); rotate_left; focus (first | omega | (simp; done) | (simp; omega))) | ((with_reducible refine Below.setCell ?_ ?_ _); rotate_left; focus (first | omega | (simp; done) | (simp; omega))) | ((with_reducible refine Below.trans ?_ (Below.mono (by with_reducible assumption) ?_)); rotate_left; focus (first | omega | (simp; done) | (simp; omega))))); done))
theorem rrtext_c (v : Int) (h0 : 0 ≤ v) (h1 : v < 18446744073709551616) (w : World) : Calls Tryd.prog 48 #[.int .u64 v] w fun ee w' => ee = .returned (.string ⟨(rtxt v).toArray⟩) ∧ Below w.heap.size w w' := by
  unfold rtxt
  by_cases hr : rm v = true
  · rw [if_pos hr]
    rw [rm_iff] at hr
    exact rrtx_some v h0 h1 (by omega) (by omega) w
  · rw [if_neg hr]
    rw [rm_iff] at hr
    by_cases hz : v = 0
    · subst hz
      go_enter Tryd.func48, Tryd.ntmps48
      go_wp2
      (go_ret; refine ⟨?_, ?_⟩; (focus (exact rfl)); ((repeat' (first | with_reducible exact Below.refl _ _ | with_reducible assumption | ((with_reducible refine Below.drew ?_)) | ((with_reducible refine below_drewN ?_ _)) | ((with_reducible refine Below.alloc ?_ ?_ _); rotate_left; focus (first | omega | (simp; done) | (simp; omega))) | ((with_reducible refine Below.setCell ?_ ?_ _); rotate_left; focus (first | omega | (simp; done) | (simp; omega))) | ((with_reducible refine Below.trans ?_ (Below.mono (by with_reducible assumption) ?_)); rotate_left; focus (first | omega | (simp; done) | (simp; omega))))); done))
    · have y0 : (v == 0) = false := by simpa using hz
      have y1 : decide ((1000000000000 : Int) < v) = true := by simp; omega
      go_enter Tryd.func48, Tryd.ntmps48
      go_wp2
      (go_ret; refine ⟨?_, ?_⟩; (focus (exact rfl)); ((repeat' (first | with_reducible exact Below.refl _ _ | with_reducible assumption | ((with_reducible refine Below.drew ?_)) | ((with_reducible refine below_drewN ?_ _)) | ((with_reducible refine Below.alloc ?_ ?_ _); rotate_left; focus (first | omega | (simp; done) | (simp; omega))) | ((with_reducible refine Below.setCell ?_ ?_ _); rotate_left; focus (first | omega | (simp; done) | (simp; omega))) | ((with_reducible refine Below.trans ?_ (Below.mono (by with_reducible assumption) ?_)); rotate_left; focus (first | omega | (simp; done) | (simp; omega))))); done))
theorem rttext_c (v : Int) (h0 : 0 ≤ v) (h1 : v < 18446744073709551616) (w : World) : Calls Tryd.prog 49 #[.int .u64 v] w fun ee w' => ee = .returned (.string ⟨(ttxt v).toArray⟩) ∧ Below w.heap.size w w' := by
  unfold ttxt
  by_cases hr : v ≤ 1000000000
  · rw [if_pos hr]
    exact rttx_some v h0 h1 hr w
  · rw [if_neg hr]
    have y1 : decide ((1000000000 : Int) < v) = true := by simp; omega
    go_enter Tryd.func49, Tryd.ntmps49
    go_wp2
    (go_ret; refine ⟨?_, ?_⟩; (focus (exact rfl)); ((repeat' (first | with_reducible exact Below.refl _ _ | with_reducible assumption | ((with_reducible refine Below.drew ?_)) | ((with_reducible refine below_drewN ?_ _)) | ((with_reducible refine Below.alloc ?_ ?_ _); rotate_left; focus (first | omega | (simp; done) | (simp; omega))) | ((with_reducible refine Below.setCell ?_ ?_ _); rotate_left; focus (first | omega | (simp; done) | (simp; omega))) | ((with_reducible refine Below.trans ?_ (Below.mono (by with_reducible assumption) ?_)); rotate_left; focus (first | omega | (simp; done) | (simp; omega))))); done))
end Go.Proofs.YtdiniaokkdcihaaDoor
