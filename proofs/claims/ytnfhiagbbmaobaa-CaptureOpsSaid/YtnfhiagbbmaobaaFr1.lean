/- The reference's exclusive or. -/
import Derived.Test.YtnfhiagbbmaobaaFk0
namespace Go.Proofs.Ytnfhiagbbmaobaa
set_option linter.unusedVariables false
set_option linter.unusedSimpArgs false
set_option maxRecDepth 100000
open Go.RowKit Fg Reg
attribute [local irreducible] Reg.wE Reg2.wT

theorem pow_small {k : Nat} (h : k < 16) : (1 : Int) ≤ 2 ^ k ∧ (2 : Int) ^ k ≤ 32768 := by
  have h1 : (1 : Nat) ≤ 2 ^ k := Nat.one_le_two_pow
  have h2 : (2 : Nat) ^ k ≤ 2 ^ 15 := Nat.pow_le_pow_right (by decide) (by omega)
  have e : ((2 : Int) ^ k) = ((2 ^ k : Nat) : Int) := by simp
  rw [e]; omega
theorem mod_small {a : Int} {k : Nat} (h : k < 16) : 0 ≤ a % 2 ^ k ∧ a % 2 ^ k < 65536 := by
  have h1 := pow_small h
  have h2 := Int.emod_nonneg a (b := 2 ^ k) (by omega)
  have h3 := Int.emod_lt_of_pos a (b := 2 ^ k) (by omega)
  omega
theorem div_small {a B : Int} (ha : 0 ≤ a ∧ a < 65536) (hB : 1 ≤ B) : 0 ≤ a / B ∧ a / B ≤ 65535 := by
  refine ⟨Int.ediv_nonneg ha.1 (by omega), ?_⟩
  have := Int.ediv_le_self B ha.1
  omega
set_option maxHeartbeats 4000000 in
theorem rxor_c (a b : Int) (ha : 0 ≤ a ∧ a < 65536) (hb : 0 ≤ b ∧ b < 65536) (w : World) : Calls Try.prog 47 #[.int .i64 a, .int .i64 b] w fun ee w' => ee = .returned (.int .i64 (xr a b)) ∧ Below w.heap.size w w' := by
  have HX := Lib.hid (xr_bit a b ha.1 hb.1)
  have HE := Lib.hid (show xr (a % 2 ^ 16) (b % 2 ^ 16) = xr a b by rw [Int.emod_eq_of_lt ha.1 (by omega), Int.emod_eq_of_lt hb.1 (by omega)])
  obtain ⟨X0, hX0⟩ : ∃ X0, xr a b = X0 := ⟨_, rfl⟩
  rw [hX0] at HE ⊢
  clear hX0
  go_enter Try.func47, Try.ntmps47
  go_wp2_with fail
  go_loopw [5, 6, 7] (fun oo bb ii wr => ∃ (k : Nat), k ≤ 16 ∧ oo = .int .i64 (xr (a % 2 ^ k) (b % 2 ^ k)) ∧ bb = .int .i64 (2 ^ k) ∧ ii = .int .i64 k ∧ Below w.heap.size w wr) (fun _ _ ii _ => 16 - (intOf ii).toNat)
  case atStart => exact ⟨0, by omega, by simp [xr], by simp, rfl, Below.refl _ _⟩
  case round =>
    obtain ⟨k, hk, rfl, rfl, rfl, hB⟩ := hrel
    by_cases hlt : k < 16
    · have hx := HX.out k
      obtain ⟨p1, p2⟩ := pow_small hlt
      have xb := xr_bd (mod_small (a := a) hlt) (mod_small (a := b) hlt)
      obtain ⟨B, hBe⟩ : ∃ B : Int, (2 : Int) ^ k = B := ⟨_, rfl⟩
      obtain ⟨X, hXe⟩ : ∃ X : Int, xr (a % 2 ^ k) (b % 2 ^ k) = X := ⟨_, rfl⟩
      have hB2 : (2 : Int) ^ (k + 1) = B * 2 := by rw [Int.pow_succ, hBe]
      rw [hXe] at xb ⊢
      rw [hXe, hBe] at hx
      rw [hBe] at p1 p2 ⊢
      obtain ⟨g1, g2⟩ := div_small ha p1
      obtain ⟨g3, g4⟩ := div_small hb p1
      have t1 : a.tdiv B = a / B := Int.tdiv_eq_ediv_of_nonneg ha.1
      have t2 : b.tdiv B = b / B := Int.tdiv_eq_ediv_of_nonneg hb.1
      obtain ⟨q1, hq1⟩ : ∃ q, a / B = q := ⟨_, rfl⟩
      obtain ⟨q2, hq2⟩ : ∃ q, b / B = q := ⟨_, rfl⟩
      rw [hq1] at t1 g1 g2 hx
      rw [hq2] at t2 g3 g4 hx
      have t3 : q1.tmod 2 = q1 % 2 := Int.tmod_eq_emod_of_nonneg g1
      have t4 : q2.tmod 2 = q2 % 2 := Int.tmod_eq_emod_of_nonneg g3
      have z0 : ¬ B = 0 := by omega
      have y1 : IntKind.i64.wrap q1 = q1 := by rw [IntKind.wrap_i64]; omega
      have y2 : IntKind.i64.wrap q2 = q2 := by rw [IntKind.wrap_i64]; omega
      obtain ⟨Y, hY⟩ : ∃ Y, xr (a % 2 ^ (k + 1)) (b % 2 ^ (k + 1)) = Y := ⟨_, rfl⟩
      have HB2 := Lib.hid hB2
      have HY := Lib.hid hY
      rw [hY] at hx
      clear HX hB2 hY hXe hBe
      have l1 : decide ((k : Int) < 16) = true := by simp; omega
      by_cases hq : q1 % 2 = q2 % 2
      · rw [if_pos hq] at hx
        have d0 : (q1 % 2 == q2 % 2) = true := by simpa using hq
        have Hx := Lib.hid hx
        clear hx hq
        go_wp2_with fail
        obtain ⟨Cl, hCl⟩ : ∃ Cl : List Value → World → Prop, Cl = ((fun ps wz => Below w.heap.size w wz)) := ⟨_, rfl⟩; have HCl := Lib.hid hCl; clear hCl; refine wp_region_eff [] Cl (by kernel_rfl) (by kernel_rfl) (by rw [HCl.out]; (try simp only [List.nil_append, List.cons_append]); (try dsimp only); ((repeat' apply And.intro) <;> first | (simp [go_sem, *]; done) | omega | (repeat' (first | with_reducible exact Below.refl _ _ | with_reducible assumption | ((with_reducible refine Below.drew ?_)) | ((with_reducible refine below_drewN ?_ _)) | ((with_reducible refine Below.alloc ?_ ?_ _); rotate_left; focus (first | omega | (simp; done) | (simp; omega))) | ((with_reducible refine Below.setCell ?_ ?_ _); rotate_left; focus (first | omega | (simp; done) | (simp; omega))) | ((with_reducible refine Below.trans ?_ (Below.mono (by with_reducible assumption) ?_)); rotate_left; focus (first | omega | (simp; done) | (simp; omega))))))) ?_
        (repeat (first | (refine wE_skip (by rfl) ?_; simp only [Act.put, Nat.reduceAdd, List.setIfInBounds_toArray, List.set_cons_zero, List.set_cons_succ, List.nil_append, List.cons_append]) | (refine wE_open (by rfl) (by rfl) ?_; apply Exists.intro; refine ⟨fun vs wq hw => ?_, ?_⟩; (focus (rw [HCl.out] at hw; (try simp only [List.nil_append, List.cons_append] at hw); (try dsimp only at hw); go_split_ands; go_simp <;> first | with_reducible exact (rfl : Value.bool false = _) | with_reducible exact (rfl : Value.bool true = _) | ((try go_bits) <;> exact rfl))); simp only [Act.put, Nat.reduceAdd, List.setIfInBounds_toArray, List.set_cons_zero, List.set_cons_succ, List.nil_append, List.cons_append]) | (refine wE_seal (by rfl) (by rfl) (by kernel_rfl) ?_; apply Exists.intro; refine ⟨fun wq hw => ?_, ?_⟩; (focus (rw [HCl.out] at hw; (try simp only [List.nil_append, List.cons_append] at hw); (try dsimp only at hw); go_split_ands; go_simp <;> (try go_bits) <;> exact rfl)); simp only [Act.put, Nat.reduceAdd, List.setIfInBounds_toArray, List.set_cons_zero, List.set_cons_succ, List.nil_append, List.cons_append]) | (refine wE_seal (by rfl) (by rfl) (by kernel_rfl) ?_; apply Exists.intro; refine ⟨fun wq hw => ?_, ?_⟩; (focus (rw [HCl.out] at hw; (try simp only [List.nil_append, List.cons_append] at hw); (try dsimp only at hw); go_split_ands; go_simp; fail)); simp only [Act.put, Nat.reduceAdd, List.setIfInBounds_toArray, List.set_cons_zero, List.set_cons_succ, List.nil_append, List.cons_append]) | (refine wE_eff (by rfl) (by rfl) (fun wq hw => ?_) (fun u hu => ?_); (focus (rw [HCl.out] at hw; (try simp only [List.nil_append, List.cons_append] at hw); (try dsimp only at hw); go_split_ands; go_simp; rw [HCl.out]; (try simp only [List.nil_append, List.cons_append]); (try dsimp only); skip; ((repeat' apply And.intro) <;> first | (simp [go_sem, *]; done) | omega | (repeat' (first | with_reducible exact Below.refl _ _ | with_reducible assumption | ((with_reducible refine Below.drew ?_)) | ((with_reducible refine below_drewN ?_ _)) | ((with_reducible refine Below.alloc ?_ ?_ _); rotate_left; focus (first | omega | (simp; done) | (simp; omega))) | ((with_reducible refine Below.setCell ?_ ?_ _); rotate_left; focus (first | omega | (simp; done) | (simp; omega))) | ((with_reducible refine Below.trans ?_ (Below.mono (by with_reducible assumption) ?_)); rotate_left; focus (first | omega | (simp; done) | (simp; omega)))))))); clear hu; simp only [Act.put, Nat.reduceAdd, List.setIfInBounds_toArray, List.set_cons_zero, List.set_cons_succ, List.nil_append, List.cons_append])))
        refine wE_nil ?_; intro w' hw; rw [HCl.out] at hw; (try simp only [List.nil_append, List.cons_append] at hw); (try dsimp only at hw); clear HCl
        go_wp2
        go_roundw
        case rel => exact ⟨k + 1, by omega, by rw [HY.out, Hx.out]; simp, by rw [HB2.out], by go_num, by assumption⟩
        case measure => simp [intOf]; omega
      · rw [if_neg hq] at hx
        have d0 : (q1 % 2 == q2 % 2) = false := by simpa using hq
        have Hx := Lib.hid hx
        clear hx hq
        go_wp2_with fail
        obtain ⟨Cl, hCl⟩ : ∃ Cl : List Value → World → Prop, Cl = ((fun ps wz => Below w.heap.size w wz)) := ⟨_, rfl⟩; have HCl := Lib.hid hCl; clear hCl; refine wp_region_eff [] Cl (by kernel_rfl) (by kernel_rfl) (by rw [HCl.out]; (try simp only [List.nil_append, List.cons_append]); (try dsimp only); ((repeat' apply And.intro) <;> first | (simp [go_sem, *]; done) | omega | (repeat' (first | with_reducible exact Below.refl _ _ | with_reducible assumption | ((with_reducible refine Below.drew ?_)) | ((with_reducible refine below_drewN ?_ _)) | ((with_reducible refine Below.alloc ?_ ?_ _); rotate_left; focus (first | omega | (simp; done) | (simp; omega))) | ((with_reducible refine Below.setCell ?_ ?_ _); rotate_left; focus (first | omega | (simp; done) | (simp; omega))) | ((with_reducible refine Below.trans ?_ (Below.mono (by with_reducible assumption) ?_)); rotate_left; focus (first | omega | (simp; done) | (simp; omega))))))) ?_
        (repeat (first | (refine wE_skip (by rfl) ?_; simp only [Act.put, Nat.reduceAdd, List.setIfInBounds_toArray, List.set_cons_zero, List.set_cons_succ, List.nil_append, List.cons_append]) | (refine wE_open (by rfl) (by rfl) ?_; apply Exists.intro; refine ⟨fun vs wq hw => ?_, ?_⟩; (focus (rw [HCl.out] at hw; (try simp only [List.nil_append, List.cons_append] at hw); (try dsimp only at hw); go_split_ands; go_simp <;> first | with_reducible exact (rfl : Value.bool false = _) | with_reducible exact (rfl : Value.bool true = _) | ((try go_bits) <;> exact rfl))); simp only [Act.put, Nat.reduceAdd, List.setIfInBounds_toArray, List.set_cons_zero, List.set_cons_succ, List.nil_append, List.cons_append]) | (refine wE_seal (by rfl) (by rfl) (by kernel_rfl) ?_; apply Exists.intro; refine ⟨fun wq hw => ?_, ?_⟩; (focus (rw [HCl.out] at hw; (try simp only [List.nil_append, List.cons_append] at hw); (try dsimp only at hw); go_split_ands; go_simp <;> (try go_bits) <;> exact rfl)); simp only [Act.put, Nat.reduceAdd, List.setIfInBounds_toArray, List.set_cons_zero, List.set_cons_succ, List.nil_append, List.cons_append]) | (refine wE_seal (by rfl) (by rfl) (by kernel_rfl) ?_; apply Exists.intro; refine ⟨fun wq hw => ?_, ?_⟩; (focus (rw [HCl.out] at hw; (try simp only [List.nil_append, List.cons_append] at hw); (try dsimp only at hw); go_split_ands; go_simp; fail)); simp only [Act.put, Nat.reduceAdd, List.setIfInBounds_toArray, List.set_cons_zero, List.set_cons_succ, List.nil_append, List.cons_append]) | (refine wE_eff (by rfl) (by rfl) (fun wq hw => ?_) (fun u hu => ?_); (focus (rw [HCl.out] at hw; (try simp only [List.nil_append, List.cons_append] at hw); (try dsimp only at hw); go_split_ands; go_simp; rw [HCl.out]; (try simp only [List.nil_append, List.cons_append]); (try dsimp only); skip; ((repeat' apply And.intro) <;> first | (simp [go_sem, *]; done) | omega | (repeat' (first | with_reducible exact Below.refl _ _ | with_reducible assumption | ((with_reducible refine Below.drew ?_)) | ((with_reducible refine below_drewN ?_ _)) | ((with_reducible refine Below.alloc ?_ ?_ _); rotate_left; focus (first | omega | (simp; done) | (simp; omega))) | ((with_reducible refine Below.setCell ?_ ?_ _); rotate_left; focus (first | omega | (simp; done) | (simp; omega))) | ((with_reducible refine Below.trans ?_ (Below.mono (by with_reducible assumption) ?_)); rotate_left; focus (first | omega | (simp; done) | (simp; omega)))))))); clear hu; simp only [Act.put, Nat.reduceAdd, List.setIfInBounds_toArray, List.set_cons_zero, List.set_cons_succ, List.nil_append, List.cons_append])))
        refine wE_nil ?_; intro w' hw; rw [HCl.out] at hw; (try simp only [List.nil_append, List.cons_append] at hw); (try dsimp only at hw); clear HCl
        go_wp2
        go_roundw
        case rel => exact ⟨k + 1, by omega, by rw [HY.out, Hx.out], by rw [HB2.out], by go_num, by assumption⟩
        case measure => simp [intOf]; omega
    · obtain rfl : k = 16 := by omega
      have l1 : decide (((16 : Nat) : Int) < 16) = false := by decide
      rw [HE.out]
      go_wp2
      (go_ret; refine ⟨?_, ?_⟩; (focus (exact rfl)); ((repeat' (first | with_reducible exact Below.refl _ _ | with_reducible assumption | ((with_reducible refine Below.drew ?_)) | ((with_reducible refine below_drewN ?_ _)) | ((with_reducible refine Below.alloc ?_ ?_ _); rotate_left; focus (first | omega | (simp; done) | (simp; omega))) | ((with_reducible refine Below.setCell ?_ ?_ _); rotate_left; focus (first | omega | (simp; done) | (simp; omega))) | ((with_reducible refine Below.trans ?_ (Below.mono (by with_reducible assumption) ?_)); rotate_left; focus (first | omega | (simp; done) | (simp; omega))))); done))
end Go.Proofs.Ytnfhiagbbmaobaa
