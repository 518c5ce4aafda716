import Derived.Test.YtfplniooncdjdaaBe1
namespace Go.Proofs.Ytfplniooncdjdaa
set_option linter.unusedVariables false
set_option linter.unusedSimpArgs false
set_option maxRecDepth 100000
open Go.RowKit Fg Reg
attribute [local irreducible] Reg.wE

/-! behind.Least -/
theorem bl_bad1 (ao : Option Addr) (n c : Nat) (m bytes lmax : Int) (w : World) (k1 : Calls Try.prog 57 #[.slice ao n c] w fun ee w' => ee = .returned (.bool false) ∧ w = w') :
    Calls Try.prog 28 #[.int .u64 m, .slice ao n c, .int .u64 bytes, .int .i64 lmax] w fun ee w' => ee = .returned (.tuple #[.int .u64 (0), .int .i64 (1)]) ∧ Below w.heap.size w w' := by
  have K1 := Lib.hid k1
  clear k1
  go_enter Try.func28, Try.ntmps28
  go_wp2_with (go_at_call 57; ((with_reducible refine (K1.out).mono ?_); rintro e w' ⟨rfl, rfl⟩))
  (go_ret2; refine ⟨?_, ?_⟩; (focus (exact rfl)); ((repeat' (first | with_reducible exact Below.refl _ _ | with_reducible assumption | ((with_reducible refine Below.drew ?_)) | ((with_reducible refine below_drewN ?_ _)) | ((with_reducible refine Below.alloc ?_ ?_ _); rotate_left; focus (first | omega | (simp; done) | (simp; omega))) | ((with_reducible refine Below.setCell ?_ ?_ _); rotate_left; focus (first | omega | (simp; done) | (simp; omega))) | ((with_reducible refine Below.trans ?_ (Below.mono (by with_reducible assumption) ?_)); rotate_left; focus (first | omega | (simp; done) | (simp; omega))))); done))
theorem bl_bad2 (ao : Option Addr) (n c : Nat) (m bytes lmax : Int) (w : World) (k1 : Calls Try.prog 57 #[.slice ao n c] w fun ee w' => ee = .returned (.bool true) ∧ w = w') (k2 : Calls Try.prog 58 #[.slice ao n c, .int .u64 m] w fun ee w' => ee = .returned (.bool false) ∧ w = w') :
    Calls Try.prog 28 #[.int .u64 m, .slice ao n c, .int .u64 bytes, .int .i64 lmax] w fun ee w' => ee = .returned (.tuple #[.int .u64 (0), .int .i64 (1)]) ∧ Below w.heap.size w w' := by
  have K1 := Lib.hid k1
  have K2 := Lib.hid k2
  clear k1 k2
  go_enter Try.func28, Try.ntmps28
  go_wp2_with (first | (go_at_call 57; ((with_reducible refine (K1.out).mono ?_); rintro e w' ⟨rfl, rfl⟩)) | (go_at_call 58; ((with_reducible refine (K2.out).mono ?_); rintro e w' ⟨rfl, rfl⟩)))
  (go_ret2; refine ⟨?_, ?_⟩; (focus (exact rfl)); ((repeat' (first | with_reducible exact Below.refl _ _ | with_reducible assumption | ((with_reducible refine Below.drew ?_)) | ((with_reducible refine below_drewN ?_ _)) | ((with_reducible refine Below.alloc ?_ ?_ _); rotate_left; focus (first | omega | (simp; done) | (simp; omega))) | ((with_reducible refine Below.setCell ?_ ?_ _); rotate_left; focus (first | omega | (simp; done) | (simp; omega))) | ((with_reducible refine Below.trans ?_ (Below.mono (by with_reducible assumption) ?_)); rotate_left; focus (first | omega | (simp; done) | (simp; omega))))); done))
theorem bl_bad3 (ao : Option Addr) (n c : Nat) (m bytes lmax : Int) (w : World) (k1 : Calls Try.prog 57 #[.slice ao n c] w fun ee w' => ee = .returned (.bool true) ∧ w = w') (k2 : Calls Try.prog 58 #[.slice ao n c, .int .u64 m] w fun ee w' => ee = .returned (.bool true) ∧ w = w')
    (h : decide (1099511627776 < bytes) = true ∨ (decide (1099511627776 < bytes) = false ∧ decide (lmax < 1) = true) ∨ (decide (1099511627776 < bytes) = false ∧ decide (lmax < 1) = false ∧ decide (16384 < lmax) = true)) :
    Calls Try.prog 28 #[.int .u64 m, .slice ao n c, .int .u64 bytes, .int .i64 lmax] w fun ee w' => ee = .returned (.tuple #[.int .u64 (0), .int .i64 (1)]) ∧ Below w.heap.size w w' := by
  have K1 := Lib.hid k1
  have K2 := Lib.hid k2
  clear k1 k2
  rcases h with h | ⟨h1, h⟩ | ⟨h1, h2, h⟩
  all_goals
    go_enter Try.func28, Try.ntmps28
    go_wp2_with (first | (go_at_call 57; ((with_reducible refine (K1.out).mono ?_); rintro e w' ⟨rfl, rfl⟩)) | (go_at_call 58; ((with_reducible refine (K2.out).mono ?_); rintro e w' ⟨rfl, rfl⟩)))
    (go_ret2; refine ⟨?_, ?_⟩; (focus (exact rfl)); ((repeat' (first | with_reducible exact Below.refl _ _ | with_reducible assumption | ((with_reducible refine Below.drew ?_)) | ((with_reducible refine below_drewN ?_ _)) | ((with_reducible refine Below.alloc ?_ ?_ _); rotate_left; focus (first | omega | (simp; done) | (simp; omega))) | ((with_reducible refine Below.setCell ?_ ?_ _); rotate_left; focus (first | omega | (simp; done) | (simp; omega))) | ((with_reducible refine Below.trans ?_ (Below.mono (by with_reducible assumption) ?_)); rotate_left; focus (first | omega | (simp; done) | (simp; omega))))); done))
set_option maxHeartbeats 2000000 in
theorem bl_ok (zs : List Int) (b o c : Nat) (m bytes lmax L p A S Lx D V E : Int) (under : Bool) (w : World) (hl : 1 ≤ lmax ∧ lmax ≤ 16384) (hbz : 0 ≤ bytes ∧ bytes ≤ 1099511627776)
    (q1 : IntKind.u64.wrap (2 * p) = 2 * p) (q2 : IntKind.u64.wrap (2 * p + 2) = 2 * p + 2) (q3 : IntKind.u64.wrap (m * (2 * p + 2)) = m * (2 * p + 2)) (q4 : IntKind.u64.wrap (A * 65536) = A * 65536)
    (k1 : Calls Try.prog 57 #[.slice (some ⟨b, o, none⟩) zs.length c] w fun ee w' => ee = .returned (.bool true) ∧ w = w') (k2 : Calls Try.prog 58 #[.slice (some ⟨b, o, none⟩) zs.length c, .int .u64 m] w fun ee w' => ee = .returned (.bool true) ∧ w = w')
    (k3 : Calls Try.prog 59 #[.int .u64 m, .slice (some ⟨b, o, none⟩) zs.length c] w fun ee w' => ee = .returned (.int .u64 L) ∧ w = w') (k4 : ∀ w, Calls Try.prog 48 #[.int .u64 lmax, .int .u64 65536, .int .u64 L] w fun ee w' => ee = .returned (.tuple #[.int .u64 (p), .int .i64 (0)]) ∧ Below w.heap.size w w')
    (k5 : ∀ z, Below w.heap.size w z → Calls Try.prog 60 #[.slice (some ⟨b, o, none⟩) zs.length c] z fun ee w' => ee = .returned (.int .u64 A) ∧ z = w')
    (k6 : ∀ w, Calls Try.prog 45 #[.int .u64 m, .int .u64 (bytes * 65536)] w fun ee w' => ee = .returned (.agg #[.int .u64 (hi S), .int .u64 (lo S)]) ∧ Below w.heap.size w w') (k7 : ∀ w, Calls Try.prog 45 #[.int .u64 (m * (2 * p + 2)), .int .u64 A] w fun ee w' => ee = .returned (.agg #[.int .u64 (hi Lx), .int .u64 (lo Lx)]) ∧ Below w.heap.size w w')
    (k8 : ∀ w, Calls Try.prog 47 #[.agg #[.int .u64 (hi S), .int .u64 (lo S)], .agg #[.int .u64 (hi Lx), .int .u64 (lo Lx)]] w fun ee w' => ee = .returned (.tuple #[.agg #[.int .u64 (hi D), .int .u64 (lo D)], .bool under]) ∧ Below w.heap.size w w') (k9 : under = false → ∀ w, Calls Try.prog 61 #[.agg #[.int .u64 (hi D), .int .u64 (lo D)], .int .u64 (A * 65536)] w fun ee w' => ee = .returned (.tuple #[.int .u64 (V), .int .i64 (E)]) ∧ Below w.heap.size w w') :
    Calls Try.prog 28 #[.int .u64 m, .slice (some ⟨b, o, none⟩) zs.length c, .int .u64 bytes, .int .i64 lmax] w fun ee w' => ee = .returned (.tuple #[.int .u64 (if under then 0 else V), .int .i64 (if under then 0 else E)]) ∧ Below w.heap.size w w' := by
  have h1 : decide (1099511627776 < bytes) = false := by simp; omega
  have h2 : decide (lmax < 1) = false := by simp; omega
  have h3 : decide (16384 < lmax) = false := by simp; omega
  have q5 : IntKind.u64.wrap (bytes * 65536) = bytes * 65536 := by rw [wrap_u64]; omega
  have q6 : IntKind.u64.wrap lmax = lmax := by rw [wrap_u64]; omega
  clear hl hbz
  have K1 := Lib.hid k1
  have K2 := Lib.hid k2
  have K3 := Lib.hid k3
  have K4 := Lib.hid k4
  have K5 := Lib.hid k5
  have K6 := Lib.hid k6
  have K7 := Lib.hid k7
  have K8 := Lib.hid k8
  have K9 := Lib.hid k9
  clear k1 k2 k3 k4 k5 k6 k7 k8 k9
  generalize hi S = s0 at *
  generalize lo S = s1 at *
  generalize hi Lx = l0 at *
  generalize lo Lx = l1 at *
  generalize hi D = e0 at *
  generalize lo D = e1 at *
  cases under with
  | true =>
    simp only [if_true]
    go_enter Try.func28, Try.ntmps28
    go_wp2_with (first
      | (go_at_call 57; ((with_reducible refine (K1.out).mono ?_); rintro e w' ⟨rfl, rfl⟩))
      | (go_at_call 58; ((with_reducible refine (K2.out).mono ?_); rintro e w' ⟨rfl, rfl⟩))
      | (go_at_call 59; ((with_reducible refine (K3.out).mono ?_); rintro e w' ⟨rfl, rfl⟩))
      | (go_at_call 48; ((with_reducible refine (K4.out _).mono ?_); rintro e w1 ⟨rfl, hbel⟩; obtain ⟨hcc, hff⟩ := bcell hbel; have hsz := hbel.size; (try simp at hsz); have hF : Below w.heap.size w w1 := (by ((repeat' apply And.intro) <;> first | (simp [go_sem, *]; done) | omega | (repeat' (first | with_reducible exact Below.refl _ _ | with_reducible assumption | ((with_reducible refine Below.drew ?_)) | ((with_reducible refine below_drewN ?_ _)) | ((with_reducible refine Below.alloc ?_ ?_ _); rotate_left; focus (first | omega | (simp; done) | (simp; omega))) | ((with_reducible refine Below.setCell ?_ ?_ _); rotate_left; focus (first | omega | (simp; done) | (simp; omega))) | ((with_reducible refine Below.trans ?_ (Below.mono (by with_reducible assumption) ?_)); rotate_left; focus (first | omega | (simp; done) | (simp; omega))))))); go_split_ands; clear hcc hff hbel))
      | (go_at_call 60; ((with_reducible refine (K5.out _ (by ((repeat' apply And.intro) <;> first | (simp [go_sem, *]; done) | omega | (repeat' (first | with_reducible exact Below.refl _ _ | with_reducible assumption | ((with_reducible refine Below.drew ?_)) | ((with_reducible refine below_drewN ?_ _)) | ((with_reducible refine Below.alloc ?_ ?_ _); rotate_left; focus (first | omega | (simp; done) | (simp; omega))) | ((with_reducible refine Below.setCell ?_ ?_ _); rotate_left; focus (first | omega | (simp; done) | (simp; omega))) | ((with_reducible refine Below.trans ?_ (Below.mono (by with_reducible assumption) ?_)); rotate_left; focus (first | omega | (simp; done) | (simp; omega)))))))).mono ?_); rintro e w' ⟨rfl, rfl⟩))
      | (go_at_call_of 45 (Value.int IntKind.u64 m); ((with_reducible refine (K6.out _).mono ?_); rintro e w2 ⟨rfl, hbel⟩; obtain ⟨hcc, hff⟩ := bcell hbel; have hsz := hbel.size; (try simp at hsz); have hF : Below w.heap.size w w2 := (by ((repeat' apply And.intro) <;> first | (simp [go_sem, *]; done) | omega | (repeat' (first | with_reducible exact Below.refl _ _ | with_reducible assumption | ((with_reducible refine Below.drew ?_)) | ((with_reducible refine below_drewN ?_ _)) | ((with_reducible refine Below.alloc ?_ ?_ _); rotate_left; focus (first | omega | (simp; done) | (simp; omega))) | ((with_reducible refine Below.setCell ?_ ?_ _); rotate_left; focus (first | omega | (simp; done) | (simp; omega))) | ((with_reducible refine Below.trans ?_ (Below.mono (by with_reducible assumption) ?_)); rotate_left; focus (first | omega | (simp; done) | (simp; omega))))))); go_split_ands; clear hcc hff hbel))
      | (go_at_call 45; ((with_reducible refine (K7.out _).mono ?_); rintro e w3 ⟨rfl, hbel⟩; obtain ⟨hcc, hff⟩ := bcell hbel; have hsz := hbel.size; (try simp at hsz); have hF : Below w.heap.size w w3 := (by ((repeat' apply And.intro) <;> first | (simp [go_sem, *]; done) | omega | (repeat' (first | with_reducible exact Below.refl _ _ | with_reducible assumption | ((with_reducible refine Below.drew ?_)) | ((with_reducible refine below_drewN ?_ _)) | ((with_reducible refine Below.alloc ?_ ?_ _); rotate_left; focus (first | omega | (simp; done) | (simp; omega))) | ((with_reducible refine Below.setCell ?_ ?_ _); rotate_left; focus (first | omega | (simp; done) | (simp; omega))) | ((with_reducible refine Below.trans ?_ (Below.mono (by with_reducible assumption) ?_)); rotate_left; focus (first | omega | (simp; done) | (simp; omega))))))); go_split_ands; clear hcc hff hbel))
      | (go_at_call 47; ((with_reducible refine (K8.out _).mono ?_); rintro e w4 ⟨rfl, hbel⟩; obtain ⟨hcc, hff⟩ := bcell hbel; have hsz := hbel.size; (try simp at hsz); have hF : Below w.heap.size w w4 := (by ((repeat' apply And.intro) <;> first | (simp [go_sem, *]; done) | omega | (repeat' (first | with_reducible exact Below.refl _ _ | with_reducible assumption | ((with_reducible refine Below.drew ?_)) | ((with_reducible refine below_drewN ?_ _)) | ((with_reducible refine Below.alloc ?_ ?_ _); rotate_left; focus (first | omega | (simp; done) | (simp; omega))) | ((with_reducible refine Below.setCell ?_ ?_ _); rotate_left; focus (first | omega | (simp; done) | (simp; omega))) | ((with_reducible refine Below.trans ?_ (Below.mono (by with_reducible assumption) ?_)); rotate_left; focus (first | omega | (simp; done) | (simp; omega))))))); go_split_ands; clear hcc hff hbel)))
    (go_ret2; refine ⟨?_, ?_⟩; (focus (exact rfl)); ((repeat' (first | with_reducible exact Below.refl _ _ | with_reducible assumption | ((with_reducible refine Below.drew ?_)) | ((with_reducible refine below_drewN ?_ _)) | ((with_reducible refine Below.alloc ?_ ?_ _); rotate_left; focus (first | omega | (simp; done) | (simp; omega))) | ((with_reducible refine Below.setCell ?_ ?_ _); rotate_left; focus (first | omega | (simp; done) | (simp; omega))) | ((with_reducible refine Below.trans ?_ (Below.mono (by with_reducible assumption) ?_)); rotate_left; focus (first | omega | (simp; done) | (simp; omega))))); done))
  | false =>
    have K9' := Lib.hid (K9.out rfl)
    simp only [Bool.false_eq_true, if_false]
    go_enter Try.func28, Try.ntmps28
    go_wp2_with (first
      | (go_at_call 57; ((with_reducible refine (K1.out).mono ?_); rintro e w' ⟨rfl, rfl⟩))
      | (go_at_call 58; ((with_reducible refine (K2.out).mono ?_); rintro e w' ⟨rfl, rfl⟩))
      | (go_at_call 59; ((with_reducible refine (K3.out).mono ?_); rintro e w' ⟨rfl, rfl⟩))
      | (go_at_call 48; ((with_reducible refine (K4.out _).mono ?_); rintro e w1 ⟨rfl, hbel⟩; obtain ⟨hcc, hff⟩ := bcell hbel; have hsz := hbel.size; (try simp at hsz); have hF : Below w.heap.size w w1 := (by ((repeat' apply And.intro) <;> first | (simp [go_sem, *]; done) | omega | (repeat' (first | with_reducible exact Below.refl _ _ | with_reducible assumption | ((with_reducible refine Below.drew ?_)) | ((with_reducible refine below_drewN ?_ _)) | ((with_reducible refine Below.alloc ?_ ?_ _); rotate_left; focus (first | omega | (simp; done) | (simp; omega))) | ((with_reducible refine Below.setCell ?_ ?_ _); rotate_left; focus (first | omega | (simp; done) | (simp; omega))) | ((with_reducible refine Below.trans ?_ (Below.mono (by with_reducible assumption) ?_)); rotate_left; focus (first | omega | (simp; done) | (simp; omega))))))); go_split_ands; clear hcc hff hbel))
      | (go_at_call 60; ((with_reducible refine (K5.out _ (by ((repeat' apply And.intro) <;> first | (simp [go_sem, *]; done) | omega | (repeat' (first | with_reducible exact Below.refl _ _ | with_reducible assumption | ((with_reducible refine Below.drew ?_)) | ((with_reducible refine below_drewN ?_ _)) | ((with_reducible refine Below.alloc ?_ ?_ _); rotate_left; focus (first | omega | (simp; done) | (simp; omega))) | ((with_reducible refine Below.setCell ?_ ?_ _); rotate_left; focus (first | omega | (simp; done) | (simp; omega))) | ((with_reducible refine Below.trans ?_ (Below.mono (by with_reducible assumption) ?_)); rotate_left; focus (first | omega | (simp; done) | (simp; omega)))))))).mono ?_); rintro e w' ⟨rfl, rfl⟩))
      | (go_at_call_of 45 (Value.int IntKind.u64 m); ((with_reducible refine (K6.out _).mono ?_); rintro e w2 ⟨rfl, hbel⟩; obtain ⟨hcc, hff⟩ := bcell hbel; have hsz := hbel.size; (try simp at hsz); have hF : Below w.heap.size w w2 := (by ((repeat' apply And.intro) <;> first | (simp [go_sem, *]; done) | omega | (repeat' (first | with_reducible exact Below.refl _ _ | with_reducible assumption | ((with_reducible refine Below.drew ?_)) | ((with_reducible refine below_drewN ?_ _)) | ((with_reducible refine Below.alloc ?_ ?_ _); rotate_left; focus (first | omega | (simp; done) | (simp; omega))) | ((with_reducible refine Below.setCell ?_ ?_ _); rotate_left; focus (first | omega | (simp; done) | (simp; omega))) | ((with_reducible refine Below.trans ?_ (Below.mono (by with_reducible assumption) ?_)); rotate_left; focus (first | omega | (simp; done) | (simp; omega))))))); go_split_ands; clear hcc hff hbel))
      | (go_at_call 45; ((with_reducible refine (K7.out _).mono ?_); rintro e w3 ⟨rfl, hbel⟩; obtain ⟨hcc, hff⟩ := bcell hbel; have hsz := hbel.size; (try simp at hsz); have hF : Below w.heap.size w w3 := (by ((repeat' apply And.intro) <;> first | (simp [go_sem, *]; done) | omega | (repeat' (first | with_reducible exact Below.refl _ _ | with_reducible assumption | ((with_reducible refine Below.drew ?_)) | ((with_reducible refine below_drewN ?_ _)) | ((with_reducible refine Below.alloc ?_ ?_ _); rotate_left; focus (first | omega | (simp; done) | (simp; omega))) | ((with_reducible refine Below.setCell ?_ ?_ _); rotate_left; focus (first | omega | (simp; done) | (simp; omega))) | ((with_reducible refine Below.trans ?_ (Below.mono (by with_reducible assumption) ?_)); rotate_left; focus (first | omega | (simp; done) | (simp; omega))))))); go_split_ands; clear hcc hff hbel))
      | (go_at_call 47; ((with_reducible refine (K8.out _).mono ?_); rintro e w4 ⟨rfl, hbel⟩; obtain ⟨hcc, hff⟩ := bcell hbel; have hsz := hbel.size; (try simp at hsz); have hF : Below w.heap.size w w4 := (by ((repeat' apply And.intro) <;> first | (simp [go_sem, *]; done) | omega | (repeat' (first | with_reducible exact Below.refl _ _ | with_reducible assumption | ((with_reducible refine Below.drew ?_)) | ((with_reducible refine below_drewN ?_ _)) | ((with_reducible refine Below.alloc ?_ ?_ _); rotate_left; focus (first | omega | (simp; done) | (simp; omega))) | ((with_reducible refine Below.setCell ?_ ?_ _); rotate_left; focus (first | omega | (simp; done) | (simp; omega))) | ((with_reducible refine Below.trans ?_ (Below.mono (by with_reducible assumption) ?_)); rotate_left; focus (first | omega | (simp; done) | (simp; omega))))))); go_split_ands; clear hcc hff hbel))
      | (go_at_call 61; ((with_reducible refine (K9'.out _).mono ?_); rintro e w5 ⟨rfl, hbel⟩; obtain ⟨hcc, hff⟩ := bcell hbel; have hsz := hbel.size; (try simp at hsz); have hF : Below w.heap.size w w5 := (by ((repeat' apply And.intro) <;> first | (simp [go_sem, *]; done) | omega | (repeat' (first | with_reducible exact Below.refl _ _ | with_reducible assumption | ((with_reducible refine Below.drew ?_)) | ((with_reducible refine below_drewN ?_ _)) | ((with_reducible refine Below.alloc ?_ ?_ _); rotate_left; focus (first | omega | (simp; done) | (simp; omega))) | ((with_reducible refine Below.setCell ?_ ?_ _); rotate_left; focus (first | omega | (simp; done) | (simp; omega))) | ((with_reducible refine Below.trans ?_ (Below.mono (by with_reducible assumption) ?_)); rotate_left; focus (first | omega | (simp; done) | (simp; omega))))))); go_split_ands; clear hcc hff hbel)))
    (go_ret2; refine ⟨?_, ?_⟩; (focus (exact rfl)); ((repeat' (first | with_reducible exact Below.refl _ _ | with_reducible assumption | ((with_reducible refine Below.drew ?_)) | ((with_reducible refine below_drewN ?_ _)) | ((with_reducible refine Below.alloc ?_ ?_ _); rotate_left; focus (first | omega | (simp; done) | (simp; omega))) | ((with_reducible refine Below.setCell ?_ ?_ _); rotate_left; focus (first | omega | (simp; done) | (simp; omega))) | ((with_reducible refine Below.trans ?_ (Below.mono (by with_reducible assumption) ?_)); rotate_left; focus (first | omega | (simp; done) | (simp; omega))))); done))
/-! The document's own. -/
theorem rsl_e (m : Int) (w : World) : Calls Try.prog 17 #[.int .u64 m] w fun ee w' => ee = .returned (.bool (smay m)) ∧ w = w' := by
  unfold smay
  by_cases h : 1 ≤ m
  · simp only [h, decide_true, Bool.true_and]
    go_enter Try.func17, Try.ntmps17
    go_wp2
    all_goals (go_ret; exact ⟨rfl, rfl⟩)
  · simp only [h, decide_false, Bool.false_and]
    have h' : m < 1 := by omega
    clear h
    go_enter Try.func17, Try.ntmps17
    go_wp2
    all_goals (go_ret; exact ⟨rfl, rfl⟩)
theorem rmy_bad (ao : Option Addr) (n c : Nat) (m bytes lmax : Int) (w : World)
    (h : decide (64 < (n : Int)) = true ∨ (decide (64 < (n : Int)) = false ∧ decide (1099511627776 < bytes) = true) ∨ (decide (64 < (n : Int)) = false ∧ decide (1099511627776 < bytes) = false ∧ decide (lmax < 1) = true) ∨ (decide (64 < (n : Int)) = false ∧ decide (1099511627776 < bytes) = false ∧ decide (lmax < 1) = false ∧ decide (16384 < lmax) = true)) :
    Calls Try.prog 29 #[.int .u64 m, .slice ao n c, .int .u64 bytes, .int .i64 lmax] w fun ee w' => ee = .returned (.bool false) ∧ w = w' := by
  rcases h with h | ⟨h1, h⟩ | ⟨h1, h2, h⟩ | ⟨h1, h2, h3, h⟩
  all_goals
    go_enter Try.func29, Try.ntmps29
    go_wp2
    go_ret
    exact ⟨rfl, rfl⟩
theorem rmy_e (ao : Option Addr) (c : Nat) (m bytes lmax : Int) (w : World) (h2 : decide (1099511627776 < bytes) = false) (h3 : decide (lmax < 1) = false) (h4 : decide (16384 < lmax) = false) :
    Calls Try.prog 29 #[.int .u64 m, .slice ao 0 c, .int .u64 bytes, .int .i64 lmax] w fun ee w' => ee = .returned (.bool false) ∧ w = w' := by
  go_enter Try.func29, Try.ntmps29
  go_wp2
  refine wp_loop_rounds 1 ?_
  rw [rounds_succ]
  go_wp2
  go_ret
  exact ⟨rfl, rfl⟩
set_option maxHeartbeats 1000000 in
theorem rmy_c (zs : List Int) (b o c : Nat) (m bytes lmax : Int) (w : World) (h1 : decide (64 < (zs.length : Int)) = false) (h2 : decide (1099511627776 < bytes) = false) (h3 : decide (lmax < 1) = false) (h4 : decide (16384 < lmax) = false) (hc : ∀ k (h : k < zs.length), w.cell? ⟨b, o + k, none⟩ = some (.int .u64 zs[k])) :
    Calls Try.prog 29 #[.int .u64 m, .slice (some ⟨b, o, none⟩) zs.length c, .int .u64 bytes, .int .i64 lmax] w fun ee w' => ee = .returned (.bool (smays zs && has zs m)) ∧ w = w' := by
  have K1 := Lib.hid rsl_e
  have hn : zs.length ≤ 64 := by simp at h1; omega
  go_enter Try.func29, Try.ntmps29
  go_wp2
  go_loop [9, 29] (fun v i => ∃ k : Nat, k ≤ zs.length ∧ i = .int .i64 k ∧ v = .bool (has (zs.take k) m) ∧ smays (zs.take k) = true) (fun _ i => zs.length - (intOf i).toNat)
  case atStart => exact ⟨0, Nat.zero_le _, rfl, rfl, rfl⟩
  case round =>
    obtain ⟨k, hk, rfl, rfl, hno⟩ := hrel
    by_cases hlt : k < zs.length
    · have hcell := hc k hlt
      have hs := smays_succ zs k hlt
      rw [hno, Bool.true_and] at hs
      have hh := has_succ zs m k hlt
      have K2 := Lib.hid (K1.out zs[k])
      cases he : smay zs[k] with
      | false =>
        rw [he] at K2
        have hy := Lib.hid (smays_no hlt he)
        clear hc hs hno he hh
        go_wp2_with (go_at_call 17; ((with_reducible refine (K2.out _).mono ?_); rintro e w' ⟨rfl, rfl⟩))
        go_ret
        exact ⟨by rw [hy.out]; rfl, rfl⟩
      | true =>
        rw [he] at K2
        have Hs := Lib.hid (show smays (zs.take (k + 1)) = true by rw [hs]; exact he)
        cases hb : has (zs.take k) m with
        | true =>
          have Hh := Lib.hid (show has (zs.take (k + 1)) m = true by rw [hh, hb]; rfl)
          clear hc hs hno he hh hb
          go_wp2_with (go_at_call 17; ((with_reducible refine (K2.out _).mono ?_); rintro e w' ⟨rfl, rfl⟩))
          go_round
          case rel => exact ⟨k + 1, by omega, by go_num, by rw [Hh.out], Hs.out⟩
          case measure => simp [intOf]; omega
        | false =>
          have Hh := Lib.hid (show has (zs.take (k + 1)) m = (zs[k] == m) by rw [hh, hb]; rfl)
          clear hc hs hno he hh hb
          go_wp2_with (go_at_call 17; ((with_reducible refine (K2.out _).mono ?_); rintro e w' ⟨rfl, rfl⟩))
          go_round
          case rel => exact ⟨k + 1, by omega, by go_num, by rw [Hh.out], Hs.out⟩
          case measure => simp [intOf]; omega
    · obtain rfl : k = zs.length := by omega
      rw [List.take_length] at hno
      have HN := Lib.hid hno
      clear hc hno
      go_wp2
      go_ret
      exact ⟨by rw [HN.out]; simp, rfl⟩
end Go.Proofs.Ytfplniooncdjdaa
