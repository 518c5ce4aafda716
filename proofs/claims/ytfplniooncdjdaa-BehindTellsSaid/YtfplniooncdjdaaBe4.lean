import Derived.Test.YtfplniooncdjdaaBe3
namespace Go.Proofs.Ytfplniooncdjdaa
set_option linter.unusedVariables false
set_option linter.unusedSimpArgs false
set_option maxRecDepth 100000
open Go.RowKit Fg Reg
attribute [local irreducible] Reg.wE

set_option maxHeartbeats 4000000 in
theorem rle_core (zs : List Int) (b o c : Nat) (m bytes lmax p a1 N1 G N2 Lk D V : Int) (lt : Bool) (w : World) (h0 : 0 < zs.length) (hn : zs.length ≤ 64) (hs : smays zs = true) (q0 : IntKind.u64.wrap lmax = lmax)
    (q1 : IntKind.u64.wrap (2 * p) = 2 * p) (q2 : IntKind.u64.wrap (2 * p + 2) = 2 * p + 2) (q4 : IntKind.u64.wrap (sums zs * 65536) = sums zs * 65536)
    (k1 : ∀ w, Calls Try.prog 51 #[.int .u64 lmax, .int .u64 65536] w fun ee w' => ee = .returned (.agg #[.int .u64 (d0 a1), .int .u64 (d1 a1), .int .u64 (d2 a1), .int .u64 (d3 a1)]) ∧ Below w.heap.size w w') (k2 : ∀ w, Calls Try.prog 53 #[.agg #[.int .u64 (d0 a1), .int .u64 (d1 a1), .int .u64 (d2 a1), .int .u64 (d3 a1)], .int .u64 (lsm zs[0] zs)] w fun ee w' => ee = .returned (.agg #[.int .u64 (p), .int .i64 (0)]) ∧ Below w.heap.size w w')
    (k3 : ∀ w, Calls Try.prog 51 #[.int .u64 m, .int .u64 bytes] w fun ee w' => ee = .returned (.agg #[.int .u64 (d0 N1), .int .u64 (d1 N1), .int .u64 (d2 N1), .int .u64 (d3 N1)]) ∧ Below w.heap.size w w') (k4 : ∀ w, Calls Try.prog 56 #[.agg #[.int .u64 (d0 N1), .int .u64 (d1 N1), .int .u64 (d2 N1), .int .u64 (d3 N1)], .int .u64 65536] w fun ee w' => ee = .returned (.agg #[.int .u64 (d0 G), .int .u64 (d1 G), .int .u64 (d2 G), .int .u64 (d3 G)]) ∧ Below w.heap.size w w')
    (k5 : ∀ w, Calls Try.prog 51 #[.int .u64 m, .int .u64 (sums zs)] w fun ee w' => ee = .returned (.agg #[.int .u64 (d0 N2), .int .u64 (d1 N2), .int .u64 (d2 N2), .int .u64 (d3 N2)]) ∧ Below w.heap.size w w') (k6 : ∀ w, Calls Try.prog 56 #[.agg #[.int .u64 (d0 N2), .int .u64 (d1 N2), .int .u64 (d2 N2), .int .u64 (d3 N2)], .int .u64 (2 * p + 2)] w fun ee w' => ee = .returned (.agg #[.int .u64 (d0 Lk), .int .u64 (d1 Lk), .int .u64 (d2 Lk), .int .u64 (d3 Lk)]) ∧ Below w.heap.size w w')
    (k7 : ∀ w, Calls Try.prog 21 #[.agg #[.int .u64 (d0 G), .int .u64 (d1 G), .int .u64 (d2 G), .int .u64 (d3 G)], .agg #[.int .u64 (d0 Lk), .int .u64 (d1 Lk), .int .u64 (d2 Lk), .int .u64 (d3 Lk)]] w fun ee w' => ee = .returned (.bool lt) ∧ Below w.heap.size w w') (k8 : lt = false → ∀ w, Calls Try.prog 52 #[.agg #[.int .u64 (d0 G), .int .u64 (d1 G), .int .u64 (d2 G), .int .u64 (d3 G)], .agg #[.int .u64 (d0 Lk), .int .u64 (d1 Lk), .int .u64 (d2 Lk), .int .u64 (d3 Lk)]] w fun ee w' => ee = .returned (.agg #[.int .u64 (d0 D), .int .u64 (d1 D), .int .u64 (d2 D), .int .u64 (d3 D)]) ∧ Below w.heap.size w w')
    (k9 : lt = false → ∀ w, Calls Try.prog 53 #[.agg #[.int .u64 (d0 D), .int .u64 (d1 D), .int .u64 (d2 D), .int .u64 (d3 D)], .int .u64 (sums zs * 65536)] w fun ee w' => ee = .returned (.agg #[.int .u64 (V), .int .i64 (0)]) ∧ Below w.heap.size w w') (hc : ∀ k (h : k < zs.length), w.cell? ⟨b, o + k, none⟩ = some (.int .u64 zs[k])) :
    Calls Try.prog 30 #[.int .u64 m, .slice (some ⟨b, o, none⟩) zs.length c, .int .u64 bytes, .int .i64 lmax] w fun ee w' => ee = .returned (.int .u64 (if lt then 0 else V)) ∧ Below w.heap.size w w' := by
  have f1 : ∀ w, (Instr.field 101 (.agg #[.int .u64 p, .int .i64 0]) 0).run Try.prog w = .ok (.int .u64 p) w := fun w => by kernel_rfl
  have f2 : ∀ w, (Instr.field 101 (.agg #[.int .u64 V, .int .i64 0]) 0).run Try.prog w = .ok (.int .u64 V) w := fun w => by kernel_rfl
  have hc0 : w.cell? ⟨b, o, none⟩ = some (.int .u64 zs[0]) := by simpa using hc 0 h0
  have HL := Lib.hid (sums_le zs hs)
  have K1 := Lib.hid k1
  have K2 := Lib.hid k2
  have K3 := Lib.hid k3
  have K4 := Lib.hid k4
  have K5 := Lib.hid k5
  have K6 := Lib.hid k6
  have K7 := Lib.hid k7
  have K8 := Lib.hid k8
  have K9 := Lib.hid k9
  clear k1 k2 k3 k4 k5 k6 k7 k8 k9 hs
  obtain ⟨z0, hz0⟩ : ∃ z0, z0 = zs[0] := ⟨_, rfl⟩
  rw [← hz0] at hc0
  have HZ := Lib.hid hz0
  clear hz0
  have h0' : ¬ zs.length = 0 := by omega
  have e0 : lsm z0 (zs.take 0) = z0 := rfl
  go_enter Try.func30, Try.ntmps30
  go_wp2_with fail
  go_loop [9, 10, 21] (fun v u i => ∃ k : Nat, k ≤ zs.length ∧ i = .int .i64 k ∧ v = .int .u64 (sums (zs.take k)) ∧ u = .int .u64 (lsm z0 (zs.take k))) (fun _ _ i => zs.length - (intOf i).toNat)
  case atStart => exact ⟨0, Nat.zero_le _, rfl, rfl, rfl⟩
  case round =>
    obtain ⟨k, hk, rfl, rfl, rfl⟩ := hrel
    by_cases hlt : k < zs.length
    · have hcell := hc k hlt
      have hs := sums_succ zs k hlt
      have h1 := HL.out (k + 1) (by omega)
      have W1 : IntKind.u64.wrap (sums (zs.take k) + zs[k]) = sums (zs.take k) + zs[k] := by rw [← hs, wrap_u64]; omega
      have Hs := Lib.hid hs
      have Hm := Lib.hid (lsm_succ z0 zs k hlt)
      clear hc hs h1
      go_wp2
      all_goals
        go_round
        case rel => exact ⟨k + 1, by omega, by go_num, by rw [Hs.out], by rw [Hm.out]; (first | rw [Int.min_eq_right (by omega)] | rw [Int.min_eq_left (by omega)])⟩
        case measure => simp [intOf]; omega
    · obtain rfl : k = zs.length := by omega
      rw [List.take_length]
      rw [HZ.out]
      generalize sums zs = A at *
      generalize lsm zs[0] zs = L at *
      clear hc HL
      cases lt with
      | true =>
        (try simp only [if_true])
        go_wp2_with (first
          | (go_at_call_of 51 (Value.int IntKind.u64 lmax); ((with_reducible refine (K1.out _).mono ?_); rintro e w1 ⟨rfl, hbel⟩; obtain ⟨hcc, hff⟩ := bcell hbel; have hsz := hbel.size; (try simp at hsz); have hF : Below w.heap.size w w1 := (by ((repeat' apply And.intro) <;> first | (simp [go_sem, *]; done) | omega | (repeat' (first | with_reducible exact Below.refl _ _ | with_reducible assumption | ((with_reducible refine Below.drew ?_)) | ((with_reducible refine below_drewN ?_ _)) | ((with_reducible refine Below.alloc ?_ ?_ _); rotate_left; focus (first | omega | (simp; done) | (simp; omega))) | ((with_reducible refine Below.setCell ?_ ?_ _); rotate_left; focus (first | omega | (simp; done) | (simp; omega))) | ((with_reducible refine Below.trans ?_ (Below.mono (by with_reducible assumption) ?_)); rotate_left; focus (first | omega | (simp; done) | (simp; omega))))))); go_split_ands; clear hcc hff hbel))
          | (go_at_call_of 53 (Value.agg #[Value.int IntKind.u64 (d0 a1), Value.int IntKind.u64 (d1 a1), Value.int IntKind.u64 (d2 a1), Value.int IntKind.u64 (d3 a1)]); ((with_reducible refine (K2.out _).mono ?_); rintro e w2 ⟨rfl, hbel⟩; obtain ⟨hcc, hff⟩ := bcell hbel; have hsz := hbel.size; (try simp at hsz); have hF : Below w.heap.size w w2 := (by ((repeat' apply And.intro) <;> first | (simp [go_sem, *]; done) | omega | (repeat' (first | with_reducible exact Below.refl _ _ | with_reducible assumption | ((with_reducible refine Below.drew ?_)) | ((with_reducible refine below_drewN ?_ _)) | ((with_reducible refine Below.alloc ?_ ?_ _); rotate_left; focus (first | omega | (simp; done) | (simp; omega))) | ((with_reducible refine Below.setCell ?_ ?_ _); rotate_left; focus (first | omega | (simp; done) | (simp; omega))) | ((with_reducible refine Below.trans ?_ (Below.mono (by with_reducible assumption) ?_)); rotate_left; focus (first | omega | (simp; done) | (simp; omega))))))); go_split_ands; clear hcc hff hbel))
          | (go_at_call 51; first | ((with_reducible refine (K3.out _).mono ?_); rintro e w3 ⟨rfl, hbel⟩; obtain ⟨hcc, hff⟩ := bcell hbel; have hsz := hbel.size; (try simp at hsz); have hF : Below w.heap.size w w3 := (by ((repeat' apply And.intro) <;> first | (simp [go_sem, *]; done) | omega | (repeat' (first | with_reducible exact Below.refl _ _ | with_reducible assumption | ((with_reducible refine Below.drew ?_)) | ((with_reducible refine below_drewN ?_ _)) | ((with_reducible refine Below.alloc ?_ ?_ _); rotate_left; focus (first | omega | (simp; done) | (simp; omega))) | ((with_reducible refine Below.setCell ?_ ?_ _); rotate_left; focus (first | omega | (simp; done) | (simp; omega))) | ((with_reducible refine Below.trans ?_ (Below.mono (by with_reducible assumption) ?_)); rotate_left; focus (first | omega | (simp; done) | (simp; omega))))))); go_split_ands; clear hcc hff hbel) | ((with_reducible refine (K5.out _).mono ?_); rintro e w5 ⟨rfl, hbel⟩; obtain ⟨hcc, hff⟩ := bcell hbel; have hsz := hbel.size; (try simp at hsz); have hF : (w5.cell? ⟨w4.heap.size, 0, none⟩ = some (.int .u64 (d0 G)) ∧ w5.cell? ⟨w4.heap.size, 1, none⟩ = some (.int .u64 (d1 G)) ∧ w5.cell? ⟨w4.heap.size, 2, none⟩ = some (.int .u64 (d2 G)) ∧ w5.cell? ⟨w4.heap.size, 3, none⟩ = some (.int .u64 (d3 G)) ∧ w4.heap.size < w5.heap.size) ∧ w4.heap.size < w5.heap.size ∧ Below w.heap.size w w5 := (by ((repeat' apply And.intro) <;> first | (simp [go_sem, *]; done) | omega | (repeat' (first | with_reducible exact Below.refl _ _ | with_reducible assumption | ((with_reducible refine Below.drew ?_)) | ((with_reducible refine below_drewN ?_ _)) | ((with_reducible refine Below.alloc ?_ ?_ _); rotate_left; focus (first | omega | (simp; done) | (simp; omega))) | ((with_reducible refine Below.setCell ?_ ?_ _); rotate_left; focus (first | omega | (simp; done) | (simp; omega))) | ((with_reducible refine Below.trans ?_ (Below.mono (by with_reducible assumption) ?_)); rotate_left; focus (first | omega | (simp; done) | (simp; omega))))))); go_split_ands; clear hcc hff hbel))
          | (go_at_call 56; first | ((with_reducible refine (K4.out _).mono ?_); rintro e w4 ⟨rfl, hbel⟩; obtain ⟨hcc, hff⟩ := bcell hbel; have hsz := hbel.size; (try simp at hsz); have hF : Below w.heap.size w w4 := (by ((repeat' apply And.intro) <;> first | (simp [go_sem, *]; done) | omega | (repeat' (first | with_reducible exact Below.refl _ _ | with_reducible assumption | ((with_reducible refine Below.drew ?_)) | ((with_reducible refine below_drewN ?_ _)) | ((with_reducible refine Below.alloc ?_ ?_ _); rotate_left; focus (first | omega | (simp; done) | (simp; omega))) | ((with_reducible refine Below.setCell ?_ ?_ _); rotate_left; focus (first | omega | (simp; done) | (simp; omega))) | ((with_reducible refine Below.trans ?_ (Below.mono (by with_reducible assumption) ?_)); rotate_left; focus (first | omega | (simp; done) | (simp; omega))))))); go_split_ands; clear hcc hff hbel) | ((with_reducible refine (K6.out _).mono ?_); rintro e w6 ⟨rfl, hbel⟩; obtain ⟨hcc, hff⟩ := bcell hbel; have hsz := hbel.size; (try simp at hsz); have hF : (w6.cell? ⟨w4.heap.size, 0, none⟩ = some (.int .u64 (d0 G)) ∧ w6.cell? ⟨w4.heap.size, 1, none⟩ = some (.int .u64 (d1 G)) ∧ w6.cell? ⟨w4.heap.size, 2, none⟩ = some (.int .u64 (d2 G)) ∧ w6.cell? ⟨w4.heap.size, 3, none⟩ = some (.int .u64 (d3 G)) ∧ w4.heap.size < w6.heap.size) ∧ w4.heap.size < w6.heap.size ∧ Below w.heap.size w w6 := (by ((repeat' apply And.intro) <;> first | (simp [go_sem, *]; done) | omega | (repeat' (first | with_reducible exact Below.refl _ _ | with_reducible assumption | ((with_reducible refine Below.drew ?_)) | ((with_reducible refine below_drewN ?_ _)) | ((with_reducible refine Below.alloc ?_ ?_ _); rotate_left; focus (first | omega | (simp; done) | (simp; omega))) | ((with_reducible refine Below.setCell ?_ ?_ _); rotate_left; focus (first | omega | (simp; done) | (simp; omega))) | ((with_reducible refine Below.trans ?_ (Below.mono (by with_reducible assumption) ?_)); rotate_left; focus (first | omega | (simp; done) | (simp; omega))))))); go_split_ands; clear hcc hff hbel))
          | (go_at_call 21; ((with_reducible refine (K7.out _).mono ?_); rintro e w7 ⟨rfl, hbel⟩; obtain ⟨hcc, hff⟩ := bcell hbel; have hsz := hbel.size; (try simp at hsz); have hF : Below w.heap.size w w7 := (by ((repeat' apply And.intro) <;> first | (simp [go_sem, *]; done) | omega | (repeat' (first | with_reducible exact Below.refl _ _ | with_reducible assumption | ((with_reducible refine Below.drew ?_)) | ((with_reducible refine below_drewN ?_ _)) | ((with_reducible refine Below.alloc ?_ ?_ _); rotate_left; focus (first | omega | (simp; done) | (simp; omega))) | ((with_reducible refine Below.setCell ?_ ?_ _); rotate_left; focus (first | omega | (simp; done) | (simp; omega))) | ((with_reducible refine Below.trans ?_ (Below.mono (by with_reducible assumption) ?_)); rotate_left; focus (first | omega | (simp; done) | (simp; omega))))))); go_split_ands; clear hcc hff hbel)))
        (go_ret; refine ⟨?_, ?_⟩; (focus (exact rfl)); ((repeat' (first | with_reducible exact Below.refl _ _ | with_reducible assumption | ((with_reducible refine Below.drew ?_)) | ((with_reducible refine below_drewN ?_ _)) | ((with_reducible refine Below.alloc ?_ ?_ _); rotate_left; focus (first | omega | (simp; done) | (simp; omega))) | ((with_reducible refine Below.setCell ?_ ?_ _); rotate_left; focus (first | omega | (simp; done) | (simp; omega))) | ((with_reducible refine Below.trans ?_ (Below.mono (by with_reducible assumption) ?_)); rotate_left; focus (first | omega | (simp; done) | (simp; omega))))); done))
      | false =>
        have K8' := Lib.hid (K8.out rfl)
        have K9' := Lib.hid (K9.out rfl)
        (try simp only [Bool.false_eq_true, if_false])
        go_wp2_with (first
          | (go_at_call_of 51 (Value.int IntKind.u64 lmax); ((with_reducible refine (K1.out _).mono ?_); rintro e w1 ⟨rfl, hbel⟩; obtain ⟨hcc, hff⟩ := bcell hbel; have hsz := hbel.size; (try simp at hsz); have hF : Below w.heap.size w w1 := (by ((repeat' apply And.intro) <;> first | (simp [go_sem, *]; done) | omega | (repeat' (first | with_reducible exact Below.refl _ _ | with_reducible assumption | ((with_reducible refine Below.drew ?_)) | ((with_reducible refine below_drewN ?_ _)) | ((with_reducible refine Below.alloc ?_ ?_ _); rotate_left; focus (first | omega | (simp; done) | (simp; omega))) | ((with_reducible refine Below.setCell ?_ ?_ _); rotate_left; focus (first | omega | (simp; done) | (simp; omega))) | ((with_reducible refine Below.trans ?_ (Below.mono (by with_reducible assumption) ?_)); rotate_left; focus (first | omega | (simp; done) | (simp; omega))))))); go_split_ands; clear hcc hff hbel))
          | (go_at_call_of 53 (Value.agg #[Value.int IntKind.u64 (d0 a1), Value.int IntKind.u64 (d1 a1), Value.int IntKind.u64 (d2 a1), Value.int IntKind.u64 (d3 a1)]); ((with_reducible refine (K2.out _).mono ?_); rintro e w2 ⟨rfl, hbel⟩; obtain ⟨hcc, hff⟩ := bcell hbel; have hsz := hbel.size; (try simp at hsz); have hF : Below w.heap.size w w2 := (by ((repeat' apply And.intro) <;> first | (simp [go_sem, *]; done) | omega | (repeat' (first | with_reducible exact Below.refl _ _ | with_reducible assumption | ((with_reducible refine Below.drew ?_)) | ((with_reducible refine below_drewN ?_ _)) | ((with_reducible refine Below.alloc ?_ ?_ _); rotate_left; focus (first | omega | (simp; done) | (simp; omega))) | ((with_reducible refine Below.setCell ?_ ?_ _); rotate_left; focus (first | omega | (simp; done) | (simp; omega))) | ((with_reducible refine Below.trans ?_ (Below.mono (by with_reducible assumption) ?_)); rotate_left; focus (first | omega | (simp; done) | (simp; omega))))))); go_split_ands; clear hcc hff hbel))
          | (go_at_call 51; first | ((with_reducible refine (K3.out _).mono ?_); rintro e w3 ⟨rfl, hbel⟩; obtain ⟨hcc, hff⟩ := bcell hbel; have hsz := hbel.size; (try simp at hsz); have hF : Below w.heap.size w w3 := (by ((repeat' apply And.intro) <;> first | (simp [go_sem, *]; done) | omega | (repeat' (first | with_reducible exact Below.refl _ _ | with_reducible assumption | ((with_reducible refine Below.drew ?_)) | ((with_reducible refine below_drewN ?_ _)) | ((with_reducible refine Below.alloc ?_ ?_ _); rotate_left; focus (first | omega | (simp; done) | (simp; omega))) | ((with_reducible refine Below.setCell ?_ ?_ _); rotate_left; focus (first | omega | (simp; done) | (simp; omega))) | ((with_reducible refine Below.trans ?_ (Below.mono (by with_reducible assumption) ?_)); rotate_left; focus (first | omega | (simp; done) | (simp; omega))))))); go_split_ands; clear hcc hff hbel) | ((with_reducible refine (K5.out _).mono ?_); rintro e w5 ⟨rfl, hbel⟩; obtain ⟨hcc, hff⟩ := bcell hbel; have hsz := hbel.size; (try simp at hsz); have hF : (w5.cell? ⟨w4.heap.size, 0, none⟩ = some (.int .u64 (d0 G)) ∧ w5.cell? ⟨w4.heap.size, 1, none⟩ = some (.int .u64 (d1 G)) ∧ w5.cell? ⟨w4.heap.size, 2, none⟩ = some (.int .u64 (d2 G)) ∧ w5.cell? ⟨w4.heap.size, 3, none⟩ = some (.int .u64 (d3 G)) ∧ w4.heap.size < w5.heap.size) ∧ w4.heap.size < w5.heap.size ∧ Below w.heap.size w w5 := (by ((repeat' apply And.intro) <;> first | (simp [go_sem, *]; done) | omega | (repeat' (first | with_reducible exact Below.refl _ _ | with_reducible assumption | ((with_reducible refine Below.drew ?_)) | ((with_reducible refine below_drewN ?_ _)) | ((with_reducible refine Below.alloc ?_ ?_ _); rotate_left; focus (first | omega | (simp; done) | (simp; omega))) | ((with_reducible refine Below.setCell ?_ ?_ _); rotate_left; focus (first | omega | (simp; done) | (simp; omega))) | ((with_reducible refine Below.trans ?_ (Below.mono (by with_reducible assumption) ?_)); rotate_left; focus (first | omega | (simp; done) | (simp; omega))))))); go_split_ands; clear hcc hff hbel))
          | (go_at_call 56; first | ((with_reducible refine (K4.out _).mono ?_); rintro e w4 ⟨rfl, hbel⟩; obtain ⟨hcc, hff⟩ := bcell hbel; have hsz := hbel.size; (try simp at hsz); have hF : Below w.heap.size w w4 := (by ((repeat' apply And.intro) <;> first | (simp [go_sem, *]; done) | omega | (repeat' (first | with_reducible exact Below.refl _ _ | with_reducible assumption | ((with_reducible refine Below.drew ?_)) | ((with_reducible refine below_drewN ?_ _)) | ((with_reducible refine Below.alloc ?_ ?_ _); rotate_left; focus (first | omega | (simp; done) | (simp; omega))) | ((with_reducible refine Below.setCell ?_ ?_ _); rotate_left; focus (first | omega | (simp; done) | (simp; omega))) | ((with_reducible refine Below.trans ?_ (Below.mono (by with_reducible assumption) ?_)); rotate_left; focus (first | omega | (simp; done) | (simp; omega))))))); go_split_ands; clear hcc hff hbel) | ((with_reducible refine (K6.out _).mono ?_); rintro e w6 ⟨rfl, hbel⟩; obtain ⟨hcc, hff⟩ := bcell hbel; have hsz := hbel.size; (try simp at hsz); have hF : (w6.cell? ⟨w4.heap.size, 0, none⟩ = some (.int .u64 (d0 G)) ∧ w6.cell? ⟨w4.heap.size, 1, none⟩ = some (.int .u64 (d1 G)) ∧ w6.cell? ⟨w4.heap.size, 2, none⟩ = some (.int .u64 (d2 G)) ∧ w6.cell? ⟨w4.heap.size, 3, none⟩ = some (.int .u64 (d3 G)) ∧ w4.heap.size < w6.heap.size) ∧ w4.heap.size < w6.heap.size ∧ Below w.heap.size w w6 := (by ((repeat' apply And.intro) <;> first | (simp [go_sem, *]; done) | omega | (repeat' (first | with_reducible exact Below.refl _ _ | with_reducible assumption | ((with_reducible refine Below.drew ?_)) | ((with_reducible refine below_drewN ?_ _)) | ((with_reducible refine Below.alloc ?_ ?_ _); rotate_left; focus (first | omega | (simp; done) | (simp; omega))) | ((with_reducible refine Below.setCell ?_ ?_ _); rotate_left; focus (first | omega | (simp; done) | (simp; omega))) | ((with_reducible refine Below.trans ?_ (Below.mono (by with_reducible assumption) ?_)); rotate_left; focus (first | omega | (simp; done) | (simp; omega))))))); go_split_ands; clear hcc hff hbel))
          | (go_at_call 21; ((with_reducible refine (K7.out _).mono ?_); rintro e w7 ⟨rfl, hbel⟩; obtain ⟨hcc, hff⟩ := bcell hbel; have hsz := hbel.size; (try simp at hsz); have hF : (w7.cell? ⟨w4.heap.size, 0, none⟩ = some (.int .u64 (d0 G)) ∧ w7.cell? ⟨w4.heap.size, 1, none⟩ = some (.int .u64 (d1 G)) ∧ w7.cell? ⟨w4.heap.size, 2, none⟩ = some (.int .u64 (d2 G)) ∧ w7.cell? ⟨w4.heap.size, 3, none⟩ = some (.int .u64 (d3 G)) ∧ w4.heap.size < w7.heap.size) ∧ (w7.cell? ⟨w6.heap.size, 0, none⟩ = some (.int .u64 (d0 Lk)) ∧ w7.cell? ⟨w6.heap.size, 1, none⟩ = some (.int .u64 (d1 Lk)) ∧ w7.cell? ⟨w6.heap.size, 2, none⟩ = some (.int .u64 (d2 Lk)) ∧ w7.cell? ⟨w6.heap.size, 3, none⟩ = some (.int .u64 (d3 Lk)) ∧ w6.heap.size < w7.heap.size) ∧ Below w.heap.size w w7 := (by ((repeat' apply And.intro) <;> first | (simp [go_sem, *]; done) | omega | (repeat' (first | with_reducible exact Below.refl _ _ | with_reducible assumption | ((with_reducible refine Below.drew ?_)) | ((with_reducible refine below_drewN ?_ _)) | ((with_reducible refine Below.alloc ?_ ?_ _); rotate_left; focus (first | omega | (simp; done) | (simp; omega))) | ((with_reducible refine Below.setCell ?_ ?_ _); rotate_left; focus (first | omega | (simp; done) | (simp; omega))) | ((with_reducible refine Below.trans ?_ (Below.mono (by with_reducible assumption) ?_)); rotate_left; focus (first | omega | (simp; done) | (simp; omega))))))); go_split_ands; clear hcc hff hbel))
          | (go_at_call 52; ((with_reducible refine (K8'.out _).mono ?_); rintro e w8 ⟨rfl, hbel⟩; obtain ⟨hcc, hff⟩ := bcell hbel; have hsz := hbel.size; (try simp at hsz); have hF : Below w.heap.size w w8 := (by ((repeat' apply And.intro) <;> first | (simp [go_sem, *]; done) | omega | (repeat' (first | with_reducible exact Below.refl _ _ | with_reducible assumption | ((with_reducible refine Below.drew ?_)) | ((with_reducible refine below_drewN ?_ _)) | ((with_reducible refine Below.alloc ?_ ?_ _); rotate_left; focus (first | omega | (simp; done) | (simp; omega))) | ((with_reducible refine Below.setCell ?_ ?_ _); rotate_left; focus (first | omega | (simp; done) | (simp; omega))) | ((with_reducible refine Below.trans ?_ (Below.mono (by with_reducible assumption) ?_)); rotate_left; focus (first | omega | (simp; done) | (simp; omega))))))); go_split_ands; clear hcc hff hbel))
          | (go_at_call 53; ((with_reducible refine (K9'.out _).mono ?_); rintro e w9 ⟨rfl, hbel⟩; obtain ⟨hcc, hff⟩ := bcell hbel; have hsz := hbel.size; (try simp at hsz); have hF : Below w.heap.size w w9 := (by ((repeat' apply And.intro) <;> first | (simp [go_sem, *]; done) | omega | (repeat' (first | with_reducible exact Below.refl _ _ | with_reducible assumption | ((with_reducible refine Below.drew ?_)) | ((with_reducible refine below_drewN ?_ _)) | ((with_reducible refine Below.alloc ?_ ?_ _); rotate_left; focus (first | omega | (simp; done) | (simp; omega))) | ((with_reducible refine Below.setCell ?_ ?_ _); rotate_left; focus (first | omega | (simp; done) | (simp; omega))) | ((with_reducible refine Below.trans ?_ (Below.mono (by with_reducible assumption) ?_)); rotate_left; focus (first | omega | (simp; done) | (simp; omega))))))); go_split_ands; clear hcc hff hbel)))
        (go_ret; refine ⟨?_, ?_⟩; (focus (exact rfl)); ((repeat' (first | with_reducible exact Below.refl _ _ | with_reducible assumption | ((with_reducible refine Below.drew ?_)) | ((with_reducible refine below_drewN ?_ _)) | ((with_reducible refine Below.alloc ?_ ?_ _); rotate_left; focus (first | omega | (simp; done) | (simp; omega))) | ((with_reducible refine Below.setCell ?_ ?_ _); rotate_left; focus (first | omega | (simp; done) | (simp; omega))) | ((with_reducible refine Below.trans ?_ (Below.mono (by with_reducible assumption) ?_)); rotate_left; focus (first | omega | (simp; done) | (simp; omega))))); done))
theorem rle_c (zs : List Int) (b o c : Nat) (m bytes lmax : Int) (w : World) (h : LOK m zs bytes lmax) (hc : ∀ k (h : k < zs.length), w.cell? ⟨b, o + k, none⟩ = some (.int .u64 zs[k])) :
    Calls Try.prog 30 #[.int .u64 m, .slice (some ⟨b, o, none⟩) zs.length c, .int .u64 bytes, .int .i64 lmax] w fun ee w' => ee = .returned (.int .u64 (bsh m zs bytes lmax)) ∧ Below w.heap.size w w' := by
  have h1 := h.m
  have h2 := h.sum
  have h3 := h.prod
  have ht := h.tick
  have hlo := h.low
  have hb := h.hb
  have hl := h.hl
  have hmem := has_mem h.hh
  have h0 : 0 < zs.length := List.length_pos_of_mem hmem
  have hlow := lsm_eq (show zs[0] ∈ zs from List.getElem_mem h0) hmem
  have hh : hi (cl (lmax * 65536) (lsm m zs)) = 0 := by unfold pticks at ht; unfold hi; omega
  have hl' : lo (cl (lmax * 65536) (lsm m zs)) = cl (lmax * 65536) (lsm m zs) := by unfold pticks at ht; unfold lo; omega
  have k2 := refceil_c (lmax * 65536) (lsm m zs) (by unfold Wd; omega) (by unfold In; omega) hlo.1
  rw [nv_ok hh, ne_ok hh, hl'] at k2
  have k2 : ∀ w, Calls Try.prog 53 #[.agg #[.int .u64 (d0 (lmax * 65536)), .int .u64 (d1 (lmax * 65536)), .int .u64 (d2 (lmax * 65536)), .int .u64 (d3 (lmax * 65536))], .int .u64 (lsm zs[0] zs)] w fun ee w' => ee = .returned (.agg #[.int .u64 (pticks lmax (lsm m zs)), .int .i64 (0)]) ∧ Below w.heap.size w w' := by rw [hlow]; exact k2
  have i1 : In m := by unfold In; omega
  have i2 : In bytes := by unfold In; omega
  have i3 : In (sums zs) := by unfold In; omega
  have b1 : m * bytes ≤ 4294967295 * 1099511627776 := Int.mul_le_mul h1.2 hb.2 hb.1 (by decide)
  have b2 : m * sums zs ≤ 4294967295 * 274877906880 := Int.mul_le_mul h1.2 h2.2 (by omega) (by decide)
  have n1 := Int.mul_nonneg (show 0 ≤ m by omega) hb.1
  have n2 := Int.mul_nonneg (show 0 ≤ m by omega) (show 0 ≤ sums zs by omega)
  have k4 := rt9_c (m * bytes) 65536 (wd_mul i1 i2) (by unfold In; omega) (by unfold hi; omega)
  have i4 : In (2 * pticks lmax (lsm m zs) + 2) := by unfold In; omega
  have hhi : 0 ≤ hi (m * sums zs) ∧ hi (m * sums zs) ≤ 64 := by unfold hi; omega
  have hmul : hi (m * sums zs) * (2 * pticks lmax (lsm m zs) + 2) ≤ 64 * 2147483652 := Int.mul_le_mul hhi.2 (by omega) (by omega) (by decide)
  have k6 := rt9_c (m * sums zs) (2 * pticks lmax (lsm m zs) + 2) (wd_mul i1 i3) i4 (by omega)
  have e1 : m * bytes * 65536 = m * (bytes * 65536) := Int.mul_assoc _ _ _
  have e2 : m * sums zs * (2 * pticks lmax (lsm m zs) + 2) = m * (2 * pticks lmax (lsm m zs) + 2) * sums zs := Int.mul_right_comm _ _ _
  rw [e1] at k4
  rw [e2] at k6
  have hS : Wd (m * (bytes * 65536)) := wd_mul i1 (by unfold In; omega)
  have hLx : Wd (m * (2 * pticks lmax (lsm m zs) + 2) * sums zs) := wd_mul (by unfold In; omega) i3
  have hle := bsh_le h
  have k := rle_core zs b o c m bytes lmax (pticks lmax (lsm m zs)) (lmax * 65536) (m * bytes) (m * (bytes * 65536)) (m * sums zs) (m * (2 * pticks lmax (lsm m zs) + 2) * sums zs) (m * (bytes * 65536) - m * (2 * pticks lmax (lsm m zs) + 2) * sums zs)
  have kmul1 := refmul_c lmax 65536 (by unfold In; omega) (by unfold In; omega)
  have kmul2 := refmul_c m bytes i1 i2
  have kmul3 := refmul_c m (sums zs) i1 i3
  unfold bsh at hle ⊢
  generalize hPe : m * (2 * pticks lmax (lsm m zs) + 2) = P at *
  generalize hSe : m * (bytes * 65536) = S at *
  generalize hLe : P * sums zs = Lx at *
  have q0 : IntKind.u64.wrap lmax = lmax := by rw [wrap_u64]; omega
  have qa : IntKind.u64.wrap (2 * pticks lmax (lsm m zs)) = 2 * pticks lmax (lsm m zs) := by rw [wrap_u64]; omega
  have qb : IntKind.u64.wrap (2 * pticks lmax (lsm m zs) + 2) = 2 * pticks lmax (lsm m zs) + 2 := by rw [wrap_u64]; omega
  have qc : IntKind.u64.wrap (sums zs * 65536) = sums zs * 65536 := by rw [wrap_u64]; omega
  have k7 := refless_d S Lx hS hLx
  by_cases hlt : S < Lx
  · rw [decide_eq_true hlt] at k7
    rw [if_pos hlt]
    exact k 0 true w h0 h.hn h.hs q0 qa qb qc kmul1 k2 kmul2 k4 kmul3 k6 k7 (fun h => by cases h) (fun h => by cases h) hc
  · rw [decide_eq_false hlt] at k7
    rw [if_neg hlt] at hle ⊢
    have hD : Wd (S - Lx) := by unfold Wd at *; omega
    have k9 := refceil_c (S - Lx) (sums zs * 65536) hD (by unfold In; omega) (by omega)
    have hh2 : hi (cl (S - Lx) (sums zs * 65536)) = 0 := by unfold hi; omega
    have hl2 : lo (cl (S - Lx) (sums zs * 65536)) = cl (S - Lx) (sums zs * 65536) := by unfold lo; omega
    rw [nv_ok hh2, ne_ok hh2, hl2] at k9
    exact k _ false w h0 h.hn h.hs q0 qa qb qc kmul1 k2 kmul2 k4 kmul3 k6 k7 (fun _ => refminus_d S Lx hS hLx) (fun _ => k9) hc
end Go.Proofs.Ytfplniooncdjdaa
