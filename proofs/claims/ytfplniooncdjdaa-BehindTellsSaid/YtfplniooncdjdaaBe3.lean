import Derived.Test.YtfplniooncdjdaaBe2
namespace Go.Proofs.Ytfplniooncdjdaa
set_option linter.unusedVariables false
set_option linter.unusedSimpArgs false
set_option maxRecDepth 100000
open Go.RowKit Fg Reg
attribute [local irreducible] Reg.wE

set_option maxHeartbeats 1000000 in
theorem rt9_core (N m P Q l0 h0 q0 : Int)
    (k1 : ∀ w, Calls Try.prog 81 #[.agg #[.int .u64 (d0 N), .int .u64 (d1 N), .int .u64 (d2 N), .int .u64 (d3 N)]] w fun ee w' => ee = .returned (.int .u64 l0) ∧ Below w.heap.size w w') (k2 : ∀ w, Calls Try.prog 51 #[.int .u64 l0, .int .u64 m] w fun ee w' => ee = .returned (.agg #[.int .u64 (d0 P), .int .u64 (d1 P), .int .u64 (d2 P), .int .u64 (d3 P)]) ∧ Below w.heap.size w w')
    (k3 : ∀ w, Calls Try.prog 82 #[.agg #[.int .u64 (d0 N), .int .u64 (d1 N), .int .u64 (d2 N), .int .u64 (d3 N)]] w fun ee w' => ee = .returned (.int .u64 h0) ∧ Below w.heap.size w w') (k4 : ∀ w, Calls Try.prog 51 #[.int .u64 h0, .int .u64 m] w fun ee w' => ee = .returned (.agg #[.int .u64 (d0 Q), .int .u64 (d1 Q), .int .u64 (d2 Q), .int .u64 (d3 Q)]) ∧ Below w.heap.size w w')
    (k5 : ∀ w, Calls Try.prog 81 #[.agg #[.int .u64 (d0 Q), .int .u64 (d1 Q), .int .u64 (d2 Q), .int .u64 (d3 Q)]] w fun ee w' => ee = .returned (.int .u64 q0) ∧ Below w.heap.size w w') (T R : Int) (k6 : ∀ w, Calls Try.prog 49 #[.int .u64 q0, .int .u64 0] w fun ee w' => ee = .returned (.agg #[.int .u64 (d0 T), .int .u64 (d1 T), .int .u64 (d2 T), .int .u64 (d3 T)]) ∧ Below w.heap.size w w')
    (k7 : ∀ w, Calls Try.prog 83 #[.agg #[.int .u64 (d0 P), .int .u64 (d1 P), .int .u64 (d2 P), .int .u64 (d3 P)], .agg #[.int .u64 (d0 T), .int .u64 (d1 T), .int .u64 (d2 T), .int .u64 (d3 T)]] w fun ee w' => ee = .returned (.agg #[.int .u64 (d0 R), .int .u64 (d1 R), .int .u64 (d2 R), .int .u64 (d3 R)]) ∧ Below w.heap.size w w') (F : Nat) (w : World) : Calls Try.prog 56 #[.agg #[.int .u64 (d0 N), .int .u64 (d1 N), .int .u64 (d2 N), .int .u64 (d3 N)], .int .u64 m] w fun ee w' => ee = .returned (.agg #[.int .u64 (d0 R), .int .u64 (d1 R), .int .u64 (d2 R), .int .u64 (d3 R)]) ∧ Below w.heap.size w w' := by
  have K1 := Lib.hid k1
  have K2 := Lib.hid k2
  have K3 := Lib.hid k3
  have K4 := Lib.hid k4
  have K5 := Lib.hid k5
  have K6 := Lib.hid k6
  have K7 := Lib.hid k7
  clear k1 k2 k3 k4 k5 k6 k7
  go_enter Try.func56, Try.ntmps56
  go_wp2_with (first
    | (go_at_call 81; ((with_reducible refine (K1.out _).mono ?_); rintro e w1 ⟨rfl, hbel⟩; obtain ⟨hcc, hff⟩ := bcell hbel; have hsz := hbel.size; (try simp at hsz); have hF : (w1.cell? ⟨w.heap.size, 0, none⟩ = some (.int .u64 (d0 N)) ∧ w1.cell? ⟨w.heap.size, 1, none⟩ = some (.int .u64 (d1 N)) ∧ w1.cell? ⟨w.heap.size, 2, none⟩ = some (.int .u64 (d2 N)) ∧ w1.cell? ⟨w.heap.size, 3, none⟩ = some (.int .u64 (d3 N)) ∧ w.heap.size < w1.heap.size) ∧ (w1.cell? ⟨w.heap.size + 1, 0, none⟩ = some (.int .u64 0) ∧ w1.cell? ⟨w.heap.size + 1, 1, none⟩ = some (.int .u64 0) ∧ w1.cell? ⟨w.heap.size + 1, 2, none⟩ = some (.int .u64 0) ∧ w1.cell? ⟨w.heap.size + 1, 3, none⟩ = some (.int .u64 0) ∧ w1.frozen? ⟨w.heap.size + 1, 0, none⟩ = false ∧ w1.frozen? ⟨w.heap.size + 1, 1, none⟩ = false ∧ w1.frozen? ⟨w.heap.size + 1, 2, none⟩ = false ∧ w1.frozen? ⟨w.heap.size + 1, 3, none⟩ = false ∧ w.heap.size + 1 < w1.heap.size) ∧ Below w.heap.size w w1 := (by ((repeat' apply And.intro) <;> first | (simp [go_sem, *]; done) | omega | (repeat' (first | with_reducible exact Below.refl _ _ | with_reducible assumption | ((with_reducible refine Below.drew ?_)) | ((with_reducible refine below_drewN ?_ _)) | ((with_reducible refine Below.alloc ?_ ?_ _); rotate_left; focus (first | omega | (simp; done) | (simp; omega))) | ((with_reducible refine Below.setCell ?_ ?_ _); rotate_left; focus (first | omega | (simp; done) | (simp; omega))) | ((with_reducible refine Below.trans ?_ (Below.mono (by with_reducible assumption) ?_)); rotate_left; focus (first | omega | (simp; done) | (simp; omega))))))); go_split_ands; clear hcc hff hbel))
    | (go_at_call_of 51 (Value.int IntKind.u64 l0); ((with_reducible refine (K2.out _).mono ?_); rintro e w2 ⟨rfl, hbel⟩; obtain ⟨hcc, hff⟩ := bcell hbel; have hsz := hbel.size; (try simp at hsz); have hF : (w2.cell? ⟨w.heap.size, 0, none⟩ = some (.int .u64 (d0 N)) ∧ w2.cell? ⟨w.heap.size, 1, none⟩ = some (.int .u64 (d1 N)) ∧ w2.cell? ⟨w.heap.size, 2, none⟩ = some (.int .u64 (d2 N)) ∧ w2.cell? ⟨w.heap.size, 3, none⟩ = some (.int .u64 (d3 N)) ∧ w.heap.size < w2.heap.size) ∧ (w2.cell? ⟨w.heap.size + 1, 0, none⟩ = some (.int .u64 0) ∧ w2.cell? ⟨w.heap.size + 1, 1, none⟩ = some (.int .u64 0) ∧ w2.cell? ⟨w.heap.size + 1, 2, none⟩ = some (.int .u64 0) ∧ w2.cell? ⟨w.heap.size + 1, 3, none⟩ = some (.int .u64 0) ∧ w2.frozen? ⟨w.heap.size + 1, 0, none⟩ = false ∧ w2.frozen? ⟨w.heap.size + 1, 1, none⟩ = false ∧ w2.frozen? ⟨w.heap.size + 1, 2, none⟩ = false ∧ w2.frozen? ⟨w.heap.size + 1, 3, none⟩ = false ∧ w.heap.size + 1 < w2.heap.size) ∧ Below w.heap.size w w2 := (by ((repeat' apply And.intro) <;> first | (simp [go_sem, *]; done) | omega | (repeat' (first | with_reducible exact Below.refl _ _ | with_reducible assumption | ((with_reducible refine Below.drew ?_)) | ((with_reducible refine below_drewN ?_ _)) | ((with_reducible refine Below.alloc ?_ ?_ _); rotate_left; focus (first | omega | (simp; done) | (simp; omega))) | ((with_reducible refine Below.setCell ?_ ?_ _); rotate_left; focus (first | omega | (simp; done) | (simp; omega))) | ((with_reducible refine Below.trans ?_ (Below.mono (by with_reducible assumption) ?_)); rotate_left; focus (first | omega | (simp; done) | (simp; omega))))))); go_split_ands; clear hcc hff hbel))
    | (go_at_call 82; ((with_reducible refine (K3.out _).mono ?_); rintro e w3 ⟨rfl, hbel⟩; obtain ⟨hcc, hff⟩ := bcell hbel; have hsz := hbel.size; (try simp at hsz); have hF : (w3.cell? ⟨w2.heap.size, 0, none⟩ = some (.int .u64 (d0 P)) ∧ w3.cell? ⟨w2.heap.size, 1, none⟩ = some (.int .u64 (d1 P)) ∧ w3.cell? ⟨w2.heap.size, 2, none⟩ = some (.int .u64 (d2 P)) ∧ w3.cell? ⟨w2.heap.size, 3, none⟩ = some (.int .u64 (d3 P)) ∧ w2.heap.size < w3.heap.size) ∧ (w3.cell? ⟨w.heap.size + 1, 0, none⟩ = some (.int .u64 0) ∧ w3.cell? ⟨w.heap.size + 1, 1, none⟩ = some (.int .u64 0) ∧ w3.cell? ⟨w.heap.size + 1, 2, none⟩ = some (.int .u64 0) ∧ w3.cell? ⟨w.heap.size + 1, 3, none⟩ = some (.int .u64 0) ∧ w3.frozen? ⟨w.heap.size + 1, 0, none⟩ = false ∧ w3.frozen? ⟨w.heap.size + 1, 1, none⟩ = false ∧ w3.frozen? ⟨w.heap.size + 1, 2, none⟩ = false ∧ w3.frozen? ⟨w.heap.size + 1, 3, none⟩ = false ∧ w.heap.size + 1 < w3.heap.size) ∧ w2.heap.size < w3.heap.size ∧ w.heap.size + 1 < w3.heap.size ∧ Below w.heap.size w w3 := (by ((repeat' apply And.intro) <;> first | (simp [go_sem, *]; done) | omega | (repeat' (first | with_reducible exact Below.refl _ _ | with_reducible assumption | ((with_reducible refine Below.drew ?_)) | ((with_reducible refine below_drewN ?_ _)) | ((with_reducible refine Below.alloc ?_ ?_ _); rotate_left; focus (first | omega | (simp; done) | (simp; omega))) | ((with_reducible refine Below.setCell ?_ ?_ _); rotate_left; focus (first | omega | (simp; done) | (simp; omega))) | ((with_reducible refine Below.trans ?_ (Below.mono (by with_reducible assumption) ?_)); rotate_left; focus (first | omega | (simp; done) | (simp; omega))))))); go_split_ands; clear hcc hff hbel))
    | (go_at_call_of 51 (Value.int IntKind.u64 h0); ((with_reducible refine (K4.out _).mono ?_); rintro e w4 ⟨rfl, hbel⟩; obtain ⟨hcc, hff⟩ := bcell hbel; have hsz := hbel.size; (try simp at hsz); have hF : (w4.cell? ⟨w2.heap.size, 0, none⟩ = some (.int .u64 (d0 P)) ∧ w4.cell? ⟨w2.heap.size, 1, none⟩ = some (.int .u64 (d1 P)) ∧ w4.cell? ⟨w2.heap.size, 2, none⟩ = some (.int .u64 (d2 P)) ∧ w4.cell? ⟨w2.heap.size, 3, none⟩ = some (.int .u64 (d3 P)) ∧ w2.heap.size < w4.heap.size) ∧ (w4.cell? ⟨w.heap.size + 1, 0, none⟩ = some (.int .u64 0) ∧ w4.cell? ⟨w.heap.size + 1, 1, none⟩ = some (.int .u64 0) ∧ w4.cell? ⟨w.heap.size + 1, 2, none⟩ = some (.int .u64 0) ∧ w4.cell? ⟨w.heap.size + 1, 3, none⟩ = some (.int .u64 0) ∧ w4.frozen? ⟨w.heap.size + 1, 0, none⟩ = false ∧ w4.frozen? ⟨w.heap.size + 1, 1, none⟩ = false ∧ w4.frozen? ⟨w.heap.size + 1, 2, none⟩ = false ∧ w4.frozen? ⟨w.heap.size + 1, 3, none⟩ = false ∧ w.heap.size + 1 < w4.heap.size) ∧ w2.heap.size < w4.heap.size ∧ w.heap.size < w4.heap.size ∧ Below w.heap.size w w4 := (by ((repeat' apply And.intro) <;> first | (simp [go_sem, *]; done) | omega | (repeat' (first | with_reducible exact Below.refl _ _ | with_reducible assumption | ((with_reducible refine Below.drew ?_)) | ((with_reducible refine below_drewN ?_ _)) | ((with_reducible refine Below.alloc ?_ ?_ _); rotate_left; focus (first | omega | (simp; done) | (simp; omega))) | ((with_reducible refine Below.setCell ?_ ?_ _); rotate_left; focus (first | omega | (simp; done) | (simp; omega))) | ((with_reducible refine Below.trans ?_ (Below.mono (by with_reducible assumption) ?_)); rotate_left; focus (first | omega | (simp; done) | (simp; omega))))))); go_split_ands; clear hcc hff hbel)))
  obtain ⟨Cl, hCl⟩ : ∃ Cl : List Value → World → Prop, Cl = ((fun ps wz => (wz.cell? ⟨w2.heap.size, 0, none⟩ = some (.int .u64 (d0 P)) ∧ wz.cell? ⟨w2.heap.size, 1, none⟩ = some (.int .u64 (d1 P)) ∧ wz.cell? ⟨w2.heap.size, 2, none⟩ = some (.int .u64 (d2 P)) ∧ wz.cell? ⟨w2.heap.size, 3, none⟩ = some (.int .u64 (d3 P)) ∧ w2.heap.size < wz.heap.size) ∧ (wz.cell? ⟨w4.heap.size, 0, none⟩ = some (.int .u64 (d0 Q)) ∧ wz.cell? ⟨w4.heap.size, 1, none⟩ = some (.int .u64 (d1 Q)) ∧ wz.cell? ⟨w4.heap.size, 2, none⟩ = some (.int .u64 (d2 Q)) ∧ wz.cell? ⟨w4.heap.size, 3, none⟩ = some (.int .u64 (d3 Q)) ∧ w4.heap.size < wz.heap.size) ∧ (match ps with | [] => (wz.cell? ⟨w.heap.size + 1, 0, none⟩ = some (.int .u64 0) ∧ wz.cell? ⟨w.heap.size + 1, 1, none⟩ = some (.int .u64 0) ∧ wz.cell? ⟨w.heap.size + 1, 2, none⟩ = some (.int .u64 0) ∧ wz.cell? ⟨w.heap.size + 1, 3, none⟩ = some (.int .u64 0) ∧ wz.frozen? ⟨w.heap.size + 1, 0, none⟩ = false ∧ wz.frozen? ⟨w.heap.size + 1, 1, none⟩ = false ∧ wz.frozen? ⟨w.heap.size + 1, 2, none⟩ = false ∧ wz.frozen? ⟨w.heap.size + 1, 3, none⟩ = false ∧ w.heap.size + 1 < wz.heap.size) | _ => (wz.cell? ⟨w.heap.size + 1, 0, none⟩ = some (.int .u64 (d0 R)) ∧ wz.cell? ⟨w.heap.size + 1, 1, none⟩ = some (.int .u64 (d1 R)) ∧ wz.cell? ⟨w.heap.size + 1, 2, none⟩ = some (.int .u64 (d2 R)) ∧ wz.cell? ⟨w.heap.size + 1, 3, none⟩ = some (.int .u64 (d3 R)) ∧ wz.frozen? ⟨w.heap.size + 1, 0, none⟩ = false ∧ wz.frozen? ⟨w.heap.size + 1, 1, none⟩ = false ∧ wz.frozen? ⟨w.heap.size + 1, 2, none⟩ = false ∧ wz.frozen? ⟨w.heap.size + 1, 3, none⟩ = false ∧ w.heap.size + 1 < wz.heap.size)) ∧ Below w.heap.size w wz)) := ⟨_, rfl⟩; have HCl := Lib.hid hCl; clear hCl; refine wp_region_eff [5] Cl (by kernel_rfl) (by kernel_rfl) (by rw [HCl.out]; (try simp only [List.nil_append, List.cons_append]); (try dsimp only); ((repeat' apply And.intro) <;> first | (simp [go_sem, *]; done) | omega | (repeat' (first | with_reducible exact Below.refl _ _ | with_reducible assumption | ((with_reducible refine Below.drew ?_)) | ((with_reducible refine below_drewN ?_ _)) | ((with_reducible refine Below.alloc ?_ ?_ _); rotate_left; focus (first | omega | (simp; done) | (simp; omega))) | ((with_reducible refine Below.setCell ?_ ?_ _); rotate_left; focus (first | omega | (simp; done) | (simp; omega))) | ((with_reducible refine Below.trans ?_ (Below.mono (by with_reducible assumption) ?_)); rotate_left; focus (first | omega | (simp; done) | (simp; omega))))))) ?_
  (repeat (first | (refine wE_skip (by rfl) ?_; simp only [Act.put, Nat.reduceAdd, List.setIfInBounds_toArray, List.set_cons_zero, List.set_cons_succ, List.nil_append, List.cons_append]) | (refine wE_open (by rfl) (by rfl) ?_; apply Exists.intro; refine ⟨fun vs wq hw => ?_, ?_⟩; (focus (rw [HCl.out] at hw; (try simp only [List.nil_append, List.cons_append] at hw); (try dsimp only at hw); go_split_ands; go_simp <;> first | with_reducible exact (rfl : Value.bool false = _) | with_reducible exact (rfl : Value.bool true = _) | ((try go_bits) <;> exact rfl))); simp only [Act.put, Nat.reduceAdd, List.setIfInBounds_toArray, List.set_cons_zero, List.set_cons_succ, List.nil_append, List.cons_append]) | (refine wE_seal (by rfl) (by rfl) (by kernel_rfl) ?_; apply Exists.intro; refine ⟨fun wq hw => ?_, ?_⟩; (focus (rw [HCl.out] at hw; (try simp only [List.nil_append, List.cons_append] at hw); (try dsimp only at hw); go_split_ands; go_simp <;> (try go_bits) <;> exact rfl)); simp only [Act.put, Nat.reduceAdd, List.setIfInBounds_toArray, List.set_cons_zero, List.set_cons_succ, List.nil_append, List.cons_append]) | (refine wE_seal (by rfl) (by rfl) (by kernel_rfl) ?_; apply Exists.intro; refine ⟨fun wq hw => ?_, ?_⟩; (focus (rw [HCl.out] at hw; (try simp only [List.nil_append, List.cons_append] at hw); (try dsimp only at hw); go_split_ands; go_simp; (first | (go_at_call 81; ((with_reducible refine (K5.out _).mono ?_); rintro e w' ⟨rfl, hbel⟩; obtain ⟨hcc, hff⟩ := bcell hbel; have hsz := hbel.size; (try simp at hsz); refine ⟨rfl, ?_⟩; rw [HCl.out]; (try simp only [List.nil_append, List.cons_append]); (try dsimp only); ((repeat' apply And.intro) <;> first | (simp [go_sem, *]; done) | omega | (repeat' (first | with_reducible exact Below.refl _ _ | with_reducible assumption | ((with_reducible refine Below.drew ?_)) | ((with_reducible refine below_drewN ?_ _)) | ((with_reducible refine Below.alloc ?_ ?_ _); rotate_left; focus (first | omega | (simp; done) | (simp; omega))) | ((with_reducible refine Below.setCell ?_ ?_ _); rotate_left; focus (first | omega | (simp; done) | (simp; omega))) | ((with_reducible refine Below.trans ?_ (Below.mono (by with_reducible assumption) ?_)); rotate_left; focus (first | omega | (simp; done) | (simp; omega)))))))) | (go_at_call 49; ((with_reducible refine (K6.out _).mono ?_); rintro e w' ⟨rfl, hbel⟩; obtain ⟨hcc, hff⟩ := bcell hbel; have hsz := hbel.size; (try simp at hsz); refine ⟨rfl, ?_⟩; rw [HCl.out]; (try simp only [List.nil_append, List.cons_append]); (try dsimp only); ((repeat' apply And.intro) <;> first | (simp [go_sem, *]; done) | omega | (repeat' (first | with_reducible exact Below.refl _ _ | with_reducible assumption | ((with_reducible refine Below.drew ?_)) | ((with_reducible refine below_drewN ?_ _)) | ((with_reducible refine Below.alloc ?_ ?_ _); rotate_left; focus (first | omega | (simp; done) | (simp; omega))) | ((with_reducible refine Below.setCell ?_ ?_ _); rotate_left; focus (first | omega | (simp; done) | (simp; omega))) | ((with_reducible refine Below.trans ?_ (Below.mono (by with_reducible assumption) ?_)); rotate_left; focus (first | omega | (simp; done) | (simp; omega)))))))) | (go_at_call 83; ((with_reducible refine (K7.out _).mono ?_); rintro e w' ⟨rfl, hbel⟩; obtain ⟨hcc, hff⟩ := bcell hbel; have hsz := hbel.size; (try simp at hsz); refine ⟨rfl, ?_⟩; rw [HCl.out]; (try simp only [List.nil_append, List.cons_append]); (try dsimp only); ((repeat' apply And.intro) <;> first | (simp [go_sem, *]; done) | omega | (repeat' (first | with_reducible exact Below.refl _ _ | with_reducible assumption | ((with_reducible refine Below.drew ?_)) | ((with_reducible refine below_drewN ?_ _)) | ((with_reducible refine Below.alloc ?_ ?_ _); rotate_left; focus (first | omega | (simp; done) | (simp; omega))) | ((with_reducible refine Below.setCell ?_ ?_ _); rotate_left; focus (first | omega | (simp; done) | (simp; omega))) | ((with_reducible refine Below.trans ?_ (Below.mono (by with_reducible assumption) ?_)); rotate_left; focus (first | omega | (simp; done) | (simp; omega))))))))))); simp only [Act.put, Nat.reduceAdd, List.setIfInBounds_toArray, List.set_cons_zero, List.set_cons_succ, List.nil_append, List.cons_append]) | (refine wE_eff (by rfl) (by rfl) (fun wq hw => ?_) (fun u hu => ?_); (focus (rw [HCl.out] at hw; (try simp only [List.nil_append, List.cons_append] at hw); (try dsimp only at hw); go_split_ands; go_simp; rw [HCl.out]; (try simp only [List.nil_append, List.cons_append]); (try dsimp only); skip; ((repeat' apply And.intro) <;> first | (simp [go_sem, *]; done) | omega | (repeat' (first | with_reducible exact Below.refl _ _ | with_reducible assumption | ((with_reducible refine Below.drew ?_)) | ((with_reducible refine below_drewN ?_ _)) | ((with_reducible refine Below.alloc ?_ ?_ _); rotate_left; focus (first | omega | (simp; done) | (simp; omega))) | ((with_reducible refine Below.setCell ?_ ?_ _); rotate_left; focus (first | omega | (simp; done) | (simp; omega))) | ((with_reducible refine Below.trans ?_ (Below.mono (by with_reducible assumption) ?_)); rotate_left; focus (first | omega | (simp; done) | (simp; omega)))))))); clear hu; simp only [Act.put, Nat.reduceAdd, List.setIfInBounds_toArray, List.set_cons_zero, List.set_cons_succ, List.nil_append, List.cons_append])))
  refine wE_nil ?_; intro w' hw; rw [HCl.out] at hw; (try simp only [List.nil_append, List.cons_append] at hw); (try dsimp only at hw); clear HCl
  go_split_ands
  go_wp2
  refine bodyPost_ret (v := .agg #[.int .u64 (d0 R), .int .u64 (d1 R), .int .u64 (d2 R), .int .u64 (d3 R)]) (by simp [results, Try.results56, go_sem, *]) rfl ⟨rfl, (by repeat' (first | with_reducible exact Below.refl _ _ | with_reducible assumption | ((with_reducible refine Below.drew ?_)) | ((with_reducible refine below_drewN ?_ _)) | ((with_reducible refine Below.alloc ?_ ?_ _); rotate_left; focus (first | omega | (simp; done) | (simp; omega))) | ((with_reducible refine Below.setCell ?_ ?_ _); rotate_left; focus (first | omega | (simp; done) | (simp; omega))) | ((with_reducible refine Below.trans ?_ (Below.mono (by with_reducible assumption) ?_)); rotate_left; focus (first | omega | (simp; done) | (simp; omega)))))⟩
theorem rt9_c (N m : Int) (hN : Wd N) (hm : In m) (h : hi N * m ≤ 18446744073709551615) (w : World) : Calls Try.prog 56 #[.agg #[.int .u64 (d0 N), .int .u64 (d1 N), .int .u64 (d2 N), .int .u64 (d3 N)], .int .u64 m] w fun ee w' => ee = .returned (.agg #[.int .u64 (d0 (N * m)), .int .u64 (d1 (N * m)), .int .u64 (d2 (N * m)), .int .u64 (d3 (N * m))]) ∧ Below w.heap.size w w' := by
  have i1 := lo_in N
  have i2 := hi_in N
  have p2 : In (hi N * m) := ⟨Int.mul_nonneg i2.1 hm.1, h⟩
  have hlo : lo (hi N * m) = hi N * m := by unfold lo; unfold In at p2; omega
  have hT : Wd (val (hi N * m) 0) := by unfold val Wd; unfold In at p2; omega
  have k := rt9_core N m (lo N * m) (hi N * m) (lo N) (hi N) (hi N * m) (reflo_c N) (refmul_c _ _ i1 hm) (refhi_c N) (refmul_c _ _ i2 hm)
    (by have k := reflo_c (hi N * m); rw [hlo] at k; exact k) (val (hi N * m) 0) (lo N * m + val (hi N * m) 0) (reftwo_c _ _ p2 (by unfold In; omega)) (refplus_d _ _ (wd_mul i1 hm) hT) 0 w
  have e : lo N * m + val (hi N * m) 0 = N * m := by
    have h1 : N = hi N * 18446744073709551616 + lo N := by unfold Wd at hN; unfold hi lo; omega
    have h2 : N * m = (hi N * 18446744073709551616 + lo N) * m := by rw [← h1]
    rw [h2, Int.add_mul, Int.mul_right_comm]
    unfold val; omega
  rw [e] at k
  exact k

theorem lsm_le (zs : List Int) : ∀ a : Int, lsm a zs ≤ a ∧ ∀ x, x ∈ zs → lsm a zs ≤ x := by
  induction zs with
  | nil => intro a; exact ⟨Int.le_refl _, fun x h => by cases h⟩
  | cons y l ih =>
    intro a
    have h := ih (min a y)
    have e : lsm a (y :: l) = lsm (min a y) l := rfl
    rw [e]
    refine ⟨by omega, fun x hx => ?_⟩
    rcases List.mem_cons.1 hx with rfl | hx
    · omega
    · exact h.2 x hx
theorem lsm_mem (zs : List Int) : ∀ a : Int, lsm a zs = a ∨ lsm a zs ∈ zs := by
  induction zs with
  | nil => intro a; exact .inl rfl
  | cons y l ih =>
    intro a
    have e : lsm a (y :: l) = lsm (min a y) l := rfl
    rw [e]
    rcases ih (min a y) with h | h
    · rw [h]
      rcases Int.le_total a y with h2 | h2
      · left; omega
      · right; rw [show min a y = y by omega]; exact List.mem_cons_self
    · exact .inr (List.mem_cons_of_mem _ h)
theorem lsm_eq {zs : List Int} {a b : Int} (ha : a ∈ zs) (hb : b ∈ zs) : lsm a zs = lsm b zs := by
  have h1 : lsm a zs ∈ zs := (lsm_mem zs a).elim (fun e => by rw [e]; exact ha) id
  have h2 : lsm b zs ∈ zs := (lsm_mem zs b).elim (fun e => by rw [e]; exact hb) id
  have := (lsm_le zs a).2 _ h2
  have := (lsm_le zs b).2 _ h1
  omega
theorem has_mem {zs : List Int} {m : Int} (h : has zs m = true) : m ∈ zs := by
  unfold has at h; rw [List.any_eq_true] at h; obtain ⟨x, hx, he⟩ := h; simp at he; rw [← he]; exact hx
theorem mem_smay {zs : List Int} (h : smays zs = true) {x : Int} (hx : x ∈ zs) : smay x = true := by
  unfold smays at h; rw [List.all_eq_true] at h; exact h x hx
theorem sum_ge (zs : List Int) (hs : smays zs = true) (m : Int) : ∀ k : Nat, k ≤ zs.length → has (zs.take k) m = true → m ≤ sums (zs.take k) := by
  intro k
  induction k with
  | zero => intro _ h; simp [has] at h
  | succ k ih =>
    intro hk h
    have h1 := sums_le zs hs k (by omega)
    have h2 := (smay_iff _).1 (smays_get hs k (by omega))
    rw [has_succ zs m k (by omega), Bool.or_eq_true] at h
    rw [sums_succ zs k (by omega)]
    rcases h with h | h
    · have := ih (by omega) h; omega
    · simp at h; omega
theorem cl_le {n d k : Int} (hd : 0 < d) (h : n ≤ k * d) : cl n d ≤ k := by
  unfold cl
  have e := Int.mul_ediv_add_emod n d
  have h1 := Int.emod_nonneg n (show d ≠ 0 by omega)
  split
  · rename_i h0
    rw [h0, Int.add_zero] at e
    rw [← e, Int.mul_comm] at h
    exact Int.le_of_mul_le_mul_right h hd
  · rename_i h0
    by_cases hc : n / d + 1 ≤ k
    · exact hc
    · exfalso
      have h2 : k ≤ n / d := by omega
      have h3 := Int.mul_le_mul_of_nonneg_right h2 (Int.le_of_lt hd)
      rw [Int.mul_comm (n / d)] at h3
      omega
theorem cl_nn {n d : Int} (hn : 0 ≤ n) (hd : 0 < d) : 0 ≤ cl n d := by
  have h2 : 0 ≤ n / d := Int.ediv_nonneg hn (by omega)
  rcases cl_between n d with h | h <;> rw [h] <;> omega
/-- The least share. -/
def bsh (m : Int) (zs : List Int) (bytes lmax : Int) : Int :=
  if m * (bytes * 65536) < m * (2 * pticks lmax (lsm m zs) + 2) * sums zs then 0 else cl (m * (bytes * 65536) - m * (2 * pticks lmax (lsm m zs) + 2) * sums zs) (sums zs * 65536)
structure LOK (m : Int) (zs : List Int) (bytes lmax : Int) : Prop where
  hs : smays zs = true
  hh : has zs m = true
  hn : zs.length ≤ 64
  hb : 0 ≤ bytes ∧ bytes ≤ 1099511627776
  hl : 1 ≤ lmax ∧ lmax ≤ 16384
theorem LOK.m {m bytes lmax : Int} {zs : List Int} (h : LOK m zs bytes lmax) : 1 ≤ m ∧ m ≤ 4294967295 := (smay_iff m).1 (mem_smay h.hs (has_mem h.hh))
theorem LOK.low {m bytes lmax : Int} {zs : List Int} (h : LOK m zs bytes lmax) : 1 ≤ lsm m zs ∧ lsm m zs ≤ 4294967295 := by
  rcases lsm_mem zs m with e | e
  · rw [e]; exact h.m
  · exact (smay_iff _).1 (mem_smay h.hs e)
theorem LOK.sum {m bytes lmax : Int} {zs : List Int} (h : LOK m zs bytes lmax) : m ≤ sums zs ∧ sums zs ≤ 274877906880 := by
  have h1 := sum_ge zs h.hs m zs.length (Nat.le_refl _)
  have h2 := sums_le zs h.hs zs.length (Nat.le_refl _)
  have hn := h.hn
  rw [List.take_length] at h1 h2
  have := h1 h.hh
  omega
theorem LOK.tick {m bytes lmax : Int} {zs : List Int} (h : LOK m zs bytes lmax) : 0 ≤ pticks lmax (lsm m zs) ∧ pticks lmax (lsm m zs) ≤ 1073741825 := pticks_le h.hl h.low.1
theorem LOK.prod {m bytes lmax : Int} {zs : List Int} (h : LOK m zs bytes lmax) : 0 ≤ m * (2 * pticks lmax (lsm m zs) + 2) ∧ m * (2 * pticks lmax (lsm m zs) + 2) ≤ 9223372053962522340 := by
  have h1 := h.m
  have h2 := h.tick
  refine ⟨Int.mul_nonneg (by omega) (by omega), ?_⟩
  have := Int.mul_le_mul h1.2 (show 2 * pticks lmax (lsm m zs) + 2 ≤ 2147483652 by omega) (by omega) (by decide)
  omega
theorem bsh_le {m bytes lmax : Int} {zs : List Int} (h : LOK m zs bytes lmax) : 0 ≤ bsh m zs bytes lmax ∧ bsh m zs bytes lmax ≤ bytes := by
  have h1 := h.m
  have h2 := h.sum
  have h3 := h.prod
  have hb := h.hb
  unfold bsh
  split
  · exact ⟨Int.le_refl _, hb.1⟩
  · rename_i hge
    have hL := Int.mul_nonneg h3.1 (show 0 ≤ sums zs by omega)
    refine ⟨cl_nn (by omega) (by omega), cl_le (by omega) ?_⟩
    have h4 := Int.mul_le_mul_of_nonneg_right h2.1 (show 0 ≤ bytes * 65536 by omega)
    have e : sums zs * (bytes * 65536) = bytes * (sums zs * 65536) := by rw [← Int.mul_assoc, Int.mul_comm (sums zs) bytes, Int.mul_assoc]
    omega
theorem bl_c (zs : List Int) (b o c : Nat) (m bytes lmax : Int) (w : World) (hblt : b < w.heap.size) (h : LOK m zs bytes lmax) (hc : ∀ k (h : k < zs.length), w.cell? ⟨b, o + k, none⟩ = some (.int .u64 zs[k])) :
    Calls Try.prog 28 #[.int .u64 m, .slice (some ⟨b, o, none⟩) zs.length c, .int .u64 bytes, .int .i64 lmax] w fun ee w' => ee = .returned (.tuple #[.int .u64 (bsh m zs bytes lmax), .int .i64 (0)]) ∧ Below w.heap.size w w' := by
  have h1 := h.m
  have h2 := h.sum
  have h3 := h.prod
  have ht := h.tick
  have hlo := h.low
  have hb := h.hb
  have hl := h.hl
  have k1 := bmy_c zs b o c h.hn w hc
  rw [h.hs] at k1
  have k2 := con_c zs b o c m (by have := h.hn; omega) w hc
  rw [h.hh] at k2
  have k3 := ble_c m zs b o c (by have := h.hn; omega) w hc
  have k4 := up_c lmax 65536 (lsm m zs) (by unfold In; omega) (by unfold In; omega) (by unfold In; omega) hlo.1
  have hh : hi (cl (lmax * 65536) (lsm m zs)) = 0 := by unfold pticks at ht; unfold hi; omega
  have hl' : lo (cl (lmax * 65536) (lsm m zs)) = cl (lmax * 65536) (lsm m zs) := by unfold pticks at ht; unfold lo; omega
  rw [nv_ok hh, ne_ok hh, hl'] at k4
  have k5 : ∀ z, Below w.heap.size w z → Calls Try.prog 60 #[.slice (some ⟨b, o, none⟩) zs.length c] z fun ee w' => ee = .returned (.int .u64 (sums zs)) ∧ z = w' :=
    fun z hz => bsu_c zs b o c h.hn h.hs z (fun k hk => (hz.cell (p := ⟨b, o + k, none⟩) hblt).trans (hc k hk))
  have k6 := mul_c m (bytes * 65536) (by unfold In; omega) (by unfold In; omega)
  have k7 := mul_c (m * (2 * pticks lmax (lsm m zs) + 2)) (sums zs) (by unfold In; omega) (by unfold In; omega)
  have hS : Wd (m * (bytes * 65536)) := wd_mul (by unfold In; omega) (by unfold In; omega)
  have hLx : Wd (m * (2 * pticks lmax (lsm m zs) + 2) * sums zs) := wd_mul (by unfold In; omega) (by unfold In; omega)
  have hle := bsh_le h
  unfold bsh at hle ⊢
  have k := bl_ok zs b o c m bytes lmax (lsm m zs) (pticks lmax (lsm m zs)) (sums zs) (m * (bytes * 65536)) (m * (2 * pticks lmax (lsm m zs) + 2) * sums zs) (m * (bytes * 65536) - m * (2 * pticks lmax (lsm m zs) + 2) * sums zs)
  generalize hPe : m * (2 * pticks lmax (lsm m zs) + 2) = P at *
  generalize hSe : m * (bytes * 65536) = S at *
  generalize hLe : P * sums zs = Lx at *
  have k8 := fun w => sub_c (hi S) (lo S) (hi Lx) (lo Lx) (hi_in _) (lo_in _) (hi_in _) (lo_in _) w
  simp only [val_wd hS, val_wd hLx] at k8
  by_cases hlt : S < Lx
  · have e2 : decide (cmp S Lx < 0) = true := by rw [cmp_lt' hlt]; rfl
    rw [e2] at k8
    rw [if_pos hlt]
    exact k 0 0 true w hl hb (by rw [wrap_u64]; omega) (by rw [wrap_u64]; omega) (by rw [wrap_u64]; omega) (by rw [wrap_u64]; omega) k1 k2 k3 k4 k5 k6 k7 k8 (fun h => by cases h)
  · have e2 : decide (cmp S Lx < 0) = false := by
      by_cases he : S = Lx
      · rw [he, cmp_self']; rfl
      · rw [cmp_gt' (by omega)]; rfl
    rw [e2] at k8
    rw [if_neg hlt] at hle ⊢
    have hD : Wd (S - Lx) := by unfold Wd at *; omega
    have k9 := ceil_c (hi (S - Lx)) (lo (S - Lx)) (sums zs * 65536) (hi_in _) (lo_in _) (by unfold In; omega) (by omega)
    simp only [val_wd hD] at k9
    have hh2 : hi (cl (S - Lx) (sums zs * 65536)) = 0 := by unfold hi; omega
    have hl2 : lo (cl (S - Lx) (sums zs * 65536)) = cl (S - Lx) (sums zs * 65536) := by unfold lo; omega
    rw [nv_ok hh2, ne_ok hh2, hl2] at k9
    exact k _ 0 false w hl hb (by rw [wrap_u64]; omega) (by rw [wrap_u64]; omega) (by rw [wrap_u64]; omega) (by rw [wrap_u64]; omega) k1 k2 k3 k4 k5 k6 k7 k8 (fun _ => k9)
end Go.Proofs.Ytfplniooncdjdaa
