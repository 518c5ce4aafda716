import Derived.Test.YtohdcpkacdaanaaRing3
namespace Go.Proofs.Ytohdcpkacdaanaa
set_option linter.unusedVariables false
set_option linter.unusedSimpArgs false
set_option maxRecDepth 100000
open Go.RowKit Fg Reg

set_option maxHeartbeats 1000000 in
theorem pair_in (x s : Nat) (x0 x1 x2 x3 : Nat → Value) (w : World)
    (k0 : Calls Try.prog 23 #[.int .i64 2] w fun e w' => e = .returned (.tuple #[.pointer (some ⟨x, 0, none⟩), .int .i64 0]) ∧ TR w w' x s 2 0 0 x0)
    (k1 : ∀ z, TR w z x s 2 0 0 x0 → Calls Try.prog 25 #[.pointer (some ⟨x, 0, none⟩), .int .i64 1] z fun e z' => e = .returned (.int .i64 0) ∧ TR w z' x s 2 0 1 x1)
    (k2 : ∀ z, TR w z x s 2 0 1 x1 → Calls Try.prog 25 #[.pointer (some ⟨x, 0, none⟩), .int .i64 2] z fun e z' => e = .returned (.int .i64 0) ∧ TR w z' x s 2 0 2 x2)
    (k3 : ∀ z, TR w z x s 2 0 2 x2 → Calls Try.prog 25 #[.pointer (some ⟨x, 0, none⟩), .int .i64 3] z fun e z' => e = .returned (.int .i64 5) ∧ TR w z' x s 2 0 2 x2)
    (k4 : ∀ z, TR w z x s 2 0 2 x2 → Calls Try.prog 24 #[.pointer (some ⟨x, 0, none⟩)] z fun e z' => e = .returned (.tuple #[.int .i64 1, .int .i64 0]) ∧ TR w z' x s 2 1 1 x3)
    (k5 : ∀ z, TR w z x s 2 1 1 x3 → Calls Try.prog 28 #[.pointer (some ⟨x, 0, none⟩), .int .i64 0] z fun e z' => e = .returned (.tuple #[.int .i64 2, .int .i64 0]) ∧ TR w z' x s 2 1 1 x3)
    (k6 : ∀ z, TR w z x s 2 1 1 x3 → Calls Try.prog 26 #[.pointer (some ⟨x, 0, none⟩)] z fun e z' => e = .returned (.int .i64 1) ∧ TR w z' x s 2 1 1 x3)
    (k7 : ∀ z, TR w z x s 2 1 1 x3 → Calls Try.prog 27 #[.pointer (some ⟨x, 0, none⟩)] z fun e z' => e = .returned (.int .i64 1) ∧ TR w z' x s 2 1 1 x3) :
    Calls Try.prog 22 #[] w fun ee w' => ee = .returned (.bool true) ∧ Below w.heap.size w w' := by
  have K0 := Lib.hid k0
  have K1 := Lib.hid k1
  have K2 := Lib.hid k2
  have K3 := Lib.hid k3
  have K4 := Lib.hid k4
  have K5 := Lib.hid k5
  have K6 := Lib.hid k6
  have K7 := Lib.hid k7
  clear k0 k1 k2 k3 k4 k5 k6 k7
  go_enter Try.func22, Try.ntmps22
  go_wp2_with (first
    | (go_at_call 23; (with_reducible refine (K0.out).mono ?_); rintro e w1 ⟨rfl, hT⟩)
    | (go_at_call 25; first
      | ((with_reducible refine (K1.out _ hT).mono ?_); clear hT; rintro e w2 ⟨rfl, hT⟩)
      | ((with_reducible refine (K2.out _ hT).mono ?_); clear hT; rintro e w3 ⟨rfl, hT⟩)
      | ((with_reducible refine (K3.out _ hT).mono ?_); clear hT; rintro e w4 ⟨rfl, hT⟩))
    | (go_at_call 24; (with_reducible refine (K4.out _ hT).mono ?_); clear hT; rintro e w5 ⟨rfl, hT⟩)
    | (go_at_call 28; (with_reducible refine (K5.out _ hT).mono ?_); clear hT; rintro e w6 ⟨rfl, hT⟩)
    | (go_at_call 26; (with_reducible refine (K6.out _ hT).mono ?_); clear hT; rintro e w7 ⟨rfl, hT⟩)
    | (go_at_call 27; (with_reducible refine (K7.out _ hT).mono ?_); clear hT; rintro e w8 ⟨rfl, hT⟩))
  go_ret
  exact ⟨rfl, hT.2.1⟩
theorem pair_c (w : World) : Calls Try.prog 22 #[] w fun ee w' => ee = .returned (.bool true) ∧ Below w.heap.size w w' :=
  pair_in (w.heap.size + 1) w.heap.size (fun _ => .int .i64 0) (upd (fun _ => .int .i64 0) 0 (.int .i64 1)) (upd (upd (fun _ => .int .i64 0) 0 (.int .i64 1)) 1 (.int .i64 2)) (upd (upd (upd (fun _ => .int .i64 0) 0 (.int .i64 1)) 1 (.int .i64 2)) 0 (.int .i64 0)) w
    (newT 2 (by omega) (by omega) w) (fun z h => pushT h (by omega)) (fun z h => pushT h (by omega)) (fun z h => fullT h) (fun z h => popT h (by omega)) (fun z h => atT 0 h (by omega)) (fun z h => lenT h) (fun z h => roomT h)

theorem ringNil_law (i : Int) (w0 : (Lit.int .i64 i).wf = true) (w : World) : Calls Try.prog 8 #[.int .i64 i] w fun e w' => e = .returned (.bool true) ∧ Below w.heap.size w w' := by
  clear w0
  go_enter Try.func8, Try.ntmps8
  go_wp2_with (first | (go_at_call 24; ((with_reducible refine (rpop_nil _).mono ?_); rintro e w1 ⟨rfl, hbel⟩; obtain ⟨hcc, hff⟩ := bcell hbel; have hsz := hbel.size; (try simp at hsz); have hF : Below w.heap.size w w1 := (by ((repeat' apply And.intro) <;> first | (simp [go_sem, *]; done) | omega | (repeat' (first | with_reducible exact Below.refl _ _ | with_reducible assumption | ((with_reducible refine Below.drew ?_)) | ((with_reducible refine below_drewN ?_ _)) | ((with_reducible refine Below.alloc ?_ ?_ _); rotate_left; focus (first | omega | (simp; done) | (simp; omega))) | ((with_reducible refine Below.setCell ?_ ?_ _); rotate_left; focus (first | omega | (simp; done) | (simp; omega))) | ((with_reducible refine Below.trans ?_ (Below.mono (by with_reducible assumption) ?_)); rotate_left; focus (first | omega | (simp; done) | (simp; omega))))))); go_split_ands; clear hcc hff hbel)) | (go_at_call 28; ((with_reducible refine (rat_nil _ _).mono ?_); rintro e w2 ⟨rfl, hbel⟩; obtain ⟨hcc, hff⟩ := bcell hbel; have hsz := hbel.size; (try simp at hsz); have hF : Below w.heap.size w w2 := (by ((repeat' apply And.intro) <;> first | (simp [go_sem, *]; done) | omega | (repeat' (first | with_reducible exact Below.refl _ _ | with_reducible assumption | ((with_reducible refine Below.drew ?_)) | ((with_reducible refine below_drewN ?_ _)) | ((with_reducible refine Below.alloc ?_ ?_ _); rotate_left; focus (first | omega | (simp; done) | (simp; omega))) | ((with_reducible refine Below.setCell ?_ ?_ _); rotate_left; focus (first | omega | (simp; done) | (simp; omega))) | ((with_reducible refine Below.trans ?_ (Below.mono (by with_reducible assumption) ?_)); rotate_left; focus (first | omega | (simp; done) | (simp; omega))))))); go_split_ands; clear hcc hff hbel)) | (go_at_call 25; ((with_reducible refine (rpush_nil _ _).mono ?_); rintro e w3 ⟨rfl, hbel⟩; obtain ⟨hcc, hff⟩ := bcell hbel; have hsz := hbel.size; (try simp at hsz); have hF : Below w.heap.size w w3 := (by ((repeat' apply And.intro) <;> first | (simp [go_sem, *]; done) | omega | (repeat' (first | with_reducible exact Below.refl _ _ | with_reducible assumption | ((with_reducible refine Below.drew ?_)) | ((with_reducible refine below_drewN ?_ _)) | ((with_reducible refine Below.alloc ?_ ?_ _); rotate_left; focus (first | omega | (simp; done) | (simp; omega))) | ((with_reducible refine Below.setCell ?_ ?_ _); rotate_left; focus (first | omega | (simp; done) | (simp; omega))) | ((with_reducible refine Below.trans ?_ (Below.mono (by with_reducible assumption) ?_)); rotate_left; focus (first | omega | (simp; done) | (simp; omega))))))); go_split_ands; clear hcc hff hbel)) | (go_at_call 26; ((with_reducible refine (rlen_nil _).mono ?_); rintro e w4 ⟨rfl, hbel⟩; obtain ⟨hcc, hff⟩ := bcell hbel; have hsz := hbel.size; (try simp at hsz); have hF : Below w.heap.size w w4 := (by ((repeat' apply And.intro) <;> first | (simp [go_sem, *]; done) | omega | (repeat' (first | with_reducible exact Below.refl _ _ | with_reducible assumption | ((with_reducible refine Below.drew ?_)) | ((with_reducible refine below_drewN ?_ _)) | ((with_reducible refine Below.alloc ?_ ?_ _); rotate_left; focus (first | omega | (simp; done) | (simp; omega))) | ((with_reducible refine Below.setCell ?_ ?_ _); rotate_left; focus (first | omega | (simp; done) | (simp; omega))) | ((with_reducible refine Below.trans ?_ (Below.mono (by with_reducible assumption) ?_)); rotate_left; focus (first | omega | (simp; done) | (simp; omega))))))); go_split_ands; clear hcc hff hbel)) | (go_at_call 27; ((with_reducible refine (rroom_nil _).mono ?_); rintro e w5 ⟨rfl, hbel⟩; obtain ⟨hcc, hff⟩ := bcell hbel; have hsz := hbel.size; (try simp at hsz); have hF : Below w.heap.size w w5 := (by ((repeat' apply And.intro) <;> first | (simp [go_sem, *]; done) | omega | (repeat' (first | with_reducible exact Below.refl _ _ | with_reducible assumption | ((with_reducible refine Below.drew ?_)) | ((with_reducible refine below_drewN ?_ _)) | ((with_reducible refine Below.alloc ?_ ?_ _); rotate_left; focus (first | omega | (simp; done) | (simp; omega))) | ((with_reducible refine Below.setCell ?_ ?_ _); rotate_left; focus (first | omega | (simp; done) | (simp; omega))) | ((with_reducible refine Below.trans ?_ (Below.mono (by with_reducible assumption) ?_)); rotate_left; focus (first | omega | (simp; done) | (simp; omega))))))); go_split_ands; clear hcc hff hbel)) | (go_at_call 22; ((with_reducible refine (pair_c _).mono ?_); rintro e w6 ⟨rfl, hbel⟩; obtain ⟨hcc, hff⟩ := bcell hbel; have hsz := hbel.size; (try simp at hsz); have hF : Below w.heap.size w w6 := (by ((repeat' apply And.intro) <;> first | (simp [go_sem, *]; done) | omega | (repeat' (first | with_reducible exact Below.refl _ _ | with_reducible assumption | ((with_reducible refine Below.drew ?_)) | ((with_reducible refine below_drewN ?_ _)) | ((with_reducible refine Below.alloc ?_ ?_ _); rotate_left; focus (first | omega | (simp; done) | (simp; omega))) | ((with_reducible refine Below.setCell ?_ ?_ _); rotate_left; focus (first | omega | (simp; done) | (simp; omega))) | ((with_reducible refine Below.trans ?_ (Below.mono (by with_reducible assumption) ?_)); rotate_left; focus (first | omega | (simp; done) | (simp; omega))))))); go_split_ands; clear hcc hff hbel)))
  (go_ret; refine ⟨?_, ?_⟩; (focus (exact rfl)); ((repeat' (first | with_reducible exact Below.refl _ _ | with_reducible assumption | ((with_reducible refine Below.drew ?_)) | ((with_reducible refine below_drewN ?_ _)) | ((with_reducible refine Below.alloc ?_ ?_ _); rotate_left; focus (first | omega | (simp; done) | (simp; omega))) | ((with_reducible refine Below.setCell ?_ ?_ _); rotate_left; focus (first | omega | (simp; done) | (simp; omega))) | ((with_reducible refine Below.trans ?_ (Below.mono (by with_reducible assumption) ?_)); rotate_left; focus (first | omega | (simp; done) | (simp; omega))))); done))
end Go.Proofs.Ytohdcpkacdaanaa
