/- Law 27's example; StatsNil. -/
import Derived.Test.YtnpidbodeebnkaaSt4
import Derived.Test.YtnpidbodeebnkaaOpenA
namespace Go.Proofs.Ytnpidbodeebnkaa
set_option linter.unusedVariables false
set_option linter.unusedSimpArgs false
set_option maxRecDepth 100000
open Go.RowKit Fg Reg
attribute [local irreducible] Reg.wN Reg.wE QS

theorem came_nil (cl at' : Int) (w : World) : Calls Try.prog 6 #[.pointer none, .int .i64 cl, .int .u64 at'] w fun ee w' => ee = .returned (.int .i64 7) ∧ Below w.heap.size w w' := by
  go_enter Try.func6, Try.ntmps6
  go_wp2
  (go_ret; refine ⟨?_, ?_⟩; (focus (exact rfl)); ((repeat' (first | with_reducible exact Below.refl _ _ | with_reducible assumption | ((with_reducible refine Below.drew ?_)) | ((with_reducible refine below_drewN ?_ _)) | ((with_reducible refine Below.alloc ?_ ?_ _); rotate_left; focus (first | omega | (simp; done) | (simp; omega))) | ((with_reducible refine Below.setCell ?_ ?_ _); rotate_left; focus (first | omega | (simp; done) | (simp; omega))) | ((with_reducible refine Below.trans ?_ (Below.mono (by with_reducible assumption) ?_)); rotate_left; focus (first | omega | (simp; done) | (simp; omega))))); done))
theorem went_nil (cl at' ln : Int) (rl : Bool) (w : World) : Calls Try.prog 8 #[.pointer none, .int .i64 cl, .int .u64 at', .int .i64 ln, .bool rl] w fun ee w' => ee = .returned (.int .i64 7) ∧ Below w.heap.size w w' := by
  go_enter Try.func8, Try.ntmps8
  go_wp2
  (go_ret; refine ⟨?_, ?_⟩; (focus (exact rfl)); ((repeat' (first | with_reducible exact Below.refl _ _ | with_reducible assumption | ((with_reducible refine Below.drew ?_)) | ((with_reducible refine below_drewN ?_ _)) | ((with_reducible refine Below.alloc ?_ ?_ _); rotate_left; focus (first | omega | (simp; done) | (simp; omega))) | ((with_reducible refine Below.setCell ?_ ?_ _); rotate_left; focus (first | omega | (simp; done) | (simp; omega))) | ((with_reducible refine Below.trans ?_ (Below.mono (by with_reducible assumption) ?_)); rotate_left; focus (first | omega | (simp; done) | (simp; omega))))); done))
theorem srow_nil (cl : Int) (w : World) : Calls Try.prog 11 #[.pointer none, .int .i64 cl] w fun ee w' => ee = .returned (.agg #[.int .u64 0, .int .u64 0, .int .u64 0, .int .u64 0, .int .u64 0]) ∧ Below w.heap.size w w' := by
  go_enter Try.func11, Try.ntmps11
  go_wp2
  refine bodyPost_ret (v := .agg #[.int .u64 0, .int .u64 0, .int .u64 0, .int .u64 0, .int .u64 0]) (by simp [results, Try.results11, go_sem, *]) rfl ⟨rfl, (by repeat' (first | with_reducible exact Below.refl _ _ | with_reducible assumption | ((with_reducible refine Below.drew ?_)) | ((with_reducible refine below_drewN ?_ _)) | ((with_reducible refine Below.alloc ?_ ?_ _); rotate_left; focus (first | omega | (simp; done) | (simp; omega))) | ((with_reducible refine Below.setCell ?_ ?_ _); rotate_left; focus (first | omega | (simp; done) | (simp; omega))) | ((with_reducible refine Below.trans ?_ (Below.mono (by with_reducible assumption) ?_)); rotate_left; focus (first | omega | (simp; done) | (simp; omega)))))⟩
theorem wait_nil (cl : Int) (w : World) : Calls Try.prog 14 #[.pointer none, .int .i64 cl] w fun ee w' => ee = .returned (.int .i64 0) ∧ Below w.heap.size w w' := by
  go_enter Try.func14, Try.ntmps14
  go_wp2
  (go_ret; refine ⟨?_, ?_⟩; (focus (exact rfl)); ((repeat' (first | with_reducible exact Below.refl _ _ | with_reducible assumption | ((with_reducible refine Below.drew ?_)) | ((with_reducible refine below_drewN ?_ _)) | ((with_reducible refine Below.alloc ?_ ?_ _); rotate_left; focus (first | omega | (simp; done) | (simp; omega))) | ((with_reducible refine Below.setCell ?_ ?_ _); rotate_left; focus (first | omega | (simp; done) | (simp; omega))) | ((with_reducible refine Below.trans ?_ (Below.mono (by with_reducible assumption) ?_)); rotate_left; focus (first | omega | (simp; done) | (simp; omega))))); done))
theorem clas_nil (w : World) : Calls Try.prog 18 #[.pointer none] w fun ee w' => ee = .returned (.slice none 0 0) ∧ Below w.heap.size w w' := by
  go_enter Try.func18, Try.ntmps18
  go_wp2
  (go_ret; refine ⟨?_, ?_⟩; (focus (exact rfl)); ((repeat' (first | with_reducible exact Below.refl _ _ | with_reducible assumption | ((with_reducible refine Below.drew ?_)) | ((with_reducible refine below_drewN ?_ _)) | ((with_reducible refine Below.alloc ?_ ?_ _); rotate_left; focus (first | omega | (simp; done) | (simp; omega))) | ((with_reducible refine Below.setCell ?_ ?_ _); rotate_left; focus (first | omega | (simp; done) | (simp; omega))) | ((with_reducible refine Below.trans ?_ (Below.mono (by with_reducible assumption) ?_)); rotate_left; focus (first | omega | (simp; done) | (simp; omega))))); done))
theorem stot_nil (w : World) : Calls Try.prog 16 #[.pointer none] w fun ee w' => ee = .returned (.agg #[.int .u64 0, .int .u64 0, .int .u64 0, .int .u64 0, .int .u64 0]) ∧ Below w.heap.size w w' := by
  go_enter Try.func16, Try.ntmps16
  go_wp2
  refine bodyPost_ret (v := .agg #[.int .u64 0, .int .u64 0, .int .u64 0, .int .u64 0, .int .u64 0]) (by simp [results, Try.results16, go_sem, *]) rfl ⟨rfl, (by repeat' (first | with_reducible exact Below.refl _ _ | with_reducible assumption | ((with_reducible refine Below.drew ?_)) | ((with_reducible refine below_drewN ?_ _)) | ((with_reducible refine Below.alloc ?_ ?_ _); rotate_left; focus (first | omega | (simp; done) | (simp; omega))) | ((with_reducible refine Below.setCell ?_ ?_ _); rotate_left; focus (first | omega | (simp; done) | (simp; omega))) | ((with_reducible refine Below.trans ?_ (Below.mono (by with_reducible assumption) ?_)); rotate_left; focus (first | omega | (simp; done) | (simp; omega)))))⟩
theorem ok3 : iok 3 := show (Lit.int .i64 3).wf = true by decide
theorem came_0 {w z : World} {p mw mr : Nat} {cl : Int} {row : Option R5} {g : Nat → Value} (h : S0 w z p mw mr cl none row) (hc : iok cl) (at' : Int) :
    Calls Try.prog 6 #[.pointer (some ⟨p, 0, none⟩), .int .i64 cl, .int .u64 at'] z fun e z' => e = .returned (.int .i64 0) ∧ ∃ v', S0 w z' p mw mr cl (some v') row ∧ QS z' (p + 1) v' (0 + 1) (fun j => if j = 0 then .int .u64 at' else g j) :=
  came_c h (QS.nil z (p + 1) g) (by omega) hc at'
theorem came_1 {w z : World} {p mw mr : Nat} {cl : Int} {v : Value} {row : Option R5} {m : Nat} {g : Nat → Value} (h : S0 w z p mw mr cl (some v) row) (hq : QS z (p + 1) v m g) (hm : m ≤ 1000) (hc : iok cl) (at' : Int) :
    Calls Try.prog 6 #[.pointer (some ⟨p, 0, none⟩), .int .i64 cl, .int .u64 at'] z fun e z' => e = .returned (.int .i64 0) ∧ ∃ v', S0 w z' p mw mr cl (some v') row ∧ QS z' (p + 1) v' (m + 1) (fun j => if j = m then .int .u64 at' else g j) :=
  came_c h hq hm hc at'
theorem wait_1 {w z : World} {p mw mr : Nat} {cl : Int} {v : Value} {row : Option R5} {m : Nat} {g : Nat → Value} (h : S0 w z p mw mr cl (some v) row) (hq : QS z (p + 1) v m g) (hc : iok cl) :
    Calls Try.prog 14 #[.pointer (some ⟨p, 0, none⟩), .int .i64 cl] z fun e z' => e = .returned (.int .i64 m) ∧ Below z.heap.size z z' := waiting_c h hq hc
theorem tog_15 : tog r50 ⟨1, 100, 1, 20 - 5, 20 - 5⟩ = ⟨1, 100, 1, 15, 15⟩ := rfl
theorem eqR5 (w : World) : (Op.equalIn 10000 39 (.agg #[.int .u64 1, .int .u64 100, .int .u64 1, .int .u64 15, .int .u64 15]) (.agg #[.int .u64 1, .int .u64 100, .int .u64 1, .int .u64 15, .int .u64 15])).run Try.prog w = .ok true w := by kernel_rfl
theorem eqRz (w : World) : (Op.equalIn 10000 39 (.agg #[.int .u64 0, .int .u64 0, .int .u64 0, .int .u64 0, .int .u64 0]) (.agg #[.int .u64 0, .int .u64 0, .int .u64 0, .int .u64 0, .int .u64 0])).run Try.prog w = .ok true w := by kernel_rfl
set_option maxHeartbeats 4000000 in
theorem fifteen_c (w : World) : Calls Try.prog 4 #[] w fun ee w' => ee = .returned (.bool true) ∧ Below w.heap.size w w' := by
  have HE := eqR5
  have KN := Lib.hid (snew_c 3)
  have KC0 := Lib.hid (fun z h => came_0 (w := w) (z := z) (p := w.heap.size + 2) (mw := w.heap.size) (mr := w.heap.size + 1) (row := none) (g := fun _ => undef) h ok3 5)
  have KC1 := Lib.hid (fun z v h hq => came_1 (w := w) (z := z) (p := w.heap.size + 2) (mw := w.heap.size) (mr := w.heap.size + 1) (v := v) (row := none) (m := 0 + 1) (g := fun j => if j = 0 then .int .u64 5 else undef) h hq (by omega) ok3 7)
  have KW := Lib.hid (fun z v h hq => (show Calls Try.prog 8 #[.pointer (some ⟨w.heap.size + 2, 0, none⟩), .int .i64 3, .int .u64 20, .int .i64 100, .bool true] z fun e z' => e = .returned (.int .i64 0) ∧ ∃ v', S0 w z' (w.heap.size + 2) w.heap.size (w.heap.size + 1) 3 (some v') (some ⟨1, 100, 1, 15, 15⟩) ∧ QS z' (w.heap.size + 2 + 1) v' 1 (fun j => if j + 1 = 1 then .int .u64 7 else (if j + 1 = 0 then .int .u64 5 else undef)) by
    have := went_c (w := w) (z := z) (p := w.heap.size + 2) (mw := w.heap.size) (mr := w.heap.size + 1) (cl := 3) (wv := none) (row := none) (v := v) (m := 0 + 1 + 1) (g := fun j => if j = 0 + 1 then .int .u64 7 else (if j = 0 then .int .u64 5 else undef)) h hq (by omega) (by omega) ok3 5 20 100 rfl (by omega) (by omega) (by omega) (by omega) (by omega) true
    exact this))
  have KQ := Lib.hid (fun z v h hq => wait_1 (w := w) (z := z) (p := w.heap.size + 2) (mw := w.heap.size) (mr := w.heap.size + 1) (cl := 3) (v := v) (row := some ⟨1, 100, 1, 15, 15⟩) (m := 1) (g := fun j => if j + 1 = 1 then .int .u64 7 else (if j + 1 = 0 then .int .u64 5 else undef)) h hq ok3)
  have KR := Lib.hid (fun z v h => (show Calls Try.prog 11 #[.pointer (some ⟨w.heap.size + 2, 0, none⟩), .int .i64 3] z fun e z' => e = .returned (.agg #[.int .u64 1, .int .u64 100, .int .u64 1, .int .u64 15, .int .u64 15]) ∧ Below z.heap.size z z' from row_c (w := w) (z := z) (p := w.heap.size + 2) (mw := w.heap.size) (mr := w.heap.size + 1) (cl := 3) (wv := some v) (row := some ⟨1, 100, 1, 15, 15⟩) h ok3))
  have KL := Lib.hid (fun z v h => classes_c (w := w) (z := z) (p := w.heap.size + 2) (mw := w.heap.size) (mr := w.heap.size + 1) (cl := 3) (wv := none) (row := some ⟨1, 100, 1, 15, 15⟩) (v := v) h)
  have KI := Lib.hid (fun a1 a2 c1 c2 z h1 h2 => (show Calls Try.prog 17 #[.slice a1 1 c1, .slice a2 1 c2] z fun e z' => e = .returned (.bool true) ∧ Below z.heap.size z z' from ints_same [3] a1 a2 c1 c2 (by decide) z h1 h2))
  go_enter Try.func4, Try.ntmps4
  go_wp2_with (first
    | (go_at_call 5; ((with_reducible refine (KN.out _).mono ?_); rintro e w1 ⟨rfl, hS⟩))
    | (go_at_call 6; ((with_reducible refine (KC0.out _ hS).mono ?_); clear hS; rintro e w2 ⟨rfl, v2, hS, hQ⟩))
    | (go_at_call 6; ((with_reducible refine (KC1.out _ _ hS hQ).mono ?_); clear hS hQ; rintro e w3 ⟨rfl, v3, hS, hQ⟩))
    | (go_at_call 8; ((with_reducible refine (KW.out _ _ hS hQ).mono ?_); clear hS hQ; rintro e w4 ⟨rfl, v4, hS, hQ⟩))
    | (go_at_call 14; ((with_reducible refine (KQ.out _ _ hS hQ).mono ?_); rintro e w5 ⟨rfl, hb⟩; replace hS := hS.below hb; clear hb))
    | (go_at_call 11; ((with_reducible refine (KR.out _ _ hS).mono ?_); rintro e w6 ⟨rfl, hb⟩; replace hS := hS.below hb; clear hb))
    | (go_at_call 18; ((with_reducible refine (KL.out _ _ hS).mono ?_); rintro e w7 ⟨⟨a7, c7, rfl, hR7⟩, hb⟩; replace hS := hS.below hb; clear hb))
    | (go_at_call 17; ((with_reducible refine (KI.out _ _ _ _ _ (RwV.below hR7 (Below.alloc (Below.refl _ _) (Nat.le_refl _) _)) ?_).mono ?_); (focus (intro k hk; obtain rfl : k = 0 := (by simpa using hk); refine ⟨_, 0, rfl, (by simp), fun j v hv => ?_⟩; rcases j with _ | j <;> simp at hv <;> (try subst hv) <;> simp [go_sem])); rintro e w8 ⟨rfl, hb⟩; replace hS := (hS.below (Below.alloc (Below.refl _ _) (Nat.le_refl _) _)).below hb; clear hb)))
  go_ret
  exact ⟨rfl, hS.bel⟩
end Go.Proofs.Ytnpidbodeebnkaa
