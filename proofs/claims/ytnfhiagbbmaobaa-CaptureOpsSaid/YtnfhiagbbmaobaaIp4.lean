/- The reference's sum, bytes, options and numbers; what options are filled up with. -/
import Derived.Test.YtnfhiagbbmaobaaIp3
namespace Go.Proofs.Ytnfhiagbbmaobaa
set_option linter.unusedVariables false
set_option linter.unusedSimpArgs false
set_option maxRecDepth 100000
open Go.RowKit Fg Reg
attribute [local irreducible] Reg.wE Reg2.wT

/-- Options, filled up to whole words. -/
def fil (O : ByteArray) : ByteArray := O ++ strOf (List.replicate ((4 - O.size % 4) % 4) 0)
theorem fil_size (O : ByteArray) : (fil O).size = O.size + (4 - O.size % 4) % 4 := by
  unfold fil; rw [app_size, strOf_size, List.length_replicate]
theorem fil_four (O : ByteArray) : (fil O).size % 4 = 0 := by rw [fil_size]; omega
theorem fil_same (O : ByteArray) (h : O.size % 4 = 0) : fil O = O := by
  unfold fil
  rw [h]
  apply ByteArray.ext
  rw [ByteArray.data_append, strOf_eq]
  simp
theorem conv_new (ns : List Int) (n c : Nat) (hn : ns.length = n) (W : World) (b : Nat) (hb : b = W.heap.size) : (convert 43 9 (.slice (some ⟨b, 0, none⟩) n c)).run Try.prog (W.alloc (.cells (ns.map (Value.int .u8)).toArray 5)) = .ok (.string (strOf ns)) (W.alloc (.cells (ns.map (Value.int .u8)).toArray 5)) :=
  run_dec _ _ 0 n c ns hn fun j x hj => by
    unfold World.cell?
    rw [Nat.zero_add, hb, heap_alloc_new]
    simp [hj]
theorem mk0 (W : World) : (Instr.makeSlice 43 (.int .i64 0) (.int .i64 0)).run Try.prog W = .ok (.slice (some ⟨W.heap.size, 0, none⟩) 0 0) (W.alloc (.cells (#[] : Array Value) 5)) := by
  have h := run_make_row' (P := Try.prog) 43 5 (.int .u8 0) 1 Try.underlying43 (by kernel_rfl) rfl .i64 .i64 0 (by omega) (by omega) W
  rw [show madeCells #[Value.int .u8 0] 0 = (#[] : Array Value) by kernel_rfl] at h
  exact h
theorem cv0 (W : World) (b : Nat) (hb : b = W.heap.size) : (convert 43 9 (.slice (some ⟨b, 0, none⟩) 0 0)).run Try.prog (W.alloc (.cells (#[] : Array Value) 5)) = .ok (.string (strOf (List.replicate 0 0))) (W.alloc (.cells (#[] : Array Value) 5)) :=
  conv_new (List.replicate 0 0) 0 0 (by simp) W b hb
theorem mk1 (W : World) : (Instr.makeSlice 43 (.int .i64 1) (.int .i64 1)).run Try.prog W = .ok (.slice (some ⟨W.heap.size, 0, none⟩) 1 1) (W.alloc (.cells #[.int .u8 0] 5)) := by
  have h := run_make_row' (P := Try.prog) 43 5 (.int .u8 0) 1 Try.underlying43 (by kernel_rfl) rfl .i64 .i64 1 (by omega) (by omega) W
  rw [show madeCells #[Value.int .u8 0] 1 = #[.int .u8 0] by kernel_rfl] at h
  exact h
theorem cv1 (W : World) (b : Nat) (hb : b = W.heap.size) : (convert 43 9 (.slice (some ⟨b, 0, none⟩) 1 1)).run Try.prog (W.alloc (.cells #[.int .u8 0] 5)) = .ok (.string (strOf (List.replicate 1 0))) (W.alloc (.cells #[.int .u8 0] 5)) :=
  conv_new (List.replicate 1 0) 1 1 (by simp) W b hb
theorem mk2 (W : World) : (Instr.makeSlice 43 (.int .i64 2) (.int .i64 2)).run Try.prog W = .ok (.slice (some ⟨W.heap.size, 0, none⟩) 2 2) (W.alloc (.cells #[.int .u8 0, .int .u8 0] 5)) := by
  have h := run_make_row' (P := Try.prog) 43 5 (.int .u8 0) 1 Try.underlying43 (by kernel_rfl) rfl .i64 .i64 2 (by omega) (by omega) W
  rw [show madeCells #[Value.int .u8 0] 2 = #[.int .u8 0, .int .u8 0] by kernel_rfl] at h
  exact h
theorem cv2 (W : World) (b : Nat) (hb : b = W.heap.size) : (convert 43 9 (.slice (some ⟨b, 0, none⟩) 2 2)).run Try.prog (W.alloc (.cells #[.int .u8 0, .int .u8 0] 5)) = .ok (.string (strOf (List.replicate 2 0))) (W.alloc (.cells #[.int .u8 0, .int .u8 0] 5)) :=
  conv_new (List.replicate 2 0) 2 2 (by simp) W b hb
theorem mk3 (W : World) : (Instr.makeSlice 43 (.int .i64 3) (.int .i64 3)).run Try.prog W = .ok (.slice (some ⟨W.heap.size, 0, none⟩) 3 3) (W.alloc (.cells #[.int .u8 0, .int .u8 0, .int .u8 0] 5)) := by
  have h := run_make_row' (P := Try.prog) 43 5 (.int .u8 0) 1 Try.underlying43 (by kernel_rfl) rfl .i64 .i64 3 (by omega) (by omega) W
  rw [show madeCells #[Value.int .u8 0] 3 = #[.int .u8 0, .int .u8 0, .int .u8 0] by kernel_rfl] at h
  exact h
theorem cv3 (W : World) (b : Nat) (hb : b = W.heap.size) : (convert 43 9 (.slice (some ⟨b, 0, none⟩) 3 3)).run Try.prog (W.alloc (.cells #[.int .u8 0, .int .u8 0, .int .u8 0] 5)) = .ok (.string (strOf (List.replicate 3 0))) (W.alloc (.cells #[.int .u8 0, .int .u8 0, .int .u8 0] 5)) :=
  conv_new (List.replicate 3 0) 3 3 (by simp) W b hb
set_option maxHeartbeats 2000000 in
theorem fill_c (O : ByteArray) (hO : O.size ≤ 1000) (w : World) : Calls Try.prog 48 #[.string O] w fun ee w' => ee = .returned (.string (fil O)) ∧ Below w.heap.size w w' := by
  have a := fun n w => run_string_add_sum (P := Try.prog) (w := w) O (strOf (List.replicate ((4 - n % 4) % 4) 0)) (by rw [strOf_size, List.length_replicate]; omega)
  have h := Nat.mod_lt O.size (show 0 < 4 by omega)
  unfold fil
  by_cases h0 : O.size % 4 = 0
  · have e1 : (O.size : Int) % 4 = 0 := by omega
    have e2 : (O.size : Int).tmod 4 = 0 := by rw [Int.tmod_eq_emod_of_nonneg (by omega)]; omega
    have a1 := a 0
    rw [show (4 - 0 % 4) % 4 = 0 from rfl] at a1
    rw [h0, show (4 - 0) % 4 = 0 from rfl]
    have m1 := mk0
    have c1 := cv0
    generalize strOf (List.replicate 0 0) = Z at *
    clear a h h0
    go_enter Try.func48, Try.ntmps48
    go_wp2
    (go_ret; refine ⟨?_, ?_⟩; (focus (exact rfl)); ((repeat' (first | with_reducible exact Below.refl _ _ | with_reducible assumption | ((with_reducible refine Below.drew ?_)) | ((with_reducible refine below_drewN ?_ _)) | ((with_reducible refine Below.alloc ?_ ?_ _); rotate_left; focus (first | omega | (simp; done) | (simp; omega))) | ((with_reducible refine Below.setCell ?_ ?_ _); rotate_left; focus (first | omega | (simp; done) | (simp; omega))) | ((with_reducible refine Below.trans ?_ (Below.mono (by with_reducible assumption) ?_)); rotate_left; focus (first | omega | (simp; done) | (simp; omega))))); done))
  by_cases h1 : O.size % 4 = 1
  · have e1 : (O.size : Int) % 4 = 1 := by omega
    have e2 : (O.size : Int).tmod 4 = 1 := by rw [Int.tmod_eq_emod_of_nonneg (by omega)]; omega
    have a1 := a 1
    rw [show (4 - 1 % 4) % 4 = 3 from rfl] at a1
    rw [h1, show (4 - 1) % 4 = 3 from rfl]
    have m1 := mk3
    have c1 := cv3
    generalize strOf (List.replicate 3 0) = Z at *
    clear a h h1
    go_enter Try.func48, Try.ntmps48
    go_wp2
    (go_ret; refine ⟨?_, ?_⟩; (focus (exact rfl)); ((repeat' (first | with_reducible exact Below.refl _ _ | with_reducible assumption | ((with_reducible refine Below.drew ?_)) | ((with_reducible refine below_drewN ?_ _)) | ((with_reducible refine Below.alloc ?_ ?_ _); rotate_left; focus (first | omega | (simp; done) | (simp; omega))) | ((with_reducible refine Below.setCell ?_ ?_ _); rotate_left; focus (first | omega | (simp; done) | (simp; omega))) | ((with_reducible refine Below.trans ?_ (Below.mono (by with_reducible assumption) ?_)); rotate_left; focus (first | omega | (simp; done) | (simp; omega))))); done))
  by_cases h2 : O.size % 4 = 2
  · have e1 : (O.size : Int) % 4 = 2 := by omega
    have e2 : (O.size : Int).tmod 4 = 2 := by rw [Int.tmod_eq_emod_of_nonneg (by omega)]; omega
    have a1 := a 2
    rw [show (4 - 2 % 4) % 4 = 2 from rfl] at a1
    rw [h2, show (4 - 2) % 4 = 2 from rfl]
    have m1 := mk2
    have c1 := cv2
    generalize strOf (List.replicate 2 0) = Z at *
    clear a h h2
    go_enter Try.func48, Try.ntmps48
    go_wp2
    (go_ret; refine ⟨?_, ?_⟩; (focus (exact rfl)); ((repeat' (first | with_reducible exact Below.refl _ _ | with_reducible assumption | ((with_reducible refine Below.drew ?_)) | ((with_reducible refine below_drewN ?_ _)) | ((with_reducible refine Below.alloc ?_ ?_ _); rotate_left; focus (first | omega | (simp; done) | (simp; omega))) | ((with_reducible refine Below.setCell ?_ ?_ _); rotate_left; focus (first | omega | (simp; done) | (simp; omega))) | ((with_reducible refine Below.trans ?_ (Below.mono (by with_reducible assumption) ?_)); rotate_left; focus (first | omega | (simp; done) | (simp; omega))))); done))
  by_cases h3 : O.size % 4 = 3
  · have e1 : (O.size : Int) % 4 = 3 := by omega
    have e2 : (O.size : Int).tmod 4 = 3 := by rw [Int.tmod_eq_emod_of_nonneg (by omega)]; omega
    have a1 := a 3
    rw [show (4 - 3 % 4) % 4 = 1 from rfl] at a1
    rw [h3, show (4 - 3) % 4 = 1 from rfl]
    have m1 := mk1
    have c1 := cv1
    generalize strOf (List.replicate 1 0) = Z at *
    clear a h h3
    go_enter Try.func48, Try.ntmps48
    go_wp2
    (go_ret; refine ⟨?_, ?_⟩; (focus (exact rfl)); ((repeat' (first | with_reducible exact Below.refl _ _ | with_reducible assumption | ((with_reducible refine Below.drew ?_)) | ((with_reducible refine below_drewN ?_ _)) | ((with_reducible refine Below.alloc ?_ ?_ _); rotate_left; focus (first | omega | (simp; done) | (simp; omega))) | ((with_reducible refine Below.setCell ?_ ?_ _); rotate_left; focus (first | omega | (simp; done) | (simp; omega))) | ((with_reducible refine Below.trans ?_ (Below.mono (by with_reducible assumption) ?_)); rotate_left; focus (first | omega | (simp; done) | (simp; omega))))); done))
  · omega
set_option maxHeartbeats 2000000 in
theorem rat2_c (S : ByteArray) (hS : 4 ≤ S.size) (hM : S.size ≤ 9223372036854775807) (w : World) : Calls Try.prog 43 #[.string S, .int .i64 2, .int .i64 2] w fun ee w' => ee = .returned (.int .i64 (hor (fun j => byt S (2 + j)) 2)) ∧ Below w.heap.size w w' := by
  have s0 : ∀ (h : 2 < S.size), (S[2]'h).toNat = (S.data[2]?.getD 0).toNat := fun h => by rw [Array.getElem?_eq_getElem (show 2 < S.data.size from h)]; rfl
  have b0 := byt_bd S 2
  have e0 : byt S 2 = ((S.data[2]?.getD 0).toNat : Int) := rfl
  have l0 : (2 : Int) < S.size := by omega
  have s1 : ∀ (h : 3 < S.size), (S[3]'h).toNat = (S.data[3]?.getD 0).toNat := fun h => by rw [Array.getElem?_eq_getElem (show 3 < S.data.size from h)]; rfl
  have b1 := byt_bd S 3
  have e1 : byt S 3 = ((S.data[3]?.getD 0).toNat : Int) := rfl
  have l1 : (3 : Int) < S.size := by omega
  have hh : hor (fun j => byt S (2 + j)) 2 = byt S 2 * 256 + byt S 3 := by simp [hor]
  rw [hh]
  clear hh
  rw [e0] at b0 ⊢
  rw [e1] at b1 ⊢
  generalize (S.data[2]?.getD 0).toNat = x0 at *
  generalize (S.data[3]?.getD 0).toNat = x1 at *
  clear e0 e1
  go_enter Try.func43, Try.ntmps43
  go_wp2_with fail
  refine wp_loop_rounds 3 ?_
  rw [rounds_succ]
  go_wp2
  rw [rounds_succ]
  go_wp2
  rw [rounds_succ]
  go_wp2
  (go_ret; refine ⟨?_, ?_⟩; (focus (exact rfl)); ((repeat' (first | with_reducible exact Below.refl _ _ | with_reducible assumption | ((with_reducible refine Below.drew ?_)) | ((with_reducible refine below_drewN ?_ _)) | ((with_reducible refine Below.alloc ?_ ?_ _); rotate_left; focus (first | omega | (simp; done) | (simp; omega))) | ((with_reducible refine Below.setCell ?_ ?_ _); rotate_left; focus (first | omega | (simp; done) | (simp; omega))) | ((with_reducible refine Below.trans ?_ (Below.mono (by with_reducible assumption) ?_)); rotate_left; focus (first | omega | (simp; done) | (simp; omega))))); done))
set_option maxHeartbeats 2000000 in
theorem rat4_c (S : ByteArray) (hS : 6 ≤ S.size) (hM : S.size ≤ 9223372036854775807) (w : World) : Calls Try.prog 43 #[.string S, .int .i64 4, .int .i64 2] w fun ee w' => ee = .returned (.int .i64 (hor (fun j => byt S (4 + j)) 2)) ∧ Below w.heap.size w w' := by
  have s0 : ∀ (h : 4 < S.size), (S[4]'h).toNat = (S.data[4]?.getD 0).toNat := fun h => by rw [Array.getElem?_eq_getElem (show 4 < S.data.size from h)]; rfl
  have b0 := byt_bd S 4
  have e0 : byt S 4 = ((S.data[4]?.getD 0).toNat : Int) := rfl
  have l0 : (4 : Int) < S.size := by omega
  have s1 : ∀ (h : 5 < S.size), (S[5]'h).toNat = (S.data[5]?.getD 0).toNat := fun h => by rw [Array.getElem?_eq_getElem (show 5 < S.data.size from h)]; rfl
  have b1 := byt_bd S 5
  have e1 : byt S 5 = ((S.data[5]?.getD 0).toNat : Int) := rfl
  have l1 : (5 : Int) < S.size := by omega
  have hh : hor (fun j => byt S (4 + j)) 2 = byt S 4 * 256 + byt S 5 := by simp [hor]
  rw [hh]
  clear hh
  rw [e0] at b0 ⊢
  rw [e1] at b1 ⊢
  generalize (S.data[4]?.getD 0).toNat = x0 at *
  generalize (S.data[5]?.getD 0).toNat = x1 at *
  clear e0 e1
  go_enter Try.func43, Try.ntmps43
  go_wp2_with fail
  refine wp_loop_rounds 3 ?_
  rw [rounds_succ]
  go_wp2
  rw [rounds_succ]
  go_wp2
  rw [rounds_succ]
  go_wp2
  (go_ret; refine ⟨?_, ?_⟩; (focus (exact rfl)); ((repeat' (first | with_reducible exact Below.refl _ _ | with_reducible assumption | ((with_reducible refine Below.drew ?_)) | ((with_reducible refine below_drewN ?_ _)) | ((with_reducible refine Below.alloc ?_ ?_ _); rotate_left; focus (first | omega | (simp; done) | (simp; omega))) | ((with_reducible refine Below.setCell ?_ ?_ _); rotate_left; focus (first | omega | (simp; done) | (simp; omega))) | ((with_reducible refine Below.trans ?_ (Below.mono (by with_reducible assumption) ?_)); rotate_left; focus (first | omega | (simp; done) | (simp; omega))))); done))
set_option maxHeartbeats 2000000 in
theorem rat6_c (S : ByteArray) (hS : 8 ≤ S.size) (hM : S.size ≤ 9223372036854775807) (w : World) : Calls Try.prog 43 #[.string S, .int .i64 6, .int .i64 2] w fun ee w' => ee = .returned (.int .i64 (hor (fun j => byt S (6 + j)) 2)) ∧ Below w.heap.size w w' := by
  have s0 : ∀ (h : 6 < S.size), (S[6]'h).toNat = (S.data[6]?.getD 0).toNat := fun h => by rw [Array.getElem?_eq_getElem (show 6 < S.data.size from h)]; rfl
  have b0 := byt_bd S 6
  have e0 : byt S 6 = ((S.data[6]?.getD 0).toNat : Int) := rfl
  have l0 : (6 : Int) < S.size := by omega
  have s1 : ∀ (h : 7 < S.size), (S[7]'h).toNat = (S.data[7]?.getD 0).toNat := fun h => by rw [Array.getElem?_eq_getElem (show 7 < S.data.size from h)]; rfl
  have b1 := byt_bd S 7
  have e1 : byt S 7 = ((S.data[7]?.getD 0).toNat : Int) := rfl
  have l1 : (7 : Int) < S.size := by omega
  have hh : hor (fun j => byt S (6 + j)) 2 = byt S 6 * 256 + byt S 7 := by simp [hor]
  rw [hh]
  clear hh
  rw [e0] at b0 ⊢
  rw [e1] at b1 ⊢
  generalize (S.data[6]?.getD 0).toNat = x0 at *
  generalize (S.data[7]?.getD 0).toNat = x1 at *
  clear e0 e1
  go_enter Try.func43, Try.ntmps43
  go_wp2_with fail
  refine wp_loop_rounds 3 ?_
  rw [rounds_succ]
  go_wp2
  rw [rounds_succ]
  go_wp2
  rw [rounds_succ]
  go_wp2
  (go_ret; refine ⟨?_, ?_⟩; (focus (exact rfl)); ((repeat' (first | with_reducible exact Below.refl _ _ | with_reducible assumption | ((with_reducible refine Below.drew ?_)) | ((with_reducible refine below_drewN ?_ _)) | ((with_reducible refine Below.alloc ?_ ?_ _); rotate_left; focus (first | omega | (simp; done) | (simp; omega))) | ((with_reducible refine Below.setCell ?_ ?_ _); rotate_left; focus (first | omega | (simp; done) | (simp; omega))) | ((with_reducible refine Below.trans ?_ (Below.mono (by with_reducible assumption) ?_)); rotate_left; focus (first | omega | (simp; done) | (simp; omega))))); done))
set_option maxHeartbeats 2000000 in
theorem rat10_c (S : ByteArray) (hS : 12 ≤ S.size) (hM : S.size ≤ 9223372036854775807) (w : World) : Calls Try.prog 43 #[.string S, .int .i64 10, .int .i64 2] w fun ee w' => ee = .returned (.int .i64 (hor (fun j => byt S (10 + j)) 2)) ∧ Below w.heap.size w w' := by
  have s0 : ∀ (h : 10 < S.size), (S[10]'h).toNat = (S.data[10]?.getD 0).toNat := fun h => by rw [Array.getElem?_eq_getElem (show 10 < S.data.size from h)]; rfl
  have b0 := byt_bd S 10
  have e0 : byt S 10 = ((S.data[10]?.getD 0).toNat : Int) := rfl
  have l0 : (10 : Int) < S.size := by omega
  have s1 : ∀ (h : 11 < S.size), (S[11]'h).toNat = (S.data[11]?.getD 0).toNat := fun h => by rw [Array.getElem?_eq_getElem (show 11 < S.data.size from h)]; rfl
  have b1 := byt_bd S 11
  have e1 : byt S 11 = ((S.data[11]?.getD 0).toNat : Int) := rfl
  have l1 : (11 : Int) < S.size := by omega
  have hh : hor (fun j => byt S (10 + j)) 2 = byt S 10 * 256 + byt S 11 := by simp [hor]
  rw [hh]
  clear hh
  rw [e0] at b0 ⊢
  rw [e1] at b1 ⊢
  generalize (S.data[10]?.getD 0).toNat = x0 at *
  generalize (S.data[11]?.getD 0).toNat = x1 at *
  clear e0 e1
  go_enter Try.func43, Try.ntmps43
  go_wp2_with fail
  refine wp_loop_rounds 3 ?_
  rw [rounds_succ]
  go_wp2
  rw [rounds_succ]
  go_wp2
  rw [rounds_succ]
  go_wp2
  (go_ret; refine ⟨?_, ?_⟩; (focus (exact rfl)); ((repeat' (first | with_reducible exact Below.refl _ _ | with_reducible assumption | ((with_reducible refine Below.drew ?_)) | ((with_reducible refine below_drewN ?_ _)) | ((with_reducible refine Below.alloc ?_ ?_ _); rotate_left; focus (first | omega | (simp; done) | (simp; omega))) | ((with_reducible refine Below.setCell ?_ ?_ _); rotate_left; focus (first | omega | (simp; done) | (simp; omega))) | ((with_reducible refine Below.trans ?_ (Below.mono (by with_reducible assumption) ?_)); rotate_left; focus (first | omega | (simp; done) | (simp; omega))))); done))
set_option maxHeartbeats 2000000 in
theorem rat12_c (S : ByteArray) (hS : 16 ≤ S.size) (hM : S.size ≤ 9223372036854775807) (w : World) : Calls Try.prog 43 #[.string S, .int .i64 12, .int .i64 4] w fun ee w' => ee = .returned (.int .i64 (hor (fun j => byt S (12 + j)) 4)) ∧ Below w.heap.size w w' := by
  have s0 : ∀ (h : 12 < S.size), (S[12]'h).toNat = (S.data[12]?.getD 0).toNat := fun h => by rw [Array.getElem?_eq_getElem (show 12 < S.data.size from h)]; rfl
  have b0 := byt_bd S 12
  have e0 : byt S 12 = ((S.data[12]?.getD 0).toNat : Int) := rfl
  have l0 : (12 : Int) < S.size := by omega
  have s1 : ∀ (h : 13 < S.size), (S[13]'h).toNat = (S.data[13]?.getD 0).toNat := fun h => by rw [Array.getElem?_eq_getElem (show 13 < S.data.size from h)]; rfl
  have b1 := byt_bd S 13
  have e1 : byt S 13 = ((S.data[13]?.getD 0).toNat : Int) := rfl
  have l1 : (13 : Int) < S.size := by omega
  have s2 : ∀ (h : 14 < S.size), (S[14]'h).toNat = (S.data[14]?.getD 0).toNat := fun h => by rw [Array.getElem?_eq_getElem (show 14 < S.data.size from h)]; rfl
  have b2 := byt_bd S 14
  have e2 : byt S 14 = ((S.data[14]?.getD 0).toNat : Int) := rfl
  have l2 : (14 : Int) < S.size := by omega
  have s3 : ∀ (h : 15 < S.size), (S[15]'h).toNat = (S.data[15]?.getD 0).toNat := fun h => by rw [Array.getElem?_eq_getElem (show 15 < S.data.size from h)]; rfl
  have b3 := byt_bd S 15
  have e3 : byt S 15 = ((S.data[15]?.getD 0).toNat : Int) := rfl
  have l3 : (15 : Int) < S.size := by omega
  have hh : hor (fun j => byt S (12 + j)) 4 = ((byt S 12 * 256 + byt S 13) * 256 + byt S 14) * 256 + byt S 15 := by simp [hor]
  rw [hh]
  clear hh
  rw [e0] at b0 ⊢
  rw [e1] at b1 ⊢
  rw [e2] at b2 ⊢
  rw [e3] at b3 ⊢
  generalize (S.data[12]?.getD 0).toNat = x0 at *
  generalize (S.data[13]?.getD 0).toNat = x1 at *
  generalize (S.data[14]?.getD 0).toNat = x2 at *
  generalize (S.data[15]?.getD 0).toNat = x3 at *
  clear e0 e1 e2 e3
  go_enter Try.func43, Try.ntmps43
  go_wp2_with fail
  refine wp_loop_rounds 5 ?_
  rw [rounds_succ]
  go_wp2
  rw [rounds_succ]
  go_wp2
  rw [rounds_succ]
  go_wp2
  rw [rounds_succ]
  go_wp2
  rw [rounds_succ]
  go_wp2
  (go_ret; refine ⟨?_, ?_⟩; (focus (exact rfl)); ((repeat' (first | with_reducible exact Below.refl _ _ | with_reducible assumption | ((with_reducible refine Below.drew ?_)) | ((with_reducible refine below_drewN ?_ _)) | ((with_reducible refine Below.alloc ?_ ?_ _); rotate_left; focus (first | omega | (simp; done) | (simp; omega))) | ((with_reducible refine Below.setCell ?_ ?_ _); rotate_left; focus (first | omega | (simp; done) | (simp; omega))) | ((with_reducible refine Below.trans ?_ (Below.mono (by with_reducible assumption) ?_)); rotate_left; focus (first | omega | (simp; done) | (simp; omega))))); done))
set_option maxHeartbeats 2000000 in
theorem rat16_c (S : ByteArray) (hS : 20 ≤ S.size) (hM : S.size ≤ 9223372036854775807) (w : World) : Calls Try.prog 43 #[.string S, .int .i64 16, .int .i64 4] w fun ee w' => ee = .returned (.int .i64 (hor (fun j => byt S (16 + j)) 4)) ∧ Below w.heap.size w w' := by
  have s0 : ∀ (h : 16 < S.size), (S[16]'h).toNat = (S.data[16]?.getD 0).toNat := fun h => by rw [Array.getElem?_eq_getElem (show 16 < S.data.size from h)]; rfl
  have b0 := byt_bd S 16
  have e0 : byt S 16 = ((S.data[16]?.getD 0).toNat : Int) := rfl
  have l0 : (16 : Int) < S.size := by omega
  have s1 : ∀ (h : 17 < S.size), (S[17]'h).toNat = (S.data[17]?.getD 0).toNat := fun h => by rw [Array.getElem?_eq_getElem (show 17 < S.data.size from h)]; rfl
  have b1 := byt_bd S 17
  have e1 : byt S 17 = ((S.data[17]?.getD 0).toNat : Int) := rfl
  have l1 : (17 : Int) < S.size := by omega
  have s2 : ∀ (h : 18 < S.size), (S[18]'h).toNat = (S.data[18]?.getD 0).toNat := fun h => by rw [Array.getElem?_eq_getElem (show 18 < S.data.size from h)]; rfl
  have b2 := byt_bd S 18
  have e2 : byt S 18 = ((S.data[18]?.getD 0).toNat : Int) := rfl
  have l2 : (18 : Int) < S.size := by omega
  have s3 : ∀ (h : 19 < S.size), (S[19]'h).toNat = (S.data[19]?.getD 0).toNat := fun h => by rw [Array.getElem?_eq_getElem (show 19 < S.data.size from h)]; rfl
  have b3 := byt_bd S 19
  have e3 : byt S 19 = ((S.data[19]?.getD 0).toNat : Int) := rfl
  have l3 : (19 : Int) < S.size := by omega
  have hh : hor (fun j => byt S (16 + j)) 4 = ((byt S 16 * 256 + byt S 17) * 256 + byt S 18) * 256 + byt S 19 := by simp [hor]
  rw [hh]
  clear hh
  rw [e0] at b0 ⊢
  rw [e1] at b1 ⊢
  rw [e2] at b2 ⊢
  rw [e3] at b3 ⊢
  generalize (S.data[16]?.getD 0).toNat = x0 at *
  generalize (S.data[17]?.getD 0).toNat = x1 at *
  generalize (S.data[18]?.getD 0).toNat = x2 at *
  generalize (S.data[19]?.getD 0).toNat = x3 at *
  clear e0 e1 e2 e3
  go_enter Try.func43, Try.ntmps43
  go_wp2_with fail
  refine wp_loop_rounds 5 ?_
  rw [rounds_succ]
  go_wp2
  rw [rounds_succ]
  go_wp2
  rw [rounds_succ]
  go_wp2
  rw [rounds_succ]
  go_wp2
  rw [rounds_succ]
  go_wp2
  (go_ret; refine ⟨?_, ?_⟩; (focus (exact rfl)); ((repeat' (first | with_reducible exact Below.refl _ _ | with_reducible assumption | ((with_reducible refine Below.drew ?_)) | ((with_reducible refine below_drewN ?_ _)) | ((with_reducible refine Below.alloc ?_ ?_ _); rotate_left; focus (first | omega | (simp; done) | (simp; omega))) | ((with_reducible refine Below.setCell ?_ ?_ _); rotate_left; focus (first | omega | (simp; done) | (simp; omega))) | ((with_reducible refine Below.trans ?_ (Below.mono (by with_reducible assumption) ?_)); rotate_left; focus (first | omega | (simp; done) | (simp; omega))))); done))
end Go.Proofs.Ytnfhiagbbmaobaa
