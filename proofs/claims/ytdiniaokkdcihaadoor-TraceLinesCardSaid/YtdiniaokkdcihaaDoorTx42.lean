/- The example of layer 30's laws. -/
import Derived.Test.YtdiniaokkdcihaaDoorTx32
import Derived.Test.YtdiniaokkdcihaaDoorTx35
import Derived.Test.YtdiniaokkdcihaaDoorTx41
namespace Go.Proofs.YtdiniaokkdcihaaDoor
set_option linter.unusedVariables false
set_option linter.unusedSimpArgs false
set_option maxRecDepth 100000
open Go.RowKit Fg Reg
attribute [local irreducible] Reg.wE

theorem heap_alloc_at {w : World} {o : Obj} {b : Nat} (h : b = w.heap.size) : (w.alloc o).heap[b]? = some o := by subst h; exact heap_alloc_last w o
theorem ev_all {z : World} {a : Option Addr} {es : List Ev} (h : EvsV z a es) (o : Obj) : EvsV (z.alloc o) a es := h.below (Below.alloc (Below.refl _ _) (Nat.le_refl _) o)
theorem dig_lit (l : List UInt8) (v : Int) (h : (dval l : Int) = v) (hn : l ≠ []) (hd : l.all isd = true) (h0 : l.head? = some 48 → l.length = 1) : dig v = l := by
  subst h
  exact dec_dval l hn hd h0
theorem sev_words : wordsOf (⟨2, true, false, 5, 0, 3, 7, 100, 1, 0, 0, 2⟩ : Ev) = [[50], [105, 110], [53], [51], [55], [49, 48, 48], [49], [48], [48], [50]] := by
  unfold wordsOf kindL
  simp only [if_true]
  rw [dig_lit [50] 2 (by decide) (by decide) (by decide) (by decide), dig_lit [53] 5 (by decide) (by decide) (by decide) (by decide), dig_lit [51] 3 (by decide) (by decide) (by decide) (by decide), dig_lit [55] 7 (by decide) (by decide) (by decide) (by decide), dig_lit [49, 48, 48] 100 (by decide) (by decide) (by decide) (by decide), dig_lit [49] 1 (by decide) (by decide) (by decide) (by decide), dig_lit [48] 0 (by decide) (by decide) (by decide) (by decide)]
  rfl
theorem sev_line (z : World) (hT : TB z) (T : ByteArray) (h : lineS (⟨2, true, false, 5, 0, 3, 7, 100, 1, 0, 0, 2⟩ : Ev) = T) : Calls Tryd.prog 22 #[.agg #[.int .i64 2, .bool true, .bool false, .int .u64 5, .int .u64 0, .int .i64 3, .int .u64 7, .int .i64 100, .int .u16 1, .int .u16 0, .int .u16 0, .int .u16 2]] z fun e w' => e = .returned (.tuple #[.string (T), .int .i64 (0)]) ∧ Below z.heap.size z w' := by
  have k := line_c (⟨2, true, false, 5, 0, 3, 7, 100, 1, 0, 0, 2⟩ : Ev) ⟨by decide, by decide, by decide, by decide, by decide, by decide, by decide, by decide, by decide, by decide⟩ z hT
  rw [h, show lineE (⟨2, true, false, 5, 0, 3, 7, 100, 1, 0, 0, 2⟩ : Ev) = 0 by decide] at k
  exact k
theorem sev_text (T : ByteArray) (h : lineS (⟨2, true, false, 5, 0, 3, 7, 100, 1, 0, 0, 2⟩ : Ev) = T) : (T.toList == [50, 32, 105, 110, 32, 53, 32, 51, 32, 55, 32, 49, 48, 48, 32, 49, 32, 48, 32, 48, 32, 50]) = true := by
  rw [← h, ByteArray.toList_eq]
  unfold lineS
  rw [if_pos (by decide)]
  unfold joinB
  rw [sev_words]
  decide +kernel
theorem sev_parse (z : World) : Calls Tryd.prog 24 #[.string ⟨#[52, 32, 114, 101, 97, 108, 32, 57, 32, 49, 48, 57, 32, 51, 32, 55, 32, 49, 48, 48, 32, 49, 32, 48, 32, 48, 32, 50]⟩] z fun e w' => e = .returned (.tuple #[.agg #[.int .i64 4, .bool false, .bool true, .int .u64 9, .int .u64 109, .int .i64 3, .int .u64 7, .int .i64 100, .int .u16 1, .int .u16 0, .int .u16 0, .int .u16 2], .int .i64 (0)]) ∧ Below z.heap.size z w' := by
  have h := parse_out ⟨#[52, 32, 114, 101, 97, 108, 32, 57, 32, 49, 48, 57, 32, 51, 32, 55, 32, 49, 48, 48, 32, 49, 32, 48, 32, 48, 32, 50]⟩ (by decide) [114, 101, 97, 108] [52] [57] [49, 48, 57] [51] [55] [49, 48, 48] [49] [48] [48] [50] true (by decide) (by decide) (by decide +kernel) (by decide +kernel) (by decide) z
  refine h.mono ?_
  rintro e w' ⟨rfl, hb⟩
  exact ⟨congrArg Ending.returned (by kernel_rfl), hb⟩
theorem sev_cam (a a2 : Option Addr) (c c2 : Nat) (z : World) (hE : EvsV z a [(⟨2, true, false, 5, 0, 3, 7, 100, 1, 0, 0, 2⟩ : Ev), (⟨2, true, false, 5, 0, 3, 7, 100, 1, 0, 0, 2⟩ : Ev)]) (hZ : IntsV z a2 [3, 3]) : Calls Tryd.prog 18 #[.slice a 2 c, .slice a2 2 c2, .int .u64 5, .int .u64 5] z fun e w' => e = .returned (.int .u64 200) ∧ Below z.heap.size z w' := by
  have h := came_c [(⟨2, true, false, 5, 0, 3, 7, 100, 1, 0, 0, 2⟩ : Ev), (⟨2, true, false, 5, 0, 3, 7, 100, 1, 0, 0, 2⟩ : Ev)] a c [3, 3] a2 c2 5 5 (by decide) (by decide) z hE hZ
  rw [show tot (pcam 5 5) [3, 3] [(⟨2, true, false, 5, 0, 3, 7, 100, 1, 0, 0, 2⟩ : Ev), (⟨2, true, false, 5, 0, 3, 7, 100, 1, 0, 0, 2⟩ : Ev)] = 200 by decide +kernel] at h
  exact h
theorem sev_beg (a a2 : Option Addr) (c c2 : Nat) (z : World) (hE : EvsV z a [(⟨4, false, true, 9, 109, 3, 7, 100, 1, 0, 0, 2⟩ : Ev)]) (hZ : IntsV z a2 [3]) : Calls Tryd.prog 20 #[.slice a 1 c, .slice a2 1 c2, .int .u64 0, .int .u64 8] z fun e w' => e = .returned (.int .u64 0) ∧ Below z.heap.size z w' := by
  have h := begun_c [(⟨4, false, true, 9, 109, 3, 7, 100, 1, 0, 0, 2⟩ : Ev)] a c [3] a2 c2 0 8 (by decide) (by decide) z hE hZ
  rw [show tot (pbeg 0 8) [3] [(⟨4, false, true, 9, 109, 3, 7, 100, 1, 0, 0, 2⟩ : Ev)] = 0 by decide +kernel] at h
  exact h
theorem sev_sen (a a2 : Option Addr) (c c2 : Nat) (z : World) (hE : EvsV z a [(⟨4, false, true, 9, 109, 3, 7, 100, 1, 0, 0, 2⟩ : Ev)]) (hZ : IntsV z a2 [3]) : Calls Tryd.prog 21 #[.slice a 1 c, .slice a2 1 c2, .int .u64 108, .int .u64 109] z fun e w' => e = .returned (.int .u64 100) ∧ Below z.heap.size z w' := by
  have h := sent_c [(⟨4, false, true, 9, 109, 3, 7, 100, 1, 0, 0, 2⟩ : Ev)] a c [3] a2 c2 108 109 (by decide) (by decide) z hE hZ
  rw [show tot (psen 108 109) [3] [(⟨4, false, true, 9, 109, 3, 7, 100, 1, 0, 0, 2⟩ : Ev)] = 100 by decide +kernel] at h
  exact h
theorem up2 {w2 w3 : World} {A I : Obj} (hb : Below ((w2.alloc A).alloc I).heap.size ((w2.alloc A).alloc I) w3) (b o : Nat) (h : b < w2.heap.size) : w3.cell? ⟨b, o, none⟩ = w2.cell? ⟨b, o, none⟩ :=
  (((((Below.refl w2.heap.size w2).alloc (Nat.le_refl _) A).alloc (by simp) I).trans (hb.mono (by simp; omega)))).cell (p := ⟨b, o, none⟩) h
theorem bel2 {w w2 w3 : World} {A I : Obj} (h : Below w.heap.size w w2) (hb : Below ((w2.alloc A).alloc I).heap.size ((w2.alloc A).alloc I) w3) : Below w.heap.size w w3 :=
  ((h.alloc h.size A).alloc (by have := h.size; simp; omega) I).trans (hb.mono (by have := h.size; simp; omega))
theorem new12 (w : World) (cs : List Value) (t : TypeId) (hl : cs.length = 12) (j : Nat) (hj : j < 12) : (w.alloc (.cells cs.toArray t)).cell? ⟨w.heap.size, j, none⟩ = some (cs.getD j undef) := by
  rw [cell_of_row _ w.heap.size j _ _ _ (heap_alloc_last w _)]
  have : cs.toArray[j]? = cs[j]? := by simp
  rw [this, List.getD_eq_getElem?_getD, List.getElem?_eq_getElem (by omega)]; rfl
set_option maxHeartbeats 4000000 in
theorem seven_c (w : World) (hT : TB w) : Calls Tryd.prog 17 #[] w fun ee w' => ee = .returned (.bool true) ∧ Below w.heap.size w w' := by
  obtain ⟨T, hTT⟩ : ∃ T, lineS (⟨2, true, false, 5, 0, 3, 7, 100, 1, 0, 0, 2⟩ : Ev) = T := ⟨_, rfl⟩
  have fT := sev_text T hTT
  have K1 := Lib.hid (fun z h => sev_line z h T hTT)
  have K2 := Lib.hid sev_parse
  have K3 := Lib.hid sev_cam
  have K4 := Lib.hid sev_beg
  have K5 := Lib.hid sev_sen
  have HT := Lib.hid hT
  clear hTT hT
  go_enter Tryd.func17, Tryd.ntmps17
  go_wp2_with (first
    | (go_at_call 22; (with_reducible refine (K1.out _ (HT.out.alloc _)).mono ?_); rintro ee w1 ⟨rfl, hb1⟩; have s1 : w.heap.size < w1.heap.size := (by have := hb1.size; simp at this; omega); have hB1 : Below w.heap.size w w1 := ((Below.refl _ _).alloc (Nat.le_refl _) _).trans (hb1.mono (by simp)); have hE1 : ∀ j, j < 12 → w1.cell? ⟨w.heap.size, j, none⟩ = some ((#[.int .i64 2, .bool true, .bool false, .int .u64 5, .int .u64 0, .int .i64 3, .int .u64 7, .int .i64 100, .int .u16 1, .int .u16 0, .int .u16 0, .int .u16 2]).toList.getD j undef) := (fun j hj => (hb1.cell (p := ⟨w.heap.size, j, none⟩) (by simp)).trans (by rw [cell_of_row _ w.heap.size j _ _ _ (heap_alloc_last w _)]; rcases (by omega : j = 0 ∨ j = 1 ∨ j = 2 ∨ j = 3 ∨ j = 4 ∨ j = 5 ∨ j = 6 ∨ j = 7 ∨ j = 8 ∨ j = 9 ∨ j = 10 ∨ j = 11) with rfl | rfl | rfl | rfl | rfl | rfl | rfl | rfl | rfl | rfl | rfl | rfl <;> rfl)); clear hb1)
    | (go_at_call 24; (with_reducible refine (K2.out _).mono ?_); rintro ee w2 ⟨rfl, hb2⟩; have s2 : w.heap.size < w2.heap.size := (by have := hb2.size; omega); have hB2 : Below w.heap.size w w2 := hB1.trans (hb2.mono (by omega)); have hE2 : ∀ j, j < 12 → w2.cell? ⟨w.heap.size, j, none⟩ = some ((#[.int .i64 2, .bool true, .bool false, .int .u64 5, .int .u64 0, .int .i64 3, .int .u64 7, .int .i64 100, .int .u16 1, .int .u16 0, .int .u16 0, .int .u16 2]).toList.getD j undef) := (fun j hj => (hb2.cell (p := ⟨w.heap.size, j, none⟩) s1).trans (hE1 j hj)); clear hb2)
    | (go_at_call 18; (with_reducible refine (K3.out _ _ _ _ _ (ev_all (evs_block [(⟨2, true, false, 5, 0, 3, 7, 100, 1, 0, 0, 2⟩ : Ev), (⟨2, true, false, 5, 0, 3, 7, 100, 1, 0, 0, 2⟩ : Ev)] (heap_alloc_at (by (simp; done))) (by (simp [Ev.cells]; done))) _) (ints_block [3, 3] (heap_alloc_at (by (simp; done))) (by (simp; done)))).mono ?_); rintro ee w3 ⟨rfl, hb3⟩; have s3 : w2.heap.size < w3.heap.size := (by have := hb3.size; simp at this; omega); have hB3 : Below w.heap.size w w3 := bel2 (hB2.alloc hB2.size _) hb3; have hX3 : ∀ j, j < 12 → w3.cell? ⟨w2.heap.size, j, none⟩ = some ((#[.int .i64 4, .bool false, .bool true, .int .u64 9, .int .u64 109, .int .i64 3, .int .u64 7, .int .i64 100, .int .u16 1, .int .u16 0, .int .u16 0, .int .u16 2]).toList.getD j undef) := (fun j hj => (up2 hb3 w2.heap.size j (by simp)).trans (new12 w2 (#[.int .i64 4, .bool false, .bool true, .int .u64 9, .int .u64 109, .int .i64 3, .int .u64 7, .int .i64 100, .int .u16 1, .int .u16 0, .int .u16 0, .int .u16 2]).toList _ rfl j hj)); clear hb3 hE1 hE2)
    | (go_at_call 20; (with_reducible refine (K4.out _ _ _ _ _ (ev_all (evs_block [(⟨4, false, true, 9, 109, 3, 7, 100, 1, 0, 0, 2⟩ : Ev)] (heap_alloc_at (by (simp; done))) (by (simp [Ev.cells]; done))) _) (ints_block [3] (heap_alloc_at (by (simp; done))) (by (simp; done)))).mono ?_); rintro ee w4 ⟨rfl, hb4⟩; have s4 : w2.heap.size < w4.heap.size := (by have := hb4.size; simp at this; omega); have hB4 : Below w.heap.size w w4 := bel2 hB3 hb4; have hX4 : ∀ j, j < 12 → w4.cell? ⟨w2.heap.size, j, none⟩ = some ((#[.int .i64 4, .bool false, .bool true, .int .u64 9, .int .u64 109, .int .i64 3, .int .u64 7, .int .i64 100, .int .u16 1, .int .u16 0, .int .u16 0, .int .u16 2]).toList.getD j undef) := (fun j hj => (up2 hb4 w2.heap.size j s3).trans (hX3 j hj)); clear hb4)
    | (go_at_call 21; (with_reducible refine (K5.out _ _ _ _ _ (ev_all (evs_block [(⟨4, false, true, 9, 109, 3, 7, 100, 1, 0, 0, 2⟩ : Ev)] (heap_alloc_at (by (simp; done))) (by (simp [Ev.cells]; done))) _) (ints_block [3] (heap_alloc_at (by (simp; done))) (by (simp; done)))).mono ?_); rintro ee w5 ⟨rfl, hb5⟩; have hB5 : Below w.heap.size w w5 := bel2 hB4 hb5; clear hb5))
  (go_ret; refine ⟨?_, ?_⟩; (focus (exact rfl)); ((repeat' (first | with_reducible exact Below.refl _ _ | with_reducible assumption | ((with_reducible refine Below.drew ?_)) | ((with_reducible refine below_drewN ?_ _)) | ((with_reducible refine Below.alloc ?_ ?_ _); rotate_left; focus (first | omega | (simp; done) | (simp; omega))) | ((with_reducible refine Below.setCell ?_ ?_ _); rotate_left; focus (first | omega | (simp; done) | (simp; omega))) | ((with_reducible refine Below.trans ?_ (Below.mono (by with_reducible assumption) ?_)); rotate_left; focus (first | omega | (simp; done) | (simp; omega))))); done))
end Go.Proofs.YtdiniaokkdcihaaDoor
