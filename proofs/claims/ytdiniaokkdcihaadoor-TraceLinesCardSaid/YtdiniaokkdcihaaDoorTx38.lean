/- trace.Parse: texts that are too long, or no lines; what it knows half-way. -/
import Derived.Test.YtdiniaokkdcihaaDoorTx37
import Derived.Test.YtdiniaokkdcihaaDoorTx13
import Derived.Deep.WholeRow
namespace Go.Proofs.YtdiniaokkdcihaaDoor
set_option linter.unusedVariables false
set_option linter.unusedSimpArgs false
set_option maxRecDepth 100000
open Go.RowKit Fg Reg
attribute [local irreducible] Reg.wE

theorem wr_pcs {z : World} {b : Nat} {t : TypeId} {S : ByteArray} {fr : Nat × Nat} (h : z.heap[b]? = some (.cells ((pcs32 S).map Value.string).toArray t fr)) : WR z b 0 (cutL 32 S.data.toList) := fun j x hj => by
  rw [cell_of_row z b _ _ t fr h, Nat.zero_add, ← Array.getElem?_toList]
  simp only [pcs32, List.toList_toArray, List.getElem?_map, hj, Option.map_some]
theorem wr_at {S : ByteArray} (w : World) (o : Obj) : WR ((w.alloc o).alloc (.cells ((pcs32 S).map Value.string).toArray 9)) (w.heap.size + 1) 0 (cutL 32 S.data.toList) := by
  have h := heap_alloc_new (w.alloc o) (.cells ((pcs32 S).map Value.string).toArray 9)
  have e : (w.alloc o).heap.size = w.heap.size + 1 := by simp
  rw [e] at h
  exact wr_pcs h
theorem cut_len (S : ByteArray) : (cutL 32 S.data.toList).length ≤ S.size + 1 := by
  rw [cut_count]
  have := List.count_le_length (a := (32 : UInt8)) (l := S.data.toList)
  rw [size_len] at this
  omega
theorem pcs_len (S : ByteArray) : (pcs32 S).length = (cutL 32 S.data.toList).length := by unfold pcs32; rw [List.length_map]
set_option maxHeartbeats 4000000 in
theorem parse_long (S : ByteArray) (hS : 300 < S.size) (w : World) : Calls Tryd.prog 24 #[.string S] w fun ee w' => ee = .returned (.tuple #[.agg #[.int .i64 0, .bool false, .bool false, .int .u64 0, .int .u64 0, .int .i64 0, .int .u64 0, .int .i64 0, .int .u16 0, .int .u16 0, .int .u16 0, .int .u16 0], .int .i64 (2)]) ∧ Below w.heap.size w w' := by
  have d1 : decide ((300 : Int) < S.size) = true := by simp; omega
  go_enter Tryd.func24, Tryd.ntmps24
  go_wp2
  refine bodyPost_ret (v := .tuple #[.agg #[.int .i64 0, .bool false, .bool false, .int .u64 0, .int .u64 0, .int .i64 0, .int .u64 0, .int .i64 0, .int .u16 0, .int .u16 0, .int .u16 0, .int .u16 0], .int .i64 (2)]) (by simp [results, Tryd.results24, go_sem, *]) rfl ⟨rfl, (by repeat' (first | with_reducible exact Below.refl _ _ | with_reducible assumption | ((with_reducible refine Below.drew ?_)) | ((with_reducible refine below_drewN ?_ _)) | ((with_reducible refine Below.alloc ?_ ?_ _); rotate_left; focus (first | omega | (simp; done) | (simp; omega))) | ((with_reducible refine Below.setCell ?_ ?_ _); rotate_left; focus (first | omega | (simp; done) | (simp; omega))) | ((with_reducible refine Below.trans ?_ (Below.mono (by with_reducible assumption) ?_)); rotate_left; focus (first | omega | (simp; done) | (simp; omega)))))⟩
set_option maxHeartbeats 4000000 in
theorem parse_bad (S : ByteArray) (hS : S.size ≤ 300) (hb : shp (cutL 32 S.data.toList) = false) (w : World) : Calls Tryd.prog 24 #[.string S] w fun ee w' => ee = .returned (.tuple #[.agg #[.int .i64 0, .bool false, .bool false, .int .u64 0, .int .u64 0, .int .i64 0, .int .u64 0, .int .i64 0, .int .u16 0, .int .u16 0, .int .u16 0, .int .u16 0], .int .i64 (4)]) ∧ Below w.heap.size w w' := by
  have d1 : decide ((300 : Int) < S.size) = false := by simp; omega
  have K := Lib.hid (fun z => spl_c S (by omega) z)
  have hn := cut_len S
  have KS := Lib.hid (fun (z : World) (b c : Nat) (h : WR z b 0 (cutL 32 S.data.toList)) => show Calls Tryd.prog 69 #[.slice (some ⟨b, 0, none⟩) (cutL 32 S.data.toList).length c] z fun e w' => e = .returned (.bool false) ∧ w' = z from hb ▸ shaped_c b c (cutL 32 S.data.toList) z h (by omega))
  have HP := Lib.hid (pcs_len S)
  clear hb
  go_enter Tryd.func24, Tryd.ntmps24
  go_wp2_with (first
    | (go_at_call 68; (with_reducible refine (K.out _).mono ?_); rintro e w1 ⟨rfl, rfl⟩; simp only [HP.out])
    | (go_at_call 69; (with_reducible refine (KS.out _ _ _ ?_).mono ?_); (focus exact wr_at _ _); rintro e w1 ⟨rfl, rfl⟩))
  refine bodyPost_ret (v := .tuple #[.agg #[.int .i64 0, .bool false, .bool false, .int .u64 0, .int .u64 0, .int .i64 0, .int .u64 0, .int .i64 0, .int .u16 0, .int .u16 0, .int .u16 0, .int .u16 0], .int .i64 (4)]) (by simp [results, Tryd.results24, go_sem, *]) rfl ⟨rfl, (by repeat' (first | with_reducible exact Below.refl _ _ | with_reducible assumption | ((with_reducible refine Below.drew ?_)) | ((with_reducible refine below_drewN ?_ _)) | ((with_reducible refine Below.alloc ?_ ?_ _); rotate_left; focus (first | omega | (simp; done) | (simp; omega))) | ((with_reducible refine Below.setCell ?_ ?_ _); rotate_left; focus (first | omega | (simp; done) | (simp; omega))) | ((with_reducible refine Below.trans ?_ (Below.mono (by with_reducible assumption) ?_)); rotate_left; focus (first | omega | (simp; done) | (simp; omega)))))⟩
end Go.Proofs.YtdiniaokkdcihaaDoor
