/- strings.Split at a blank. -/
import Derived.Test.YtdiniaokkdcihaaDoorLyB
import Derived.Test.YtdiniaokkdcihaaDoorTx12
namespace Go.Proofs.YtdiniaokkdcihaaDoor
set_option linter.unusedVariables false
set_option linter.unusedSimpArgs false
set_option maxRecDepth 100000
open Go.RowKit Fg Reg
attribute [local irreducible] Reg.wE

/-- A text's pieces between blanks. -/
def pcs32 (S : ByteArray) : List ByteArray := (cutL 32 S.data.toList).map fun l => ⟨l.toArray⟩
theorem split_pcs (S : ByteArray) : Lib.splitB (⟨#[32]⟩ : ByteArray) 0 (Lib.countB S (⟨#[32]⟩ : ByteArray)) S = pcs32 S := by
  have h := Lib.splitB_data (⟨#[32]⟩ : ByteArray) 0 (Lib.countB S (⟨#[32]⟩ : ByteArray)) S
  have hc : Lib.countB S (⟨#[32]⟩ : ByteArray) = S.data.toList.count 32 := Lib.count_one 32 S.data.toList
  have h2 : (Lib.splitB (⟨#[32]⟩ : ByteArray) 0 (Lib.countB S (⟨#[32]⟩ : ByteArray)) S).map (·.data.toList) = cutL 32 S.data.toList := by
    rw [h, hc]
    exact split_cut 32 _ S.data.toList rfl
  unfold pcs32
  rw [← h2, List.map_map]
  conv => lhs; rw [← List.map_id (Lib.splitB (⟨#[32]⟩ : ByteArray) 0 (Lib.countB S (⟨#[32]⟩ : ByteArray)) S)]
  apply List.map_congr_left
  intro x _
  rfl
theorem gsp_c (S : ByteArray) (hS : S.size < 4294967281) (w : World) : Calls Tryd.prog 105 #[.string S, .string (⟨#[32]⟩ : ByteArray), .int .i64 0, .int .i64 (-1)] w fun e w' =>
    e = .returned (.slice (some ⟨w.heap.size, 0, none⟩) (pcs32 S).length (pcs32 S).length) ∧ w' = w.alloc (.cells ((pcs32 S).map Value.string).toArray 9) := by
  have hlen := Lib.splitB_all (⟨#[32]⟩ : ByteArray) (by decide) 0 _ S rfl
  have hle := Lib.countB_le (⟨#[32]⟩ : ByteArray) (by decide) S.size S (Nat.le_refl _)
  have c := Any.strings_genSplit_core lsplit (by kernel_rfl) S (⟨#[32]⟩ : ByteArray) 0 (-1) (Lib.countB S (⟨#[32]⟩ : ByteArray) + 1) w hS (by decide) (by decide)
    (fun x c hx => (Any.strings_Index_one lindex x 32 _).mono fun e w' ⟨he, hw⟩ => ⟨by rw [he]; show _ = Ending.returned (Value.int .i64 (Lib.index x.data.toList [32])); rw [Lib.index_one], hw⟩)
    ((Any.strings_Count_one lcount S 32 w).mono fun e w' ⟨he, hw⟩ => ⟨by rw [he]; show _ = Ending.returned (Value.int .i64 ((Lib.count S.data.toList [32] : Nat) : Int)); rw [Lib.count_one]; rfl, hw⟩)
    (by decide) (by decide) (by rw [if_pos (by decide)]; omega)
  rw [Nat.add_sub_cancel, hlen] at c
  have e2 : Lib.cellsOf (Lib.splitB (⟨#[32]⟩ : ByteArray) 0 (Lib.countB S (⟨#[32]⟩ : ByteArray)) S) (Lib.countB S (⟨#[32]⟩ : ByteArray) + 1) = ((Lib.splitB (⟨#[32]⟩ : ByteArray) 0 (Lib.countB S (⟨#[32]⟩ : ByteArray)) S).map Value.string).toArray := by rw [← hlen]; exact Lib.cellsOf_full _
  rw [e2, ← hlen, split_pcs] at c
  exact c
theorem spl_c (S : ByteArray) (hS : S.size < 4294967281) (w : World) : Calls Tryd.prog 68 #[.string S, .string (⟨#[32]⟩ : ByteArray)] w fun e w' =>
    e = .returned (.slice (some ⟨w.heap.size, 0, none⟩) (pcs32 S).length (pcs32 S).length) ∧ w' = w.alloc (.cells ((pcs32 S).map Value.string).toArray 9) := by
  have K := Lib.hid (gsp_c S hS w)
  clear hS
  go_enter Tryd.func68, Tryd.ntmps68
  go_wp2_with (go_at_call 105; (with_reducible refine K.out.mono ?_); rintro e w' ⟨rfl, hw⟩; rw [hw])
  go_ret
  exact ⟨rfl, rfl⟩
end Go.Proofs.YtdiniaokkdcihaaDoor
