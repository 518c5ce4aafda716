/- strings.Join of any texts; trace.kind. -/
import Derived.Test.YtdiniaokkdcihaaDoorEv1
import Derived.Test.YtdiniaokkdcihaaDoorLyC
import Derived.Test.YtdiniaokkdcihaaDoorTx26
import Derived.Shelf.Strings.OnBuilder
namespace Go.Proofs.YtdiniaokkdcihaaDoor
set_option linter.unusedVariables false
set_option linter.unusedSimpArgs false
set_option maxRecDepth 100000
open Go.RowKit Fg Reg Go.Shelf
attribute [local irreducible] Reg.wE

theorem ljoin_extra : Builder.Extra Tryd.prog ljoin_ren where
  sizeBuilder := by kernel_rfl
  liesBuilder := by kernel_rfl
  t5 := Tryd.underlying5
  a5 := Tryd.isAgg5
  z5 := Tryd.sizeOf5
  v5 := Tryd.zeroValue5
  infoByte := by kernel_rfl
  cellsByte := by kernel_rfl
  sizeByte := by kernel_rfl
  neB5 := by decide
/-- Texts with a sign between. -/
def joinB (ls : List (List UInt8)) : ByteArray := ⟨(Lib.join ls [32]).toArray⟩
theorem join_c (b c : Nat) (ls : List (List UInt8)) (w : World) (hcells : ∀ (j : Nat) x, ls[j]? = some x → w.cell? ⟨b, j, none⟩ = some (.string ⟨x.toArray⟩)) (hb : b < w.heap.size) (hN : ls.length ≤ 1000) (hcap : ls.length ≤ c) (hlen : (Lib.join ls [32]).length ≤ 1000000) :
    Calls Tryd.prog 67 #[.slice (some ⟨b, 0, none⟩) ls.length c, .string ⟨#[32]⟩] w fun ee w' => ee = .returned (.string (joinB ls)) ∧ Below w.heap.size w w' := by
  have hm : (ls.map (fun l => (⟨l.toArray⟩ : ByteArray))).map (·.data.toList) = ls := by
    rw [List.map_map]
    conv => rhs; rw [← List.map_id ls]
    apply List.map_congr_left
    intro x _; rfl
  have h := Any.strings_Join ljoin ljoin_extra b 0 c (ls.map fun l => (⟨l.toArray⟩ : ByteArray)) ⟨#[32]⟩ w (fun j x hj => by
    rw [List.getElem?_map] at hj
    rcases e : ls[j]? with _ | y
    · rw [e] at hj; cases hj
    · rw [e] at hj; cases hj
      rw [Nat.zero_add]
      exact hcells j y e) hb (by rw [List.length_map]; omega) (by rw [List.length_map]; exact hcap) (by rw [hm]; exact Nat.le_trans hlen (by decide))
  rw [hm, List.length_map] at h
  exact h
/-- The second word. -/
def kindL (e : Ev) : List UInt8 := if e.inn then [105, 110] else if e.real then [114, 101, 97, 108] else [115, 104, 97, 114, 101]
theorem kind_c (e : Ev) (w : World) : Calls Tryd.prog 66 #[.agg #[.int .i64 (e).op, .bool (e).inn, .bool (e).real, .int .u64 (e).tm, .int .u64 (e).dn, .int .i64 (e).cls, .int .u64 (e).id, .int .i64 (e).ln, .int .u16 (e).a, .int .u16 (e).b, .int .u16 (e).c, .int .u16 (e).d]] w fun ee w' => ee = .returned (.string ⟨(kindL e).toArray⟩) ∧ Below w.heap.size w w' := by
  obtain ⟨op, inn, real, tm, dn, cls, id, ln, a, b, c, d⟩ := e
  unfold kindL
  dsimp only
  cases inn with
  | true =>
    rw [if_pos rfl]
    go_enter Tryd.func66, Tryd.ntmps66
    go_wp2
    (go_ret; refine ⟨?_, ?_⟩; (focus (exact rfl)); ((repeat' (first | with_reducible exact Below.refl _ _ | with_reducible assumption | ((with_reducible refine Below.drew ?_)) | ((with_reducible refine below_drewN ?_ _)) | ((with_reducible refine Below.alloc ?_ ?_ _); rotate_left; focus (first | omega | (simp; done) | (simp; omega))) | ((with_reducible refine Below.setCell ?_ ?_ _); rotate_left; focus (first | omega | (simp; done) | (simp; omega))) | ((with_reducible refine Below.trans ?_ (Below.mono (by with_reducible assumption) ?_)); rotate_left; focus (first | omega | (simp; done) | (simp; omega))))); done))
  | false =>
    rw [if_neg (by decide)]
    cases real with
    | true =>
      rw [if_pos rfl]
      go_enter Tryd.func66, Tryd.ntmps66
      go_wp2
      (go_ret; refine ⟨?_, ?_⟩; (focus (exact rfl)); ((repeat' (first | with_reducible exact Below.refl _ _ | with_reducible assumption | ((with_reducible refine Below.drew ?_)) | ((with_reducible refine below_drewN ?_ _)) | ((with_reducible refine Below.alloc ?_ ?_ _); rotate_left; focus (first | omega | (simp; done) | (simp; omega))) | ((with_reducible refine Below.setCell ?_ ?_ _); rotate_left; focus (first | omega | (simp; done) | (simp; omega))) | ((with_reducible refine Below.trans ?_ (Below.mono (by with_reducible assumption) ?_)); rotate_left; focus (first | omega | (simp; done) | (simp; omega))))); done))
    | false =>
      rw [if_neg (by decide)]
      go_enter Tryd.func66, Tryd.ntmps66
      go_wp2
      (go_ret; refine ⟨?_, ?_⟩; (focus (exact rfl)); ((repeat' (first | with_reducible exact Below.refl _ _ | with_reducible assumption | ((with_reducible refine Below.drew ?_)) | ((with_reducible refine below_drewN ?_ _)) | ((with_reducible refine Below.alloc ?_ ?_ _); rotate_left; focus (first | omega | (simp; done) | (simp; omega))) | ((with_reducible refine Below.setCell ?_ ?_ _); rotate_left; focus (first | omega | (simp; done) | (simp; omega))) | ((with_reducible refine Below.trans ?_ (Below.mono (by with_reducible assumption) ?_)); rotate_left; focus (first | omega | (simp; done) | (simp; omega))))); done))
end Go.Proofs.YtdiniaokkdcihaaDoor
