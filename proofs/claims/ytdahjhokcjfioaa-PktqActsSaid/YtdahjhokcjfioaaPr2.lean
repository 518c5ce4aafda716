import Derived.Test.YtdahjhokcjfioaaPr1
import Derived.Deep.OwnRows
namespace Go.Proofs.Ytdahjhokcjfioaa
set_option linter.unusedVariables false
set_option linter.unusedSimpArgs false
set_option maxRecDepth 100000
open Go.RowKit Fg Reg

/-- make with a variable length, of packets. -/
theorem run_make_pk (n : Nat) (h : n ≤ 1000) (w : World) : (Instr.makeSlice 22 (.int .i64 (n : Int)) (.int .i64 (n : Int))).run Try.prog w = .ok (.slice (some ⟨w.heap.size, 0, none⟩) n n) (w.alloc (.cells (madeCells #[.int .u64 0, .int .i64 0, .int .u16 0, .int .u16 0, .int .u16 0, .int .u16 0] (n * 6)) 36)) := by
  have hinfo : (Try.prog.info? 36).map (fun i => (i.zero, i.size, i.bytes)) = some (some (.agg #[.int .u64 0, .int .i64 0, .int .u16 0, .int .u16 0, .int .u16 0, .int .u16 0]), 6, 24) := by kernel_rfl
  obtain ⟨i, hi, hzz⟩ := Option.map_eq_some_iff.1 hinfo
  simp only [Prod.mk.injEq] at hzz
  obtain ⟨hz, hs, hb⟩ := hzz
  have k := run_make (P := Try.prog) w 22 36 i _ Try.underlying22 hi hz .i64 .i64 (n : Int) (n : Int) (by omega) (by omega) (by rw [hb]; omega) (by omega)
  rw [hs] at k
  exact k
theorem el_made6 (z : World) (n : Nat) (t : TypeId) : EL (z.alloc (.cells (madeCells #[.int .u64 0, .int .i64 0, .int .u16 0, .int .u16 0, .int .u16 0, .int .u16 0] (n * 6)) t)) z.heap.size (n * 6) (flat (fun _ => pz)) := fun i hi => by
  have hr := World.rowIs_alloc z (madeCells #[.int .u64 0, .int .i64 0, .int .u16 0, .int .u16 0, .int .u16 0, .int .u16 0] (n * 6)) t (flat (fun _ => pz)) (fun i hi => by
    rw [size_madeCells] at hi
    rw [flat_zero 0]
    have h6 : i % 6 < 6 := Nat.mod_lt _ (by omega)
    simp only [madeCells, Array.getElem?_map, Array.getElem?_range, hi, if_true, Option.map_some, show (#[Value.int .u64 0, Value.int .i64 0, Value.int .u16 0, Value.int .u16 0, Value.int .u16 0, Value.int .u16 0] : Array Value).size = 6 from rfl]
    refine congrArg some ?_
    have : i % 6 = 0 ∨ i % 6 = 1 ∨ i % 6 = 2 ∨ i % 6 = 3 ∨ i % 6 = 4 ∨ i % 6 = 5 := by omega
    rcases this with e | e | e | e | e | e <;> simp [e])
  exact ⟨hr.cell (by rw [size_madeCells]; exact hi), hr.frozen i⟩
theorem prnew_no (n : Int) (h : n < 1 ∨ 64 < n) (w : World) : Calls Try.prog 79 #[.int .i64 n] w fun ee w' => ee = .returned (.tuple #[.pointer none, .int .i64 1]) ∧ Below w.heap.size w w' := by
  by_cases h1 : n < 1
  · go_enter Try.func79, Try.ntmps79
    go_wp2
    (go_ret2; refine ⟨?_, ?_⟩; (focus (exact rfl)); ((repeat' (first | with_reducible exact Below.refl _ _ | with_reducible assumption | ((with_reducible refine Below.drew ?_)) | ((with_reducible refine below_drewN ?_ _)) | ((with_reducible refine Below.alloc ?_ ?_ _); rotate_left; focus (first | omega | (simp; done) | (simp; omega))) | ((with_reducible refine Below.setCell ?_ ?_ _); rotate_left; focus (first | omega | (simp; done) | (simp; omega))) | ((with_reducible refine Below.trans ?_ (Below.mono (by with_reducible assumption) ?_)); rotate_left; focus (first | omega | (simp; done) | (simp; omega))) | with_reducible exact Only.refl _ _ | (with_reducible refine Only.drew ?_) | (with_reducible refine Only.setL ?_ _ _ _) | (with_reducible refine Only.setR ?_ _ _ _) | (with_reducible refine Only.alloc ?_ _) | (with_reducible refine EL.drew ?_) | (focus (with_reducible refine EL.other ?_ (by omega) _ _ _)) | ((with_reducible refine Only.setCell ?_ (Or.inr ?_) _); rotate_left; focus (first | omega | (simp; done) | (simp; omega))) | (focus (with_reducible refine EL.alloc ?_ (by (first | omega | (simp; omega))) _)) | (with_reducible refine EL.other ?_ (by with_reducible assumption) _ _ _) | (with_reducible refine EL.set ?_ (by with_reducible assumption) (by with_reducible assumption) _) | (focus (with_reducible refine EL.set ?_ (by omega) (by with_reducible assumption) _)) | ((with_reducible refine EL.below ?_ (by with_reducible assumption) ?_); rotate_left; focus (first | omega | (simp; omega))) | ((with_reducible refine Only.trans ?_ (Only.of_below (by with_reducible assumption)))) )); done))
  · have h2 : 64 < n := by omega
    go_enter Try.func79, Try.ntmps79
    go_wp2
    (go_ret2; refine ⟨?_, ?_⟩; (focus (exact rfl)); ((repeat' (first | with_reducible exact Below.refl _ _ | with_reducible assumption | ((with_reducible refine Below.drew ?_)) | ((with_reducible refine below_drewN ?_ _)) | ((with_reducible refine Below.alloc ?_ ?_ _); rotate_left; focus (first | omega | (simp; done) | (simp; omega))) | ((with_reducible refine Below.setCell ?_ ?_ _); rotate_left; focus (first | omega | (simp; done) | (simp; omega))) | ((with_reducible refine Below.trans ?_ (Below.mono (by with_reducible assumption) ?_)); rotate_left; focus (first | omega | (simp; done) | (simp; omega))) | with_reducible exact Only.refl _ _ | (with_reducible refine Only.drew ?_) | (with_reducible refine Only.setL ?_ _ _ _) | (with_reducible refine Only.setR ?_ _ _ _) | (with_reducible refine Only.alloc ?_ _) | (with_reducible refine EL.drew ?_) | (focus (with_reducible refine EL.other ?_ (by omega) _ _ _)) | ((with_reducible refine Only.setCell ?_ (Or.inr ?_) _); rotate_left; focus (first | omega | (simp; done) | (simp; omega))) | (focus (with_reducible refine EL.alloc ?_ (by (first | omega | (simp; omega))) _)) | (with_reducible refine EL.other ?_ (by with_reducible assumption) _ _ _) | (with_reducible refine EL.set ?_ (by with_reducible assumption) (by with_reducible assumption) _) | (focus (with_reducible refine EL.set ?_ (by omega) (by with_reducible assumption) _)) | ((with_reducible refine EL.below ?_ (by with_reducible assumption) ?_); rotate_left; focus (first | omega | (simp; omega))) | ((with_reducible refine Only.trans ?_ (Only.of_below (by with_reducible assumption)))) )); done))
theorem prnew_ok (n : Nat) (h1 : 1 ≤ n) (h2 : n ≤ 64) (w : World) : Calls Try.prog 79 #[.int .i64 n] w fun e w' => e = .returned (.tuple #[.pointer (some ⟨w.heap.size + 1, 0, none⟩), .int .i64 0]) ∧ RP w' (w.heap.size + 1) w.heap.size n 0 0 (fun _ => pz) ∧ Below w.heap.size w w' := by
  have hmk := run_make_pk n (by omega)
  have hel := fun z : World => el_made6 z n 36
  generalize madeCells #[Value.int .u64 0, Value.int .i64 0, Value.int .u16 0, Value.int .u16 0, Value.int .u16 0, Value.int .u16 0] (n * 6) = mc at *
  go_enter Try.func79, Try.ntmps79
  go_wp2
  go_ret2
  refine ⟨rfl, ?_, ?_⟩
  · unfold RP
    refine ⟨?_, by omega, h1, h2, by omega, by omega, (hel w).below ?_ (by simp)⟩
    · ((repeat' apply And.intro) <;> first | (simp [go_sem, *]; done) | omega | (repeat' (first | with_reducible exact Below.refl _ _ | with_reducible assumption | ((with_reducible refine Below.drew ?_)) | ((with_reducible refine below_drewN ?_ _)) | ((with_reducible refine Below.alloc ?_ ?_ _); rotate_left; focus (first | omega | (simp; done) | (simp; omega))) | ((with_reducible refine Below.setCell ?_ ?_ _); rotate_left; focus (first | omega | (simp; done) | (simp; omega))) | ((with_reducible refine Below.trans ?_ (Below.mono (by with_reducible assumption) ?_)); rotate_left; focus (first | omega | (simp; done) | (simp; omega))) | with_reducible exact Only.refl _ _ | (with_reducible refine Only.drew ?_) | (with_reducible refine Only.setL ?_ _ _ _) | (with_reducible refine Only.setR ?_ _ _ _) | (with_reducible refine Only.alloc ?_ _) | (with_reducible refine EL.drew ?_) | (focus (with_reducible refine EL.other ?_ (by omega) _ _ _)) | ((with_reducible refine Only.setCell ?_ (Or.inr ?_) _); rotate_left; focus (first | omega | (simp; done) | (simp; omega))) | (focus (with_reducible refine EL.alloc ?_ (by (first | omega | (simp; omega))) _)) | (with_reducible refine EL.other ?_ (by with_reducible assumption) _ _ _) | (with_reducible refine EL.set ?_ (by with_reducible assumption) (by with_reducible assumption) _) | (focus (with_reducible refine EL.set ?_ (by omega) (by with_reducible assumption) _)) | ((with_reducible refine EL.below ?_ (by with_reducible assumption) ?_); rotate_left; focus (first | omega | (simp; omega))) | ((with_reducible refine Only.trans ?_ (Only.of_below (by with_reducible assumption)))) )))
    · exact Below.alloc (Below.refl _ _) (Nat.le_refl _) _
  · exact Below.alloc (Below.alloc (Below.refl _ _) (Nat.le_refl _) _) (by simp) _
end Go.Proofs.Ytdahjhokcjfioaa
