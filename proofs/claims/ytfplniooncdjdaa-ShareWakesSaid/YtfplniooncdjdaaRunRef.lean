import Derived.Test.YtfplniooncdjdaaRunA
import Derived.Test.YtfplniooncdjdaaLawsA
import Derived.Test.YtfplniooncdjdaaLines9
import Derived.Test.YtfplniooncdjdaaLines10
namespace Go.Proofs.Ytfplniooncdjdaa
set_option linter.unusedVariables false
set_option linter.unusedSimpArgs false
set_option maxRecDepth 100000
open Go.RowKit Fg Reg

/-- A run of the reference, as a value. -/
def rvr (r : Rn) : Value := .agg #[.int .u64 (r.x1), .int .u64 (d0 r.y1), .int .u64 (d1 r.y1), .int .u64 (d2 r.y1), .int .u64 (d3 r.y1), .int .u64 (r.m1), .int .u64 (r.x2), .int .u64 (d0 r.y2), .int .u64 (d1 r.y2), .int .u64 (d2 r.y2), .int .u64 (d3 r.y2), .int .u64 (r.m2), .bool r.b]
theorem runi_c (n : Int) (hn : In n) (w : World) : Calls Try.prog 69 #[.int .u64 n] w fun ee w' => ee = .returned (.agg #[.int .u64 (d0 (n * 65536)), .int .u64 (d1 (n * 65536)), .int .u64 (d2 (n * 65536)), .int .u64 (d3 (n * 65536))]) ∧ Below w.heap.size w w' := by
  have K1 := Lib.hid (refmul_c n 65536 hn (by unfold In; omega))
  go_enter Try.func69, Try.ntmps69
  go_wp2_with (go_at_call 51; ((with_reducible refine (K1.out _).mono ?_); rintro e w1 ⟨rfl, hbel⟩; obtain ⟨hcc, hff⟩ := bcell hbel; have hsz := hbel.size; (try simp at hsz); have hF : (w1.cell? ⟨w.heap.size, 0, none⟩ = some (.int .u64 0) ∧ w1.cell? ⟨w.heap.size, 1, none⟩ = some (.int .u64 0) ∧ w1.cell? ⟨w.heap.size, 2, none⟩ = some (.int .u64 0) ∧ w1.cell? ⟨w.heap.size, 3, none⟩ = some (.int .u64 0) ∧ w1.frozen? ⟨w.heap.size, 0, none⟩ = false ∧ w1.frozen? ⟨w.heap.size, 1, none⟩ = false ∧ w1.frozen? ⟨w.heap.size, 2, none⟩ = false ∧ w1.frozen? ⟨w.heap.size, 3, none⟩ = false ∧ w.heap.size < w1.heap.size) ∧ Below w.heap.size w w1 := (by ((repeat' apply And.intro) <;> first | (simp [go_sem, *]; done) | omega | (repeat' (first | with_reducible exact Below.refl _ _ | with_reducible assumption | ((with_reducible refine Below.drew ?_)) | ((with_reducible refine below_drewN ?_ _)) | ((with_reducible refine Below.alloc ?_ ?_ _); rotate_left; focus (first | omega | (simp; done) | (simp; omega))) | ((with_reducible refine Below.setCell ?_ ?_ _); rotate_left; focus (first | omega | (simp; done) | (simp; omega))) | ((with_reducible refine Below.trans ?_ (Below.mono (by with_reducible assumption) ?_)); rotate_left; focus (first | omega | (simp; done) | (simp; omega))))))); go_split_ands; clear hcc hff hbel))
  refine bodyPost_ret (v := .agg #[.int .u64 (d0 (n * 65536)), .int .u64 (d1 (n * 65536)), .int .u64 (d2 (n * 65536)), .int .u64 (d3 (n * 65536))]) (by simp [results, Try.results69, go_sem, *]) rfl ⟨rfl, (by repeat' (first | with_reducible exact Below.refl _ _ | with_reducible assumption | ((with_reducible refine Below.drew ?_)) | ((with_reducible refine below_drewN ?_ _)) | ((with_reducible refine Below.alloc ?_ ?_ _); rotate_left; focus (first | omega | (simp; done) | (simp; omega))) | ((with_reducible refine Below.setCell ?_ ?_ _); rotate_left; focus (first | omega | (simp; done) | (simp; omega))) | ((with_reducible refine Below.trans ?_ (Below.mono (by with_reducible assumption) ?_)); rotate_left; focus (first | omega | (simp; done) | (simp; omega)))))⟩
end Go.Proofs.Ytfplniooncdjdaa
