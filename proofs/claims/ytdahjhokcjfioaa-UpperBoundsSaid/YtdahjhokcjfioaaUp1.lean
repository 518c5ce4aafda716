import Derived.Test.YtdahjhokcjfioaaRunRef
namespace Go.Proofs.Ytdahjhokcjfioaa
set_option linter.unusedVariables false
set_option linter.unusedSimpArgs false
set_option maxRecDepth 100000
open Go.RowKit Fg Reg

theorem uni_c (n : Int) (hn : In n) (w : World) : Calls Try.prog 108 #[.int .u64 n] w fun ee w' => ee = .returned (.agg #[.int .u64 (hi (n * 65536)), .int .u64 (lo (n * 65536))]) ∧ Below w.heap.size w w' := by
  have K1 := Lib.hid (mul_c n 65536 hn (by unfold In; omega))
  go_enter Try.func108, Try.ntmps108
  go_wp2_with (go_at_call 137; ((with_reducible refine (K1.out _).mono ?_); rintro e w1 ⟨rfl, hbel⟩; obtain ⟨hcc, hff⟩ := bcell hbel; have hsz := hbel.size; (try simp at hsz); have hF : (w1.cell? ⟨w.heap.size, 0, none⟩ = some (.int .u64 (0)) ∧ w1.cell? ⟨w.heap.size, 1, none⟩ = some (.int .u64 (0)) ∧ w1.frozen? ⟨w.heap.size, 0, none⟩ = false ∧ w1.frozen? ⟨w.heap.size, 1, none⟩ = false ∧ w.heap.size < w1.heap.size) ∧ Below w.heap.size w w1 := (by ((repeat' apply And.intro) <;> first | (simp [go_sem, *]; done) | omega | (repeat' (first | with_reducible exact Below.refl _ _ | with_reducible assumption | ((with_reducible refine Below.drew ?_)) | ((with_reducible refine below_drewN ?_ _)) | ((with_reducible refine Below.alloc ?_ ?_ _); rotate_left; focus (first | omega | (simp; done) | (simp; omega))) | ((with_reducible refine Below.setCell ?_ ?_ _); rotate_left; focus (first | omega | (simp; done) | (simp; omega))) | ((with_reducible refine Below.trans ?_ (Below.mono (by with_reducible assumption) ?_)); rotate_left; focus (first | omega | (simp; done) | (simp; omega))))))); go_split_ands; clear hcc hff hbel))
  refine bodyPost_ret (v := .agg #[.int .u64 (hi (n * 65536)), .int .u64 (lo (n * 65536))]) (by simp [results, Try.results108, go_sem, *]) rfl ⟨rfl, (by repeat' (first | with_reducible exact Below.refl _ _ | with_reducible assumption | ((with_reducible refine Below.drew ?_)) | ((with_reducible refine below_drewN ?_ _)) | ((with_reducible refine Below.alloc ?_ ?_ _); rotate_left; focus (first | omega | (simp; done) | (simp; omega))) | ((with_reducible refine Below.setCell ?_ ?_ _); rotate_left; focus (first | omega | (simp; done) | (simp; omega))) | ((with_reducible refine Below.trans ?_ (Below.mono (by with_reducible assumption) ?_)); rotate_left; focus (first | omega | (simp; done) | (simp; omega)))))⟩
end Go.Proofs.Ytdahjhokcjfioaa
