import Derived.Test.YtdahjhokcjfioaaMeter4
namespace Go.Proofs.Ytdahjhokcjfioaa
set_option linter.unusedVariables false
set_option linter.unusedSimpArgs false
set_option maxRecDepth 100000
open Go.RowKit Fg Reg

def mok (W s : Int) : Bool := decide (1 ≤ W ∧ W ≤ 4294967296 ∧ 0 ≤ s ∧ s ≤ 8)
theorem mmay_yes (W s : Int) (h1 : 1 ≤ W) (h2 : W ≤ 4294967296) (h3 : 0 ≤ s) (h4 : s ≤ 8) (w : World) : Calls Try.prog 68 #[.int .u64 W, .int .i64 s] w fun ee w' => ee = .returned (.bool true) ∧ Below w.heap.size w w' := by
  go_enter Try.func68, Try.ntmps68
  go_wp2
  go_ret
  refine ⟨?_, (by repeat' (first | with_reducible exact Below.refl _ _ | with_reducible assumption | ((with_reducible refine Below.drew ?_)) | ((with_reducible refine below_drewN ?_ _)) | ((with_reducible refine Below.alloc ?_ ?_ _); rotate_left; focus (first | omega | (simp; done) | (simp; omega))) | ((with_reducible refine Below.setCell ?_ ?_ _); rotate_left; focus (first | omega | (simp; done) | (simp; omega))) | ((with_reducible refine Below.trans ?_ (Below.mono (by with_reducible assumption) ?_)); rotate_left; focus (first | omega | (simp; done) | (simp; omega))) | with_reducible exact Only.refl _ _ | (with_reducible refine Only.drew ?_) | (with_reducible refine Only.setOne ?_ _ _ _) | (with_reducible refine Only.alloc ?_ _) | (with_reducible refine Only.drewN ?_ _) | (with_reducible refine Only.of_below ?_) ))⟩
  simp [*]
theorem mmay_c (W s : Int) (w : World) : Calls Try.prog 68 #[.int .u64 W, .int .i64 s] w fun ee w' => ee = .returned (.bool (mok W s)) ∧ Below w.heap.size w w' := by
  go_enter Try.func68, Try.ntmps68
  go_wp2
  all_goals
    go_ret
    refine ⟨?_, (by repeat' (first | with_reducible exact Below.refl _ _ | with_reducible assumption | ((with_reducible refine Below.drew ?_)) | ((with_reducible refine below_drewN ?_ _)) | ((with_reducible refine Below.alloc ?_ ?_ _); rotate_left; focus (first | omega | (simp; done) | (simp; omega))) | ((with_reducible refine Below.setCell ?_ ?_ _); rotate_left; focus (first | omega | (simp; done) | (simp; omega))) | ((with_reducible refine Below.trans ?_ (Below.mono (by with_reducible assumption) ?_)); rotate_left; focus (first | omega | (simp; done) | (simp; omega))) | with_reducible exact Only.refl _ _ | (with_reducible refine Only.drew ?_) | (with_reducible refine Only.setOne ?_ _ _ _) | (with_reducible refine Only.alloc ?_ _) | (with_reducible refine Only.drewN ?_ _) | (with_reducible refine Only.of_below ?_) ))⟩
    unfold mok
    simp_all
    try omega
/-- The calls that a slice holds. -/
def CallsAt (w : World) (sb so len : Nat) : Prop := sb < w.heap.size ∧ ∀ k, k < len → ∃ kd t m : Int, (0 ≤ t ∧ t ≤ 18446744073709551615) ∧ (-9223372036854775808 ≤ m ∧ m ≤ 9223372036854775807) ∧ (-9223372036854775808 ≤ kd ∧ kd ≤ 9223372036854775807) ∧
  w.cell? ⟨sb, so + k * 3, none⟩ = some (.int .i64 kd) ∧ w.cell? ⟨sb, so + k * 3 + 1, none⟩ = some (.int .u64 t) ∧ w.cell? ⟨sb, so + k * 3 + 2, none⟩ = some (.int .i64 m)
theorem calls_of {w : World} {v : Value} (h : Op.FlatSlice w 3 [.int .i64, .int .u64, .int .i64] v) :
    v = .slice none 0 0 ∨ (∃ a cap, v = .slice (some a) 0 cap) ∨ ∃ sb so len cap : Nat, 0 < len ∧ v = .slice (some ⟨sb, so, none⟩) len cap ∧ CallsAt w sb so len := by
  rcases h with h | ⟨a, cap, h, _⟩ | ⟨b, o, n, cap, css, h0, rfl, h3, h4, hlt, hn, hi⟩
  · exact .inl h
  · exact .inr (.inl ⟨a, cap, h⟩)
  · refine .inr (.inr ⟨b, o, n, cap, h0, rfl, hlt, fun k hk => ?_⟩)
    obtain ⟨hf, he⟩ := hi k (by omega)
    obtain ⟨_, _, e0, ⟨kd, rfl, w0⟩, _, _, rfl, ⟨t, rfl, w1⟩, _, _, rfl, ⟨m, rfl, w2⟩, rfl⟩ := hf
    rw [e0] at he
    exact ⟨kd, t, m, bounds_u64 w1, bounds_i64 w2, bounds_i64 w0, by simpa using he 0 _ rfl, he 1 _ rfl, he 2 _ rfl⟩

end Go.Proofs.Ytdahjhokcjfioaa
