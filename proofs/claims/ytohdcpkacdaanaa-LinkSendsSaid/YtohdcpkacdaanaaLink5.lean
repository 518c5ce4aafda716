import Derived.Test.YtohdcpkacdaanaaLink4
import Derived.Test.YtohdcpkacdaanaaOpenA
namespace Go.Proofs.Ytohdcpkacdaanaa
set_option linter.unusedVariables false
set_option linter.unusedSimpArgs false
set_option maxRecDepth 100000
open Go.RowKit Fg Reg

/-- The calls that a slice holds. -/
def CallsAt (w : World) (sb so len : Nat) : Prop := sb < w.heap.size ∧ ∀ k, k < len → ∃ now i n a b c d : Int, (0 ≤ now ∧ now ≤ 18446744073709551615) ∧ (-9223372036854775808 ≤ n ∧ n ≤ 9223372036854775807) ∧
  w.cell? ⟨sb, so + k * 7, none⟩ = some (.int .u64 now) ∧ w.cell? ⟨sb, so + k * 7 + 1, none⟩ = some (.int .u64 i) ∧ w.cell? ⟨sb, so + k * 7 + 2, none⟩ = some (.int .i64 n) ∧ w.cell? ⟨sb, so + k * 7 + 3, none⟩ = some (.int .u16 a) ∧
  w.cell? ⟨sb, so + k * 7 + 4, none⟩ = some (.int .u16 b) ∧ w.cell? ⟨sb, so + k * 7 + 5, none⟩ = some (.int .u16 c) ∧ w.cell? ⟨sb, so + k * 7 + 6, none⟩ = some (.int .u16 d)
theorem calls_of {w : World} {v : Value} (h : Op.FlatSlice w 7 [.int .u64, .int .u64, .int .i64, .int .u16, .int .u16, .int .u16, .int .u16] v) :
    v = .slice none 0 0 ∨ (∃ a cap, v = .slice (some a) 0 cap) ∨ ∃ sb so len cap : Nat, 0 < len ∧ v = .slice (some ⟨sb, so, none⟩) len cap ∧ CallsAt w sb so len := by
  rcases h with h | ⟨a, cap, h, _⟩ | ⟨b, o, n, cap, css, h0, rfl, h3, h4, hlt, hn, hi⟩
  · exact .inl h
  · exact .inr (.inl ⟨a, cap, h⟩)
  · refine .inr (.inr ⟨b, o, n, cap, h0, rfl, hlt, fun k hk => ?_⟩)
    obtain ⟨hf, he⟩ := hi k (by omega)
    obtain ⟨_, _, e0, ⟨now, rfl, w0⟩, _, _, rfl, ⟨i, rfl, w1⟩, _, _, rfl, ⟨n', rfl, w2⟩, _, _, rfl, ⟨a, rfl, w3⟩, _, _, rfl, ⟨b', rfl, w4⟩, _, _, rfl, ⟨c, rfl, w5⟩, _, _, rfl, ⟨d, rfl, w6⟩, rfl⟩ := hf
    rw [e0] at he
    have b1 := bounds_u64 w0
    have b2 := bounds_i64 w2
    exact ⟨now, i, n', a, b', c, d, b1, b2, by simpa using he 0 _ rfl, he 1 _ rfl, he 2 _ rfl, he 3 _ rfl, he 4 _ rfl, he 5 _ rfl, he 6 _ rfl⟩

theorem linkApart_out (t : Int) (v : Value) (len : Nat) (hv : v = .slice none 0 0 ∧ len = 0 ∨ ∃ a c, v = .slice (some a) len c) (h : 200 < len ∨ (len ≤ 200 ∧ t < 1) ∨ (len ≤ 200 ∧ 1 ≤ t ∧ 65536 < t)) (w : World) : Calls Try.prog 10 #[.int .i64 t, v] w fun e w' => e = .returned (.bool true) ∧ Below w.heap.size w w' := by
  rcases hv with ⟨rfl, rfl⟩ | ⟨ad, c, rfl⟩
  · rcases h with h | ⟨_, h⟩ | ⟨_, h', h⟩
    · omega
    all_goals
      go_enter Try.func10, Try.ntmps10
      go_wp2_with (go_at_call 34; ((with_reducible refine (ten_c _).mono ?_); rintro e w1 ⟨rfl, hbel⟩; obtain ⟨hcc, hff⟩ := bcell hbel; have hsz := hbel.size; (try simp at hsz); have hF : Below w.heap.size w w1 := (by ((repeat' apply And.intro) <;> first | (simp [go_sem, *]; done) | omega | (repeat' (first | with_reducible exact Below.refl _ _ | with_reducible assumption | ((with_reducible refine Below.drew ?_)) | ((with_reducible refine below_drewN ?_ _)) | ((with_reducible refine Below.alloc ?_ ?_ _); rotate_left; focus (first | omega | (simp; done) | (simp; omega))) | ((with_reducible refine Below.setCell ?_ ?_ _); rotate_left; focus (first | omega | (simp; done) | (simp; omega))) | ((with_reducible refine Below.trans ?_ (Below.mono (by with_reducible assumption) ?_)); rotate_left; focus (first | omega | (simp; done) | (simp; omega))))))); go_split_ands; clear hcc hff hbel))
      (go_ret; refine ⟨?_, ?_⟩; (focus (exact rfl)); ((repeat' (first | with_reducible exact Below.refl _ _ | with_reducible assumption | ((with_reducible refine Below.drew ?_)) | ((with_reducible refine below_drewN ?_ _)) | ((with_reducible refine Below.alloc ?_ ?_ _); rotate_left; focus (first | omega | (simp; done) | (simp; omega))) | ((with_reducible refine Below.setCell ?_ ?_ _); rotate_left; focus (first | omega | (simp; done) | (simp; omega))) | ((with_reducible refine Below.trans ?_ (Below.mono (by with_reducible assumption) ?_)); rotate_left; focus (first | omega | (simp; done) | (simp; omega))))); done))
  · rcases h with h | ⟨h1, h⟩ | ⟨h1, h', h⟩
    all_goals
      go_enter Try.func10, Try.ntmps10
      go_wp2_with (go_at_call 34; ((with_reducible refine (ten_c _).mono ?_); rintro e w1 ⟨rfl, hbel⟩; obtain ⟨hcc, hff⟩ := bcell hbel; have hsz := hbel.size; (try simp at hsz); have hF : Below w.heap.size w w1 := (by ((repeat' apply And.intro) <;> first | (simp [go_sem, *]; done) | omega | (repeat' (first | with_reducible exact Below.refl _ _ | with_reducible assumption | ((with_reducible refine Below.drew ?_)) | ((with_reducible refine below_drewN ?_ _)) | ((with_reducible refine Below.alloc ?_ ?_ _); rotate_left; focus (first | omega | (simp; done) | (simp; omega))) | ((with_reducible refine Below.setCell ?_ ?_ _); rotate_left; focus (first | omega | (simp; done) | (simp; omega))) | ((with_reducible refine Below.trans ?_ (Below.mono (by with_reducible assumption) ?_)); rotate_left; focus (first | omega | (simp; done) | (simp; omega))))))); go_split_ands; clear hcc hff hbel))
      (go_ret; refine ⟨?_, ?_⟩; (focus (exact rfl)); ((repeat' (first | with_reducible exact Below.refl _ _ | with_reducible assumption | ((with_reducible refine Below.drew ?_)) | ((with_reducible refine below_drewN ?_ _)) | ((with_reducible refine Below.alloc ?_ ?_ _); rotate_left; focus (first | omega | (simp; done) | (simp; omega))) | ((with_reducible refine Below.setCell ?_ ?_ _); rotate_left; focus (first | omega | (simp; done) | (simp; omega))) | ((with_reducible refine Below.trans ?_ (Below.mono (by with_reducible assumption) ?_)); rotate_left; focus (first | omega | (simp; done) | (simp; omega))))); done))
theorem linkApart_empty (t : Int) (v : Value) (hv : v = .slice none 0 0 ∨ ∃ a c, v = .slice (some a) 0 c) (h1 : 1 ≤ t) (h2 : t ≤ 65536) (w : World) : Calls Try.prog 10 #[.int .i64 t, v] w fun e w' => e = .returned (.bool true) ∧ Below w.heap.size w w' := by
  rcases hv with rfl | ⟨ad, c, rfl⟩
  all_goals
    go_enter Try.func10, Try.ntmps10
    go_wp2_with (go_at_call 35; (with_reducible refine (new_ok t (by omega) (by omega) _).mono ?_); rintro e w1 ⟨rfl, hL, hb⟩; have hT : TK w w1 w.heap.size 0 0 0 t 0 := ⟨hL, hb, Nat.le_refl _⟩; clear hL hb)
    refine wp_loop_rounds 1 ?_
    rw [rounds_succ]
    go_wp2_with (first
      | (go_at_call 40; (with_reducible refine (sent_c _ _ _ _ _ _ _ hT.lk).mono ?_); rintro e w5 ⟨rfl, hb⟩; replace hT := hT.below hb; clear hb)
      | (go_at_call 42; (with_reducible refine (busy_c _ _ _ _ _ _ _ hT.lk).mono ?_); rintro e w6 ⟨rfl, hb⟩; replace hT := hT.below hb; clear hb)
      | (go_at_call 43; (with_reducible refine (until_c _ _ _ _ _ _ _ hT.lk).mono ?_); rintro e w8 ⟨rfl, hb⟩; replace hT := hT.below hb; clear hb)
      | (go_at_call 34; (with_reducible refine (ten_c _).mono ?_); rintro e w7 ⟨rfl, hb⟩; replace hT := hT.below hb; clear hb))
    go_ret
    exact ⟨rfl, hT.2.1⟩
end Go.Proofs.Ytohdcpkacdaanaa
