import Derived.Test.YtdahjhokcjfioaaUp2
namespace Go.Proofs.Ytdahjhokcjfioaa
set_option linter.unusedVariables false
set_option linter.unusedSimpArgs false
set_option maxRecDepth 100000
open Go.RowKit Fg Reg

theorem eqRunD (n : Nat) (a Y b c Z d : Int) (i : Bool) (w : World) : (Op.equalIn (n + 4) 66 (.agg #[.int .u64 (a), .int .u64 (d0 Y), .int .u64 (d1 Y), .int .u64 (d2 Y), .int .u64 (d3 Y), .int .u64 (b), .int .u64 (c), .int .u64 (d0 Z), .int .u64 (d1 Z), .int .u64 (d2 Z), .int .u64 (d3 Z), .int .u64 (d), .bool i]) (.agg #[.int .u64 (a), .int .u64 (d0 Y), .int .u64 (d1 Y), .int .u64 (d2 Y), .int .u64 (d3 Y), .int .u64 (b), .int .u64 (c), .int .u64 (d0 Z), .int .u64 (d1 Z), .int .u64 (d2 Z), .int .u64 (d3 Z), .int .u64 (d), .bool i])).run Try.prog w = .ok true w := by
  have hz : ∀ w, (sizeOf 4).run Try.prog w = .ok 1 w := fun w => by kernel_rfl
  have ha : ∀ w, (isAgg 4).run Try.prog w = .ok false w := fun w => by kernel_rfl
  have ha2 : ∀ w, (isAgg 64).run Try.prog w = .ok true w := fun w => by kernel_rfl
  have hz2 : ∀ w, (sizeOf 64).run Try.prog w = .ok 6 w := fun w => by kernel_rfl
  have u3 := Try.underlying4
  have hS : Try.prog.underlying 66 = some (.struct (Try.prog.fieldsOf 66)) := by kernel_rfl
  have hp : Try.prog.stoodInHeld 66 = false := by kernel_rfl
  have e9 := eqLineD n
  rw [show n + 4 = (n + 3) + 1 from rfl, run_equalIn_agg w (n + 3) 66 _ _ hS hp]
  simp only [Program.fieldsOf, Try.underlying66]
  go_simp
/-- How many bytes a limit lets through at the most. -/
def mostv (S l : Int) : Int := if S / 65536 + (if l < 0 then 0 else l) ≤ 18446744073709551615 then S / 65536 + (if l < 0 then 0 else l) else 18446744073709551615
theorem run_max22 {a b : Int} (w : World) : (Builtin.max_ #[28, 28] 28 #[.int .u64 a, .int .u64 b]).run Try.prog w = .ok (.int .u64 (if b > a then b else a)) w := by
  simp [Builtin.max_, Builtin.max2]
theorem inner_c (a b : Int) (w : World) : Calls Try.prog 107 #[.int .u64 a, .int .u64 b] w fun ee w' => ee = .returned (.int .u64 (if b > a then b else a)) ∧ Below w.heap.size w w' := by
  have hM := run_max22 (a := a) (b := b)
  generalize (if b > a then b else a) = M at *
  go_enter Try.func107, Try.ntmps107
  go_wp2
  go_ret
  exact ⟨rfl, (by repeat' (first | with_reducible exact Below.refl _ _ | with_reducible assumption | ((with_reducible refine Below.drew ?_)) | ((with_reducible refine below_drewN ?_ _)) | ((with_reducible refine Below.alloc ?_ ?_ _); rotate_left; focus (first | omega | (simp; done) | (simp; omega))) | ((with_reducible refine Below.setCell ?_ ?_ _); rotate_left; focus (first | omega | (simp; done) | (simp; omega))) | ((with_reducible refine Below.trans ?_ (Below.mono (by with_reducible assumption) ?_)); rotate_left; focus (first | omega | (simp; done) | (simp; omega)))))⟩
theorem run_maxi {a : Int} (w : World) : (Builtin.max_ #[3, 3] 3 #[.int .i64 a, .int .i64 0]).run Try.prog w = .ok (.int .i64 (if a < 0 then 0 else a)) w := by
  simp [Builtin.max_, Builtin.max2]
theorem most_c (c1 cd c2 t l : Int) (h1 : In c1) (h2 : In cd) (h3 : In c2) (ht : In t) (hl : -9223372036854775808 ≤ l ∧ l ≤ 9223372036854775807) (w : World) : Calls Try.prog 45 #[.agg #[.int .u64 (c1), .int .u64 (cd), .int .u64 (c2)], .int .u64 t, .int .i64 l] w fun ee w' => ee = .returned (.int .u64 (mostv (srv c1 cd c2 t) l)) ∧ Below w.heap.size w w' := by
  have hS : Wd (srv c1 cd c2 t) := by
    by_cases hk : kind c1 cd c2 = 0
    · rw [srv_no hk]; unfold Wd; omega
    · rw [srv_ok hk]
      have ok := okc h1 h2 h3 hk
      have := sv_nn ok ht.1
      have := sv_lt ok ht
      unfold Wd; omega
  have k1 := ksv_c c1 cd c2 t h1 h2 h3 ht
  unfold mostv
  generalize srv c1 cd c2 t = S at *
  have k2 := floor_c (hi S) (lo S) 65536 (hi_in _) (lo_in _) (by unfold In; omega) (by omega)
  rw [val_wd hS] at k2
  have hq0 : 0 ≤ S / 65536 ∧ S / 65536 < 340282366920938463463374607431768211456 := by unfold Wd at hS; omega
  generalize S / 65536 = q at *
  obtain ⟨hq0, hq1⟩ := hq0
  have hM := run_maxi (a := l)
  have hp : 0 ≤ (if l < 0 then 0 else l) ∧ (if l < 0 then 0 else l) ≤ 9223372036854775807 := by split <;> omega
  generalize (if l < 0 then 0 else l) = p at *
  obtain ⟨p0, p1⟩ := hp
  have K1 := Lib.hid k1
  clear k1 hS h1 h2 h3 ht hl
  unfold nv ne at k2
  by_cases c : q ≤ 18446744073709551615
  · have k2' : ∀ w, Calls Try.prog 110 #[.agg #[.int .u64 (hi S), .int .u64 (lo S)], .int .u64 65536] w fun ee w' => ee = .returned (.tuple #[.int .u64 (q), .int .i64 (0)]) ∧ Below w.heap.size w w' := fun w => by
      have k := k2 w
      rwa [if_pos (show hi q = 0 by unfold hi; omega), if_pos (show hi q = 0 by unfold hi; omega), show lo q = q by unfold lo; omega] at k
    have K2 := Lib.hid k2'
    clear k2 k2'
    by_cases c2 : q + p ≤ 18446744073709551615
    · rw [if_pos c2]
      have c3 : decide (q > 18446744073709551615 - p) = false := by simp; omega
      go_enter Try.func45, Try.ntmps45
      go_wp2_with (first | (go_at_call 111; ((with_reducible refine (K1.out _).mono ?_); rintro e w1 ⟨rfl, hbel⟩; obtain ⟨hcc, hff⟩ := bcell hbel; have hsz := hbel.size; (try simp at hsz); have hF : Below w.heap.size w w1 := (by ((repeat' apply And.intro) <;> first | (simp [go_sem, *]; done) | omega | (repeat' (first | with_reducible exact Below.refl _ _ | with_reducible assumption | ((with_reducible refine Below.drew ?_)) | ((with_reducible refine below_drewN ?_ _)) | ((with_reducible refine Below.alloc ?_ ?_ _); rotate_left; focus (first | omega | (simp; done) | (simp; omega))) | ((with_reducible refine Below.setCell ?_ ?_ _); rotate_left; focus (first | omega | (simp; done) | (simp; omega))) | ((with_reducible refine Below.trans ?_ (Below.mono (by with_reducible assumption) ?_)); rotate_left; focus (first | omega | (simp; done) | (simp; omega))))))); go_split_ands; clear hcc hff hbel)) | (go_at_call 110; ((with_reducible refine (K2.out _).mono ?_); rintro e w2 ⟨rfl, hbel⟩; obtain ⟨hcc, hff⟩ := bcell hbel; have hsz := hbel.size; (try simp at hsz); have hF : Below w.heap.size w w2 := (by ((repeat' apply And.intro) <;> first | (simp [go_sem, *]; done) | omega | (repeat' (first | with_reducible exact Below.refl _ _ | with_reducible assumption | ((with_reducible refine Below.drew ?_)) | ((with_reducible refine below_drewN ?_ _)) | ((with_reducible refine Below.alloc ?_ ?_ _); rotate_left; focus (first | omega | (simp; done) | (simp; omega))) | ((with_reducible refine Below.setCell ?_ ?_ _); rotate_left; focus (first | omega | (simp; done) | (simp; omega))) | ((with_reducible refine Below.trans ?_ (Below.mono (by with_reducible assumption) ?_)); rotate_left; focus (first | omega | (simp; done) | (simp; omega))))))); go_split_ands; clear hcc hff hbel)))
      (go_ret; refine ⟨?_, ?_⟩; (focus (exact rfl)); ((repeat' (first | with_reducible exact Below.refl _ _ | with_reducible assumption | ((with_reducible refine Below.drew ?_)) | ((with_reducible refine below_drewN ?_ _)) | ((with_reducible refine Below.alloc ?_ ?_ _); rotate_left; focus (first | omega | (simp; done) | (simp; omega))) | ((with_reducible refine Below.setCell ?_ ?_ _); rotate_left; focus (first | omega | (simp; done) | (simp; omega))) | ((with_reducible refine Below.trans ?_ (Below.mono (by with_reducible assumption) ?_)); rotate_left; focus (first | omega | (simp; done) | (simp; omega))))); done))
    · rw [if_neg c2]
      have c3 : 18446744073709551615 - p < q := by omega
      clear c2
      go_enter Try.func45, Try.ntmps45
      go_wp2_with (first | (go_at_call 111; ((with_reducible refine (K1.out _).mono ?_); rintro e w1 ⟨rfl, hbel⟩; obtain ⟨hcc, hff⟩ := bcell hbel; have hsz := hbel.size; (try simp at hsz); have hF : Below w.heap.size w w1 := (by ((repeat' apply And.intro) <;> first | (simp [go_sem, *]; done) | omega | (repeat' (first | with_reducible exact Below.refl _ _ | with_reducible assumption | ((with_reducible refine Below.drew ?_)) | ((with_reducible refine below_drewN ?_ _)) | ((with_reducible refine Below.alloc ?_ ?_ _); rotate_left; focus (first | omega | (simp; done) | (simp; omega))) | ((with_reducible refine Below.setCell ?_ ?_ _); rotate_left; focus (first | omega | (simp; done) | (simp; omega))) | ((with_reducible refine Below.trans ?_ (Below.mono (by with_reducible assumption) ?_)); rotate_left; focus (first | omega | (simp; done) | (simp; omega))))))); go_split_ands; clear hcc hff hbel)) | (go_at_call 110; ((with_reducible refine (K2.out _).mono ?_); rintro e w2 ⟨rfl, hbel⟩; obtain ⟨hcc, hff⟩ := bcell hbel; have hsz := hbel.size; (try simp at hsz); have hF : Below w.heap.size w w2 := (by ((repeat' apply And.intro) <;> first | (simp [go_sem, *]; done) | omega | (repeat' (first | with_reducible exact Below.refl _ _ | with_reducible assumption | ((with_reducible refine Below.drew ?_)) | ((with_reducible refine below_drewN ?_ _)) | ((with_reducible refine Below.alloc ?_ ?_ _); rotate_left; focus (first | omega | (simp; done) | (simp; omega))) | ((with_reducible refine Below.setCell ?_ ?_ _); rotate_left; focus (first | omega | (simp; done) | (simp; omega))) | ((with_reducible refine Below.trans ?_ (Below.mono (by with_reducible assumption) ?_)); rotate_left; focus (first | omega | (simp; done) | (simp; omega))))))); go_split_ands; clear hcc hff hbel)))
      (go_ret; refine ⟨?_, ?_⟩; (focus (exact rfl)); ((repeat' (first | with_reducible exact Below.refl _ _ | with_reducible assumption | ((with_reducible refine Below.drew ?_)) | ((with_reducible refine below_drewN ?_ _)) | ((with_reducible refine Below.alloc ?_ ?_ _); rotate_left; focus (first | omega | (simp; done) | (simp; omega))) | ((with_reducible refine Below.setCell ?_ ?_ _); rotate_left; focus (first | omega | (simp; done) | (simp; omega))) | ((with_reducible refine Below.trans ?_ (Below.mono (by with_reducible assumption) ?_)); rotate_left; focus (first | omega | (simp; done) | (simp; omega))))); done))
  · rw [if_neg (by omega)]
    have k2' : ∃ v E : Int, (E != 0) = true ∧ ∀ w, Calls Try.prog 110 #[.agg #[.int .u64 (hi S), .int .u64 (lo S)], .int .u64 65536] w fun ee w' => ee = .returned (.tuple #[.int .u64 (v), .int .i64 (E)]) ∧ Below w.heap.size w w' := by
      have hh : ¬ hi q = 0 := by unfold hi; omega
      rw [if_neg hh, if_neg hh] at k2
      exact ⟨_, _, by decide, k2⟩
    obtain ⟨v, E, hE, k3⟩ := k2'
    have K2 := Lib.hid k3
    clear k2 k3 c hq1
    go_enter Try.func45, Try.ntmps45
    go_wp2_with (first | (go_at_call 111; ((with_reducible refine (K1.out _).mono ?_); rintro e w1 ⟨rfl, hbel⟩; obtain ⟨hcc, hff⟩ := bcell hbel; have hsz := hbel.size; (try simp at hsz); have hF : Below w.heap.size w w1 := (by ((repeat' apply And.intro) <;> first | (simp [go_sem, *]; done) | omega | (repeat' (first | with_reducible exact Below.refl _ _ | with_reducible assumption | ((with_reducible refine Below.drew ?_)) | ((with_reducible refine below_drewN ?_ _)) | ((with_reducible refine Below.alloc ?_ ?_ _); rotate_left; focus (first | omega | (simp; done) | (simp; omega))) | ((with_reducible refine Below.setCell ?_ ?_ _); rotate_left; focus (first | omega | (simp; done) | (simp; omega))) | ((with_reducible refine Below.trans ?_ (Below.mono (by with_reducible assumption) ?_)); rotate_left; focus (first | omega | (simp; done) | (simp; omega))))))); go_split_ands; clear hcc hff hbel)) | (go_at_call 110; ((with_reducible refine (K2.out _).mono ?_); rintro e w2 ⟨rfl, hbel⟩; obtain ⟨hcc, hff⟩ := bcell hbel; have hsz := hbel.size; (try simp at hsz); have hF : Below w.heap.size w w2 := (by ((repeat' apply And.intro) <;> first | (simp [go_sem, *]; done) | omega | (repeat' (first | with_reducible exact Below.refl _ _ | with_reducible assumption | ((with_reducible refine Below.drew ?_)) | ((with_reducible refine below_drewN ?_ _)) | ((with_reducible refine Below.alloc ?_ ?_ _); rotate_left; focus (first | omega | (simp; done) | (simp; omega))) | ((with_reducible refine Below.setCell ?_ ?_ _); rotate_left; focus (first | omega | (simp; done) | (simp; omega))) | ((with_reducible refine Below.trans ?_ (Below.mono (by with_reducible assumption) ?_)); rotate_left; focus (first | omega | (simp; done) | (simp; omega))))))); go_split_ands; clear hcc hff hbel)))
    (go_ret; refine ⟨?_, ?_⟩; (focus (exact rfl)); ((repeat' (first | with_reducible exact Below.refl _ _ | with_reducible assumption | ((with_reducible refine Below.drew ?_)) | ((with_reducible refine below_drewN ?_ _)) | ((with_reducible refine Below.alloc ?_ ?_ _); rotate_left; focus (first | omega | (simp; done) | (simp; omega))) | ((with_reducible refine Below.setCell ?_ ?_ _); rotate_left; focus (first | omega | (simp; done) | (simp; omega))) | ((with_reducible refine Below.trans ?_ (Below.mono (by with_reducible assumption) ?_)); rotate_left; focus (first | omega | (simp; done) | (simp; omega))))); done))
end Go.Proofs.Ytdahjhokcjfioaa
