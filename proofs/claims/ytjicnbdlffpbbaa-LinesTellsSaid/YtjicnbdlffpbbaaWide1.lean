import Derived.Test.YtjicnbdlffpbbaaBase
namespace Go.Proofs.Ytjicnbdlffpbbaa
set_option linter.unusedVariables false
set_option linter.unusedSimpArgs false
set_option maxRecDepth 100000
open Go.RowKit Fg

theorem of_c (v : Int) (w : World) : Calls Try.prog 29 #[.int .u64 v] w fun e w' => e = .returned (.agg #[.int .u64 0, .int .u64 v]) ∧ Below w.heap.size w w' := by
  go_enter Try.func29, Try.ntmps29
  go_wp2
  exact bodyPost_ret (v := .agg #[.int .u64 0, .int .u64 v]) (by simp [results, Try.results29, go_sem]) rfl ⟨rfl, (Below.refl _ _).alloc (Nat.le_refl _) _⟩

theorem add_c (a b c d : Int) (ha : In a) (hb : In b) (hc : In c) (hd : In d) (w : World) : Calls Try.prog 28 #[.agg #[.int .u64 a, .int .u64 b], .agg #[.int .u64 c, .int .u64 d]] w fun e w' => e = .returned (.tuple #[.agg #[.int .u64 (hi (val a b + val c d)), .int .u64 (lo (val a b + val c d))], .bool (decide (340282366920938463463374607431768211455 < val a b + val c d))]) ∧ Below w.heap.size w w' := by
  go_enter Try.func28, Try.ntmps28
  go_wp2
  all_goals
    refine bodyPost_ret (v := .tuple #[.agg #[.int .u64 (hi (val a b + val c d)), .int .u64 (lo (val a b + val c d))], .bool (decide (340282366920938463463374607431768211455 < val a b + val c d))]) ?_ rfl ⟨rfl, (by repeat' (first | with_reducible exact Below.refl _ _ | with_reducible assumption | ((with_reducible refine Below.drew ?_)) | ((with_reducible refine below_drewN ?_ _)) | ((with_reducible refine Below.alloc ?_ ?_ _); rotate_left; focus (first | omega | (simp; done) | (simp; omega))) | ((with_reducible refine Below.setCell ?_ ?_ _); rotate_left; focus (first | omega | (simp; done) | (simp; omega))) | ((with_reducible refine Below.trans ?_ (Below.mono (by with_reducible assumption) ?_)); rotate_left; focus (first | omega | (simp; done) | (simp; omega)))))⟩
    simp [results, Try.results28, go_sem]
    simp only [wrap_u64] at *
    unfold In at *
    unfold hi lo val
    refine ⟨⟨?_, ?_⟩, ?_⟩
    · omega
    · omega
    · first | omega | (rw [Bool.eq_iff_iff]; simp; omega)

def cmp (x y : Int) : Int := if x = y then 0 else if x < y then -1 else 1

theorem compare_c (a b c d : Int) (ha : In a) (hb : In b) (hc : In c) (hd : In d) (w : World) : Calls Try.prog 25 #[.agg #[.int .u64 a, .int .u64 b], .agg #[.int .u64 c, .int .u64 d]] w fun e w' => e = .returned (.int .i64 (cmp (val a b) (val c d))) ∧ Below w.heap.size w w' := by
  go_enter Try.func25, Try.ntmps25
  go_wp2
  all_goals
    go_ret
    refine ⟨ret_int ?_, (by repeat' (first | with_reducible exact Below.refl _ _ | with_reducible assumption | ((with_reducible refine Below.drew ?_)) | ((with_reducible refine below_drewN ?_ _)) | ((with_reducible refine Below.alloc ?_ ?_ _); rotate_left; focus (first | omega | (simp; done) | (simp; omega))) | ((with_reducible refine Below.setCell ?_ ?_ _); rotate_left; focus (first | omega | (simp; done) | (simp; omega))) | ((with_reducible refine Below.trans ?_ (Below.mono (by with_reducible assumption) ?_)); rotate_left; focus (first | omega | (simp; done) | (simp; omega)))))⟩
    unfold In at *
    unfold cmp val
    first
      | (rw [if_pos (by omega)])
      | (rw [if_neg (by omega), if_pos (by omega)])
      | (rw [if_neg (by omega), if_neg (by omega)])

theorem half_c (v : Int) (i : Int) (hv : In v) (h01 : i = 0 ∨ i = 1) (w : World) : Calls Try.prog 98 #[.int .u64 v, .int .i64 i] w fun e w' => e = .returned (.int .u64 (if i = 0 then v % 4294967296 else v / 4294967296)) ∧ w = w' := by
  rcases h01 with rfl | rfl
  all_goals
    go_enter Try.func98, Try.ntmps98
    go_wp2
    go_ret
    refine ⟨ret_int ?_, rfl⟩
    rewrite [and_mask (by first | assumption | (unfold In at *; omega))]
    first | rfl | (simp; done) | (unfold In at hv; simp; omega) | (unfold In at hv; omega)

theorem moved_c (v : Int) (i m : Int) (hv : In v) (h01 : (i = 0 ∧ m = 1) ∨ (i = 1 ∧ m = 4294967296) ∨ (i = 2 ∧ m = 18446744073709551616)) (w : World) : Calls Try.prog 97 #[.int .u64 v, .int .i64 i] w fun e w' => e = .returned (.agg #[.int .u64 (Fg.hi (v * m)), .int .u64 (lo (v * m))]) ∧ Below w.heap.size w w' := by
  rcases h01 with ⟨rfl, rfl⟩ | ⟨rfl, rfl⟩ | ⟨rfl, rfl⟩
  all_goals
    go_enter Try.func97, Try.ntmps97
    go_wp2
    refine bodyPost_ret (v := .agg #[.int .u64 (Fg.hi (v * _)), .int .u64 (lo (v * _))]) ?_ rfl ⟨rfl, (by repeat' (first | with_reducible exact Below.refl _ _ | with_reducible assumption | ((with_reducible refine Below.drew ?_)) | ((with_reducible refine below_drewN ?_ _)) | ((with_reducible refine Below.alloc ?_ ?_ _); rotate_left; focus (first | omega | (simp; done) | (simp; omega))) | ((with_reducible refine Below.setCell ?_ ?_ _); rotate_left; focus (first | omega | (simp; done) | (simp; omega))) | ((with_reducible refine Below.trans ?_ (Below.mono (by with_reducible assumption) ?_)); rotate_left; focus (first | omega | (simp; done) | (simp; omega)))))⟩
    simp [results, Try.results97, go_sem]
    simp only [wrap_u64] at *
    unfold In at *
    unfold Fg.hi lo
    omega

theorem sub_c (a b c d : Int) (ha : In a) (hb : In b) (hc : In c) (hd : In d) (w : World) : Calls Try.prog 94 #[.agg #[.int .u64 a, .int .u64 b], .agg #[.int .u64 c, .int .u64 d]] w fun e w' => e = .returned (.tuple #[.agg #[.int .u64 (hi (val a b - val c d)), .int .u64 (lo (val a b - val c d))], .bool (decide (cmp (val a b) (val c d) < 0))]) ∧ Below w.heap.size w w' := by
  go_enter Try.func94, Try.ntmps94
  by_cases h : b < d
  all_goals
    go_wp2
    go_region_held3 (fun w' => w'.cell? ⟨w.heap.size, 0, none⟩ = some (.int .u64 a) ∧ w'.cell? ⟨w.heap.size, 1, none⟩ = some (.int .u64 b) ∧ w'.cell? ⟨w.heap.size + 1, 0, none⟩ = some (.int .u64 c) ∧ w'.cell? ⟨w.heap.size + 1, 1, none⟩ = some (.int .u64 d) ∧ w'.frozen? ⟨w.heap.size + 2, 0, none⟩ = false ∧ w.heap.size + 2 < w'.heap.size ∧ Below w.heap.size w w') (((repeat' apply And.intro) <;> first | (simp [go_sem, *]; done) | omega | (repeat' (first | with_reducible exact Below.refl _ _ | with_reducible assumption | ((with_reducible refine Below.drew ?_)) | ((with_reducible refine below_drewN ?_ _)) | ((with_reducible refine Below.alloc ?_ ?_ _); rotate_left; focus (first | omega | (simp; done) | (simp; omega))) | ((with_reducible refine Below.setCell ?_ ?_ _); rotate_left; focus (first | omega | (simp; done) | (simp; omega))) | ((with_reducible refine Below.trans ?_ (Below.mono (by with_reducible assumption) ?_)); rotate_left; focus (first | omega | (simp; done) | (simp; omega)))))))
      (first | (go_at_call 25; refine (compare_c _ _ _ _ ha hb hc hd _).mono ?_; rintro e w' ⟨rfl, hbel⟩; obtain ⟨hcc, hff⟩ := bcell hbel; have hsz := hbel.size; (try simp at hsz)))
    go_wp2
    refine bodyPost_ret (v := .tuple #[.agg #[.int .u64 (hi (val a b - val c d)), .int .u64 (lo (val a b - val c d))], .bool (decide (cmp (val a b) (val c d) < 0))]) ?_ rfl ⟨rfl, ?_⟩
    · simp [results, Try.results94, go_sem, *]
      simp only [wrap_u64]
      clear hcc hff hbel
      unfold In at *
      unfold hi lo val
      omega
    · exact (by repeat' (first | with_reducible exact Below.refl _ _ | with_reducible assumption | ((with_reducible refine Below.drew ?_)) | ((with_reducible refine below_drewN ?_ _)) | ((with_reducible refine Below.alloc ?_ ?_ _); rotate_left; focus (first | omega | (simp; done) | (simp; omega))) | ((with_reducible refine Below.setCell ?_ ?_ _); rotate_left; focus (first | omega | (simp; done) | (simp; omega))) | ((with_reducible refine Below.trans ?_ (Below.mono (by with_reducible assumption) ?_)); rotate_left; focus (first | omega | (simp; done) | (simp; omega)))))
end Go.Proofs.Ytjicnbdlffpbbaa
