/- flow.Packet of any text. -/
import Derived.Test.YtnfhiagbbmaobaaFk2
namespace Go.Proofs.Ytnfhiagbbmaobaa
set_option linter.unusedVariables false
set_option linter.unusedSimpArgs false
set_option maxRecDepth 100000
open Go.RowKit Fg Reg
attribute [local irreducible] Reg.wE Reg2.wT

set_option maxHeartbeats 4000000 in
theorem fpk_no (S : ByteArray) (id most e : Int) (he : e = 2 ∨ e = 3 ∨ e = 4 ∨ e = 7) (kk : ∀ z, Calls Try.prog 12 #[.string S] z fun ee w' => ee = .returned (.tuple #[.agg #[.int .u16 0, .int .u16 0, .int .u16 0, .int .u16 0], .int .i64 e]) ∧ Below (z).heap.size z w') (w : World) : Calls Try.prog 13 #[.int .u64 id, .string S, .int .i64 most] w fun ee w' => ee = .returned (.tuple #[.agg #[.int .u64 0, .int .i64 0, .int .u16 0, .int .u16 0, .int .u16 0, .int .u16 0], .int .i64 e]) ∧ Below w.heap.size w w' := by
  have K := Lib.hid kk
  clear kk
  rcases he with rfl | rfl | rfl | rfl
  all_goals
    go_enter Try.func13, Try.ntmps13
    go_wp2_with (go_at_call 12; ((with_reducible refine (K.out _).mono ?_); rintro e w1 ⟨rfl, hbel⟩; obtain ⟨hcc, hff⟩ := bcell hbel; have hsz := hbel.size; (try simp at hsz); have hF : w.heap.size < w1.heap.size ∧ ((w1).cell? ⟨w.heap.size, 0, none⟩ = some (.int .u64 0) ∧ (w1).cell? ⟨w.heap.size, 1, none⟩ = some (.int .i64 0) ∧ (w1).cell? ⟨w.heap.size, 2, none⟩ = some (.int .u16 0) ∧ (w1).cell? ⟨w.heap.size, 3, none⟩ = some (.int .u16 0) ∧ (w1).cell? ⟨w.heap.size, 4, none⟩ = some (.int .u16 0) ∧ (w1).cell? ⟨w.heap.size, 5, none⟩ = some (.int .u16 0) ∧ (w1).frozen? ⟨w.heap.size, 0, none⟩ = false ∧ (w1).frozen? ⟨w.heap.size, 1, none⟩ = false ∧ (w1).frozen? ⟨w.heap.size, 2, none⟩ = false ∧ (w1).frozen? ⟨w.heap.size, 3, none⟩ = false ∧ (w1).frozen? ⟨w.heap.size, 4, none⟩ = false ∧ (w1).frozen? ⟨w.heap.size, 5, none⟩ = false) ∧ Below w.heap.size w w1 := (by ((repeat' apply And.intro) <;> first | (simp [go_sem, *]; done) | omega | (repeat' (first | with_reducible exact Below.refl _ _ | with_reducible assumption | ((with_reducible refine Below.drew ?_)) | ((with_reducible refine below_drewN ?_ _)) | ((with_reducible refine Below.alloc ?_ ?_ _); rotate_left; focus (first | omega | (simp; done) | (simp; omega))) | ((with_reducible refine Below.setCell ?_ ?_ _); rotate_left; focus (first | omega | (simp; done) | (simp; omega))) | ((with_reducible refine Below.trans ?_ (Below.mono (by with_reducible assumption) ?_)); rotate_left; focus (first | omega | (simp; done) | (simp; omega))))))); go_split_ands; clear hcc hff hbel))
    refine bodyPost_ret (v := .tuple #[.agg #[.int .u64 0, .int .i64 0, .int .u16 0, .int .u16 0, .int .u16 0, .int .u16 0], .int .i64 _]) (by simp [results, Try.results13, go_sem, *]) rfl ⟨rfl, (by repeat' (first | with_reducible exact Below.refl _ _ | with_reducible assumption | ((with_reducible refine Below.drew ?_)) | ((with_reducible refine below_drewN ?_ _)) | ((with_reducible refine Below.alloc ?_ ?_ _); rotate_left; focus (first | omega | (simp; done) | (simp; omega))) | ((with_reducible refine Below.setCell ?_ ?_ _); rotate_left; focus (first | omega | (simp; done) | (simp; omega))) | ((with_reducible refine Below.trans ?_ (Below.mono (by with_reducible assumption) ?_)); rotate_left; focus (first | omega | (simp; done) | (simp; omega)))))⟩
set_option maxHeartbeats 4000000 in
theorem fpk_len (S : ByteArray) (hM : S.size ≤ 9223372036854775807) (id most a b c d : Int) (h : most < S.size ∨ 16384 < S.size) (kk : ∀ z, Calls Try.prog 12 #[.string S] z fun ee w' => ee = .returned (.tuple #[.agg #[.int .u16 (a), .int .u16 (b), .int .u16 (c), .int .u16 (d)], .int .i64 0]) ∧ Below (z).heap.size z w') (w : World) : Calls Try.prog 13 #[.int .u64 id, .string S, .int .i64 most] w fun ee w' => ee = .returned (.tuple #[.agg #[.int .u64 0, .int .i64 0, .int .u16 0, .int .u16 0, .int .u16 0, .int .u16 0], .int .i64 26]) ∧ Below w.heap.size w w' := by
  have K := Lib.hid kk
  clear kk
  by_cases h1 : most < S.size
  · have d1 : decide (most < (S.size : Int)) = true := by simpa using h1
    clear h
    go_enter Try.func13, Try.ntmps13
    go_wp2_with (go_at_call 12; ((with_reducible refine (K.out _).mono ?_); rintro e w1 ⟨rfl, hbel⟩; obtain ⟨hcc, hff⟩ := bcell hbel; have hsz := hbel.size; (try simp at hsz); have hF : w.heap.size < w1.heap.size ∧ ((w1).cell? ⟨w.heap.size, 0, none⟩ = some (.int .u64 0) ∧ (w1).cell? ⟨w.heap.size, 1, none⟩ = some (.int .i64 0) ∧ (w1).cell? ⟨w.heap.size, 2, none⟩ = some (.int .u16 0) ∧ (w1).cell? ⟨w.heap.size, 3, none⟩ = some (.int .u16 0) ∧ (w1).cell? ⟨w.heap.size, 4, none⟩ = some (.int .u16 0) ∧ (w1).cell? ⟨w.heap.size, 5, none⟩ = some (.int .u16 0) ∧ (w1).frozen? ⟨w.heap.size, 0, none⟩ = false ∧ (w1).frozen? ⟨w.heap.size, 1, none⟩ = false ∧ (w1).frozen? ⟨w.heap.size, 2, none⟩ = false ∧ (w1).frozen? ⟨w.heap.size, 3, none⟩ = false ∧ (w1).frozen? ⟨w.heap.size, 4, none⟩ = false ∧ (w1).frozen? ⟨w.heap.size, 5, none⟩ = false) ∧ Below w.heap.size w w1 := (by ((repeat' apply And.intro) <;> first | (simp [go_sem, *]; done) | omega | (repeat' (first | with_reducible exact Below.refl _ _ | with_reducible assumption | ((with_reducible refine Below.drew ?_)) | ((with_reducible refine below_drewN ?_ _)) | ((with_reducible refine Below.alloc ?_ ?_ _); rotate_left; focus (first | omega | (simp; done) | (simp; omega))) | ((with_reducible refine Below.setCell ?_ ?_ _); rotate_left; focus (first | omega | (simp; done) | (simp; omega))) | ((with_reducible refine Below.trans ?_ (Below.mono (by with_reducible assumption) ?_)); rotate_left; focus (first | omega | (simp; done) | (simp; omega))))))); go_split_ands; clear hcc hff hbel))
    refine bodyPost_ret (v := .tuple #[.agg #[.int .u64 0, .int .i64 0, .int .u16 0, .int .u16 0, .int .u16 0, .int .u16 0], .int .i64 26]) (by simp [results, Try.results13, go_sem, *]) rfl ⟨rfl, (by repeat' (first | with_reducible exact Below.refl _ _ | with_reducible assumption | ((with_reducible refine Below.drew ?_)) | ((with_reducible refine below_drewN ?_ _)) | ((with_reducible refine Below.alloc ?_ ?_ _); rotate_left; focus (first | omega | (simp; done) | (simp; omega))) | ((with_reducible refine Below.setCell ?_ ?_ _); rotate_left; focus (first | omega | (simp; done) | (simp; omega))) | ((with_reducible refine Below.trans ?_ (Below.mono (by with_reducible assumption) ?_)); rotate_left; focus (first | omega | (simp; done) | (simp; omega)))))⟩
  · have d1 : decide (most < (S.size : Int)) = false := by simpa using h1
    have d2 : decide (16384 < (S.size : Int)) = true := by simp <;> omega
    clear h
    go_enter Try.func13, Try.ntmps13
    go_wp2_with (go_at_call 12; ((with_reducible refine (K.out _).mono ?_); rintro e w1 ⟨rfl, hbel⟩; obtain ⟨hcc, hff⟩ := bcell hbel; have hsz := hbel.size; (try simp at hsz); have hF : w.heap.size < w1.heap.size ∧ ((w1).cell? ⟨w.heap.size, 0, none⟩ = some (.int .u64 0) ∧ (w1).cell? ⟨w.heap.size, 1, none⟩ = some (.int .i64 0) ∧ (w1).cell? ⟨w.heap.size, 2, none⟩ = some (.int .u16 0) ∧ (w1).cell? ⟨w.heap.size, 3, none⟩ = some (.int .u16 0) ∧ (w1).cell? ⟨w.heap.size, 4, none⟩ = some (.int .u16 0) ∧ (w1).cell? ⟨w.heap.size, 5, none⟩ = some (.int .u16 0) ∧ (w1).frozen? ⟨w.heap.size, 0, none⟩ = false ∧ (w1).frozen? ⟨w.heap.size, 1, none⟩ = false ∧ (w1).frozen? ⟨w.heap.size, 2, none⟩ = false ∧ (w1).frozen? ⟨w.heap.size, 3, none⟩ = false ∧ (w1).frozen? ⟨w.heap.size, 4, none⟩ = false ∧ (w1).frozen? ⟨w.heap.size, 5, none⟩ = false) ∧ Below w.heap.size w w1 := (by ((repeat' apply And.intro) <;> first | (simp [go_sem, *]; done) | omega | (repeat' (first | with_reducible exact Below.refl _ _ | with_reducible assumption | ((with_reducible refine Below.drew ?_)) | ((with_reducible refine below_drewN ?_ _)) | ((with_reducible refine Below.alloc ?_ ?_ _); rotate_left; focus (first | omega | (simp; done) | (simp; omega))) | ((with_reducible refine Below.setCell ?_ ?_ _); rotate_left; focus (first | omega | (simp; done) | (simp; omega))) | ((with_reducible refine Below.trans ?_ (Below.mono (by with_reducible assumption) ?_)); rotate_left; focus (first | omega | (simp; done) | (simp; omega))))))); go_split_ands; clear hcc hff hbel))
    refine bodyPost_ret (v := .tuple #[.agg #[.int .u64 0, .int .i64 0, .int .u16 0, .int .u16 0, .int .u16 0, .int .u16 0], .int .i64 26]) (by simp [results, Try.results13, go_sem, *]) rfl ⟨rfl, (by repeat' (first | with_reducible exact Below.refl _ _ | with_reducible assumption | ((with_reducible refine Below.drew ?_)) | ((with_reducible refine below_drewN ?_ _)) | ((with_reducible refine Below.alloc ?_ ?_ _); rotate_left; focus (first | omega | (simp; done) | (simp; omega))) | ((with_reducible refine Below.setCell ?_ ?_ _); rotate_left; focus (first | omega | (simp; done) | (simp; omega))) | ((with_reducible refine Below.trans ?_ (Below.mono (by with_reducible assumption) ?_)); rotate_left; focus (first | omega | (simp; done) | (simp; omega)))))⟩
set_option maxHeartbeats 4000000 in
theorem fpk_ok (S : ByteArray) (id most a b c d : Int) (h1 : (S.size : Int) ≤ most) (h2 : S.size ≤ 16384) (kk : ∀ z, Calls Try.prog 12 #[.string S] z fun ee w' => ee = .returned (.tuple #[.agg #[.int .u16 (a), .int .u16 (b), .int .u16 (c), .int .u16 (d)], .int .i64 0]) ∧ Below (z).heap.size z w') (w : World) : Calls Try.prog 13 #[.int .u64 id, .string S, .int .i64 most] w fun ee w' => ee = .returned (.tuple #[.agg #[.int .u64 (id), .int .i64 (S.size), .int .u16 (a), .int .u16 (b), .int .u16 (c), .int .u16 (d)], .int .i64 0]) ∧ Below w.heap.size w w' := by
  have K := Lib.hid kk
  clear kk
  have d1 : decide (most < (S.size : Int)) = false := by simpa using h1
  have d2 : decide (16384 < (S.size : Int)) = false := by simp; omega
  go_enter Try.func13, Try.ntmps13
  go_wp2_with (go_at_call 12; ((with_reducible refine (K.out _).mono ?_); rintro e w1 ⟨rfl, hbel⟩; obtain ⟨hcc, hff⟩ := bcell hbel; have hsz := hbel.size; (try simp at hsz); have hF : w.heap.size < w1.heap.size ∧ ((w1).cell? ⟨w.heap.size, 0, none⟩ = some (.int .u64 0) ∧ (w1).cell? ⟨w.heap.size, 1, none⟩ = some (.int .i64 0) ∧ (w1).cell? ⟨w.heap.size, 2, none⟩ = some (.int .u16 0) ∧ (w1).cell? ⟨w.heap.size, 3, none⟩ = some (.int .u16 0) ∧ (w1).cell? ⟨w.heap.size, 4, none⟩ = some (.int .u16 0) ∧ (w1).cell? ⟨w.heap.size, 5, none⟩ = some (.int .u16 0) ∧ (w1).frozen? ⟨w.heap.size, 0, none⟩ = false ∧ (w1).frozen? ⟨w.heap.size, 1, none⟩ = false ∧ (w1).frozen? ⟨w.heap.size, 2, none⟩ = false ∧ (w1).frozen? ⟨w.heap.size, 3, none⟩ = false ∧ (w1).frozen? ⟨w.heap.size, 4, none⟩ = false ∧ (w1).frozen? ⟨w.heap.size, 5, none⟩ = false) ∧ Below w.heap.size w w1 := (by ((repeat' apply And.intro) <;> first | (simp [go_sem, *]; done) | omega | (repeat' (first | with_reducible exact Below.refl _ _ | with_reducible assumption | ((with_reducible refine Below.drew ?_)) | ((with_reducible refine below_drewN ?_ _)) | ((with_reducible refine Below.alloc ?_ ?_ _); rotate_left; focus (first | omega | (simp; done) | (simp; omega))) | ((with_reducible refine Below.setCell ?_ ?_ _); rotate_left; focus (first | omega | (simp; done) | (simp; omega))) | ((with_reducible refine Below.trans ?_ (Below.mono (by with_reducible assumption) ?_)); rotate_left; focus (first | omega | (simp; done) | (simp; omega))))))); go_split_ands; clear hcc hff hbel))
  refine bodyPost_ret (v := .tuple #[.agg #[.int .u64 (id), .int .i64 (S.size), .int .u16 (a), .int .u16 (b), .int .u16 (c), .int .u16 (d)], .int .i64 0]) (by simp [results, Try.results13, go_sem, *]) rfl ⟨rfl, (by repeat' (first | with_reducible exact Below.refl _ _ | with_reducible assumption | ((with_reducible refine Below.drew ?_)) | ((with_reducible refine below_drewN ?_ _)) | ((with_reducible refine Below.alloc ?_ ?_ _); rotate_left; focus (first | omega | (simp; done) | (simp; omega))) | ((with_reducible refine Below.setCell ?_ ?_ _); rotate_left; focus (first | omega | (simp; done) | (simp; omega))) | ((with_reducible refine Below.trans ?_ (Below.mono (by with_reducible assumption) ?_)); rotate_left; focus (first | omega | (simp; done) | (simp; omega)))))⟩
/-- Why bytes are no packet. -/
def perr (S : ByteArray) (most : Int) : Int := if kbad S ≠ 0 then kbad S else if most < S.size ∨ 16384 < S.size then 26 else 0
def pval (S : ByteArray) (id most : Int) : Value := if perr S most = 0 then .agg #[.int .u64 (id), .int .i64 (S.size), .int .u16 (k0 S), .int .u16 (k1 S), .int .u16 (k2 S), .int .u16 (k3 S)] else .agg #[.int .u64 0, .int .i64 0, .int .u16 0, .int .u16 0, .int .u16 0, .int .u16 0]
theorem fpk_c (S : ByteArray) (hM : S.size ≤ 9223372036854775807) (id most : Int) (w : World) : Calls Try.prog 13 #[.int .u64 id, .string S, .int .i64 most] w fun ee w' => ee = .returned (.tuple #[pval S id most, .int .i64 (perr S most)]) ∧ Below w.heap.size w w' := by
  have hv := kbad_val S
  by_cases h : kbad S = 0
  · have kk := fun z => key_c S hM z
    unfold kval at kk
    rw [if_pos h, h] at kk
    by_cases h2 : most < S.size ∨ 16384 < S.size
    · have e : perr S most = 26 := by unfold perr; rw [if_neg (fun hh => hh h), if_pos h2]
      unfold pval
      rw [e, if_neg (by decide)]
      exact fpk_len S hM id most _ _ _ _ h2 kk w
    · have e : perr S most = 0 := by unfold perr; rw [if_neg (fun hh => hh h), if_neg h2]
      unfold pval
      rw [e, if_pos rfl]
      exact fpk_ok S id most _ _ _ _ (by omega) (by omega) kk w
  · have kk := fun z => key_c S hM z
    unfold kval at kk
    rw [if_neg h] at kk
    have e : perr S most = kbad S := if_pos h
    unfold pval
    rw [e, if_neg h]
    exact fpk_no S id most _ (by omega) kk w
end Go.Proofs.Ytnfhiagbbmaobaa
