/- rate.amount. -/
import Derived.Test.YtdiniaokkdcihaaDoorTx6
import Derived.Test.YtdiniaokkdcihaaDoorTx7
namespace Go.Proofs.YtdiniaokkdcihaaDoor
set_option linter.unusedVariables false
set_option linter.unusedSimpArgs false
set_option maxRecDepth 100000
open Go.RowKit Fg Reg
attribute [local irreducible] Reg.wE

theorem amt_none (S : ByteArray) (b m : Nat) (most : Int) (T : ByteArray) (n : Int) (w : World) (KE : Calls Tryd.prog 114 #[.string S, .slice (some ⟨b, 0, none⟩) m m] w fun ee w' => ee = .returned (.tuple #[.agg #[.string T, .int .u64 n], .bool false]) ∧ Below w.heap.size w w') :
    Calls Tryd.prog 80 #[.string S, .slice (some ⟨b, 0, none⟩) m m, .int .u64 most] w fun ee w' => ee = .returned (.tuple #[.int .u64 (0), .int .i64 (4)]) ∧ Below w.heap.size w w' := by
  have K := Lib.hid KE
  clear KE
  go_enter Tryd.func80, Tryd.ntmps80
  go_wp2_with (go_at_call 114; ((with_reducible refine (K.out).mono ?_); rintro e w1 ⟨rfl, hbel⟩; obtain ⟨hcc, hff⟩ := bcell hbel; have hsz := hbel.size; (try simp at hsz); have hF : Below w.heap.size w w1 := (by ((repeat' apply And.intro) <;> first | (simp [go_sem, *]; done) | omega | (repeat' (first | with_reducible exact Below.refl _ _ | with_reducible assumption | ((with_reducible refine Below.drew ?_)) | ((with_reducible refine below_drewN ?_ _)) | ((with_reducible refine Below.alloc ?_ ?_ _); rotate_left; focus (first | omega | (simp; done) | (simp; omega))) | ((with_reducible refine Below.setCell ?_ ?_ _); rotate_left; focus (first | omega | (simp; done) | (simp; omega))) | ((with_reducible refine Below.trans ?_ (Below.mono (by with_reducible assumption) ?_)); rotate_left; focus (first | omega | (simp; done) | (simp; omega))))))); go_split_ands; clear hcc hff hbel))
  refine bodyPost_ret (v := .tuple #[.int .u64 (0), .int .i64 (4)]) (by simp [results, Tryd.results80, go_sem, *]) rfl ⟨rfl, (by repeat' (first | with_reducible exact Below.refl _ _ | with_reducible assumption | ((with_reducible refine Below.drew ?_)) | ((with_reducible refine below_drewN ?_ _)) | ((with_reducible refine Below.alloc ?_ ?_ _); rotate_left; focus (first | omega | (simp; done) | (simp; omega))) | ((with_reducible refine Below.setCell ?_ ?_ _); rotate_left; focus (first | omega | (simp; done) | (simp; omega))) | ((with_reducible refine Below.trans ?_ (Below.mono (by with_reducible assumption) ?_)); rotate_left; focus (first | omega | (simp; done) | (simp; omega)))))⟩
set_option maxHeartbeats 2000000 in
theorem amt_ok (S : ByteArray) (hS : S.size < 9223372036854775807) (b m : Nat) (most : Int) (hm0 : 0 ≤ most) (hm : most < 18446744073709551616) (T : ByteArray) (n : Int) (hn : 0 < n) (hn2 : n < 18446744073709551616) (hsf : Lib.hasSuffix S.data.toList T.data.toList = true) (tl : Nat) (htl : T.data.toList.length = tl) (w : World)
    (KE : Calls Tryd.prog 114 #[.string S, .slice (some ⟨b, 0, none⟩) m m] w fun ee w' => ee = .returned (.tuple #[.agg #[.string T, .int .u64 n], .bool true]) ∧ Below w.heap.size w w') :
    Calls Tryd.prog 80 #[.string S, .slice (some ⟨b, 0, none⟩) m m, .int .u64 most] w fun ee w' => ee = .returned (.tuple #[.int .u64 (amV S.data.toList tl n most), .int .i64 (amE S.data.toList tl n most)]) ∧ Below w.heap.size w w' := by
  have K := Lib.hid KE
  have kt := fun w => trim_c S T (by omega) hsf w
  rw [htl] at kt
  obtain ⟨P, hP⟩ : ∃ P : ByteArray, P = ⟨(S.data.toList.take (S.data.toList.length - tl)).toArray⟩ := ⟨_, rfl⟩
  have hPL : P.data.toList = S.data.toList.take (S.data.toList.length - tl) := by rw [hP]
  have hPs : P.size < 9223372036854775807 := by
    have h1 := size_len P
    have h2 := size_len S
    rw [hPL, List.length_take] at h1
    omega
  have kn := fun w => num_c P hPs most hm0 hm w
  rw [hPL] at kn
  obtain ⟨v, hv⟩ : ∃ v, numV (S.data.toList.take (S.data.toList.length - tl)) most = v := ⟨_, rfl⟩
  obtain ⟨e0, he⟩ : ∃ e0, numE (S.data.toList.take (S.data.toList.length - tl)) most = e0 := ⟨_, rfl⟩
  have hc := am_cases S.data.toList tl n most hn hm0 hm v e0 hv he
  rw [hv, he] at kn
  rw [← hP] at kt
  have KT := Lib.hid kt
  have KN := Lib.hid kn
  obtain ⟨q, hq⟩ : ∃ q, most / n = q := ⟨_, rfl⟩
  have hn0 : ¬ n = 0 := by omega
  have hqb : 0 ≤ q ∧ q ≤ most := by
    rw [← hq]
    exact ⟨Int.ediv_nonneg hm0 (by omega), Int.ediv_le_self _ hm0⟩
  have W1 : IntKind.u64.wrap (most.tdiv n) = q := by rw [Int.tdiv_eq_ediv_of_nonneg hm0, hq, wrap_u64]; omega
  rw [hq] at hc
  clear KE kt kn hsf htl hPL hPs hv he hP hS
  rcases hc with ⟨h1, r1, r2⟩ | ⟨rfl, h1, r1, r2⟩ | ⟨rfl, h1, r1, r2, h2, h3⟩
  · rw [r1, r2]
    have d1 : (e0 == 0) = false := by simpa using h1
    clear r1 r2
    go_enter Tryd.func80, Tryd.ntmps80
    go_wp2_with (first
      | (go_at_call 114; ((with_reducible refine (K.out).mono ?_); rintro e w1 ⟨rfl, hbel⟩; obtain ⟨hcc, hff⟩ := bcell hbel; have hsz := hbel.size; (try simp at hsz); have hF : Below w.heap.size w w1 := (by ((repeat' apply And.intro) <;> first | (simp [go_sem, *]; done) | omega | (repeat' (first | with_reducible exact Below.refl _ _ | with_reducible assumption | ((with_reducible refine Below.drew ?_)) | ((with_reducible refine below_drewN ?_ _)) | ((with_reducible refine Below.alloc ?_ ?_ _); rotate_left; focus (first | omega | (simp; done) | (simp; omega))) | ((with_reducible refine Below.setCell ?_ ?_ _); rotate_left; focus (first | omega | (simp; done) | (simp; omega))) | ((with_reducible refine Below.trans ?_ (Below.mono (by with_reducible assumption) ?_)); rotate_left; focus (first | omega | (simp; done) | (simp; omega))))))); go_split_ands; clear hcc hff hbel))
      | (go_at_call 115; (with_reducible refine (KT.out _).mono ?_); rintro e w' ⟨rfl, rfl⟩)
      | (go_at_call 28; ((with_reducible refine (KN.out _).mono ?_); rintro e w2 ⟨rfl, hbel⟩; obtain ⟨hcc, hff⟩ := bcell hbel; have hsz := hbel.size; (try simp at hsz); have hF : Below w.heap.size w w2 ∧ (w2.cell? ⟨w1.heap.size, 0, none⟩ = some (.string T) ∧ w2.cell? ⟨w1.heap.size, 1, none⟩ = some (.int .u64 n) ∧ w1.heap.size < w2.heap.size) := (by ((repeat' apply And.intro) <;> first | (simp [go_sem, *]; done) | omega | (repeat' (first | with_reducible exact Below.refl _ _ | with_reducible assumption | ((with_reducible refine Below.drew ?_)) | ((with_reducible refine below_drewN ?_ _)) | ((with_reducible refine Below.alloc ?_ ?_ _); rotate_left; focus (first | omega | (simp; done) | (simp; omega))) | ((with_reducible refine Below.setCell ?_ ?_ _); rotate_left; focus (first | omega | (simp; done) | (simp; omega))) | ((with_reducible refine Below.trans ?_ (Below.mono (by with_reducible assumption) ?_)); rotate_left; focus (first | omega | (simp; done) | (simp; omega))))))); go_split_ands; clear hcc hff hbel)))
    refine bodyPost_ret (v := .tuple #[.int .u64 (0), .int .i64 (e0)]) (by simp [results, Tryd.results80, go_sem, *]) rfl ⟨rfl, (by repeat' (first | with_reducible exact Below.refl _ _ | with_reducible assumption | ((with_reducible refine Below.drew ?_)) | ((with_reducible refine below_drewN ?_ _)) | ((with_reducible refine Below.alloc ?_ ?_ _); rotate_left; focus (first | omega | (simp; done) | (simp; omega))) | ((with_reducible refine Below.setCell ?_ ?_ _); rotate_left; focus (first | omega | (simp; done) | (simp; omega))) | ((with_reducible refine Below.trans ?_ (Below.mono (by with_reducible assumption) ?_)); rotate_left; focus (first | omega | (simp; done) | (simp; omega)))))⟩
  · rw [r1, r2]
    have d1 : decide (q < v) = true := by simpa using h1
    clear r1 r2
    go_enter Tryd.func80, Tryd.ntmps80
    go_wp2_with (first
      | (go_at_call 114; ((with_reducible refine (K.out).mono ?_); rintro e w1 ⟨rfl, hbel⟩; obtain ⟨hcc, hff⟩ := bcell hbel; have hsz := hbel.size; (try simp at hsz); have hF : Below w.heap.size w w1 := (by ((repeat' apply And.intro) <;> first | (simp [go_sem, *]; done) | omega | (repeat' (first | with_reducible exact Below.refl _ _ | with_reducible assumption | ((with_reducible refine Below.drew ?_)) | ((with_reducible refine below_drewN ?_ _)) | ((with_reducible refine Below.alloc ?_ ?_ _); rotate_left; focus (first | omega | (simp; done) | (simp; omega))) | ((with_reducible refine Below.setCell ?_ ?_ _); rotate_left; focus (first | omega | (simp; done) | (simp; omega))) | ((with_reducible refine Below.trans ?_ (Below.mono (by with_reducible assumption) ?_)); rotate_left; focus (first | omega | (simp; done) | (simp; omega))))))); go_split_ands; clear hcc hff hbel))
      | (go_at_call 115; (with_reducible refine (KT.out _).mono ?_); rintro e w' ⟨rfl, rfl⟩)
      | (go_at_call 28; ((with_reducible refine (KN.out _).mono ?_); rintro e w2 ⟨rfl, hbel⟩; obtain ⟨hcc, hff⟩ := bcell hbel; have hsz := hbel.size; (try simp at hsz); have hF : Below w.heap.size w w2 ∧ (w2.cell? ⟨w1.heap.size, 0, none⟩ = some (.string T) ∧ w2.cell? ⟨w1.heap.size, 1, none⟩ = some (.int .u64 n) ∧ w1.heap.size < w2.heap.size) := (by ((repeat' apply And.intro) <;> first | (simp [go_sem, *]; done) | omega | (repeat' (first | with_reducible exact Below.refl _ _ | with_reducible assumption | ((with_reducible refine Below.drew ?_)) | ((with_reducible refine below_drewN ?_ _)) | ((with_reducible refine Below.alloc ?_ ?_ _); rotate_left; focus (first | omega | (simp; done) | (simp; omega))) | ((with_reducible refine Below.setCell ?_ ?_ _); rotate_left; focus (first | omega | (simp; done) | (simp; omega))) | ((with_reducible refine Below.trans ?_ (Below.mono (by with_reducible assumption) ?_)); rotate_left; focus (first | omega | (simp; done) | (simp; omega))))))); go_split_ands; clear hcc hff hbel)))
    refine bodyPost_ret (v := .tuple #[.int .u64 (0), .int .i64 (20)]) (by simp [results, Tryd.results80, go_sem, *]) rfl ⟨rfl, (by repeat' (first | with_reducible exact Below.refl _ _ | with_reducible assumption | ((with_reducible refine Below.drew ?_)) | ((with_reducible refine below_drewN ?_ _)) | ((with_reducible refine Below.alloc ?_ ?_ _); rotate_left; focus (first | omega | (simp; done) | (simp; omega))) | ((with_reducible refine Below.setCell ?_ ?_ _); rotate_left; focus (first | omega | (simp; done) | (simp; omega))) | ((with_reducible refine Below.trans ?_ (Below.mono (by with_reducible assumption) ?_)); rotate_left; focus (first | omega | (simp; done) | (simp; omega)))))⟩
  · have h4 := Int.mul_nonneg h2 (Int.le_of_lt hn)
    have W2 : IntKind.u64.wrap (v * n) = v * n := by rw [wrap_u64]; omega
    rw [r1, r2]
    have d1 : decide (q < v) = false := by simpa using h1
    clear r1 r2
    go_enter Tryd.func80, Tryd.ntmps80
    go_wp2_with (first
      | (go_at_call 114; ((with_reducible refine (K.out).mono ?_); rintro e w1 ⟨rfl, hbel⟩; obtain ⟨hcc, hff⟩ := bcell hbel; have hsz := hbel.size; (try simp at hsz); have hF : Below w.heap.size w w1 := (by ((repeat' apply And.intro) <;> first | (simp [go_sem, *]; done) | omega | (repeat' (first | with_reducible exact Below.refl _ _ | with_reducible assumption | ((with_reducible refine Below.drew ?_)) | ((with_reducible refine below_drewN ?_ _)) | ((with_reducible refine Below.alloc ?_ ?_ _); rotate_left; focus (first | omega | (simp; done) | (simp; omega))) | ((with_reducible refine Below.setCell ?_ ?_ _); rotate_left; focus (first | omega | (simp; done) | (simp; omega))) | ((with_reducible refine Below.trans ?_ (Below.mono (by with_reducible assumption) ?_)); rotate_left; focus (first | omega | (simp; done) | (simp; omega))))))); go_split_ands; clear hcc hff hbel))
      | (go_at_call 115; (with_reducible refine (KT.out _).mono ?_); rintro e w' ⟨rfl, rfl⟩)
      | (go_at_call 28; ((with_reducible refine (KN.out _).mono ?_); rintro e w2 ⟨rfl, hbel⟩; obtain ⟨hcc, hff⟩ := bcell hbel; have hsz := hbel.size; (try simp at hsz); have hF : Below w.heap.size w w2 ∧ (w2.cell? ⟨w1.heap.size, 0, none⟩ = some (.string T) ∧ w2.cell? ⟨w1.heap.size, 1, none⟩ = some (.int .u64 n) ∧ w1.heap.size < w2.heap.size) := (by ((repeat' apply And.intro) <;> first | (simp [go_sem, *]; done) | omega | (repeat' (first | with_reducible exact Below.refl _ _ | with_reducible assumption | ((with_reducible refine Below.drew ?_)) | ((with_reducible refine below_drewN ?_ _)) | ((with_reducible refine Below.alloc ?_ ?_ _); rotate_left; focus (first | omega | (simp; done) | (simp; omega))) | ((with_reducible refine Below.setCell ?_ ?_ _); rotate_left; focus (first | omega | (simp; done) | (simp; omega))) | ((with_reducible refine Below.trans ?_ (Below.mono (by with_reducible assumption) ?_)); rotate_left; focus (first | omega | (simp; done) | (simp; omega))))))); go_split_ands; clear hcc hff hbel)))
    refine bodyPost_ret (v := .tuple #[.int .u64 (v * n), .int .i64 (0)]) (by simp [results, Tryd.results80, go_sem, *]) rfl ⟨rfl, (by repeat' (first | with_reducible exact Below.refl _ _ | with_reducible assumption | ((with_reducible refine Below.drew ?_)) | ((with_reducible refine below_drewN ?_ _)) | ((with_reducible refine Below.alloc ?_ ?_ _); rotate_left; focus (first | omega | (simp; done) | (simp; omega))) | ((with_reducible refine Below.setCell ?_ ?_ _); rotate_left; focus (first | omega | (simp; done) | (simp; omega))) | ((with_reducible refine Below.trans ?_ (Below.mono (by with_reducible assumption) ?_)); rotate_left; focus (first | omega | (simp; done) | (simp; omega)))))⟩
end Go.Proofs.YtdiniaokkdcihaaDoor
