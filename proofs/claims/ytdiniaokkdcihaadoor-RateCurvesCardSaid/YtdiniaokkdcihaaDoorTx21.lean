/- The reference's rates and times: does a text end with a word; the number ahead of it. -/
import Derived.Test.YtdiniaokkdcihaaDoorTx4
import Derived.Test.YtdiniaokkdcihaaDoorTx7
namespace Go.Proofs.YtdiniaokkdcihaaDoor
set_option linter.unusedVariables false
set_option linter.unusedSimpArgs false
set_option maxRecDepth 100000
open Go.RowKit Fg Reg
attribute [local irreducible] Reg.wE

theorem suf_drop (l p : List UInt8) (h : p.length ≤ l.length) : (l.drop (l.length - p.length) == p) = Lib.hasSuffix l p := by
  unfold Lib.hasSuffix
  rw [Bool.eq_iff_iff, List.isSuffixOf_iff_suffix, beq_iff_eq]
  constructor
  · intro e; rw [← e]; exact List.drop_suffix _ _
  · intro e; exact (List.suffix_iff_eq_drop.1 e).symm
theorem ends_c (S p : ByteArray) (hS : S.size < 9223372036854775807) (b : Bool) (hb : Lib.hasSuffix S.data.toList p.data.toList = b) (w : World) : Calls Tryd.prog 83 #[.string S, .string p] w fun ee w' => ee = .returned (.bool b) ∧ Below w.heap.size w w' := by
  have hl := size_len S
  have hp := size_len p
  by_cases h : p.size ≤ S.size
  · have g0 : decide ((S.size : Int) ≥ p.size) = true := by simp; omega
    have g1 : decide ((p.size : Int) ≤ S.size) = true := by simp; omega
    have g2 : decide (p.size ≤ S.size) = true := by simpa using h
    obtain ⟨k, hk⟩ : ∃ k : Nat, S.size - p.size = k := ⟨_, rfl⟩
    have hkS : k ≤ S.size := by omega
    have hkI : (k : Int) ≤ S.size := by omega
    have W1 : IntKind.i64.wrap ((S.size : Int) - p.size) = (k : Int) := by rw [IntKind.wrap_i64]; omega
    have W0 : (S.size : Int) - p.size = (k : Int) := by omega
    obtain ⟨X, hX⟩ : ∃ X, S.extract k S.size = X := ⟨_, rfl⟩
    have hE : (X.toList == p.toList) = b := by
      rw [← hb, ← suf_drop _ _ (by omega), ← hX, ByteArray.toList_eq, ByteArray.toList_eq, Lib.extract_data]
      congr 1
      rw [hl, hp, hk, List.take_of_length_le]
      rw [List.length_drop]; omega
    clear hb hk hl hp
    go_enter Tryd.func83, Tryd.ntmps83
    go_wp2
    (go_ret; refine ⟨?_, ?_⟩; (focus (exact rfl)); ((repeat' (first | with_reducible exact Below.refl _ _ | with_reducible assumption | ((with_reducible refine Below.drew ?_)) | ((with_reducible refine below_drewN ?_ _)) | ((with_reducible refine Below.alloc ?_ ?_ _); rotate_left; focus (first | omega | (simp; done) | (simp; omega))) | ((with_reducible refine Below.setCell ?_ ?_ _); rotate_left; focus (first | omega | (simp; done) | (simp; omega))) | ((with_reducible refine Below.trans ?_ (Below.mono (by with_reducible assumption) ?_)); rotate_left; focus (first | omega | (simp; done) | (simp; omega))))); done))
  · have g0 : decide ((S.size : Int) ≥ p.size) = false := by simp; omega
    have g1 : decide ((p.size : Int) ≤ S.size) = false := by simp; omega
    have g2 : decide (p.size ≤ S.size) = false := by simpa using h
    have hf : Lib.hasSuffix S.data.toList p.data.toList = false := by
      rw [Bool.eq_false_iff]; intro e
      rw [suf_iff] at e
      have := e.length_le
      omega
    obtain rfl : b = false := by rw [← hb, hf]
    clear hb hf hl hp
    go_enter Tryd.func83, Tryd.ntmps83
    go_wp2
    (go_ret; refine ⟨?_, ?_⟩; (focus (exact rfl)); ((repeat' (first | with_reducible exact Below.refl _ _ | with_reducible assumption | ((with_reducible refine Below.drew ?_)) | ((with_reducible refine below_drewN ?_ _)) | ((with_reducible refine Below.alloc ?_ ?_ _); rotate_left; focus (first | omega | (simp; done) | (simp; omega))) | ((with_reducible refine Below.setCell ?_ ?_ _); rotate_left; focus (first | omega | (simp; done) | (simp; omega))) | ((with_reducible refine Below.trans ?_ (Below.mono (by with_reducible assumption) ?_)); rotate_left; focus (first | omega | (simp; done) | (simp; omega))))); done))
set_option maxHeartbeats 2000000 in
theorem read_c (S : ByteArray) (hS : S.size < 9223372036854775807) (tl : Nat) (htl : tl ≤ S.size) (n most : Int) (hn : 0 < n) (hm0 : 0 ≤ most) (hm : most < 18446744073709551616) (w : World) :
    Calls Tryd.prog 84 #[.string S, .int .i64 tl, .int .u64 n, .int .u64 most] w fun ee w' => ee = .returned (.agg #[.int .u64 (amV S.data.toList tl n most), .int .i64 (amE S.data.toList tl n most)]) ∧ Below w.heap.size w w' := by
  have hl := size_len S
  obtain ⟨k, hk⟩ : ∃ k : Nat, S.size - tl = k := ⟨_, rfl⟩
  have hkI : (k : Int) ≤ S.size := by omega
  have hkN : k ≤ S.size := by omega
  have W1 : IntKind.i64.wrap ((S.size : Int) - tl) = (k : Int) := by rw [IntKind.wrap_i64]; omega
  have W0 : (S.size : Int) - tl = (k : Int) := by omega
  obtain ⟨P, hP⟩ : ∃ P : ByteArray, S.extract 0 k = P := ⟨_, rfl⟩
  have hPL : P.data.toList = S.data.toList.take (S.data.toList.length - tl) := by
    rw [← hP, Lib.extract_data, hl, hk]; simp
  have hPs : P.size < 9223372036854775807 := by
    have h1 := size_len P
    rw [hPL, List.length_take] at h1
    omega
  have kn := fun w => rnum_c P hPs most hm0 hm w
  rw [hPL] at kn
  obtain ⟨v, hv⟩ : ∃ v, numV (S.data.toList.take (S.data.toList.length - tl)) most = v := ⟨_, rfl⟩
  obtain ⟨e0, he⟩ : ∃ e0, numE (S.data.toList.take (S.data.toList.length - tl)) most = e0 := ⟨_, rfl⟩
  have hc := am_cases S.data.toList tl n most hn hm0 hm v e0 hv he
  rw [hv, he] at kn
  have KN := Lib.hid kn
  obtain ⟨q, hq⟩ : ∃ q, most / n = q := ⟨_, rfl⟩
  have hn0 : ¬ n = 0 := by omega
  have hqb : 0 ≤ q ∧ q ≤ most := by
    rw [← hq]
    exact ⟨Int.ediv_nonneg hm0 (by omega), Int.ediv_le_self _ hm0⟩
  have W2 : IntKind.u64.wrap (most.tdiv n) = q := by rw [Int.tdiv_eq_ediv_of_nonneg hm0, hq, wrap_u64]; omega
  rw [hq] at hc
  clear kn hPL hPs hv he hl hk
  rcases hc with ⟨h1, r1, r2⟩ | ⟨rfl, h1, r1, r2⟩ | ⟨rfl, h1, r1, r2, h2, h3⟩
  · rw [r1, r2]
    have g1 : (e0 != 0) = true := by simpa using h1
    clear r1 r2
    go_enter Tryd.func84, Tryd.ntmps84
    go_wp2_with (go_at_call 29; ((with_reducible refine (KN.out _).mono ?_); rintro e w1 ⟨rfl, hbel⟩; obtain ⟨hcc, hff⟩ := bcell hbel; have hsz := hbel.size; (try simp at hsz); have hF : (w1.cell? ⟨w.heap.size, 0, none⟩ = some (.int .u64 0) ∧ w1.cell? ⟨w.heap.size, 1, none⟩ = some (.int .i64 0) ∧ w1.frozen? ⟨w.heap.size, 0, none⟩ = false ∧ w1.frozen? ⟨w.heap.size, 1, none⟩ = false ∧ w.heap.size < w1.heap.size) ∧ Below w.heap.size w w1 := (by ((repeat' apply And.intro) <;> first | (simp [go_sem, *]; done) | omega | (repeat' (first | with_reducible exact Below.refl _ _ | with_reducible assumption | ((with_reducible refine Below.drew ?_)) | ((with_reducible refine below_drewN ?_ _)) | ((with_reducible refine Below.alloc ?_ ?_ _); rotate_left; focus (first | omega | (simp; done) | (simp; omega))) | ((with_reducible refine Below.setCell ?_ ?_ _); rotate_left; focus (first | omega | (simp; done) | (simp; omega))) | ((with_reducible refine Below.trans ?_ (Below.mono (by with_reducible assumption) ?_)); rotate_left; focus (first | omega | (simp; done) | (simp; omega))))))); go_split_ands; clear hcc hff hbel))
    refine bodyPost_ret (v := .agg #[.int .u64 (0), .int .i64 (e0)]) (by simp [results, Tryd.results84, go_sem, *]) rfl ⟨rfl, (by repeat' (first | with_reducible exact Below.refl _ _ | with_reducible assumption | ((with_reducible refine Below.drew ?_)) | ((with_reducible refine below_drewN ?_ _)) | ((with_reducible refine Below.alloc ?_ ?_ _); rotate_left; focus (first | omega | (simp; done) | (simp; omega))) | ((with_reducible refine Below.setCell ?_ ?_ _); rotate_left; focus (first | omega | (simp; done) | (simp; omega))) | ((with_reducible refine Below.trans ?_ (Below.mono (by with_reducible assumption) ?_)); rotate_left; focus (first | omega | (simp; done) | (simp; omega)))))⟩
  · rw [r1, r2]
    have g1 := decide_eq_true h1
    clear r1 r2
    go_enter Tryd.func84, Tryd.ntmps84
    go_wp2_with (go_at_call 29; ((with_reducible refine (KN.out _).mono ?_); rintro e w1 ⟨rfl, hbel⟩; obtain ⟨hcc, hff⟩ := bcell hbel; have hsz := hbel.size; (try simp at hsz); have hF : (w1.cell? ⟨w.heap.size, 0, none⟩ = some (.int .u64 0) ∧ w1.cell? ⟨w.heap.size, 1, none⟩ = some (.int .i64 0) ∧ w1.frozen? ⟨w.heap.size, 0, none⟩ = false ∧ w1.frozen? ⟨w.heap.size, 1, none⟩ = false ∧ w.heap.size < w1.heap.size) ∧ Below w.heap.size w w1 := (by ((repeat' apply And.intro) <;> first | (simp [go_sem, *]; done) | omega | (repeat' (first | with_reducible exact Below.refl _ _ | with_reducible assumption | ((with_reducible refine Below.drew ?_)) | ((with_reducible refine below_drewN ?_ _)) | ((with_reducible refine Below.alloc ?_ ?_ _); rotate_left; focus (first | omega | (simp; done) | (simp; omega))) | ((with_reducible refine Below.setCell ?_ ?_ _); rotate_left; focus (first | omega | (simp; done) | (simp; omega))) | ((with_reducible refine Below.trans ?_ (Below.mono (by with_reducible assumption) ?_)); rotate_left; focus (first | omega | (simp; done) | (simp; omega))))))); go_split_ands; clear hcc hff hbel))
    go_quiet (fail)
    go_wp2
    refine bodyPost_ret (v := .agg #[.int .u64 (0), .int .i64 (20)]) (by simp [results, Tryd.results84, go_sem, *]) rfl ⟨rfl, (by repeat' (first | with_reducible exact Below.refl _ _ | with_reducible assumption | ((with_reducible refine Below.drew ?_)) | ((with_reducible refine below_drewN ?_ _)) | ((with_reducible refine Below.alloc ?_ ?_ _); rotate_left; focus (first | omega | (simp; done) | (simp; omega))) | ((with_reducible refine Below.setCell ?_ ?_ _); rotate_left; focus (first | omega | (simp; done) | (simp; omega))) | ((with_reducible refine Below.trans ?_ (Below.mono (by with_reducible assumption) ?_)); rotate_left; focus (first | omega | (simp; done) | (simp; omega)))))⟩
  · have h4 := Int.mul_nonneg h2 (Int.le_of_lt hn)
    have W3 : IntKind.u64.wrap (v * n) = v * n := by rw [wrap_u64]; omega
    rw [r1, r2]
    have g1 : decide (q < v) = false := by simpa using h1
    clear r1 r2
    go_enter Tryd.func84, Tryd.ntmps84
    go_wp2_with (go_at_call 29; ((with_reducible refine (KN.out _).mono ?_); rintro e w1 ⟨rfl, hbel⟩; obtain ⟨hcc, hff⟩ := bcell hbel; have hsz := hbel.size; (try simp at hsz); have hF : (w1.cell? ⟨w.heap.size, 0, none⟩ = some (.int .u64 0) ∧ w1.cell? ⟨w.heap.size, 1, none⟩ = some (.int .i64 0) ∧ w1.frozen? ⟨w.heap.size, 0, none⟩ = false ∧ w1.frozen? ⟨w.heap.size, 1, none⟩ = false ∧ w.heap.size < w1.heap.size) ∧ Below w.heap.size w w1 := (by ((repeat' apply And.intro) <;> first | (simp [go_sem, *]; done) | omega | (repeat' (first | with_reducible exact Below.refl _ _ | with_reducible assumption | ((with_reducible refine Below.drew ?_)) | ((with_reducible refine below_drewN ?_ _)) | ((with_reducible refine Below.alloc ?_ ?_ _); rotate_left; focus (first | omega | (simp; done) | (simp; omega))) | ((with_reducible refine Below.setCell ?_ ?_ _); rotate_left; focus (first | omega | (simp; done) | (simp; omega))) | ((with_reducible refine Below.trans ?_ (Below.mono (by with_reducible assumption) ?_)); rotate_left; focus (first | omega | (simp; done) | (simp; omega))))))); go_split_ands; clear hcc hff hbel))
    go_quiet (fail)
    go_wp2
    refine bodyPost_ret (v := .agg #[.int .u64 (v * n), .int .i64 (0)]) (by simp [results, Tryd.results84, go_sem, *]) rfl ⟨rfl, (by repeat' (first | with_reducible exact Below.refl _ _ | with_reducible assumption | ((with_reducible refine Below.drew ?_)) | ((with_reducible refine below_drewN ?_ _)) | ((with_reducible refine Below.alloc ?_ ?_ _); rotate_left; focus (first | omega | (simp; done) | (simp; omega))) | ((with_reducible refine Below.setCell ?_ ?_ _); rotate_left; focus (first | omega | (simp; done) | (simp; omega))) | ((with_reducible refine Below.trans ?_ (Below.mono (by with_reducible assumption) ?_)); rotate_left; focus (first | omega | (simp; done) | (simp; omega)))))⟩
end Go.Proofs.YtdiniaokkdcihaaDoor
