import Derived.Test.YtnfhiagbbmaobaaCp7
import Derived.Test.YtnfhiagbbmaobaaFk3
import Derived.Test.YtnfhiagbbmaobaaFl2
import Derived.Test.YtnfhiagbbmaobaaCp11
import Derived.Test.YtnfhiagbbmaobaaCp15
/- The operations that bring a capture's frames: the plain mathematics. -/
namespace Go.Proofs.Ytnfhiagbbmaobaa
set_option linter.unusedVariables false
set_option linter.unusedSimpArgs false
set_option maxRecDepth 100000
open Go.RowKit Fg Reg

/-- An operation without rows. -/
structure Oq where
  kind : Int
  id : Int
  n : Int
  a : Int
  b : Int
  c : Int
  d : Int
  t : Int
def Oq.cells (q : Oq) : List Value := [.int .i64 q.kind, .slice none 0 0, .slice none 0 0, .int .u64 q.id, .int .i64 q.n, .int .u16 q.a, .int .u16 q.b, .int .u16 q.c, .int .u16 q.d, .int .u64 q.t]
theorem oq_of : CellsOf Oq.cells 10 := ⟨fun _ => rfl, fun q v hv => by simp [Oq.cells] at hv; rcases hv with rfl | rfl | rfl | rfl | rfl | rfl | rfl | rfl | rfl | rfl <;> rfl, by decide⟩
def adv (t : Int) : Oq := ⟨4, 0, 0, 0, 0, 0, 0, t⟩
/-- What a frame's packet's head is. -/
def phd (S : ByteArray) (most : Int) : Int × Int × Int × Int := if perr S most = 0 then (k0 S, k1 S, k2 S, k3 S) else (0, 0, 0, 0)
def opk (i : Nat) (S : ByteArray) (most : Int) : Oq := ⟨3, i, S.size, (phd S most).1, (phd S most).2.1, (phd S most).2.2.1, (phd S most).2.2.2, 0⟩
def fz : Fm := ⟨0, ⟨#[]⟩⟩
def stepq (L : List Fm) (most : Int) (k : Nat) : List Oq := (if (L.getD k fz).t = lastT L k then [] else [adv ((L.getD k fz).t - lastT L k)]) ++ [opk k (L.getD k fz).d most]
def opsK (L : List Fm) (most : Int) : Nat → List Oq
  | 0 => []
  | k + 1 => opsK L most k ++ stepq L most k
theorem opsK_two (L : List Fm) (most : Int) (k : Nat) (h : (L.getD k fz).t ≠ lastT L k) : opsK L most (k + 1) = opsK L most k ++ [adv ((L.getD k fz).t - lastT L k), opk k (L.getD k fz).d most] := by
  rw [opsK, stepq, if_neg h]; rfl
theorem opsK_one (L : List Fm) (most : Int) (k : Nat) (h : (L.getD k fz).t = lastT L k) : opsK L most (k + 1) = opsK L most k ++ [opk k (L.getD k fz).d most] := by
  rw [opsK, stepq, if_pos h]; rfl
theorem getD_at (L : List Fm) (k : Nat) (h : k < L.length) : L.getD k fz = L[k] := by rw [List.getD, List.getElem?_eq_getElem h]; rfl
theorem opsK_le (L : List Fm) (most : Int) (k : Nat) : (opsK L most k).length ≤ 2 * k := by
  induction k with
  | zero => simp [opsK]
  | succ k ih =>
    unfold opsK stepq
    rw [List.length_append, List.length_append]
    split <;> simp <;> omega
/-- The first operations. -/
theorem opsK_pre (L : List Fm) (most : Int) (k m : Nat) : ∃ r, opsK L most (k + m) = opsK L most k ++ r := by
  induction m with
  | zero => exact ⟨[], by simp⟩
  | succ m ih =>
    obtain ⟨r, hr⟩ := ih
    refine ⟨r ++ stepq L most (k + m), ?_⟩
    rw [show k + (m + 1) = (k + m) + 1 from rfl, opsK, hr, List.append_assoc]
theorem opsK_at (L : List Fm) (most : Int) (k n : Nat) (hk : k < n) : ∃ r, opsK L most n = opsK L most k ++ (stepq L most k ++ r) := by
  obtain ⟨r, hr⟩ := opsK_pre L most (k + 1) (n - (k + 1))
  refine ⟨r, ?_⟩
  rw [show k + 1 + (n - (k + 1)) = n by omega] at hr
  rw [hr, opsK, List.append_assoc]
theorem chk_len {L : List Fm} (h : chk L = 0) : L.length ≤ 1000 ∧ chkf 0 L = 0 := by
  unfold chk at h
  split at h
  · omega
  · exact ⟨by omega, h⟩
/-- What the check says of each frame. -/
theorem chkf_at {last : Int} {L : List Fm} (h : chkf last L = 0) : ∀ k (hk : k < L.length), (1 ≤ L[k].d.size ∧ L[k].d.size ≤ 16384) ∧ (if k = 0 then last else (L.getD (k - 1) fz).t) ≤ L[k].t ∧ L[k].t ≤ 4611686018427387904 := by
  induction L generalizing last with
  | nil => intro k hk; simp at hk
  | cons f l ih =>
    unfold chkf at h
    split at h
    · omega
    split at h
    · omega
    intro k hk
    rcases k with _ | k
    · simp only [List.getElem_cons_zero, if_true]; omega
    · have := ih h k (by simpa using hk)
      simp only [List.getElem_cons_succ]
      rw [if_neg (by omega), Nat.add_sub_cancel]
      refine ⟨this.1, ?_, this.2.2⟩
      rcases k with _ | k
      · have h1 := this.2.1
        rw [if_pos rfl] at h1
        exact h1
      · have h1 := this.2.1
        rw [if_neg (by omega), Nat.add_sub_cancel] at h1
        exact h1
theorem chk_at {L : List Fm} (h : chk L = 0) (k : Nat) (hk : k < L.length) : (1 ≤ L[k].d.size ∧ L[k].d.size ≤ 16384) ∧ lastT L k ≤ L[k].t ∧ L[k].t ≤ 4611686018427387904 := chkf_at (chk_len h).2 k hk
theorem lastT_bd {L : List Fm} (hw : ∀ k (h : k < L.length), L[k].wf) (k : Nat) (hk : k ≤ L.length) : 0 ≤ lastT L k := by
  rcases k with _ | k
  · simp [lastT]
  · rw [lastT_succ L k (by omega)]; exact (hw k (by omega)).1.1
end Go.Proofs.Ytnfhiagbbmaobaa

/- A frame as a packet, by the program and by the reference. -/
namespace Go.Proofs.Ytnfhiagbbmaobaa
set_option linter.unusedVariables false
set_option linter.unusedSimpArgs false
set_option maxRecDepth 100000
open Go.RowKit Fg Reg
attribute [local irreducible] Reg.wE Reg2.wT

set_option maxHeartbeats 4000000 in
theorem cpk_bad (S : ByteArray) (i t most e : Int) (hi : 0 ≤ i ∧ i ≤ 1000000) (he : e = 2 ∨ e = 3 ∨ e = 4 ∨ e = 7 ∨ e = 26) (kp : ∀ z, Calls Try.prog 13 #[.int .u64 i, .string S, .int .i64 most] z fun ee w' => ee = .returned (.tuple #[.agg #[.int .u64 0, .int .i64 0, .int .u16 0, .int .u16 0, .int .u16 0, .int .u16 0], .int .i64 e]) ∧ Below (z).heap.size z w') (w : World) :
    Calls Try.prog 62 #[.int .i64 i, .agg #[.int .u64 t, .string S], .int .i64 most] w fun ee w' => ee = .returned (.agg #[.int .u64 (i), .int .i64 (S.size), .int .u16 (0), .int .u16 (0), .int .u16 (0), .int .u16 (0)]) ∧ Below w.heap.size w w' := by
  have K := Lib.hid kp
  clear kp
  rcases he with rfl | rfl | rfl | rfl | rfl
  all_goals
    go_enter Try.func62, Try.ntmps62
    go_wp2_with (go_at_call 13; ((with_reducible refine (K.out _).mono ?_); rintro e w1 ⟨rfl, hbel⟩; obtain ⟨hcc, hff⟩ := bcell hbel; have hsz := hbel.size; (try simp at hsz); have hF : w.heap.size < w1.heap.size ∧ ((w1).cell? ⟨w.heap.size + 1, 0, none⟩ = some (.int .u64 0) ∧ (w1).cell? ⟨w.heap.size + 1, 1, none⟩ = some (.int .i64 0) ∧ (w1).cell? ⟨w.heap.size + 1, 2, none⟩ = some (.int .u16 0) ∧ (w1).cell? ⟨w.heap.size + 1, 3, none⟩ = some (.int .u16 0) ∧ (w1).cell? ⟨w.heap.size + 1, 4, none⟩ = some (.int .u16 0) ∧ (w1).cell? ⟨w.heap.size + 1, 5, none⟩ = some (.int .u16 0) ∧ (w1).frozen? ⟨w.heap.size + 1, 0, none⟩ = false ∧ (w1).frozen? ⟨w.heap.size + 1, 1, none⟩ = false ∧ (w1).frozen? ⟨w.heap.size + 1, 2, none⟩ = false ∧ (w1).frozen? ⟨w.heap.size + 1, 3, none⟩ = false ∧ (w1).frozen? ⟨w.heap.size + 1, 4, none⟩ = false ∧ (w1).frozen? ⟨w.heap.size + 1, 5, none⟩ = false ∧ w.heap.size + 1 < (w1).heap.size) ∧ ((w1).cell? ⟨w.heap.size, 0, none⟩ = some (.int .u64 t) ∧ (w1).cell? ⟨w.heap.size, 1, none⟩ = some (.string S)) ∧ Below w.heap.size w w1 := (by ((repeat' apply And.intro) <;> first | (simp [go_sem, *]; done) | omega | (repeat' (first | with_reducible exact Below.refl _ _ | with_reducible assumption | ((with_reducible refine Below.drew ?_)) | ((with_reducible refine below_drewN ?_ _)) | ((with_reducible refine Below.alloc ?_ ?_ _); rotate_left; focus (first | omega | (simp; done) | (simp; omega))) | ((with_reducible refine Below.setCell ?_ ?_ _); rotate_left; focus (first | omega | (simp; done) | (simp; omega))) | ((with_reducible refine Below.trans ?_ (Below.mono (by with_reducible assumption) ?_)); rotate_left; focus (first | omega | (simp; done) | (simp; omega))))))); go_split_ands; clear hcc hff hbel))
    refine bodyPost_ret (v := .agg #[.int .u64 (i), .int .i64 (S.size), .int .u16 (0), .int .u16 (0), .int .u16 (0), .int .u16 (0)]) (by simp [results, Try.results62, go_sem, *]) rfl ⟨rfl, (by repeat' (first | with_reducible exact Below.refl _ _ | with_reducible assumption | ((with_reducible refine Below.drew ?_)) | ((with_reducible refine below_drewN ?_ _)) | ((with_reducible refine Below.alloc ?_ ?_ _); rotate_left; focus (first | omega | (simp; done) | (simp; omega))) | ((with_reducible refine Below.setCell ?_ ?_ _); rotate_left; focus (first | omega | (simp; done) | (simp; omega))) | ((with_reducible refine Below.trans ?_ (Below.mono (by with_reducible assumption) ?_)); rotate_left; focus (first | omega | (simp; done) | (simp; omega)))))⟩
set_option maxHeartbeats 4000000 in
theorem cpk_good (S : ByteArray) (i t most n a b c d : Int) (hi : 0 ≤ i ∧ i ≤ 1000000) (kp : ∀ z, Calls Try.prog 13 #[.int .u64 i, .string S, .int .i64 most] z fun ee w' => ee = .returned (.tuple #[.agg #[.int .u64 (i), .int .i64 (n), .int .u16 (a), .int .u16 (b), .int .u16 (c), .int .u16 (d)], .int .i64 0]) ∧ Below (z).heap.size z w') (w : World) :
    Calls Try.prog 62 #[.int .i64 i, .agg #[.int .u64 t, .string S], .int .i64 most] w fun ee w' => ee = .returned (.agg #[.int .u64 (i), .int .i64 (n), .int .u16 (a), .int .u16 (b), .int .u16 (c), .int .u16 (d)]) ∧ Below w.heap.size w w' := by
  have K := Lib.hid kp
  clear kp
  go_enter Try.func62, Try.ntmps62
  go_wp2_with (go_at_call 13; ((with_reducible refine (K.out _).mono ?_); rintro e w1 ⟨rfl, hbel⟩; obtain ⟨hcc, hff⟩ := bcell hbel; have hsz := hbel.size; (try simp at hsz); have hF : w.heap.size < w1.heap.size ∧ ((w1).cell? ⟨w.heap.size + 1, 0, none⟩ = some (.int .u64 0) ∧ (w1).cell? ⟨w.heap.size + 1, 1, none⟩ = some (.int .i64 0) ∧ (w1).cell? ⟨w.heap.size + 1, 2, none⟩ = some (.int .u16 0) ∧ (w1).cell? ⟨w.heap.size + 1, 3, none⟩ = some (.int .u16 0) ∧ (w1).cell? ⟨w.heap.size + 1, 4, none⟩ = some (.int .u16 0) ∧ (w1).cell? ⟨w.heap.size + 1, 5, none⟩ = some (.int .u16 0) ∧ (w1).frozen? ⟨w.heap.size + 1, 0, none⟩ = false ∧ (w1).frozen? ⟨w.heap.size + 1, 1, none⟩ = false ∧ (w1).frozen? ⟨w.heap.size + 1, 2, none⟩ = false ∧ (w1).frozen? ⟨w.heap.size + 1, 3, none⟩ = false ∧ (w1).frozen? ⟨w.heap.size + 1, 4, none⟩ = false ∧ (w1).frozen? ⟨w.heap.size + 1, 5, none⟩ = false ∧ w.heap.size + 1 < (w1).heap.size) ∧ ((w1).cell? ⟨w.heap.size, 0, none⟩ = some (.int .u64 t) ∧ (w1).cell? ⟨w.heap.size, 1, none⟩ = some (.string S)) ∧ Below w.heap.size w w1 := (by ((repeat' apply And.intro) <;> first | (simp [go_sem, *]; done) | omega | (repeat' (first | with_reducible exact Below.refl _ _ | with_reducible assumption | ((with_reducible refine Below.drew ?_)) | ((with_reducible refine below_drewN ?_ _)) | ((with_reducible refine Below.alloc ?_ ?_ _); rotate_left; focus (first | omega | (simp; done) | (simp; omega))) | ((with_reducible refine Below.setCell ?_ ?_ _); rotate_left; focus (first | omega | (simp; done) | (simp; omega))) | ((with_reducible refine Below.trans ?_ (Below.mono (by with_reducible assumption) ?_)); rotate_left; focus (first | omega | (simp; done) | (simp; omega))))))); go_split_ands; clear hcc hff hbel))
  refine bodyPost_ret (v := .agg #[.int .u64 (i), .int .i64 (n), .int .u16 (a), .int .u16 (b), .int .u16 (c), .int .u16 (d)]) (by simp [results, Try.results62, go_sem, *]) rfl ⟨rfl, (by repeat' (first | with_reducible exact Below.refl _ _ | with_reducible assumption | ((with_reducible refine Below.drew ?_)) | ((with_reducible refine below_drewN ?_ _)) | ((with_reducible refine Below.alloc ?_ ?_ _); rotate_left; focus (first | omega | (simp; done) | (simp; omega))) | ((with_reducible refine Below.setCell ?_ ?_ _); rotate_left; focus (first | omega | (simp; done) | (simp; omega))) | ((with_reducible refine Below.trans ?_ (Below.mono (by with_reducible assumption) ?_)); rotate_left; focus (first | omega | (simp; done) | (simp; omega)))))⟩
theorem perr_val (S : ByteArray) (most : Int) : perr S most = 0 ∨ perr S most = 2 ∨ perr S most = 3 ∨ perr S most = 4 ∨ perr S most = 7 ∨ perr S most = 26 := by
  have := kbad_val S
  unfold perr
  (repeat' split) <;> omega
theorem cpk_c (S : ByteArray) (hM : S.size ≤ 9223372036854775807) (i : Nat) (hi : i ≤ 1000000) (t most : Int) (w : World) : Calls Try.prog 62 #[.int .i64 i, .agg #[.int .u64 t, .string S], .int .i64 most] w fun ee w' => ee = .returned (.agg #[.int .u64 ((i : Int)), .int .i64 (S.size), .int .u16 ((phd S most).1), .int .u16 ((phd S most).2.1), .int .u16 ((phd S most).2.2.1), .int .u16 ((phd S most).2.2.2)]) ∧ Below w.heap.size w w' := by
  have hv := perr_val S most
  have kp := fun z => fpk_c S hM i most z
  unfold pval at kp
  unfold phd
  by_cases h : perr S most = 0
  · rw [if_pos h, h] at kp
    rw [if_pos h]
    exact cpk_good S i t most _ _ _ _ _ (by omega) kp w
  · rw [if_neg h] at kp
    rw [if_neg h]
    exact cpk_bad S i t most _ (by omega) (by omega) kp w
set_option maxHeartbeats 4000000 in
theorem rpk_bad (S : ByteArray) (i most e : Int) (hi : 0 ≤ i ∧ i ≤ 1000000) (he : e = 2 ∨ e = 3 ∨ e = 4 ∨ e = 7) (kb : ∀ z, Calls Try.prog 14 #[.string S] z fun ee w' => ee = .returned (.int .i64 e) ∧ Below (z).heap.size z w') (w : World) :
    Calls Try.prog 63 #[.int .i64 i, .string S, .int .i64 most] w fun ee w' => ee = .returned (.agg #[.int .u64 (i), .int .i64 (S.size), .int .u16 (0), .int .u16 (0), .int .u16 (0), .int .u16 (0)]) ∧ Below w.heap.size w w' := by
  have K := Lib.hid kb
  clear kb
  rcases he with rfl | rfl | rfl | rfl
  all_goals
    go_enter Try.func63, Try.ntmps63
    go_wp2_with (go_at_call 14; ((with_reducible refine (K.out _).mono ?_); rintro e w1 ⟨rfl, hbel⟩; obtain ⟨hcc, hff⟩ := bcell hbel; have hsz := hbel.size; (try simp at hsz); have hF : ((w1).cell? ⟨w.heap.size, 0, none⟩ = some (.int .u64 0) ∧ (w1).cell? ⟨w.heap.size, 1, none⟩ = some (.int .i64 0) ∧ (w1).cell? ⟨w.heap.size, 2, none⟩ = some (.int .u16 0) ∧ (w1).cell? ⟨w.heap.size, 3, none⟩ = some (.int .u16 0) ∧ (w1).cell? ⟨w.heap.size, 4, none⟩ = some (.int .u16 0) ∧ (w1).cell? ⟨w.heap.size, 5, none⟩ = some (.int .u16 0) ∧ (w1).frozen? ⟨w.heap.size, 0, none⟩ = false ∧ (w1).frozen? ⟨w.heap.size, 1, none⟩ = false ∧ (w1).frozen? ⟨w.heap.size, 2, none⟩ = false ∧ (w1).frozen? ⟨w.heap.size, 3, none⟩ = false ∧ (w1).frozen? ⟨w.heap.size, 4, none⟩ = false ∧ (w1).frozen? ⟨w.heap.size, 5, none⟩ = false ∧ w.heap.size < (w1).heap.size) ∧ ((w1).cell? ⟨w.heap.size + 1, 0, none⟩ = some (.int .u64 i) ∧ (w1).cell? ⟨w.heap.size + 1, 1, none⟩ = some (.int .i64 (S.size : Int)) ∧ (w1).cell? ⟨w.heap.size + 1, 2, none⟩ = some (.int .u16 0) ∧ (w1).cell? ⟨w.heap.size + 1, 3, none⟩ = some (.int .u16 0) ∧ (w1).cell? ⟨w.heap.size + 1, 4, none⟩ = some (.int .u16 0) ∧ (w1).cell? ⟨w.heap.size + 1, 5, none⟩ = some (.int .u16 0) ∧ (w1).frozen? ⟨w.heap.size + 1, 0, none⟩ = false ∧ (w1).frozen? ⟨w.heap.size + 1, 1, none⟩ = false ∧ (w1).frozen? ⟨w.heap.size + 1, 2, none⟩ = false ∧ (w1).frozen? ⟨w.heap.size + 1, 3, none⟩ = false ∧ (w1).frozen? ⟨w.heap.size + 1, 4, none⟩ = false ∧ (w1).frozen? ⟨w.heap.size + 1, 5, none⟩ = false ∧ w.heap.size + 1 < (w1).heap.size) ∧ Below w.heap.size w w1 := (by ((repeat' apply And.intro) <;> first | (simp [go_sem, *]; done) | omega | (repeat' (first | with_reducible exact Below.refl _ _ | with_reducible assumption | ((with_reducible refine Below.drew ?_)) | ((with_reducible refine below_drewN ?_ _)) | ((with_reducible refine Below.alloc ?_ ?_ _); rotate_left; focus (first | omega | (simp; done) | (simp; omega))) | ((with_reducible refine Below.setCell ?_ ?_ _); rotate_left; focus (first | omega | (simp; done) | (simp; omega))) | ((with_reducible refine Below.trans ?_ (Below.mono (by with_reducible assumption) ?_)); rotate_left; focus (first | omega | (simp; done) | (simp; omega))))))); go_split_ands; clear hcc hff hbel))
    refine bodyPost_ret (v := .agg #[.int .u64 (i), .int .i64 (S.size), .int .u16 (0), .int .u16 (0), .int .u16 (0), .int .u16 (0)]) (by simp [results, Try.results63, go_sem, *]) rfl ⟨rfl, (by repeat' (first | with_reducible exact Below.refl _ _ | with_reducible assumption | ((with_reducible refine Below.drew ?_)) | ((with_reducible refine below_drewN ?_ _)) | ((with_reducible refine Below.alloc ?_ ?_ _); rotate_left; focus (first | omega | (simp; done) | (simp; omega))) | ((with_reducible refine Below.setCell ?_ ?_ _); rotate_left; focus (first | omega | (simp; done) | (simp; omega))) | ((with_reducible refine Below.trans ?_ (Below.mono (by with_reducible assumption) ?_)); rotate_left; focus (first | omega | (simp; done) | (simp; omega)))))⟩
set_option maxHeartbeats 4000000 in
theorem rpk_len (S : ByteArray) (i most : Int) (hi : 0 ≤ i ∧ i ≤ 1000000) (hM : S.size ≤ 9223372036854775807) (h : most < S.size ∨ 16384 < S.size) (kb : ∀ z, Calls Try.prog 14 #[.string S] z fun ee w' => ee = .returned (.int .i64 0) ∧ Below (z).heap.size z w') (w : World) :
    Calls Try.prog 63 #[.int .i64 i, .string S, .int .i64 most] w fun ee w' => ee = .returned (.agg #[.int .u64 (i), .int .i64 (S.size), .int .u16 (0), .int .u16 (0), .int .u16 (0), .int .u16 (0)]) ∧ Below w.heap.size w w' := by
  have K := Lib.hid kb
  clear kb
  by_cases h1 : most < S.size
  · have d1 : decide ((S.size : Int) ≤ most) = false := by simp; omega
    clear h
    go_enter Try.func63, Try.ntmps63
    go_wp2_with (go_at_call 14; ((with_reducible refine (K.out _).mono ?_); rintro e w1 ⟨rfl, hbel⟩; obtain ⟨hcc, hff⟩ := bcell hbel; have hsz := hbel.size; (try simp at hsz); have hF : ((w1).cell? ⟨w.heap.size, 0, none⟩ = some (.int .u64 0) ∧ (w1).cell? ⟨w.heap.size, 1, none⟩ = some (.int .i64 0) ∧ (w1).cell? ⟨w.heap.size, 2, none⟩ = some (.int .u16 0) ∧ (w1).cell? ⟨w.heap.size, 3, none⟩ = some (.int .u16 0) ∧ (w1).cell? ⟨w.heap.size, 4, none⟩ = some (.int .u16 0) ∧ (w1).cell? ⟨w.heap.size, 5, none⟩ = some (.int .u16 0) ∧ (w1).frozen? ⟨w.heap.size, 0, none⟩ = false ∧ (w1).frozen? ⟨w.heap.size, 1, none⟩ = false ∧ (w1).frozen? ⟨w.heap.size, 2, none⟩ = false ∧ (w1).frozen? ⟨w.heap.size, 3, none⟩ = false ∧ (w1).frozen? ⟨w.heap.size, 4, none⟩ = false ∧ (w1).frozen? ⟨w.heap.size, 5, none⟩ = false ∧ w.heap.size < (w1).heap.size) ∧ ((w1).cell? ⟨w.heap.size + 1, 0, none⟩ = some (.int .u64 i) ∧ (w1).cell? ⟨w.heap.size + 1, 1, none⟩ = some (.int .i64 (S.size : Int)) ∧ (w1).cell? ⟨w.heap.size + 1, 2, none⟩ = some (.int .u16 0) ∧ (w1).cell? ⟨w.heap.size + 1, 3, none⟩ = some (.int .u16 0) ∧ (w1).cell? ⟨w.heap.size + 1, 4, none⟩ = some (.int .u16 0) ∧ (w1).cell? ⟨w.heap.size + 1, 5, none⟩ = some (.int .u16 0) ∧ (w1).frozen? ⟨w.heap.size + 1, 0, none⟩ = false ∧ (w1).frozen? ⟨w.heap.size + 1, 1, none⟩ = false ∧ (w1).frozen? ⟨w.heap.size + 1, 2, none⟩ = false ∧ (w1).frozen? ⟨w.heap.size + 1, 3, none⟩ = false ∧ (w1).frozen? ⟨w.heap.size + 1, 4, none⟩ = false ∧ (w1).frozen? ⟨w.heap.size + 1, 5, none⟩ = false ∧ w.heap.size + 1 < (w1).heap.size) ∧ Below w.heap.size w w1 := (by ((repeat' apply And.intro) <;> first | (simp [go_sem, *]; done) | omega | (repeat' (first | with_reducible exact Below.refl _ _ | with_reducible assumption | ((with_reducible refine Below.drew ?_)) | ((with_reducible refine below_drewN ?_ _)) | ((with_reducible refine Below.alloc ?_ ?_ _); rotate_left; focus (first | omega | (simp; done) | (simp; omega))) | ((with_reducible refine Below.setCell ?_ ?_ _); rotate_left; focus (first | omega | (simp; done) | (simp; omega))) | ((with_reducible refine Below.trans ?_ (Below.mono (by with_reducible assumption) ?_)); rotate_left; focus (first | omega | (simp; done) | (simp; omega))))))); go_split_ands; clear hcc hff hbel))
    refine bodyPost_ret (v := .agg #[.int .u64 (i), .int .i64 (S.size), .int .u16 (0), .int .u16 (0), .int .u16 (0), .int .u16 (0)]) (by simp [results, Try.results63, go_sem, *]) rfl ⟨rfl, (by repeat' (first | with_reducible exact Below.refl _ _ | with_reducible assumption | ((with_reducible refine Below.drew ?_)) | ((with_reducible refine below_drewN ?_ _)) | ((with_reducible refine Below.alloc ?_ ?_ _); rotate_left; focus (first | omega | (simp; done) | (simp; omega))) | ((with_reducible refine Below.setCell ?_ ?_ _); rotate_left; focus (first | omega | (simp; done) | (simp; omega))) | ((with_reducible refine Below.trans ?_ (Below.mono (by with_reducible assumption) ?_)); rotate_left; focus (first | omega | (simp; done) | (simp; omega)))))⟩
  · have d1 : decide ((S.size : Int) ≤ most) = true := by simp; omega
    have d2 : decide ((S.size : Int) ≤ 16384) = false := by simp; omega
    clear h
    go_enter Try.func63, Try.ntmps63
    go_wp2_with (go_at_call 14; ((with_reducible refine (K.out _).mono ?_); rintro e w1 ⟨rfl, hbel⟩; obtain ⟨hcc, hff⟩ := bcell hbel; have hsz := hbel.size; (try simp at hsz); have hF : ((w1).cell? ⟨w.heap.size, 0, none⟩ = some (.int .u64 0) ∧ (w1).cell? ⟨w.heap.size, 1, none⟩ = some (.int .i64 0) ∧ (w1).cell? ⟨w.heap.size, 2, none⟩ = some (.int .u16 0) ∧ (w1).cell? ⟨w.heap.size, 3, none⟩ = some (.int .u16 0) ∧ (w1).cell? ⟨w.heap.size, 4, none⟩ = some (.int .u16 0) ∧ (w1).cell? ⟨w.heap.size, 5, none⟩ = some (.int .u16 0) ∧ (w1).frozen? ⟨w.heap.size, 0, none⟩ = false ∧ (w1).frozen? ⟨w.heap.size, 1, none⟩ = false ∧ (w1).frozen? ⟨w.heap.size, 2, none⟩ = false ∧ (w1).frozen? ⟨w.heap.size, 3, none⟩ = false ∧ (w1).frozen? ⟨w.heap.size, 4, none⟩ = false ∧ (w1).frozen? ⟨w.heap.size, 5, none⟩ = false ∧ w.heap.size < (w1).heap.size) ∧ ((w1).cell? ⟨w.heap.size + 1, 0, none⟩ = some (.int .u64 i) ∧ (w1).cell? ⟨w.heap.size + 1, 1, none⟩ = some (.int .i64 (S.size : Int)) ∧ (w1).cell? ⟨w.heap.size + 1, 2, none⟩ = some (.int .u16 0) ∧ (w1).cell? ⟨w.heap.size + 1, 3, none⟩ = some (.int .u16 0) ∧ (w1).cell? ⟨w.heap.size + 1, 4, none⟩ = some (.int .u16 0) ∧ (w1).cell? ⟨w.heap.size + 1, 5, none⟩ = some (.int .u16 0) ∧ (w1).frozen? ⟨w.heap.size + 1, 0, none⟩ = false ∧ (w1).frozen? ⟨w.heap.size + 1, 1, none⟩ = false ∧ (w1).frozen? ⟨w.heap.size + 1, 2, none⟩ = false ∧ (w1).frozen? ⟨w.heap.size + 1, 3, none⟩ = false ∧ (w1).frozen? ⟨w.heap.size + 1, 4, none⟩ = false ∧ (w1).frozen? ⟨w.heap.size + 1, 5, none⟩ = false ∧ w.heap.size + 1 < (w1).heap.size) ∧ Below w.heap.size w w1 := (by ((repeat' apply And.intro) <;> first | (simp [go_sem, *]; done) | omega | (repeat' (first | with_reducible exact Below.refl _ _ | with_reducible assumption | ((with_reducible refine Below.drew ?_)) | ((with_reducible refine below_drewN ?_ _)) | ((with_reducible refine Below.alloc ?_ ?_ _); rotate_left; focus (first | omega | (simp; done) | (simp; omega))) | ((with_reducible refine Below.setCell ?_ ?_ _); rotate_left; focus (first | omega | (simp; done) | (simp; omega))) | ((with_reducible refine Below.trans ?_ (Below.mono (by with_reducible assumption) ?_)); rotate_left; focus (first | omega | (simp; done) | (simp; omega))))))); go_split_ands; clear hcc hff hbel))
    refine bodyPost_ret (v := .agg #[.int .u64 (i), .int .i64 (S.size), .int .u16 (0), .int .u16 (0), .int .u16 (0), .int .u16 (0)]) (by simp [results, Try.results63, go_sem, *]) rfl ⟨rfl, (by repeat' (first | with_reducible exact Below.refl _ _ | with_reducible assumption | ((with_reducible refine Below.drew ?_)) | ((with_reducible refine below_drewN ?_ _)) | ((with_reducible refine Below.alloc ?_ ?_ _); rotate_left; focus (first | omega | (simp; done) | (simp; omega))) | ((with_reducible refine Below.setCell ?_ ?_ _); rotate_left; focus (first | omega | (simp; done) | (simp; omega))) | ((with_reducible refine Below.trans ?_ (Below.mono (by with_reducible assumption) ?_)); rotate_left; focus (first | omega | (simp; done) | (simp; omega)))))⟩
set_option maxHeartbeats 4000000 in
theorem rpk_ok (S : ByteArray) (i most a b c d : Int) (hi : 0 ≤ i ∧ i ≤ 1000000) (h1 : (S.size : Int) ≤ most) (h2 : S.size ≤ 16384) (kb : ∀ z, Calls Try.prog 14 #[.string S] z fun ee w' => ee = .returned (.int .i64 0) ∧ Below (z).heap.size z w') (kr : ∀ z, Calls Try.prog 16 #[.string S] z fun ee w' => ee = .returned (.agg #[.int .u16 (a), .int .u16 (b), .int .u16 (c), .int .u16 (d)]) ∧ Below (z).heap.size z w') (w : World) :
    Calls Try.prog 63 #[.int .i64 i, .string S, .int .i64 most] w fun ee w' => ee = .returned (.agg #[.int .u64 (i), .int .i64 (S.size), .int .u16 (a), .int .u16 (b), .int .u16 (c), .int .u16 (d)]) ∧ Below w.heap.size w w' := by
  have K := Lib.hid kb
  have KR := Lib.hid kr
  clear kb kr
  have d1 : decide ((S.size : Int) ≤ most) = true := by simpa using h1
  have d2 : decide ((S.size : Int) ≤ 16384) = true := by simp; omega
  go_enter Try.func63, Try.ntmps63
  go_wp2_with (go_at_call 14; ((with_reducible refine (K.out _).mono ?_); rintro e w1 ⟨rfl, hbel⟩; obtain ⟨hcc, hff⟩ := bcell hbel; have hsz := hbel.size; (try simp at hsz); have hF : ((w1).cell? ⟨w.heap.size, 0, none⟩ = some (.int .u64 0) ∧ (w1).cell? ⟨w.heap.size, 1, none⟩ = some (.int .i64 0) ∧ (w1).cell? ⟨w.heap.size, 2, none⟩ = some (.int .u16 0) ∧ (w1).cell? ⟨w.heap.size, 3, none⟩ = some (.int .u16 0) ∧ (w1).cell? ⟨w.heap.size, 4, none⟩ = some (.int .u16 0) ∧ (w1).cell? ⟨w.heap.size, 5, none⟩ = some (.int .u16 0) ∧ (w1).frozen? ⟨w.heap.size, 0, none⟩ = false ∧ (w1).frozen? ⟨w.heap.size, 1, none⟩ = false ∧ (w1).frozen? ⟨w.heap.size, 2, none⟩ = false ∧ (w1).frozen? ⟨w.heap.size, 3, none⟩ = false ∧ (w1).frozen? ⟨w.heap.size, 4, none⟩ = false ∧ (w1).frozen? ⟨w.heap.size, 5, none⟩ = false ∧ w.heap.size < (w1).heap.size) ∧ ((w1).cell? ⟨w.heap.size + 1, 0, none⟩ = some (.int .u64 i) ∧ (w1).cell? ⟨w.heap.size + 1, 1, none⟩ = some (.int .i64 (S.size : Int)) ∧ (w1).cell? ⟨w.heap.size + 1, 2, none⟩ = some (.int .u16 0) ∧ (w1).cell? ⟨w.heap.size + 1, 3, none⟩ = some (.int .u16 0) ∧ (w1).cell? ⟨w.heap.size + 1, 4, none⟩ = some (.int .u16 0) ∧ (w1).cell? ⟨w.heap.size + 1, 5, none⟩ = some (.int .u16 0) ∧ (w1).frozen? ⟨w.heap.size + 1, 0, none⟩ = false ∧ (w1).frozen? ⟨w.heap.size + 1, 1, none⟩ = false ∧ (w1).frozen? ⟨w.heap.size + 1, 2, none⟩ = false ∧ (w1).frozen? ⟨w.heap.size + 1, 3, none⟩ = false ∧ (w1).frozen? ⟨w.heap.size + 1, 4, none⟩ = false ∧ (w1).frozen? ⟨w.heap.size + 1, 5, none⟩ = false ∧ w.heap.size + 1 < (w1).heap.size) ∧ Below w.heap.size w w1 := (by ((repeat' apply And.intro) <;> first | (simp [go_sem, *]; done) | omega | (repeat' (first | with_reducible exact Below.refl _ _ | with_reducible assumption | ((with_reducible refine Below.drew ?_)) | ((with_reducible refine below_drewN ?_ _)) | ((with_reducible refine Below.alloc ?_ ?_ _); rotate_left; focus (first | omega | (simp; done) | (simp; omega))) | ((with_reducible refine Below.setCell ?_ ?_ _); rotate_left; focus (first | omega | (simp; done) | (simp; omega))) | ((with_reducible refine Below.trans ?_ (Below.mono (by with_reducible assumption) ?_)); rotate_left; focus (first | omega | (simp; done) | (simp; omega))))))); go_split_ands; clear hcc hff hbel))
  obtain ⟨Cl, hCl⟩ : ∃ Cl : List Value → World → Prop, Cl = ((fun ps wz => ((wz).cell? ⟨w.heap.size + 1, 0, none⟩ = some (.int .u64 i) ∧ (wz).cell? ⟨w.heap.size + 1, 1, none⟩ = some (.int .i64 (S.size : Int)) ∧ (wz).cell? ⟨w.heap.size + 1, 2, none⟩ = some (.int .u16 0) ∧ (wz).cell? ⟨w.heap.size + 1, 3, none⟩ = some (.int .u16 0) ∧ (wz).cell? ⟨w.heap.size + 1, 4, none⟩ = some (.int .u16 0) ∧ (wz).cell? ⟨w.heap.size + 1, 5, none⟩ = some (.int .u16 0) ∧ (wz).frozen? ⟨w.heap.size + 1, 0, none⟩ = false ∧ (wz).frozen? ⟨w.heap.size + 1, 1, none⟩ = false ∧ (wz).frozen? ⟨w.heap.size + 1, 2, none⟩ = false ∧ (wz).frozen? ⟨w.heap.size + 1, 3, none⟩ = false ∧ (wz).frozen? ⟨w.heap.size + 1, 4, none⟩ = false ∧ (wz).frozen? ⟨w.heap.size + 1, 5, none⟩ = false ∧ w.heap.size + 1 < (wz).heap.size) ∧ (match ps with | [] => ((wz).cell? ⟨w.heap.size, 0, none⟩ = some (.int .u64 0) ∧ (wz).cell? ⟨w.heap.size, 1, none⟩ = some (.int .i64 0) ∧ (wz).cell? ⟨w.heap.size, 2, none⟩ = some (.int .u16 0) ∧ (wz).cell? ⟨w.heap.size, 3, none⟩ = some (.int .u16 0) ∧ (wz).cell? ⟨w.heap.size, 4, none⟩ = some (.int .u16 0) ∧ (wz).cell? ⟨w.heap.size, 5, none⟩ = some (.int .u16 0) ∧ (wz).frozen? ⟨w.heap.size, 0, none⟩ = false ∧ (wz).frozen? ⟨w.heap.size, 1, none⟩ = false ∧ (wz).frozen? ⟨w.heap.size, 2, none⟩ = false ∧ (wz).frozen? ⟨w.heap.size, 3, none⟩ = false ∧ (wz).frozen? ⟨w.heap.size, 4, none⟩ = false ∧ (wz).frozen? ⟨w.heap.size, 5, none⟩ = false ∧ w.heap.size < (wz).heap.size) | _ => (wz.cell? ⟨w.heap.size, 0, none⟩ = some (.int .u64 i) ∧ wz.cell? ⟨w.heap.size, 1, none⟩ = some (.int .i64 S.size) ∧ wz.cell? ⟨w.heap.size, 2, none⟩ = some (.int .u16 a) ∧ wz.cell? ⟨w.heap.size, 3, none⟩ = some (.int .u16 b) ∧ wz.cell? ⟨w.heap.size, 4, none⟩ = some (.int .u16 c) ∧ wz.cell? ⟨w.heap.size, 5, none⟩ = some (.int .u16 d) ∧ w.heap.size < wz.heap.size)) ∧ Below w.heap.size w wz)) := ⟨_, rfl⟩; have HCl := Lib.hid hCl; clear hCl; refine wp_region_eff [7] Cl (by kernel_rfl) (by kernel_rfl) (by rw [HCl.out]; (try simp only [List.nil_append, List.cons_append]); (try dsimp only); ((repeat' apply And.intro) <;> first | (simp [go_sem, *]; done) | omega | (repeat' (first | with_reducible exact Below.refl _ _ | with_reducible assumption | ((with_reducible refine Below.drew ?_)) | ((with_reducible refine below_drewN ?_ _)) | ((with_reducible refine Below.alloc ?_ ?_ _); rotate_left; focus (first | omega | (simp; done) | (simp; omega))) | ((with_reducible refine Below.setCell ?_ ?_ _); rotate_left; focus (first | omega | (simp; done) | (simp; omega))) | ((with_reducible refine Below.trans ?_ (Below.mono (by with_reducible assumption) ?_)); rotate_left; focus (first | omega | (simp; done) | (simp; omega))))))) ?_
  (repeat (first | (refine wE_skip (by rfl) ?_; simp only [Act.put, Nat.reduceAdd, List.setIfInBounds_toArray, List.set_cons_zero, List.set_cons_succ, List.nil_append, List.cons_append]) | (refine wE_open (by rfl) (by rfl) ?_; apply Exists.intro; refine ⟨fun vs wq hw => ?_, ?_⟩; (focus (rw [HCl.out] at hw; (try simp only [List.nil_append, List.cons_append] at hw); (try dsimp only at hw); go_split_ands; go_simp <;> first | with_reducible exact (rfl : Value.bool false = _) | with_reducible exact (rfl : Value.bool true = _) | ((try go_bits) <;> exact rfl))); simp only [Act.put, Nat.reduceAdd, List.setIfInBounds_toArray, List.set_cons_zero, List.set_cons_succ, List.nil_append, List.cons_append]) | (refine wE_seal (by rfl) (by rfl) (by kernel_rfl) ?_; apply Exists.intro; refine ⟨fun wq hw => ?_, ?_⟩; (focus (rw [HCl.out] at hw; (try simp only [List.nil_append, List.cons_append] at hw); (try dsimp only at hw); go_split_ands; go_simp <;> (try go_bits) <;> exact rfl)); simp only [Act.put, Nat.reduceAdd, List.setIfInBounds_toArray, List.set_cons_zero, List.set_cons_succ, List.nil_append, List.cons_append]) | (refine wE_seal (by rfl) (by rfl) (by kernel_rfl) ?_; apply Exists.intro; refine ⟨fun wq hw => ?_, ?_⟩; (focus (rw [HCl.out] at hw; (try simp only [List.nil_append, List.cons_append] at hw); (try dsimp only at hw); go_split_ands; go_simp; (go_at_call 16; ((with_reducible refine (KR.out _).mono ?_); rintro e w' ⟨rfl, hbel⟩; obtain ⟨hcc, hff⟩ := bcell hbel; have hsz := hbel.size; (try simp at hsz); refine ⟨rfl, ?_⟩; rw [HCl.out]; (try simp only [List.nil_append, List.cons_append]); (try dsimp only); ((repeat' apply And.intro) <;> first | (simp [go_sem, *]; done) | omega | (repeat' (first | with_reducible exact Below.refl _ _ | with_reducible assumption | ((with_reducible refine Below.drew ?_)) | ((with_reducible refine below_drewN ?_ _)) | ((with_reducible refine Below.alloc ?_ ?_ _); rotate_left; focus (first | omega | (simp; done) | (simp; omega))) | ((with_reducible refine Below.setCell ?_ ?_ _); rotate_left; focus (first | omega | (simp; done) | (simp; omega))) | ((with_reducible refine Below.trans ?_ (Below.mono (by with_reducible assumption) ?_)); rotate_left; focus (first | omega | (simp; done) | (simp; omega)))))))))); simp only [Act.put, Nat.reduceAdd, List.setIfInBounds_toArray, List.set_cons_zero, List.set_cons_succ, List.nil_append, List.cons_append]) | (refine wE_eff (by rfl) (by rfl) (fun wq hw => ?_) (fun u hu => ?_); (focus (rw [HCl.out] at hw; (try simp only [List.nil_append, List.cons_append] at hw); (try dsimp only at hw); go_split_ands; go_simp; rw [HCl.out]; (try simp only [List.nil_append, List.cons_append]); (try dsimp only); skip; ((repeat' apply And.intro) <;> first | (simp [go_sem, *]; done) | omega | (repeat' (first | with_reducible exact Below.refl _ _ | with_reducible assumption | ((with_reducible refine Below.drew ?_)) | ((with_reducible refine below_drewN ?_ _)) | ((with_reducible refine Below.alloc ?_ ?_ _); rotate_left; focus (first | omega | (simp; done) | (simp; omega))) | ((with_reducible refine Below.setCell ?_ ?_ _); rotate_left; focus (first | omega | (simp; done) | (simp; omega))) | ((with_reducible refine Below.trans ?_ (Below.mono (by with_reducible assumption) ?_)); rotate_left; focus (first | omega | (simp; done) | (simp; omega)))))))); clear hu; simp only [Act.put, Nat.reduceAdd, List.setIfInBounds_toArray, List.set_cons_zero, List.set_cons_succ, List.nil_append, List.cons_append])))
  refine wE_nil ?_; intro w' hw; rw [HCl.out] at hw; (try simp only [List.nil_append, List.cons_append] at hw); (try dsimp only at hw); clear HCl
  go_split_ands
  go_wp2
  refine bodyPost_ret (v := .agg #[.int .u64 (i), .int .i64 (S.size), .int .u16 (a), .int .u16 (b), .int .u16 (c), .int .u16 (d)]) (by simp [results, Try.results63, go_sem, *]) rfl ⟨rfl, (by repeat' (first | with_reducible exact Below.refl _ _ | with_reducible assumption | ((with_reducible refine Below.drew ?_)) | ((with_reducible refine below_drewN ?_ _)) | ((with_reducible refine Below.alloc ?_ ?_ _); rotate_left; focus (first | omega | (simp; done) | (simp; omega))) | ((with_reducible refine Below.setCell ?_ ?_ _); rotate_left; focus (first | omega | (simp; done) | (simp; omega))) | ((with_reducible refine Below.trans ?_ (Below.mono (by with_reducible assumption) ?_)); rotate_left; focus (first | omega | (simp; done) | (simp; omega)))))⟩
theorem rpk_c (S : ByteArray) (hM : S.size ≤ 9223372036854775807) (i : Nat) (hi : i ≤ 1000000) (most : Int) (w : World) : Calls Try.prog 63 #[.int .i64 i, .string S, .int .i64 most] w fun ee w' => ee = .returned (.agg #[.int .u64 ((i : Int)), .int .i64 (S.size), .int .u16 ((phd S most).1), .int .u16 ((phd S most).2.1), .int .u16 ((phd S most).2.2.1), .int .u16 ((phd S most).2.2.2)]) ∧ Below w.heap.size w w' := by
  have hv := kbad_val S
  have kb := fun z => rbad_c S hM z
  by_cases h : kbad S = 0
  · rw [h] at kb
    by_cases h2 : most < S.size ∨ 16384 < S.size
    · have e : perr S most = 26 := by unfold perr; rw [if_neg (fun hh => hh h), if_pos h2]
      unfold phd
      rw [if_neg (by omega)]
      exact rpk_len S i most (by omega) hM h2 kb w
    · have e : perr S most = 0 := by unfold perr; rw [if_neg (fun hh => hh h), if_neg h2]
      unfold phd
      rw [if_pos e]
      exact rpk_ok S i most _ _ _ _ (by omega) (by omega) (by omega) kb (fun z => rkey_c S h hM z) w
  · have e : perr S most = kbad S := if_pos h
    unfold phd
    rw [if_neg (by omega)]
    exact rpk_bad S i most _ (by omega) (by omega) kb w
end Go.Proofs.Ytnfhiagbbmaobaa

/- capture.Ops of any capture. -/
namespace Go.Proofs.Ytnfhiagbbmaobaa
set_option linter.unusedVariables false
set_option linter.unusedSimpArgs false
set_option maxRecDepth 100000
open Go.RowKit Fg Reg
attribute [local irreducible] Reg.wE Reg2.wT World.ownsRow

theorem cop_bad (L : List Fm) (e : Int) (he : e = 2 ∨ e = 26 ∨ e = 27) (a : Option Addr) (cap : Nat) (most : Int) (w : World) (hc : Calls Try.prog 56 #[.slice a L.length cap] w fun ee w' => ee = .returned (.int .i64 e) ∧ Below w.heap.size w w') : Calls Try.prog 36 #[.slice a L.length cap, .int .i64 most] w fun ee w' => ee = .returned (.tuple #[.slice none 0 0, .int .i64 e]) ∧ Below w.heap.size w w' := by
  have KC := Lib.hid hc
  clear hc
  rcases he with rfl | rfl | rfl
  all_goals
    go_enter Try.func36, Try.ntmps36
    go_wp2_with (go_at_call 56; ((with_reducible refine (KC.out).mono ?_); rintro e w1 ⟨rfl, hbel⟩; obtain ⟨hcc, hff⟩ := bcell hbel; have hsz := hbel.size; (try simp at hsz); have hF : w.heap.size ≤ w1.heap.size ∧ Below w.heap.size w w1 := (by ((repeat' apply And.intro) <;> first | (simp [go_sem, *]; done) | omega | (repeat' (first | with_reducible exact Below.refl _ _ | with_reducible assumption | ((with_reducible refine Below.drew ?_)) | ((with_reducible refine below_drewN ?_ _)) | ((with_reducible refine Below.alloc ?_ ?_ _); rotate_left; focus (first | omega | (simp; done) | (simp; omega))) | ((with_reducible refine Below.setCell ?_ ?_ _); rotate_left; focus (first | omega | (simp; done) | (simp; omega))) | ((with_reducible refine Below.trans ?_ (Below.mono (by with_reducible assumption) ?_)); rotate_left; focus (first | omega | (simp; done) | (simp; omega))))))); go_split_ands; clear hcc hff hbel))
    (go_ret2; refine ⟨?_, ?_⟩; (focus (exact rfl)); ((repeat' (first | with_reducible exact Below.refl _ _ | with_reducible assumption | ((with_reducible refine Below.drew ?_)) | ((with_reducible refine below_drewN ?_ _)) | ((with_reducible refine Below.alloc ?_ ?_ _); rotate_left; focus (first | omega | (simp; done) | (simp; omega))) | ((with_reducible refine Below.setCell ?_ ?_ _); rotate_left; focus (first | omega | (simp; done) | (simp; omega))) | ((with_reducible refine Below.trans ?_ (Below.mono (by with_reducible assumption) ?_)); rotate_left; focus (first | omega | (simp; done) | (simp; omega))))); done))
set_option maxHeartbeats 16000000 in
theorem cop_ok (L : List Fm) (hw : ∀ k (h : k < L.length), L[k].wf) (hk0 : chk L = 0) (a : Option Addr) (cap : Nat) (most : Int) (w : World) (hR : RwV Fm.cells 2 w a L) : Calls Try.prog 36 #[.slice a L.length cap, .int .i64 most] w (fun e w' => ∃ v, e = .returned (.tuple #[v, .int .i64 0]) ∧ w'.ownsRow w.heap.size 90 10 v (opsK L most L.length).length ((opsK L most L.length).flatMap Oq.cells) ∧ Below w.heap.size w w') := by
  obtain ⟨ie, HI0, HZ0, HZ1, HZ2⟩ := opt_parts
  obtain ⟨hL, -⟩ := chk_len hk0
  have hc := cchk_c L hw (by omega) a cap w hR
  rw [hk0] at hc
  have KC := Lib.hid hc
  have HR := Lib.hid hR
  clear hc hR
  go_enter Try.func36, Try.ntmps36
  go_wp2_with (go_at_call 56; ((with_reducible refine (KC.out).mono ?_); rintro e w1 ⟨rfl, hbel⟩; obtain ⟨hcc, hff⟩ := bcell hbel; have hsz := hbel.size; (try simp at hsz); have hF : w.heap.size ≤ w1.heap.size ∧ Below w.heap.size w w1 := (by ((repeat' apply And.intro) <;> first | (simp [go_sem, *]; done) | omega | (repeat' (first | with_reducible exact Below.refl _ _ | with_reducible assumption | ((with_reducible refine Below.drew ?_)) | ((with_reducible refine below_drewN ?_ _)) | ((with_reducible refine Below.alloc ?_ ?_ _); rotate_left; focus (first | omega | (simp; done) | (simp; omega))) | ((with_reducible refine Below.setCell ?_ ?_ _); rotate_left; focus (first | omega | (simp; done) | (simp; omega))) | ((with_reducible refine Below.trans ?_ (Below.mono (by with_reducible assumption) ?_)); rotate_left; focus (first | omega | (simp; done) | (simp; omega))))))); go_split_ands; clear hcc hff hbel))
  go_loopw [7, 8, 18] (fun out la ii wr => ∃ (k : Nat) (v : Value), k ≤ L.length ∧ ii = .int .i64 k ∧ la = .int .u64 (lastT L k) ∧ out = v ∧ wr.ownsRow w.heap.size 90 10 v (opsK L most k).length ((opsK L most k).flatMap Oq.cells) ∧ Below w.heap.size w wr) (fun _ _ ii _ => L.length - (intOf ii).toNat)
  case atStart => exact ⟨0, _, Nat.zero_le _, rfl, rfl, rfl, World.ownsRow_nil _ _ _ _, by assumption⟩
  case round =>
    obtain ⟨k, v, hk, rfl, rfl, hv, hO, hB⟩ := hrel
    have hv' := hv.symm
    subst hv'
    by_cases hlt : k < L.length
    · obtain ⟨b, o, ha, hb, q0, q1⟩ := fm_cells HR.out k hlt
      have c0 := (hB.cell (p := ⟨b, o + k * 2, none⟩) hb).trans q0
      have c1 := (hB.cell (p := ⟨b, o + k * 2 + 1, none⟩) hb).trans q1
      have hd2 := (hw k hlt).2
      obtain ⟨g1, g2, g3⟩ := chk_at hk0 k hlt
      have g4 := lastT_bd hw k hk
      have hls := lastT_succ L k hlt
      have hle := opsK_le L most k
      have h2 := opsK_two L most k
      have h1 := opsK_one L most k
      rw [getD_at L k hlt] at h1 h2
      have kp := fun z => cpk_c L[k].d hd2 k (by omega) L[k].t most z
      obtain ⟨t, ht⟩ : ∃ t, L[k].t = t := ⟨_, rfl⟩
      obtain ⟨d, hd⟩ : ∃ d, L[k].d = d := ⟨_, rfl⟩
      obtain ⟨la, hla⟩ : ∃ la, lastT L k = la := ⟨_, rfl⟩
      rw [ht] at c0 g2 g3 hls h1 h2
      rw [hd] at c1 hd2 g1 h1 h2
      simp only [ht, hd] at kp
      rw [hla] at g2 g4 h1 h2 ⊢
      have hopk : ∃ A1 A2 A3 A4 : Int, phd d most = (A1, A2, A3, A4) := ⟨_, _, _, _, rfl⟩
      obtain ⟨A1, A2, A3, A4, hph⟩ := hopk
      have hoc : (opk k d most).cells = [Value.int .i64 3, Value.slice none 0 0, Value.slice none 0 0, Value.int .u64 k, Value.int .i64 d.size, Value.int .u16 A1, Value.int .u16 A2, Value.int .u16 A3, Value.int .u16 A4, Value.int .u64 0] := by simp [opk, Oq.cells, hph]
      rw [hph] at kp
      have KP := Lib.hid kp
      have HLS := Lib.hid hls
      have hsz := hB.size
      subst ha
      clear q0 q1 ht hd kp hph hla hls
      have hbr : b < wr.heap.size := by omega
      have hblk := row_blk hO
      have hvb : v.ownBlock ≠ some wr.heap.size := fun e => by have := (hblk _ e).2; omega
      by_cases hq : t = la
      · have h1' := h1 hq
        have hts : (opsK L most (k + 1)).flatMap Oq.cells = (opsK L most k).flatMap Oq.cells ++ [Value.int .i64 3, Value.slice none 0 0, Value.slice none 0 0, Value.int .u64 k, Value.int .i64 d.size, Value.int .u16 A1, Value.int .u16 A2, Value.int .u16 A3, Value.int .u16 A4, Value.int .u64 0] := by rw [h1', List.flatMap_append, List.flatMap_cons, List.flatMap_nil, hoc, List.append_nil]
        have htl : (opsK L most (k + 1)).length = (opsK L most k).length + 1 := by rw [h1']; simp
        obtain ⟨N, hN⟩ : ∃ N, (opsK L most k).length = N := ⟨_, rfl⟩
        obtain ⟨xs, hxs⟩ : ∃ xs, (opsK L most k).flatMap Oq.cells = xs := ⟨_, rfl⟩
        rw [hN] at hO htl hle
        rw [hxs] at hO hts
        have HTS := Lib.hid hts
        have HTL := Lib.hid htl
        have d1 : decide (la < t) = false := by simp; omega
        clear h1 h2 h1' hts htl hN hxs hoc
        have HQ := Lib.hid hq
        clear hq
        go_wp2_with (first
          | (go_at_call 62; ((with_reducible refine (KP.out _).mono ?_); rintro e w3 ⟨rfl, hbel⟩; (have hO3 := row_bel (row_al hO _) hbel); (have hsz3 := hbel.size); (try simp at hsz3); (have hB3 := Below.trans (show Below w.heap.size w _ by ((repeat' (first | with_reducible exact Below.refl _ _ | with_reducible assumption | ((with_reducible refine Below.drew ?_)) | ((with_reducible refine below_drewN ?_ _)) | ((with_reducible refine Below.alloc ?_ ?_ _); rotate_left; focus (first | omega | (simp; done) | (simp; omega))) | ((with_reducible refine Below.setCell ?_ ?_ _); rotate_left; focus (first | omega | (simp; done) | (simp; omega))) | ((with_reducible refine Below.trans ?_ (Below.mono (by with_reducible assumption) ?_)); rotate_left; focus (first | omega | (simp; done) | (simp; omega))))); done)) (hbel.mono (show w.heap.size ≤ (wr.alloc _).heap.size by simp; omega)))))
          | (at_builtin; (refine wpList_append_gw rfl _ _ 83 rfl w.heap.size 90 ie (.agg #[.int .i64 0, .slice none 0 0, .slice none 0 0, .int .u64 0, .int .i64 0, .int .u16 0, .int .u16 0, .int .u16 0, .int .u16 0, .int .u64 0]) 10 88 Try.underlying83 HI0 HZ0 HZ1 HZ2 rfl (by decide) _ _ _ rfl (row_al hO3 _) ⟨_, 0, none⟩ 1 1 [Value.int .i64 3, Value.slice none 0 0, Value.slice none 0 0, Value.int .u64 k, Value.int .i64 d.size, Value.int .u16 A1, Value.int .u16 A2, Value.int .u16 A3, Value.int .u16 A4, Value.int .u64 0] rfl rfl ?c1 ?c2 ?c3 ?c4 ?c5 ?_)))
        try case c1 => (intro j u hu; rcases j with _ | _ | _ | _ | _ | _ | _ | _ | _ | _ | j <;> simp at hu <;> (try subst hu) <;> simp [Addr.add, go_sem])
        case c2 => (first | exact ⟨rfl, rfl, rfl, rfl, rfl, rfl⟩ | (intro u hu; simp at hu; rcases hu with rfl | rfl | rfl | rfl | rfl | rfl | rfl | rfl | rfl | rfl <;> rfl))
        case c3 => (unfold maxLen; omega)
        case c4 => omega
        case c5 => (first | omega | (simp; omega))
        intro v4 w4 hO4 hg4
        have hblk3 := row_blk hO3
        have hB4 := hg4.only.below (B := w.heap.size) (a := w) (by repeat' (first | with_reducible exact Below.refl _ _ | with_reducible assumption | ((with_reducible refine Below.drew ?_)) | ((with_reducible refine below_drewN ?_ _)) | ((with_reducible refine Below.alloc ?_ ?_ _); rotate_left; focus (first | omega | (simp; done) | (simp; omega))) | ((with_reducible refine Below.setCell ?_ ?_ _); rotate_left; focus (first | omega | (simp; done) | (simp; omega))) | ((with_reducible refine Below.trans ?_ (Below.mono (by with_reducible assumption) ?_)); rotate_left; focus (first | omega | (simp; done) | (simp; omega))))) (by simp; omega) (fun k hk => (hblk3 k hk).1)
        rw [← HTS.out, ← HTL.out] at hO4
        have HO4 := Lib.hid hO4
        clear hO hO4 hO3
        go_wp2
        go_roundw
        case rel => exact ⟨k + 1, v4, by omega, by go_num, by rw [HLS.out, HQ.out], rfl, HO4.out, hB4⟩
        case measure => (simp [intOf]; try omega)
      · have h2' := h2 hq
        obtain ⟨D, hD⟩ : ∃ D, t - la = D := ⟨_, rfl⟩
        rw [hD] at h2'
        have hts : (opsK L most (k + 1)).flatMap Oq.cells = (opsK L most k).flatMap Oq.cells ++ [Value.int .i64 4, Value.slice none 0 0, Value.slice none 0 0, Value.int .u64 0, Value.int .i64 0, Value.int .u16 0, Value.int .u16 0, Value.int .u16 0, Value.int .u16 0, Value.int .u64 D] ++ [Value.int .i64 3, Value.slice none 0 0, Value.slice none 0 0, Value.int .u64 k, Value.int .i64 d.size, Value.int .u16 A1, Value.int .u16 A2, Value.int .u16 A3, Value.int .u16 A4, Value.int .u64 0] := by
          rw [h2', List.flatMap_append, List.flatMap_cons, List.flatMap_cons, List.flatMap_nil, hoc, List.append_nil, ← List.append_assoc]; rfl
        have htl : (opsK L most (k + 1)).length = (opsK L most k).length + 1 + 1 := by rw [h2']; simp
        obtain ⟨N, hN⟩ : ∃ N, (opsK L most k).length = N := ⟨_, rfl⟩
        obtain ⟨xs, hxs⟩ : ∃ xs, (opsK L most k).flatMap Oq.cells = xs := ⟨_, rfl⟩
        rw [hN] at hO htl hle
        rw [hxs] at hO hts
        have HTS := Lib.hid hts
        have HTL := Lib.hid htl
        have d1 : decide (la < t) = true := by simp; omega
        have u1 : IntKind.u64.wrap (t - la) = D := by rw [IntKind.wrap_u64]; omega
        have u2 : (t - la) % 18446744073709551616 = D := by omega
        clear h1 h2 h2' hts htl hN hxs hoc hq
        go_wp2_with (at_builtin; (refine wpList_append_gw rfl _ _ 83 rfl w.heap.size 90 ie (.agg #[.int .i64 0, .slice none 0 0, .slice none 0 0, .int .u64 0, .int .i64 0, .int .u16 0, .int .u16 0, .int .u16 0, .int .u16 0, .int .u64 0]) 10 88 Try.underlying83 HI0 HZ0 HZ1 HZ2 rfl (by decide) _ _ _ rfl (row_al (row_al hO _) _) ⟨_, 0, none⟩ 1 1 [Value.int .i64 4, Value.slice none 0 0, Value.slice none 0 0, Value.int .u64 0, Value.int .i64 0, Value.int .u16 0, Value.int .u16 0, Value.int .u16 0, Value.int .u16 0, Value.int .u64 D] rfl rfl ?c1 ?c2 ?c3 ?c4 ?c5 ?_))
        try case c1 => (intro j u hu; rcases j with _ | _ | _ | _ | _ | _ | _ | _ | _ | _ | j <;> simp at hu <;> (try subst hu) <;> simp [Addr.add, go_sem])
        case c2 => (first | exact ⟨rfl, rfl, rfl, rfl, rfl, rfl⟩ | (intro u hu; simp at hu; rcases hu with rfl | rfl | rfl | rfl | rfl | rfl | rfl | rfl | rfl | rfl <;> rfl))
        case c3 => (unfold maxLen; omega)
        case c4 => omega
        case c5 => (first | omega | (simp; omega))
        intro v2 w2 hO2 hg2
        have x0 : w2.cell? ⟨wr.heap.size, 0, none⟩ = some (.int .u64 t) := (hg2.cell (by simp; omega) hvb).trans (by simp [go_sem])
        have x1 : w2.cell? ⟨wr.heap.size, 1, none⟩ = some (.string d) := (hg2.cell (by simp; omega) hvb).trans (by simp [go_sem])
        have hsz2 : wr.heap.size + 2 ≤ w2.heap.size := by have := hg2.only.size; simpa using this
        have hB2 := hg2.only.below (B := w.heap.size) (a := w) (by repeat' (first | with_reducible exact Below.refl _ _ | with_reducible assumption | ((with_reducible refine Below.drew ?_)) | ((with_reducible refine below_drewN ?_ _)) | ((with_reducible refine Below.alloc ?_ ?_ _); rotate_left; focus (first | omega | (simp; done) | (simp; omega))) | ((with_reducible refine Below.setCell ?_ ?_ _); rotate_left; focus (first | omega | (simp; done) | (simp; omega))) | ((with_reducible refine Below.trans ?_ (Below.mono (by with_reducible assumption) ?_)); rotate_left; focus (first | omega | (simp; done) | (simp; omega))))) (by simp; omega) (fun k hk => (hblk k hk).1)
        have hblk2 := row_blk hO2
        clear hg2 hO
        go_wp2_with (first
          | (go_at_call 62; ((with_reducible refine (KP.out _).mono ?_); rintro e w3 ⟨rfl, hbel⟩; (have hO3 := row_bel hO2 hbel); (have hsz3 := hbel.size); (try simp at hsz3); (have hB3 := Below.trans hB2 (hbel.mono hB2.size))))
          | (at_builtin; (refine wpList_append_gw rfl _ _ 83 rfl w.heap.size 90 ie (.agg #[.int .i64 0, .slice none 0 0, .slice none 0 0, .int .u64 0, .int .i64 0, .int .u16 0, .int .u16 0, .int .u16 0, .int .u16 0, .int .u64 0]) 10 88 Try.underlying83 HI0 HZ0 HZ1 HZ2 rfl (by decide) _ _ _ rfl (row_al hO3 _) ⟨_, 0, none⟩ 1 1 [Value.int .i64 3, Value.slice none 0 0, Value.slice none 0 0, Value.int .u64 k, Value.int .i64 d.size, Value.int .u16 A1, Value.int .u16 A2, Value.int .u16 A3, Value.int .u16 A4, Value.int .u64 0] rfl rfl ?e1 ?e2 ?e3 ?e4 ?e5 ?_)))
        try case e1 => (intro j u hu; rcases j with _ | _ | _ | _ | _ | _ | _ | _ | _ | _ | j <;> simp at hu <;> (try subst hu) <;> simp [Addr.add, go_sem])
        case e2 => (first | exact ⟨rfl, rfl, rfl, rfl, rfl, rfl⟩ | (intro u hu; simp at hu; rcases hu with rfl | rfl | rfl | rfl | rfl | rfl | rfl | rfl | rfl | rfl <;> rfl))
        case e3 => (unfold maxLen; omega)
        case e4 => omega
        case e5 => (first | omega | (simp; omega))
        intro v4 w4 hO4 hg4
        have hblk3 := row_blk hO3
        have hB4 := hg4.only.below (B := w.heap.size) (a := w) (by repeat' (first | with_reducible exact Below.refl _ _ | with_reducible assumption | ((with_reducible refine Below.drew ?_)) | ((with_reducible refine below_drewN ?_ _)) | ((with_reducible refine Below.alloc ?_ ?_ _); rotate_left; focus (first | omega | (simp; done) | (simp; omega))) | ((with_reducible refine Below.setCell ?_ ?_ _); rotate_left; focus (first | omega | (simp; done) | (simp; omega))) | ((with_reducible refine Below.trans ?_ (Below.mono (by with_reducible assumption) ?_)); rotate_left; focus (first | omega | (simp; done) | (simp; omega))))) (by simp; omega) (fun k hk => (hblk3 k hk).1)
        have HO4 := Lib.hid (show w4.ownsRow w.heap.size 90 10 v4 (opsK L most (k + 1)).length ((opsK L most (k + 1)).flatMap Oq.cells) by rw [HTS.out, HTL.out]; first | exact hO4 | simpa using hO4 | (trace_state; simpa [List.append_assoc] using hO4))
        clear hO4 hO3 hO2
        go_wp2
        go_roundw
        case rel => exact ⟨k + 1, v4, by omega, by go_num, by rw [HLS.out], rfl, HO4.out, hB4⟩
        case measure => (simp [intOf]; try omega)
    · obtain rfl : k = L.length := by omega
      have HO := Lib.hid hO
      clear hO
      go_wp2
      go_ret2
      exact ⟨_, rfl, HO.out, hB⟩
end Go.Proofs.Ytnfhiagbbmaobaa

/- The reference's operations of any capture. -/
namespace Go.Proofs.Ytnfhiagbbmaobaa
set_option linter.unusedVariables false
set_option linter.unusedSimpArgs false
set_option maxRecDepth 100000
open Go.RowKit Fg Reg
attribute [local irreducible] Reg.wE Reg2.wT World.ownsRow

set_option maxHeartbeats 16000000 in
theorem rop_ok (L : List Fm) (hw : ∀ k (h : k < L.length), L[k].wf) (hk0 : chk L = 0) (a : Option Addr) (cap : Nat) (most : Int) (w : World) (hR : RwV Fm.cells 2 w a L) : Calls Try.prog 37 #[.slice a L.length cap, .int .i64 most] w (fun e w' => ∃ v, e = .returned v ∧ w'.ownsRow w.heap.size 90 10 v (opsK L most L.length).length ((opsK L most L.length).flatMap Oq.cells) ∧ Below w.heap.size w w') := by
  obtain ⟨ie, HI0, HZ0, HZ1, HZ2⟩ := opt_parts
  obtain ⟨hL, -⟩ := chk_len hk0
  have HR := Lib.hid hR
  clear hR
  go_enter Try.func37, Try.ntmps37
  go_wp2_with fail
  go_loopw [5, 11] (fun out ii wr => ∃ (k : Nat) (v : Value), k ≤ L.length ∧ ii = .int .i64 k ∧ out = v ∧ wr.ownsRow w.heap.size 90 10 v (opsK L most k).length ((opsK L most k).flatMap Oq.cells) ∧ Below w.heap.size w wr) (fun _ ii _ => L.length - (intOf ii).toNat)
  case atStart => exact ⟨0, _, Nat.zero_le _, rfl, rfl, World.ownsRow_nil _ _ _ _, Below.refl _ _⟩
  case round =>
    obtain ⟨k, v, hk, rfl, hv, hO, hB⟩ := hrel
    have hv' := hv.symm
    subst hv'
    by_cases hlt : k < L.length
    · obtain ⟨b, o, ha, hb, q0, q1⟩ := fm_cells HR.out k hlt
      have c0 := (hB.cell (p := ⟨b, o + k * 2, none⟩) hb).trans q0
      have c1 := (hB.cell (p := ⟨b, o + k * 2 + 1, none⟩) hb).trans q1
      have hd2 := (hw k hlt).2
      obtain ⟨g1, g2, g3⟩ := chk_at hk0 k hlt
      have g4 := lastT_bd hw k hk
      have hle := opsK_le L most k
      have h2 := opsK_two L most k
      have h1 := opsK_one L most k
      rw [getD_at L k hlt] at h1 h2
      have hpre : k = 0 ∧ lastT L k = 0 ∨ ∃ m, k = m + 1 ∧ ∃ (hm : m < L.length), lastT L k = L[m].t := by
        rcases k with _ | m
        · exact .inl ⟨rfl, rfl⟩
        · exact .inr ⟨m, rfl, by omega, lastT_succ L m (by omega)⟩
      have kp := fun z => rpk_c L[k].d hd2 k (by omega) most z
      obtain ⟨t, ht⟩ : ∃ t, L[k].t = t := ⟨_, rfl⟩
      obtain ⟨d, hd⟩ : ∃ d, L[k].d = d := ⟨_, rfl⟩
      obtain ⟨la, hla⟩ : ∃ la, lastT L k = la := ⟨_, rfl⟩
      rw [ht] at c0 g2 g3 h1 h2
      rw [hd] at c1 hd2 g1 h1 h2
      simp only [hd] at kp
      rw [hla] at g2 g4 h1 h2 hpre
      have hopk : ∃ A1 A2 A3 A4 : Int, phd d most = (A1, A2, A3, A4) := ⟨_, _, _, _, rfl⟩
      obtain ⟨A1, A2, A3, A4, hph⟩ := hopk
      have hoc : (opk k d most).cells = [Value.int .i64 3, Value.slice none 0 0, Value.slice none 0 0, Value.int .u64 k, Value.int .i64 d.size, Value.int .u16 A1, Value.int .u16 A2, Value.int .u16 A3, Value.int .u16 A4, Value.int .u64 0] := by simp [opk, Oq.cells, hph]
      rw [hph] at kp
      have KP := Lib.hid kp
      have hsz := hB.size
      subst ha
      clear q0 q1 ht hd kp hph hla
      have hbr : b < wr.heap.size := by omega
      have hblk := row_blk hO
      have hvb : v.ownBlock ≠ some wr.heap.size := fun e => by have := (hblk _ e).2; omega
      by_cases hq : t = la
      · have h1' := h1 hq
        have hts : (opsK L most (k + 1)).flatMap Oq.cells = (opsK L most k).flatMap Oq.cells ++ [Value.int .i64 3, Value.slice none 0 0, Value.slice none 0 0, Value.int .u64 k, Value.int .i64 d.size, Value.int .u16 A1, Value.int .u16 A2, Value.int .u16 A3, Value.int .u16 A4, Value.int .u64 0] := by rw [h1', List.flatMap_append, List.flatMap_cons, List.flatMap_nil, hoc, List.append_nil]
        have htl : (opsK L most (k + 1)).length = (opsK L most k).length + 1 := by rw [h1']; simp
        obtain ⟨N, hN⟩ : ∃ N, (opsK L most k).length = N := ⟨_, rfl⟩
        obtain ⟨xs, hxs⟩ : ∃ xs, (opsK L most k).flatMap Oq.cells = xs := ⟨_, rfl⟩
        rw [hN] at hO htl hle
        rw [hxs] at hO hts
        have HTS := Lib.hid hts
        have HTL := Lib.hid htl
        have d1 : (t != la) = false := by simpa using hq
        clear h1 h2 h1' hts htl hN hxs hoc hq
        rcases hpre with ⟨e0, e1⟩ | ⟨m, e0, hm, e1⟩
        · have d0 : decide (0 < (k : Int)) = false := by simp; omega
          have d0' : decide (0 < k) = false := by simp; omega
          subst e1
          clear e0
          (go_wp2_with (first | (go_at_call 63; ((with_reducible refine (KP.out _).mono ?_); rintro e w3 ⟨rfl, hbel⟩; (have hO3 := row_bel (row_al hO _) hbel); (have hsz3 := hbel.size); (try simp at hsz3); (have hB3 := Below.trans (show Below w.heap.size w _ by ((repeat' (first | with_reducible exact Below.refl _ _ | with_reducible assumption | ((with_reducible refine Below.drew ?_)) | ((with_reducible refine below_drewN ?_ _)) | ((with_reducible refine Below.alloc ?_ ?_ _); rotate_left; focus (first | omega | (simp; done) | (simp; omega))) | ((with_reducible refine Below.setCell ?_ ?_ _); rotate_left; focus (first | omega | (simp; done) | (simp; omega))) | ((with_reducible refine Below.trans ?_ (Below.mono (by with_reducible assumption) ?_)); rotate_left; focus (first | omega | (simp; done) | (simp; omega))))); done)) (hbel.mono (show w.heap.size ≤ (wr.alloc _).heap.size by simp; omega))))) | (at_builtin; (refine wpList_append_gw rfl _ _ 83 rfl w.heap.size 90 ie (.agg #[.int .i64 0, .slice none 0 0, .slice none 0 0, .int .u64 0, .int .i64 0, .int .u16 0, .int .u16 0, .int .u16 0, .int .u16 0, .int .u64 0]) 10 88 Try.underlying83 HI0 HZ0 HZ1 HZ2 rfl (by decide) _ _ _ rfl (row_al hO3 _) ⟨_, 0, none⟩ 1 1 [Value.int .i64 3, Value.slice none 0 0, Value.slice none 0 0, Value.int .u64 k, Value.int .i64 d.size, Value.int .u16 A1, Value.int .u16 A2, Value.int .u16 A3, Value.int .u16 A4, Value.int .u64 0] rfl rfl ?c1 ?c2 ?c3 ?c4 ?c5 ?_)))); (try case c1 => (intro j u hu; rcases j with _ | _ | _ | _ | _ | _ | _ | _ | _ | _ | j <;> simp at hu <;> (try subst hu) <;> simp [Addr.add, go_sem])); (case c2 => (first | exact ⟨rfl, rfl, rfl, rfl, rfl, rfl⟩ | (intro u hu; simp at hu; rcases hu with rfl | rfl | rfl | rfl | rfl | rfl | rfl | rfl | rfl | rfl <;> rfl))); (case c3 => (unfold maxLen; omega)); (case c4 => omega); (case c5 => (first | omega | (simp; omega))); (intro v4 w4 hO4 hg4); (have hblk3 := row_blk hO3); (have hB4 := hg4.only.below (B := w.heap.size) (a := w) (by repeat' (first | with_reducible exact Below.refl _ _ | with_reducible assumption | ((with_reducible refine Below.drew ?_)) | ((with_reducible refine below_drewN ?_ _)) | ((with_reducible refine Below.alloc ?_ ?_ _); rotate_left; focus (first | omega | (simp; done) | (simp; omega))) | ((with_reducible refine Below.setCell ?_ ?_ _); rotate_left; focus (first | omega | (simp; done) | (simp; omega))) | ((with_reducible refine Below.trans ?_ (Below.mono (by with_reducible assumption) ?_)); rotate_left; focus (first | omega | (simp; done) | (simp; omega))))) (by simp; omega) (fun k hk => (hblk3 k hk).1)); (have HO4 := Lib.hid (show w4.ownsRow w.heap.size 90 10 v4 (opsK L most (k + 1)).length ((opsK L most (k + 1)).flatMap Oq.cells) by rw [HTS.out, HTL.out]; first | exact hO4 | simpa using hO4)); (clear hO hO4 hO3); go_wp2; go_roundw; (case rel => exact ⟨k + 1, v4, by omega, by go_num, rfl, HO4.out, hB4⟩); (case measure => (simp [intOf]; try omega))
        · have d0 : decide (0 < (k : Int)) = true := by simp; omega
          have d0' : decide (0 < k) = true := by simp; omega
          obtain ⟨b2, o2, ha2, hb2, r0, r1⟩ := fm_cells HR.out m hm
          obtain ⟨rfl, rfl⟩ : b2 = b ∧ o2 = o := by simp at ha2; exact ⟨ha2.1.symm, ha2.2.symm⟩
          have y0 := (hB.cell (p := ⟨b2, o2 + m * 2, none⟩) hb2).trans r0
          rw [← e1, show m = k - 1 by omega] at y0
          clear e1 r0 r1 ha2
          have hmi : ((k : Int) - 1) < L.length := by omega
          have hk1 : 1 ≤ k := by omega
          clear e0
          (go_wp2_with (first | (go_at_call 63; ((with_reducible refine (KP.out _).mono ?_); rintro e w3 ⟨rfl, hbel⟩; (have hO3 := row_bel (row_al hO _) hbel); (have hsz3 := hbel.size); (try simp at hsz3); (have hB3 := Below.trans (show Below w.heap.size w _ by ((repeat' (first | with_reducible exact Below.refl _ _ | with_reducible assumption | ((with_reducible refine Below.drew ?_)) | ((with_reducible refine below_drewN ?_ _)) | ((with_reducible refine Below.alloc ?_ ?_ _); rotate_left; focus (first | omega | (simp; done) | (simp; omega))) | ((with_reducible refine Below.setCell ?_ ?_ _); rotate_left; focus (first | omega | (simp; done) | (simp; omega))) | ((with_reducible refine Below.trans ?_ (Below.mono (by with_reducible assumption) ?_)); rotate_left; focus (first | omega | (simp; done) | (simp; omega))))); done)) (hbel.mono (show w.heap.size ≤ (wr.alloc _).heap.size by simp; omega))))) | (at_builtin; (refine wpList_append_gw rfl _ _ 83 rfl w.heap.size 90 ie (.agg #[.int .i64 0, .slice none 0 0, .slice none 0 0, .int .u64 0, .int .i64 0, .int .u16 0, .int .u16 0, .int .u16 0, .int .u16 0, .int .u64 0]) 10 88 Try.underlying83 HI0 HZ0 HZ1 HZ2 rfl (by decide) _ _ _ rfl (row_al hO3 _) ⟨_, 0, none⟩ 1 1 [Value.int .i64 3, Value.slice none 0 0, Value.slice none 0 0, Value.int .u64 k, Value.int .i64 d.size, Value.int .u16 A1, Value.int .u16 A2, Value.int .u16 A3, Value.int .u16 A4, Value.int .u64 0] rfl rfl ?c1 ?c2 ?c3 ?c4 ?c5 ?_)))); (try case c1 => (intro j u hu; rcases j with _ | _ | _ | _ | _ | _ | _ | _ | _ | _ | j <;> simp at hu <;> (try subst hu) <;> simp [Addr.add, go_sem])); (case c2 => (first | exact ⟨rfl, rfl, rfl, rfl, rfl, rfl⟩ | (intro u hu; simp at hu; rcases hu with rfl | rfl | rfl | rfl | rfl | rfl | rfl | rfl | rfl | rfl <;> rfl))); (case c3 => (unfold maxLen; omega)); (case c4 => omega); (case c5 => (first | omega | (simp; omega))); (intro v4 w4 hO4 hg4); (have hblk3 := row_blk hO3); (have hB4 := hg4.only.below (B := w.heap.size) (a := w) (by repeat' (first | with_reducible exact Below.refl _ _ | with_reducible assumption | ((with_reducible refine Below.drew ?_)) | ((with_reducible refine below_drewN ?_ _)) | ((with_reducible refine Below.alloc ?_ ?_ _); rotate_left; focus (first | omega | (simp; done) | (simp; omega))) | ((with_reducible refine Below.setCell ?_ ?_ _); rotate_left; focus (first | omega | (simp; done) | (simp; omega))) | ((with_reducible refine Below.trans ?_ (Below.mono (by with_reducible assumption) ?_)); rotate_left; focus (first | omega | (simp; done) | (simp; omega))))) (by simp; omega) (fun k hk => (hblk3 k hk).1)); (have HO4 := Lib.hid (show w4.ownsRow w.heap.size 90 10 v4 (opsK L most (k + 1)).length ((opsK L most (k + 1)).flatMap Oq.cells) by rw [HTS.out, HTL.out]; first | exact hO4 | simpa using hO4)); (clear hO hO4 hO3); go_wp2; go_roundw; (case rel => exact ⟨k + 1, v4, by omega, by go_num, rfl, HO4.out, hB4⟩); (case measure => (simp [intOf]; try omega))
      · have h2' := h2 hq
        obtain ⟨D, hD⟩ : ∃ D, t - la = D := ⟨_, rfl⟩
        rw [hD] at h2'
        have hts : (opsK L most (k + 1)).flatMap Oq.cells = (opsK L most k).flatMap Oq.cells ++ [Value.int .i64 4, Value.slice none 0 0, Value.slice none 0 0, Value.int .u64 0, Value.int .i64 0, Value.int .u16 0, Value.int .u16 0, Value.int .u16 0, Value.int .u16 0, Value.int .u64 D] ++ [Value.int .i64 3, Value.slice none 0 0, Value.slice none 0 0, Value.int .u64 k, Value.int .i64 d.size, Value.int .u16 A1, Value.int .u16 A2, Value.int .u16 A3, Value.int .u16 A4, Value.int .u64 0] := by
          rw [h2', List.flatMap_append, List.flatMap_cons, List.flatMap_cons, List.flatMap_nil, hoc, List.append_nil, ← List.append_assoc]; rfl
        have htl : (opsK L most (k + 1)).length = (opsK L most k).length + 1 + 1 := by rw [h2']; simp
        obtain ⟨N, hN⟩ : ∃ N, (opsK L most k).length = N := ⟨_, rfl⟩
        obtain ⟨xs, hxs⟩ : ∃ xs, (opsK L most k).flatMap Oq.cells = xs := ⟨_, rfl⟩
        rw [hN] at hO htl hle
        rw [hxs] at hO hts
        have HTS := Lib.hid hts
        have HTL := Lib.hid htl
        have d1 : (t != la) = true := by simpa using hq
        have u1 : IntKind.u64.wrap (t - la) = D := by rw [IntKind.wrap_u64]; omega
        have u2 : (t - la) % 18446744073709551616 = D := by omega
        clear h1 h2 h2' hts htl hN hxs hoc hq
        rcases hpre with ⟨e0, e1⟩ | ⟨m, e0, hm, e1⟩
        · have d0 : decide (0 < (k : Int)) = false := by simp; omega
          have d0' : decide (0 < k) = false := by simp; omega
          have u3 : IntKind.u64.wrap t = D := by rw [← u1, e1, Int.sub_zero]
          have u4 : t = D := by omega
          have u5 : t - 0 = D := by omega
          subst e1
          clear e0
          (go_wp2_with (at_builtin; (refine wpList_append_gw rfl _ _ 83 rfl w.heap.size 90 ie (.agg #[.int .i64 0, .slice none 0 0, .slice none 0 0, .int .u64 0, .int .i64 0, .int .u16 0, .int .u16 0, .int .u16 0, .int .u16 0, .int .u64 0]) 10 88 Try.underlying83 HI0 HZ0 HZ1 HZ2 rfl (by decide) _ _ _ rfl (row_al (row_al hO _) _) ⟨_, 0, none⟩ 1 1 [Value.int .i64 4, Value.slice none 0 0, Value.slice none 0 0, Value.int .u64 0, Value.int .i64 0, Value.int .u16 0, Value.int .u16 0, Value.int .u16 0, Value.int .u16 0, Value.int .u64 D] rfl rfl ?c1 ?c2 ?c3 ?c4 ?c5 ?_))); (try case c1 => (intro j u hu; rcases j with _ | _ | _ | _ | _ | _ | _ | _ | _ | _ | j <;> simp at hu <;> (try subst hu) <;> simp [Addr.add, go_sem])); (case c2 => (first | exact ⟨rfl, rfl, rfl, rfl, rfl, rfl⟩ | (intro u hu; simp at hu; rcases hu with rfl | rfl | rfl | rfl | rfl | rfl | rfl | rfl | rfl | rfl <;> rfl))); (case c3 => (unfold maxLen; omega)); (case c4 => omega); (case c5 => (first | omega | (simp; omega))); (intro v2 w2 hO2 hg2); (have x0 : w2.cell? ⟨wr.heap.size, 0, none⟩ = some (.int .u64 t) := (hg2.cell (by simp; omega) hvb).trans (by simp [go_sem, *])); (have x1 : w2.cell? ⟨wr.heap.size, 1, none⟩ = some (.string d) := (hg2.cell (by simp; omega) hvb).trans (by simp [go_sem])); (have hsz2 : wr.heap.size + 2 ≤ w2.heap.size := by have := hg2.only.size; simpa using this); (have hB2 := hg2.only.below (B := w.heap.size) (a := w) (by repeat' (first | with_reducible exact Below.refl _ _ | with_reducible assumption | ((with_reducible refine Below.drew ?_)) | ((with_reducible refine below_drewN ?_ _)) | ((with_reducible refine Below.alloc ?_ ?_ _); rotate_left; focus (first | omega | (simp; done) | (simp; omega))) | ((with_reducible refine Below.setCell ?_ ?_ _); rotate_left; focus (first | omega | (simp; done) | (simp; omega))) | ((with_reducible refine Below.trans ?_ (Below.mono (by with_reducible assumption) ?_)); rotate_left; focus (first | omega | (simp; done) | (simp; omega))))) (by simp; omega) (fun k hk => (hblk k hk).1)); (have hblk2 := row_blk hO2); (clear hg2 hO); (go_wp2_with (first | (go_at_call 63; ((with_reducible refine (KP.out _).mono ?_); rintro e w3 ⟨rfl, hbel⟩; (have hO3 := row_bel hO2 hbel); (have hsz3 := hbel.size); (try simp at hsz3); (have hB3 := Below.trans hB2 (hbel.mono hB2.size)))) | (at_builtin; (refine wpList_append_gw rfl _ _ 83 rfl w.heap.size 90 ie (.agg #[.int .i64 0, .slice none 0 0, .slice none 0 0, .int .u64 0, .int .i64 0, .int .u16 0, .int .u16 0, .int .u16 0, .int .u16 0, .int .u64 0]) 10 88 Try.underlying83 HI0 HZ0 HZ1 HZ2 rfl (by decide) _ _ _ rfl (row_al hO3 _) ⟨_, 0, none⟩ 1 1 [Value.int .i64 3, Value.slice none 0 0, Value.slice none 0 0, Value.int .u64 k, Value.int .i64 d.size, Value.int .u16 A1, Value.int .u16 A2, Value.int .u16 A3, Value.int .u16 A4, Value.int .u64 0] rfl rfl ?e1 ?e2 ?e3 ?e4 ?e5 ?_)))); (try case e1 => (intro j u hu; rcases j with _ | _ | _ | _ | _ | _ | _ | _ | _ | _ | j <;> simp at hu <;> (try subst hu) <;> simp [Addr.add, go_sem])); (case e2 => (first | exact ⟨rfl, rfl, rfl, rfl, rfl, rfl⟩ | (intro u hu; simp at hu; rcases hu with rfl | rfl | rfl | rfl | rfl | rfl | rfl | rfl | rfl | rfl <;> rfl))); (case e3 => (unfold maxLen; omega)); (case e4 => omega); (case e5 => (first | omega | (simp; omega))); (intro v4 w4 hO4 hg4); (have hblk3 := row_blk hO3); (have hB4 := hg4.only.below (B := w.heap.size) (a := w) (by repeat' (first | with_reducible exact Below.refl _ _ | with_reducible assumption | ((with_reducible refine Below.drew ?_)) | ((with_reducible refine below_drewN ?_ _)) | ((with_reducible refine Below.alloc ?_ ?_ _); rotate_left; focus (first | omega | (simp; done) | (simp; omega))) | ((with_reducible refine Below.setCell ?_ ?_ _); rotate_left; focus (first | omega | (simp; done) | (simp; omega))) | ((with_reducible refine Below.trans ?_ (Below.mono (by with_reducible assumption) ?_)); rotate_left; focus (first | omega | (simp; done) | (simp; omega))))) (by simp; omega) (fun k hk => (hblk3 k hk).1)); (have HO4 := Lib.hid (show w4.ownsRow w.heap.size 90 10 v4 (opsK L most (k + 1)).length ((opsK L most (k + 1)).flatMap Oq.cells) by rw [HTS.out, HTL.out]; first | exact hO4 | simpa using hO4)); (clear hO4 hO3 hO2); go_wp2; go_roundw; (case rel => exact ⟨k + 1, v4, by omega, by go_num, rfl, HO4.out, hB4⟩); (case measure => (simp [intOf]; try omega))
        · have d0 : decide (0 < (k : Int)) = true := by simp; omega
          have d0' : decide (0 < k) = true := by simp; omega
          obtain ⟨b2, o2, ha2, hb2, r0, r1⟩ := fm_cells HR.out m hm
          obtain ⟨rfl, rfl⟩ : b2 = b ∧ o2 = o := by simp at ha2; exact ⟨ha2.1.symm, ha2.2.symm⟩
          have y0 := (hB.cell (p := ⟨b2, o2 + m * 2, none⟩) hb2).trans r0
          rw [← e1, show m = k - 1 by omega] at y0
          clear e1 r0 r1 ha2
          have hmi : ((k : Int) - 1) < L.length := by omega
          have hk1 : 1 ≤ k := by omega
          clear e0
          (go_wp2_with (at_builtin; (refine wpList_append_gw rfl _ _ 83 rfl w.heap.size 90 ie (.agg #[.int .i64 0, .slice none 0 0, .slice none 0 0, .int .u64 0, .int .i64 0, .int .u16 0, .int .u16 0, .int .u16 0, .int .u16 0, .int .u64 0]) 10 88 Try.underlying83 HI0 HZ0 HZ1 HZ2 rfl (by decide) _ _ _ rfl (row_al (row_al hO _) _) ⟨_, 0, none⟩ 1 1 [Value.int .i64 4, Value.slice none 0 0, Value.slice none 0 0, Value.int .u64 0, Value.int .i64 0, Value.int .u16 0, Value.int .u16 0, Value.int .u16 0, Value.int .u16 0, Value.int .u64 D] rfl rfl ?f1 ?f2 ?f3 ?f4 ?f5 ?_))); (try case f1 => (intro j u hu; rcases j with _ | _ | _ | _ | _ | _ | _ | _ | _ | _ | j <;> simp at hu <;> (try subst hu) <;> simp [Addr.add, go_sem])); (case f2 => (first | exact ⟨rfl, rfl, rfl, rfl, rfl, rfl⟩ | (intro u hu; simp at hu; rcases hu with rfl | rfl | rfl | rfl | rfl | rfl | rfl | rfl | rfl | rfl <;> rfl))); (case f3 => (unfold maxLen; omega)); (case f4 => omega); (case f5 => (first | omega | (simp; omega))); (intro v2 w2 hO2 hg2); (have x0 : w2.cell? ⟨wr.heap.size, 0, none⟩ = some (.int .u64 t) := (hg2.cell (by simp; omega) hvb).trans (by simp [go_sem, *])); (have x1 : w2.cell? ⟨wr.heap.size, 1, none⟩ = some (.string d) := (hg2.cell (by simp; omega) hvb).trans (by simp [go_sem])); (have hsz2 : wr.heap.size + 2 ≤ w2.heap.size := by have := hg2.only.size; simpa using this); (have hB2 := hg2.only.below (B := w.heap.size) (a := w) (by repeat' (first | with_reducible exact Below.refl _ _ | with_reducible assumption | ((with_reducible refine Below.drew ?_)) | ((with_reducible refine below_drewN ?_ _)) | ((with_reducible refine Below.alloc ?_ ?_ _); rotate_left; focus (first | omega | (simp; done) | (simp; omega))) | ((with_reducible refine Below.setCell ?_ ?_ _); rotate_left; focus (first | omega | (simp; done) | (simp; omega))) | ((with_reducible refine Below.trans ?_ (Below.mono (by with_reducible assumption) ?_)); rotate_left; focus (first | omega | (simp; done) | (simp; omega))))) (by simp; omega) (fun k hk => (hblk k hk).1)); (have hblk2 := row_blk hO2); (clear hg2 hO); (go_wp2_with (first | (go_at_call 63; ((with_reducible refine (KP.out _).mono ?_); rintro e w3 ⟨rfl, hbel⟩; (have hO3 := row_bel hO2 hbel); (have hsz3 := hbel.size); (try simp at hsz3); (have hB3 := Below.trans hB2 (hbel.mono hB2.size)))) | (at_builtin; (refine wpList_append_gw rfl _ _ 83 rfl w.heap.size 90 ie (.agg #[.int .i64 0, .slice none 0 0, .slice none 0 0, .int .u64 0, .int .i64 0, .int .u16 0, .int .u16 0, .int .u16 0, .int .u16 0, .int .u64 0]) 10 88 Try.underlying83 HI0 HZ0 HZ1 HZ2 rfl (by decide) _ _ _ rfl (row_al hO3 _) ⟨_, 0, none⟩ 1 1 [Value.int .i64 3, Value.slice none 0 0, Value.slice none 0 0, Value.int .u64 k, Value.int .i64 d.size, Value.int .u16 A1, Value.int .u16 A2, Value.int .u16 A3, Value.int .u16 A4, Value.int .u64 0] rfl rfl ?g1 ?g2 ?g3 ?g4 ?g5 ?_)))); (try case g1 => (intro j u hu; rcases j with _ | _ | _ | _ | _ | _ | _ | _ | _ | _ | j <;> simp at hu <;> (try subst hu) <;> simp [Addr.add, go_sem])); (case g2 => (first | exact ⟨rfl, rfl, rfl, rfl, rfl, rfl⟩ | (intro u hu; simp at hu; rcases hu with rfl | rfl | rfl | rfl | rfl | rfl | rfl | rfl | rfl | rfl <;> rfl))); (case g3 => (unfold maxLen; omega)); (case g4 => omega); (case g5 => (first | omega | (simp; omega))); (intro v4 w4 hO4 hg4); (have hblk3 := row_blk hO3); (have hB4 := hg4.only.below (B := w.heap.size) (a := w) (by repeat' (first | with_reducible exact Below.refl _ _ | with_reducible assumption | ((with_reducible refine Below.drew ?_)) | ((with_reducible refine below_drewN ?_ _)) | ((with_reducible refine Below.alloc ?_ ?_ _); rotate_left; focus (first | omega | (simp; done) | (simp; omega))) | ((with_reducible refine Below.setCell ?_ ?_ _); rotate_left; focus (first | omega | (simp; done) | (simp; omega))) | ((with_reducible refine Below.trans ?_ (Below.mono (by with_reducible assumption) ?_)); rotate_left; focus (first | omega | (simp; done) | (simp; omega))))) (by simp; omega) (fun k hk => (hblk3 k hk).1)); (have HO4 := Lib.hid (show w4.ownsRow w.heap.size 90 10 v4 (opsK L most (k + 1)).length ((opsK L most (k + 1)).flatMap Oq.cells) by rw [HTS.out, HTL.out]; first | exact hO4 | simpa using hO4)); (clear hO4 hO3 hO2); go_wp2; go_roundw; (case rel => exact ⟨k + 1, v4, by omega, by go_num, rfl, HO4.out, hB4⟩); (case measure => (simp [intOf]; try omega))
    · obtain rfl : k = L.length := by omega
      have HO := Lib.hid hO
      clear hO
      go_wp2
      go_ret
      exact ⟨_, rfl, HO.out, hB⟩
end Go.Proofs.Ytnfhiagbbmaobaa

/- The same operation twice; which operation stands where. -/
namespace Go.Proofs.Ytnfhiagbbmaobaa
set_option linter.unusedVariables false
set_option linter.unusedSimpArgs false
set_option maxRecDepth 100000
open Go.RowKit Fg Reg
attribute [local irreducible] Reg.wE Reg2.wT

set_option maxHeartbeats 4000000 in
theorem same29_c (kk id n a b c d t : Int) (w : World) : Calls Try.prog 38 #[.agg #[.int .i64 kk, .slice none 0 0, .slice none 0 0, .int .u64 id, .int .i64 n, .int .u16 a, .int .u16 b, .int .u16 c, .int .u16 d, .int .u64 t], .agg #[.int .i64 kk, .slice none 0 0, .slice none 0 0, .int .u64 id, .int .i64 n, .int .u16 a, .int .u16 b, .int .u16 c, .int .u16 d, .int .u64 t]] w fun ee w' => ee = .returned (.bool true) ∧ Below w.heap.size w w' := by
  have he := fun w => pk_eq id n a b c d w
  go_enter Try.func38, Try.ntmps38
  go_wp2
  refine wp_loop_rounds 1 ?_
  rw [rounds_succ]
  go_wp2
  refine wp_loop_rounds 1 ?_
  rw [rounds_succ]
  go_wp2
  (go_ret; refine ⟨?_, ?_⟩; (focus (exact rfl)); ((repeat' (first | with_reducible exact Below.refl _ _ | with_reducible assumption | ((with_reducible refine Below.drew ?_)) | ((with_reducible refine below_drewN ?_ _)) | ((with_reducible refine Below.alloc ?_ ?_ _); rotate_left; focus (first | omega | (simp; done) | (simp; omega))) | ((with_reducible refine Below.setCell ?_ ?_ _); rotate_left; focus (first | omega | (simp; done) | (simp; omega))) | ((with_reducible refine Below.trans ?_ (Below.mono (by with_reducible assumption) ?_)); rotate_left; focus (first | omega | (simp; done) | (simp; omega))))); done))
/-- The clock and the frames seen, ahead of the operation at j. -/
def Ph (L : List Fm) (most : Int) (j k : Nat) (c : Int) : Prop :=
  k ≤ L.length ∧ ((j = (opsK L most k).length ∧ c = lastT L k) ∨ (k < L.length ∧ (L.getD k fz).t ≠ lastT L k ∧ j = (opsK L most k).length + 1 ∧ c = (L.getD k fz).t))
theorem ph_start (L : List Fm) (most : Int) : Ph L most 0 0 0 := ⟨Nat.zero_le _, .inl ⟨rfl, rfl⟩⟩
theorem opsK_lt (L : List Fm) (most : Int) (k n : Nat) (h : k < n) : (opsK L most k).length < (opsK L most n).length := by
  obtain ⟨r, hr⟩ := opsK_at L most k n h
  rw [hr]
  unfold stepq
  simp only [List.length_append, List.length_cons, List.length_nil]
  omega
theorem ph_end (L : List Fm) (most : Int) (k : Nat) (c : Int) (h : Ph L most (opsK L most L.length).length k c) : k = L.length := by
  obtain ⟨hk, h⟩ := h
  rcases Nat.lt_or_ge k L.length with hlt | hge
  · exfalso
    obtain ⟨r, hr⟩ := opsK_at L most k L.length hlt
    rcases h with ⟨h1, _⟩ | ⟨_, h1, h2, _⟩
    · have := opsK_lt L most k L.length hlt; omega
    · rw [hr] at h2
      unfold stepq at h2
      rw [if_neg h1] at h2
      simp only [List.length_append, List.length_cons, List.length_nil] at h2
      omega
  · omega
theorem ph_next (L : List Fm) (most : Int) (j k : Nat) (c : Int) (h : Ph L most j k c) (hj : j < (opsK L most L.length).length) :
    ∃ hk : k < L.length, ((opsK L most L.length)[j] = adv (L[k].t - lastT L k) ∧ c = lastT L k ∧ lastT L k ≠ L[k].t ∧ Ph L most (j + 1) k L[k].t) ∨ ((opsK L most L.length)[j] = opk k L[k].d most ∧ c = L[k].t ∧ Ph L most (j + 1) (k + 1) L[k].t) := by
  obtain ⟨hk, h⟩ := h
  have hlt : k < L.length := by
    rcases Nat.lt_or_ge k L.length with hlt | hge
    · exact hlt
    · obtain rfl : k = L.length := by omega
      rcases h with ⟨h1, _⟩ | ⟨h1, _⟩ <;> omega
  refine ⟨hlt, ?_⟩
  have hg := getD_at L k hlt
  have hls := lastT_succ L k hlt
  obtain ⟨r, hr⟩ := opsK_at L most k L.length hlt
  have hget : ∀ (x : Oq), (opsK L most k ++ (stepq L most k ++ r))[j]? = some x → (opsK L most L.length)[j] = x := fun x hx => by
    rw [← hr, List.getElem?_eq_getElem hj] at hx
    exact Option.some.inj hx
  rw [hg] at h
  rcases h with ⟨h1, h2⟩ | ⟨_, h1, h2, h3⟩
  · by_cases he : L[k].t = lastT L k
    · refine .inr ⟨hget _ ?_, by rw [h2, he], by omega, .inl ⟨?_, by rw [hls]⟩⟩
      · rw [List.getElem?_append_right (by omega), h1, Nat.sub_self]
        unfold stepq
        rw [hg, if_pos he]; rfl
      · rw [opsK_one L most k (by rw [hg]; exact he), List.length_append, h1]; rfl
    · refine .inl ⟨hget _ ?_, h2, fun e => he e.symm, hk, .inr ⟨hlt, by rw [hg]; exact he, by omega, by rw [hg]⟩⟩
      rw [List.getElem?_append_right (by omega), h1, Nat.sub_self]
      unfold stepq
      rw [hg, if_neg he]; rfl
  · refine .inr ⟨hget _ ?_, h3, by omega, .inl ⟨?_, by rw [hls]⟩⟩
    · rw [List.getElem?_append_right (by omega), show j - (opsK L most k).length = 1 by omega]
      unfold stepq
      rw [hg, if_neg h1]; rfl
    · rw [opsK_two L most k (by rw [hg]; exact h1), List.length_append, h2]; rfl
end Go.Proofs.Ytnfhiagbbmaobaa

/- CaptureOps. -/
namespace Go.Proofs.Ytnfhiagbbmaobaa
set_option linter.unusedVariables false
set_option linter.unusedSimpArgs false
set_option maxRecDepth 100000
open Go.RowKit Fg Reg
attribute [local irreducible] Reg.wE Reg2.wT World.ownsRow

theorem lops_not (v : Value) (most : Int) (w : World) (kf : Calls Try.prog 27 #[v] w fun ee w' => ee = .returned (.bool false) ∧ Below w.heap.size w w') : Calls Try.prog 10 #[v, .int .i64 most] w fun e w' => e = .returned (.bool true) ∧ Below w.heap.size w w' := by
  have KF := Lib.hid kf
  have K := Lib.hid (fun z => one_c z)
  clear kf
  go_enter Try.func10, Try.ntmps10
  go_wp2_with (first
    | (go_at_call 27; ((with_reducible refine (KF.out).mono ?_); rintro e w1 ⟨rfl, hbel⟩; obtain ⟨hcc, hff⟩ := bcell hbel; have hsz := hbel.size; (try simp at hsz); have hF : w.heap.size ≤ w1.heap.size ∧ Below w.heap.size w w1 := (by ((repeat' apply And.intro) <;> first | (simp [go_sem, *]; done) | omega | (repeat' (first | with_reducible exact Below.refl _ _ | with_reducible assumption | ((with_reducible refine Below.drew ?_)) | ((with_reducible refine below_drewN ?_ _)) | ((with_reducible refine Below.alloc ?_ ?_ _); rotate_left; focus (first | omega | (simp; done) | (simp; omega))) | ((with_reducible refine Below.setCell ?_ ?_ _); rotate_left; focus (first | omega | (simp; done) | (simp; omega))) | ((with_reducible refine Below.trans ?_ (Below.mono (by with_reducible assumption) ?_)); rotate_left; focus (first | omega | (simp; done) | (simp; omega))))))); go_split_ands; clear hcc hff hbel))
    | (go_at_call 28; ((with_reducible refine (K.out _).mono ?_); rintro e w2 ⟨rfl, hbel⟩; obtain ⟨hcc, hff⟩ := bcell hbel; have hsz := hbel.size; (try simp at hsz); have hF : Below w.heap.size w w2 := (by ((repeat' apply And.intro) <;> first | (simp [go_sem, *]; done) | omega | (repeat' (first | with_reducible exact Below.refl _ _ | with_reducible assumption | ((with_reducible refine Below.drew ?_)) | ((with_reducible refine below_drewN ?_ _)) | ((with_reducible refine Below.alloc ?_ ?_ _); rotate_left; focus (first | omega | (simp; done) | (simp; omega))) | ((with_reducible refine Below.setCell ?_ ?_ _); rotate_left; focus (first | omega | (simp; done) | (simp; omega))) | ((with_reducible refine Below.trans ?_ (Below.mono (by with_reducible assumption) ?_)); rotate_left; focus (first | omega | (simp; done) | (simp; omega))))))); go_split_ands; clear hcc hff hbel)))
  (go_ret; refine ⟨?_, ?_⟩; (focus (exact rfl)); ((repeat' (first | with_reducible exact Below.refl _ _ | with_reducible assumption | ((with_reducible refine Below.drew ?_)) | ((with_reducible refine below_drewN ?_ _)) | ((with_reducible refine Below.alloc ?_ ?_ _); rotate_left; focus (first | omega | (simp; done) | (simp; omega))) | ((with_reducible refine Below.setCell ?_ ?_ _); rotate_left; focus (first | omega | (simp; done) | (simp; omega))) | ((with_reducible refine Below.trans ?_ (Below.mono (by with_reducible assumption) ?_)); rotate_left; focus (first | omega | (simp; done) | (simp; omega))))); done))
set_option maxHeartbeats 8000000 in
theorem lops_bad (L : List Fm) (hw : ∀ k (h : k < L.length), L[k].wf) (hf : fewb L = true) (hne : chk L ≠ 0) (a : Option Addr) (cap : Nat) (most : Int) (w : World) (hR : RwV Fm.cells 2 w a L) : Calls Try.prog 10 #[.slice a L.length cap, .int .i64 most] w fun e w' => e = .returned (.bool true) ∧ Below w.heap.size w w' := by
  have hL := few_len hf
  have hv := chk_val L
  have KF := few_c L hw a cap w hR
  rw [hf] at KF
  have KC := fun w h => cchk_c L hw (by omega) a cap w h
  have KW := fun a cap w h => cwr_c L hw (by omega) a cap w h
  have KE := fun w h => cop_bad L (chk L) (by omega) a cap most w h
  obtain ⟨e, he⟩ : ∃ e, chk L = e := ⟨_, rfl⟩
  rw [he] at KC KW KE hne
  have KR := Lib.hid (fun w h => cref_c L (by omega) a cap w h)
  have K1 := Lib.hid (fun z => one_c z)
  have d2 : (e == 0) = false := by simpa using hne
  have d3 : (e != 0) = true := by simpa using hne
  replace KF := Lib.hid KF
  replace KE := Lib.hid (fun w h => KE w (KC w h))
  replace KW := Lib.hid KW
  have HR := Lib.hid hR
  clear hR KC he hv hne hf
  go_enter Try.func10, Try.ntmps10
  go_wp2_with (first
    | (go_at_call 27; ((with_reducible refine KF.out.mono ?_); rintro ee w1 ⟨rfl, hb1⟩; (have HR1 := Lib.hid (HR.out.below hb1)); (have s1 := hb1.size)))
    | (go_at_call 36; ((with_reducible refine (KE.out _ HR1.out).mono ?_); rintro ee w2 ⟨rfl, hb2⟩; (have HR2 := Lib.hid (HR1.out.below hb2)); (have s2 := hb2.size)))
    | (go_at_call 31; ((with_reducible refine (KR.out _ HR2.out).mono ?_); rintro ee w3 ⟨v3, rfl, hO3, hb3⟩; obtain ⟨a3, c3, rfl, hr3, -⟩ := RwV.of_own fm_of hO3; (have H3 := Lib.hid hr3); (have s3 := hb3.size); clear hr3 hO3))
    | (go_at_call 30; ((with_reducible refine (KW.out _ _ _ H3.out).mono ?_); rintro ee w4 ⟨rfl, hb4⟩; (have s4 := hb4.size)))
    | (go_at_call 28; ((with_reducible refine (K1.out _).mono ?_); rintro e w5 ⟨rfl, hbel⟩; obtain ⟨hcc, hff⟩ := bcell hbel; have hsz := hbel.size; (try simp at hsz); have hF : Below w.heap.size w w5 := (by ((repeat' apply And.intro) <;> first | (simp [go_sem, *]; done) | omega | (repeat' (first | with_reducible exact Below.refl _ _ | with_reducible assumption | ((with_reducible refine Below.drew ?_)) | ((with_reducible refine below_drewN ?_ _)) | ((with_reducible refine Below.alloc ?_ ?_ _); rotate_left; focus (first | omega | (simp; done) | (simp; omega))) | ((with_reducible refine Below.setCell ?_ ?_ _); rotate_left; focus (first | omega | (simp; done) | (simp; omega))) | ((with_reducible refine Below.trans ?_ (Below.mono (by with_reducible assumption) ?_)); rotate_left; focus (first | omega | (simp; done) | (simp; omega))))))); go_split_ands; clear hcc hff hbel)))
  (go_ret; refine ⟨?_, ?_⟩; (focus (exact rfl)); ((repeat' (first | with_reducible exact Below.refl _ _ | with_reducible assumption | ((with_reducible refine Below.drew ?_)) | ((with_reducible refine below_drewN ?_ _)) | ((with_reducible refine Below.alloc ?_ ?_ _); rotate_left; focus (first | omega | (simp; done) | (simp; omega))) | ((with_reducible refine Below.setCell ?_ ?_ _); rotate_left; focus (first | omega | (simp; done) | (simp; omega))) | ((with_reducible refine Below.trans ?_ (Below.mono (by with_reducible assumption) ?_)); rotate_left; focus (first | omega | (simp; done) | (simp; omega))))); done))
set_option maxHeartbeats 16000000 in
theorem lops_ok (L : List Fm) (hw : ∀ k (h : k < L.length), L[k].wf) (hf : fewb L = true) (he : chk L = 0) (a : Option Addr) (cap : Nat) (most : Int) (w : World) (hR : RwV Fm.cells 2 w a L) : Calls Try.prog 10 #[.slice a L.length cap, .int .i64 most] w fun e w' => e = .returned (.bool true) ∧ Below w.heap.size w w' := by
  have hL := few_len hf
  have hC := opsK_le L most L.length
  have KF := few_c L hw a cap w hR
  rw [hf] at KF
  have KW := fun a cap w h => cwr_c L hw (by omega) a cap w h
  rw [he] at KW
  have KE := Lib.hid (fun w h => cop_ok L hw he a cap most w h)
  have KO := Lib.hid (fun a cap w h => rop_ok L hw he a cap most w h)
  have KR := Lib.hid (fun w h => cref_c L (by omega) a cap w h)
  have K1 := Lib.hid (fun z => one_c z)
  have HPE := Lib.hid (ph_end L most)
  have HP0 := Lib.hid (ph_start L most)
  have HCK := Lib.hid (fun k hk => chk_at he k hk)
  have HLB := Lib.hid (fun k hk => lastT_bd hw k hk)
  replace KF := Lib.hid KF
  replace KW := Lib.hid KW
  have HR := Lib.hid hR
  obtain ⟨Q, hQ⟩ : ∃ Q, opsK L most L.length = Q := ⟨_, rfl⟩
  simp only [hQ] at KE KO HPE hC
  have HPH := Lib.hid (show ∀ j k c, Ph L most j k c → ∀ hj : j < Q.length, ∃ hk : k < L.length, (Q[j] = adv (L[k].t - lastT L k) ∧ c = lastT L k ∧ lastT L k ≠ L[k].t ∧ Ph L most (j + 1) k L[k].t) ∨ (Q[j] = opk k L[k].d most ∧ c = L[k].t ∧ Ph L most (j + 1) (k + 1) L[k].t) by subst hQ; exact fun j k c => ph_next L most j k c)
  clear hR he hf hw hQ
  go_enter Try.func10, Try.ntmps10
  go_wp2_with (first
    | (go_at_call 27; ((with_reducible refine KF.out.mono ?_); rintro ee w1 ⟨rfl, hb1⟩; (have HR1 := Lib.hid (HR.out.below hb1)); (have s1 := hb1.size)))
    | (go_at_call 36; ((with_reducible refine (KE.out _ HR1.out).mono ?_); rintro ee w2 ⟨v2, rfl, hO2, hb2⟩; obtain ⟨a2, c2, rfl, hr2, -⟩ := RwV.of_own oq_of hO2; (have H2 := Lib.hid hr2); (have HR2 := Lib.hid (HR1.out.below hb2)); (have s2 := hb2.size); clear hr2 hO2))
    | (go_at_call 31; ((with_reducible refine (KR.out _ HR2.out).mono ?_); rintro ee w3 ⟨v3, rfl, hO3, hb3⟩; obtain ⟨a3, c3, rfl, hr3, -⟩ := RwV.of_own fm_of hO3; (have H3 := Lib.hid hr3); (have HR3 := Lib.hid (HR2.out.below hb3)); (have H23 := Lib.hid (H2.out.below hb3)); (have s3 := hb3.size); clear hr3 hO3))
    | (go_at_call 30; ((with_reducible refine (KW.out _ _ _ H3.out).mono ?_); rintro ee w4 ⟨rfl, hb4⟩; (have HR4 := Lib.hid (HR3.out.below hb4)); (have H24 := Lib.hid (H23.out.below hb4)); (have s4 := hb4.size)))
    | (go_at_call 31; ((with_reducible refine (KR.out _ HR4.out).mono ?_); rintro ee w5 ⟨v5, rfl, hO5, hb5⟩; obtain ⟨a5, c5, rfl, hr5, -⟩ := RwV.of_own fm_of hO5; (have H5 := Lib.hid hr5); (have HR5 := Lib.hid (HR4.out.below hb5)); (have H25 := Lib.hid (H24.out.below hb5)); (have s5 := hb5.size); clear hr5 hO5))
    | (go_at_call 37; ((with_reducible refine (KO.out _ _ _ H5.out).mono ?_); rintro ee w6 ⟨v6, rfl, hO6, hb6⟩; obtain ⟨a6, c6, rfl, hr6, -⟩ := RwV.of_own oq_of hO6; (have H6 := Lib.hid hr6); (have HR6 := Lib.hid (HR5.out.below hb6)); (have H26 := Lib.hid (H25.out.below hb6)); (have s6 := hb6.size); clear hr6 hO6)))
  have hBw : Below w.heap.size w w6 := by ((repeat' (first | with_reducible exact Below.refl _ _ | with_reducible assumption | ((with_reducible refine Below.drew ?_)) | ((with_reducible refine below_drewN ?_ _)) | ((with_reducible refine Below.alloc ?_ ?_ _); rotate_left; focus (first | omega | (simp; done) | (simp; omega))) | ((with_reducible refine Below.setCell ?_ ?_ _); rotate_left; focus (first | omega | (simp; done) | (simp; omega))) | ((with_reducible refine Below.trans ?_ (Below.mono (by with_reducible assumption) ?_)); rotate_left; focus (first | omega | (simp; done) | (simp; omega))))); done)
  clear hb1 hb2 hb3 hb4 hb5 hb6 HR HR1 HR2 HR3 HR4 HR5 H2 H23 H24 H25 H3 H5 KE KO KR KW KF
  have hsw : w.heap.size ≤ w6.heap.size := by omega
  clear s1 s2 s3 s4 s5 s6
  go_loopw [9, 10, 54] (fun cl nn ii wr => ∃ (j k : Nat) (c : Int), j ≤ Q.length ∧ ii = .int .i64 j ∧ nn = .int .i64 k ∧ cl = .int .u64 c ∧ Ph L most j k c ∧ Below w6.heap.size w6 wr) (fun _ _ ii _ => Q.length - (intOf ii).toNat)
  case atStart => exact ⟨0, 0, 0, Nat.zero_le _, rfl, rfl, rfl, HP0.out, Below.refl _ _⟩
  case round =>
    obtain ⟨j, k, cc, hj, rfl, rfl, rfl, hP, hB⟩ := hrel
    have hsz := hB.size
    by_cases hlt : j < Q.length
    · obtain ⟨hk, hcase⟩ := HPH.out j k cc hP hlt
      obtain ⟨g1, g2, g3⟩ := HCK.out k hk
      have g4 := HLB.out k (by omega)
      obtain ⟨b2, o2, ha2, hb2, hr2⟩ := (H26.out.below hB) j hlt
      obtain ⟨b3, o3, ha3, hb3, hr3⟩ := (H6.out.below hB) j hlt
      obtain ⟨b, o, ha, hb, q0, q1⟩ := fm_cells (HR6.out.below hB) k hk
      have hki : (k : Int) < L.length := by omega
      obtain ⟨t, ht⟩ : ∃ t, L[k].t = t := ⟨_, rfl⟩
      obtain ⟨d, hd⟩ : ∃ d, L[k].d = d := ⟨_, rfl⟩
      obtain ⟨la, hla⟩ : ∃ la, lastT L k = la := ⟨_, rfl⟩
      rw [ht] at q0 g2 g3 hcase
      rw [hd] at q1 g1 hcase
      rw [hla] at g2 g4 hcase
      subst ha ha2 ha3
      clear ht hd hla hP
      rcases hcase with ⟨hq, rfl, hne, hP2⟩ | ⟨hq, hct, hP2⟩
      · rw [hq] at hr2 hr3
        obtain ⟨D, hD⟩ : ∃ D, t - cc = D := ⟨_, rfl⟩
        rw [hD] at hr2 hr3
        have hX : (wr).cell? ⟨b2, o2 + j * 10, none⟩ = some (.int .i64 (4)) ∧ (wr).cell? ⟨b2, o2 + j * 10 + 1, none⟩ = some (.slice none 0 0) ∧ (wr).cell? ⟨b2, o2 + j * 10 + 2, none⟩ = some (.slice none 0 0) ∧ (wr).cell? ⟨b2, o2 + j * 10 + 3, none⟩ = some (.int .u64 (0)) ∧ (wr).cell? ⟨b2, o2 + j * 10 + 4, none⟩ = some (.int .i64 (0)) ∧ (wr).cell? ⟨b2, o2 + j * 10 + 5, none⟩ = some (.int .u16 (0)) ∧ (wr).cell? ⟨b2, o2 + j * 10 + 6, none⟩ = some (.int .u16 (0)) ∧ (wr).cell? ⟨b2, o2 + j * 10 + 7, none⟩ = some (.int .u16 (0)) ∧ (wr).cell? ⟨b2, o2 + j * 10 + 8, none⟩ = some (.int .u16 (0)) ∧ (wr).cell? ⟨b2, o2 + j * 10 + 9, none⟩ = some (.int .u64 (D)) ∧ b2 < (wr).heap.size := ⟨hr2 0 _ rfl, hr2 1 _ rfl, hr2 2 _ rfl, hr2 3 _ rfl, hr2 4 _ rfl, hr2 5 _ rfl, hr2 6 _ rfl, hr2 7 _ rfl, hr2 8 _ rfl, hr2 9 _ rfl, by assumption⟩
        have hY : (wr).cell? ⟨b3, o3 + j * 10, none⟩ = some (.int .i64 (4)) ∧ (wr).cell? ⟨b3, o3 + j * 10 + 1, none⟩ = some (.slice none 0 0) ∧ (wr).cell? ⟨b3, o3 + j * 10 + 2, none⟩ = some (.slice none 0 0) ∧ (wr).cell? ⟨b3, o3 + j * 10 + 3, none⟩ = some (.int .u64 (0)) ∧ (wr).cell? ⟨b3, o3 + j * 10 + 4, none⟩ = some (.int .i64 (0)) ∧ (wr).cell? ⟨b3, o3 + j * 10 + 5, none⟩ = some (.int .u16 (0)) ∧ (wr).cell? ⟨b3, o3 + j * 10 + 6, none⟩ = some (.int .u16 (0)) ∧ (wr).cell? ⟨b3, o3 + j * 10 + 7, none⟩ = some (.int .u16 (0)) ∧ (wr).cell? ⟨b3, o3 + j * 10 + 8, none⟩ = some (.int .u16 (0)) ∧ (wr).cell? ⟨b3, o3 + j * 10 + 9, none⟩ = some (.int .u64 (D)) ∧ b3 < (wr).heap.size := ⟨hr3 0 _ rfl, hr3 1 _ rfl, hr3 2 _ rfl, hr3 3 _ rfl, hr3 4 _ rfl, hr3 5 _ rfl, hr3 6 _ rfl, hr3 7 _ rfl, hr3 8 _ rfl, hr3 9 _ rfl, by assumption⟩
        have u0 : cc + D = t := by omega
        have u1 : IntKind.u64.wrap t = t := by rw [IntKind.wrap_u64]; omega
        have u2 : IntKind.u64.wrap (cc + D) = t := by rw [IntKind.wrap_u64]; omega
        have KS := Lib.hid (fun z => same29_c 4 0 0 0 0 0 0 D z)
        have HP2 := Lib.hid hP2
        clear hr2 hr3 hq hP2 hD
        go_split_ands
        go_wp2_with fail
        obtain ⟨Cl, hCl⟩ : ∃ Cl : List Value → World → Prop, Cl = ((fun ps wz => ((wz).cell? ⟨wr.heap.size, 0, none⟩ = some (.int .i64 (4)) ∧ (wz).cell? ⟨wr.heap.size, 1, none⟩ = some (.slice none 0 0) ∧ (wz).cell? ⟨wr.heap.size, 2, none⟩ = some (.slice none 0 0) ∧ (wz).cell? ⟨wr.heap.size, 3, none⟩ = some (.int .u64 (0)) ∧ (wz).cell? ⟨wr.heap.size, 4, none⟩ = some (.int .i64 (0)) ∧ (wz).cell? ⟨wr.heap.size, 5, none⟩ = some (.int .u16 (0)) ∧ (wz).cell? ⟨wr.heap.size, 6, none⟩ = some (.int .u16 (0)) ∧ (wz).cell? ⟨wr.heap.size, 7, none⟩ = some (.int .u16 (0)) ∧ (wz).cell? ⟨wr.heap.size, 8, none⟩ = some (.int .u16 (0)) ∧ (wz).cell? ⟨wr.heap.size, 9, none⟩ = some (.int .u64 (D)) ∧ wr.heap.size < (wz).heap.size) ∧ ((wz).cell? ⟨b3, o3 + j * 10, none⟩ = some (.int .i64 (4)) ∧ (wz).cell? ⟨b3, o3 + j * 10 + 1, none⟩ = some (.slice none 0 0) ∧ (wz).cell? ⟨b3, o3 + j * 10 + 2, none⟩ = some (.slice none 0 0) ∧ (wz).cell? ⟨b3, o3 + j * 10 + 3, none⟩ = some (.int .u64 (0)) ∧ (wz).cell? ⟨b3, o3 + j * 10 + 4, none⟩ = some (.int .i64 (0)) ∧ (wz).cell? ⟨b3, o3 + j * 10 + 5, none⟩ = some (.int .u16 (0)) ∧ (wz).cell? ⟨b3, o3 + j * 10 + 6, none⟩ = some (.int .u16 (0)) ∧ (wz).cell? ⟨b3, o3 + j * 10 + 7, none⟩ = some (.int .u16 (0)) ∧ (wz).cell? ⟨b3, o3 + j * 10 + 8, none⟩ = some (.int .u16 (0)) ∧ (wz).cell? ⟨b3, o3 + j * 10 + 9, none⟩ = some (.int .u64 (D)) ∧ b3 < (wz).heap.size) ∧ Below w6.heap.size w6 wz)) := ⟨_, rfl⟩; have HCl := Lib.hid hCl; clear hCl; refine wp_region_eff [] Cl (by kernel_rfl) (by kernel_rfl) (by rw [HCl.out]; (try simp only [List.nil_append, List.cons_append]); (try dsimp only); ((repeat' apply And.intro) <;> first | (simp [go_sem, *]; done) | omega | (repeat' (first | with_reducible exact Below.refl _ _ | with_reducible assumption | ((with_reducible refine Below.drew ?_)) | ((with_reducible refine below_drewN ?_ _)) | ((with_reducible refine Below.alloc ?_ ?_ _); rotate_left; focus (first | omega | (simp; done) | (simp; omega))) | ((with_reducible refine Below.setCell ?_ ?_ _); rotate_left; focus (first | omega | (simp; done) | (simp; omega))) | ((with_reducible refine Below.trans ?_ (Below.mono (by with_reducible assumption) ?_)); rotate_left; focus (first | omega | (simp; done) | (simp; omega))))))) ?_
        (repeat (first | (refine wE_skip (by rfl) ?_; simp only [Act.put, Nat.reduceAdd, List.setIfInBounds_toArray, List.set_cons_zero, List.set_cons_succ, List.nil_append, List.cons_append]) | (refine wE_open (by rfl) (by rfl) ?_; apply Exists.intro; refine ⟨fun vs wq hw => ?_, ?_⟩; (focus (rw [HCl.out] at hw; (try simp only [List.nil_append, List.cons_append] at hw); (try dsimp only at hw); go_split_ands; go_simp <;> first | with_reducible exact (rfl : Value.bool false = _) | with_reducible exact (rfl : Value.bool true = _) | ((try go_bits) <;> exact rfl))); simp only [Act.put, Nat.reduceAdd, List.setIfInBounds_toArray, List.set_cons_zero, List.set_cons_succ, List.nil_append, List.cons_append]) | (refine wE_seal (by rfl) (by rfl) (by kernel_rfl) ?_; apply Exists.intro; refine ⟨fun wq hw => ?_, ?_⟩; (focus (rw [HCl.out] at hw; (try simp only [List.nil_append, List.cons_append] at hw); (try dsimp only at hw); go_split_ands; go_simp <;> (try go_bits) <;> exact rfl)); simp only [Act.put, Nat.reduceAdd, List.setIfInBounds_toArray, List.set_cons_zero, List.set_cons_succ, List.nil_append, List.cons_append]) | (refine wE_seal (by rfl) (by rfl) (by kernel_rfl) ?_; apply Exists.intro; refine ⟨fun wq hw => ?_, ?_⟩; (focus (rw [HCl.out] at hw; (try simp only [List.nil_append, List.cons_append] at hw); (try dsimp only at hw); go_split_ands; go_simp; (go_at_call 38; ((with_reducible refine (KS.out _).mono ?_); rintro e w' ⟨rfl, hbel⟩; obtain ⟨hcc, hff⟩ := bcell hbel; have hsz := hbel.size; (try simp at hsz); refine ⟨rfl, ?_⟩; rw [HCl.out]; (try simp only [List.nil_append, List.cons_append]); (try dsimp only); ((repeat' apply And.intro) <;> first | (simp [go_sem, *]; done) | omega | (repeat' (first | with_reducible exact Below.refl _ _ | with_reducible assumption | ((with_reducible refine Below.drew ?_)) | ((with_reducible refine below_drewN ?_ _)) | ((with_reducible refine Below.alloc ?_ ?_ _); rotate_left; focus (first | omega | (simp; done) | (simp; omega))) | ((with_reducible refine Below.setCell ?_ ?_ _); rotate_left; focus (first | omega | (simp; done) | (simp; omega))) | ((with_reducible refine Below.trans ?_ (Below.mono (by with_reducible assumption) ?_)); rotate_left; focus (first | omega | (simp; done) | (simp; omega)))))))))); simp only [Act.put, Nat.reduceAdd, List.setIfInBounds_toArray, List.set_cons_zero, List.set_cons_succ, List.nil_append, List.cons_append]) | (refine wE_eff (by rfl) (by rfl) (fun wq hw => ?_) (fun u hu => ?_); (focus (rw [HCl.out] at hw; (try simp only [List.nil_append, List.cons_append] at hw); (try dsimp only at hw); go_split_ands; go_simp; rw [HCl.out]; (try simp only [List.nil_append, List.cons_append]); (try dsimp only); skip; ((repeat' apply And.intro) <;> first | (simp [go_sem, *]; done) | omega | (repeat' (first | with_reducible exact Below.refl _ _ | with_reducible assumption | ((with_reducible refine Below.drew ?_)) | ((with_reducible refine below_drewN ?_ _)) | ((with_reducible refine Below.alloc ?_ ?_ _); rotate_left; focus (first | omega | (simp; done) | (simp; omega))) | ((with_reducible refine Below.setCell ?_ ?_ _); rotate_left; focus (first | omega | (simp; done) | (simp; omega))) | ((with_reducible refine Below.trans ?_ (Below.mono (by with_reducible assumption) ?_)); rotate_left; focus (first | omega | (simp; done) | (simp; omega)))))))); clear hu; simp only [Act.put, Nat.reduceAdd, List.setIfInBounds_toArray, List.set_cons_zero, List.set_cons_succ, List.nil_append, List.cons_append])))
        refine wE_nil ?_; intro w' hw; rw [HCl.out] at hw; (try simp only [List.nil_append, List.cons_append] at hw); (try dsimp only at hw); clear HCl
        go_split_ands
        go_wp2
        go_roundw
        case rel => exact ⟨j + 1, k, t, by omega, by go_num, rfl, by first | rfl | simp [u0], HP2.out, by assumption⟩
        case measure => (simp [intOf]; try omega)
      · rw [hq] at hr2 hr3
        have hct' := hct.symm
        clear hct
        subst hct'
        have hopk : ∃ A1 A2 A3 A4 : Int, phd d most = (A1, A2, A3, A4) := ⟨_, _, _, _, rfl⟩
        obtain ⟨A1, A2, A3, A4, hph⟩ := hopk
        unfold opk at hr2 hr3
        rw [hph] at hr2 hr3
        have hX : (wr).cell? ⟨b2, o2 + j * 10, none⟩ = some (.int .i64 (3)) ∧ (wr).cell? ⟨b2, o2 + j * 10 + 1, none⟩ = some (.slice none 0 0) ∧ (wr).cell? ⟨b2, o2 + j * 10 + 2, none⟩ = some (.slice none 0 0) ∧ (wr).cell? ⟨b2, o2 + j * 10 + 3, none⟩ = some (.int .u64 ((k : Int))) ∧ (wr).cell? ⟨b2, o2 + j * 10 + 4, none⟩ = some (.int .i64 (d.size)) ∧ (wr).cell? ⟨b2, o2 + j * 10 + 5, none⟩ = some (.int .u16 (A1)) ∧ (wr).cell? ⟨b2, o2 + j * 10 + 6, none⟩ = some (.int .u16 (A2)) ∧ (wr).cell? ⟨b2, o2 + j * 10 + 7, none⟩ = some (.int .u16 (A3)) ∧ (wr).cell? ⟨b2, o2 + j * 10 + 8, none⟩ = some (.int .u16 (A4)) ∧ (wr).cell? ⟨b2, o2 + j * 10 + 9, none⟩ = some (.int .u64 (0)) ∧ b2 < (wr).heap.size := ⟨hr2 0 _ rfl, hr2 1 _ rfl, hr2 2 _ rfl, hr2 3 _ rfl, hr2 4 _ rfl, hr2 5 _ rfl, hr2 6 _ rfl, hr2 7 _ rfl, hr2 8 _ rfl, hr2 9 _ rfl, by assumption⟩
        have hY : (wr).cell? ⟨b3, o3 + j * 10, none⟩ = some (.int .i64 (3)) ∧ (wr).cell? ⟨b3, o3 + j * 10 + 1, none⟩ = some (.slice none 0 0) ∧ (wr).cell? ⟨b3, o3 + j * 10 + 2, none⟩ = some (.slice none 0 0) ∧ (wr).cell? ⟨b3, o3 + j * 10 + 3, none⟩ = some (.int .u64 ((k : Int))) ∧ (wr).cell? ⟨b3, o3 + j * 10 + 4, none⟩ = some (.int .i64 (d.size)) ∧ (wr).cell? ⟨b3, o3 + j * 10 + 5, none⟩ = some (.int .u16 (A1)) ∧ (wr).cell? ⟨b3, o3 + j * 10 + 6, none⟩ = some (.int .u16 (A2)) ∧ (wr).cell? ⟨b3, o3 + j * 10 + 7, none⟩ = some (.int .u16 (A3)) ∧ (wr).cell? ⟨b3, o3 + j * 10 + 8, none⟩ = some (.int .u16 (A4)) ∧ (wr).cell? ⟨b3, o3 + j * 10 + 9, none⟩ = some (.int .u64 (0)) ∧ b3 < (wr).heap.size := ⟨hr3 0 _ rfl, hr3 1 _ rfl, hr3 2 _ rfl, hr3 3 _ rfl, hr3 4 _ rfl, hr3 5 _ rfl, hr3 6 _ rfl, hr3 7 _ rfl, hr3 8 _ rfl, hr3 9 _ rfl, by assumption⟩
        have KS := Lib.hid (fun z => same29_c 3 k d.size A1 A2 A3 A4 0 z)
        have HP2 := Lib.hid hP2
        have v1 : IntKind.u64.wrap (k : Int) = k := by rw [IntKind.wrap_u64]; omega
        have d1 : decide ((L.length : Int) ≤ k) = false := by simp; omega
        have d2 : decide (L.length ≤ k) = false := by simp; omega
        clear hr2 hr3 hq hP2 hph
        go_split_ands
        go_wp2_with fail
        obtain ⟨Cl, hCl⟩ : ∃ Cl : List Value → World → Prop, Cl = ((fun ps wz => ((wz).cell? ⟨wr.heap.size, 0, none⟩ = some (.int .i64 (3)) ∧ (wz).cell? ⟨wr.heap.size, 1, none⟩ = some (.slice none 0 0) ∧ (wz).cell? ⟨wr.heap.size, 2, none⟩ = some (.slice none 0 0) ∧ (wz).cell? ⟨wr.heap.size, 3, none⟩ = some (.int .u64 ((k : Int))) ∧ (wz).cell? ⟨wr.heap.size, 4, none⟩ = some (.int .i64 (d.size)) ∧ (wz).cell? ⟨wr.heap.size, 5, none⟩ = some (.int .u16 (A1)) ∧ (wz).cell? ⟨wr.heap.size, 6, none⟩ = some (.int .u16 (A2)) ∧ (wz).cell? ⟨wr.heap.size, 7, none⟩ = some (.int .u16 (A3)) ∧ (wz).cell? ⟨wr.heap.size, 8, none⟩ = some (.int .u16 (A4)) ∧ (wz).cell? ⟨wr.heap.size, 9, none⟩ = some (.int .u64 (0)) ∧ wr.heap.size < (wz).heap.size) ∧ ((wz).cell? ⟨b3, o3 + j * 10, none⟩ = some (.int .i64 (3)) ∧ (wz).cell? ⟨b3, o3 + j * 10 + 1, none⟩ = some (.slice none 0 0) ∧ (wz).cell? ⟨b3, o3 + j * 10 + 2, none⟩ = some (.slice none 0 0) ∧ (wz).cell? ⟨b3, o3 + j * 10 + 3, none⟩ = some (.int .u64 ((k : Int))) ∧ (wz).cell? ⟨b3, o3 + j * 10 + 4, none⟩ = some (.int .i64 (d.size)) ∧ (wz).cell? ⟨b3, o3 + j * 10 + 5, none⟩ = some (.int .u16 (A1)) ∧ (wz).cell? ⟨b3, o3 + j * 10 + 6, none⟩ = some (.int .u16 (A2)) ∧ (wz).cell? ⟨b3, o3 + j * 10 + 7, none⟩ = some (.int .u16 (A3)) ∧ (wz).cell? ⟨b3, o3 + j * 10 + 8, none⟩ = some (.int .u16 (A4)) ∧ (wz).cell? ⟨b3, o3 + j * 10 + 9, none⟩ = some (.int .u64 (0)) ∧ b3 < (wz).heap.size) ∧ ((wz).cell? ⟨b, o + k * 2, none⟩ = some (.int .u64 t) ∧ (wz).cell? ⟨b, o + k * 2 + 1, none⟩ = some (.string d) ∧ b < (wz).heap.size) ∧ Below w6.heap.size w6 wz)) := ⟨_, rfl⟩; have HCl := Lib.hid hCl; clear hCl; refine wp_region_eff [] Cl (by kernel_rfl) (by kernel_rfl) (by rw [HCl.out]; (try simp only [List.nil_append, List.cons_append]); (try dsimp only); ((repeat' apply And.intro) <;> first | (simp [go_sem, *]; done) | omega | (repeat' (first | with_reducible exact Below.refl _ _ | with_reducible assumption | ((with_reducible refine Below.drew ?_)) | ((with_reducible refine below_drewN ?_ _)) | ((with_reducible refine Below.alloc ?_ ?_ _); rotate_left; focus (first | omega | (simp; done) | (simp; omega))) | ((with_reducible refine Below.setCell ?_ ?_ _); rotate_left; focus (first | omega | (simp; done) | (simp; omega))) | ((with_reducible refine Below.trans ?_ (Below.mono (by with_reducible assumption) ?_)); rotate_left; focus (first | omega | (simp; done) | (simp; omega))))))) ?_
        (repeat (first | (refine wE_skip (by rfl) ?_; simp only [Act.put, Nat.reduceAdd, List.setIfInBounds_toArray, List.set_cons_zero, List.set_cons_succ, List.nil_append, List.cons_append]) | (refine wE_open (by rfl) (by rfl) ?_; apply Exists.intro; refine ⟨fun vs wq hw => ?_, ?_⟩; (focus (rw [HCl.out] at hw; (try simp only [List.nil_append, List.cons_append] at hw); (try dsimp only at hw); go_split_ands; go_simp <;> first | with_reducible exact (rfl : Value.bool false = _) | with_reducible exact (rfl : Value.bool true = _) | ((try go_bits) <;> exact rfl))); simp only [Act.put, Nat.reduceAdd, List.setIfInBounds_toArray, List.set_cons_zero, List.set_cons_succ, List.nil_append, List.cons_append]) | (refine wE_seal (by rfl) (by rfl) (by kernel_rfl) ?_; apply Exists.intro; refine ⟨fun wq hw => ?_, ?_⟩; (focus (rw [HCl.out] at hw; (try simp only [List.nil_append, List.cons_append] at hw); (try dsimp only at hw); go_split_ands; go_simp <;> (try go_bits) <;> exact rfl)); simp only [Act.put, Nat.reduceAdd, List.setIfInBounds_toArray, List.set_cons_zero, List.set_cons_succ, List.nil_append, List.cons_append]) | (refine wE_seal (by rfl) (by rfl) (by kernel_rfl) ?_; apply Exists.intro; refine ⟨fun wq hw => ?_, ?_⟩; (focus (rw [HCl.out] at hw; (try simp only [List.nil_append, List.cons_append] at hw); (try dsimp only at hw); go_split_ands; go_simp; (go_at_call 38; ((with_reducible refine (KS.out _).mono ?_); rintro e w' ⟨rfl, hbel⟩; obtain ⟨hcc, hff⟩ := bcell hbel; have hsz := hbel.size; (try simp at hsz); refine ⟨rfl, ?_⟩; rw [HCl.out]; (try simp only [List.nil_append, List.cons_append]); (try dsimp only); ((repeat' apply And.intro) <;> first | (simp [go_sem, *]; done) | omega | (repeat' (first | with_reducible exact Below.refl _ _ | with_reducible assumption | ((with_reducible refine Below.drew ?_)) | ((with_reducible refine below_drewN ?_ _)) | ((with_reducible refine Below.alloc ?_ ?_ _); rotate_left; focus (first | omega | (simp; done) | (simp; omega))) | ((with_reducible refine Below.setCell ?_ ?_ _); rotate_left; focus (first | omega | (simp; done) | (simp; omega))) | ((with_reducible refine Below.trans ?_ (Below.mono (by with_reducible assumption) ?_)); rotate_left; focus (first | omega | (simp; done) | (simp; omega)))))))))); simp only [Act.put, Nat.reduceAdd, List.setIfInBounds_toArray, List.set_cons_zero, List.set_cons_succ, List.nil_append, List.cons_append]) | (refine wE_eff (by rfl) (by rfl) (fun wq hw => ?_) (fun u hu => ?_); (focus (rw [HCl.out] at hw; (try simp only [List.nil_append, List.cons_append] at hw); (try dsimp only at hw); go_split_ands; go_simp; rw [HCl.out]; (try simp only [List.nil_append, List.cons_append]); (try dsimp only); skip; ((repeat' apply And.intro) <;> first | (simp [go_sem, *]; done) | omega | (repeat' (first | with_reducible exact Below.refl _ _ | with_reducible assumption | ((with_reducible refine Below.drew ?_)) | ((with_reducible refine below_drewN ?_ _)) | ((with_reducible refine Below.alloc ?_ ?_ _); rotate_left; focus (first | omega | (simp; done) | (simp; omega))) | ((with_reducible refine Below.setCell ?_ ?_ _); rotate_left; focus (first | omega | (simp; done) | (simp; omega))) | ((with_reducible refine Below.trans ?_ (Below.mono (by with_reducible assumption) ?_)); rotate_left; focus (first | omega | (simp; done) | (simp; omega)))))))); clear hu; simp only [Act.put, Nat.reduceAdd, List.setIfInBounds_toArray, List.set_cons_zero, List.set_cons_succ, List.nil_append, List.cons_append])))
        refine wE_nil ?_; intro w' hw; rw [HCl.out] at hw; (try simp only [List.nil_append, List.cons_append] at hw); (try dsimp only at hw); clear HCl
        go_split_ands
        go_wp2
        obtain ⟨Cl, hCl⟩ : ∃ Cl : List Value → World → Prop, Cl = ((fun ps wz => ((wz).cell? ⟨wr.heap.size, 0, none⟩ = some (.int .i64 (3)) ∧ (wz).cell? ⟨wr.heap.size, 1, none⟩ = some (.slice none 0 0) ∧ (wz).cell? ⟨wr.heap.size, 2, none⟩ = some (.slice none 0 0) ∧ (wz).cell? ⟨wr.heap.size, 3, none⟩ = some (.int .u64 ((k : Int))) ∧ (wz).cell? ⟨wr.heap.size, 4, none⟩ = some (.int .i64 (d.size)) ∧ (wz).cell? ⟨wr.heap.size, 5, none⟩ = some (.int .u16 (A1)) ∧ (wz).cell? ⟨wr.heap.size, 6, none⟩ = some (.int .u16 (A2)) ∧ (wz).cell? ⟨wr.heap.size, 7, none⟩ = some (.int .u16 (A3)) ∧ (wz).cell? ⟨wr.heap.size, 8, none⟩ = some (.int .u16 (A4)) ∧ (wz).cell? ⟨wr.heap.size, 9, none⟩ = some (.int .u64 (0)) ∧ wr.heap.size < (wz).heap.size) ∧ ((wz).cell? ⟨b, o + k * 2, none⟩ = some (.int .u64 t) ∧ (wz).cell? ⟨b, o + k * 2 + 1, none⟩ = some (.string d) ∧ b < (wz).heap.size) ∧ Below w6.heap.size w6 wz)) := ⟨_, rfl⟩; have HCl := Lib.hid hCl; clear hCl; refine wp_region_eff [] Cl (by kernel_rfl) (by kernel_rfl) (by rw [HCl.out]; (try simp only [List.nil_append, List.cons_append]); (try dsimp only); ((repeat' apply And.intro) <;> first | (simp [go_sem, *]; done) | omega | (repeat' (first | with_reducible exact Below.refl _ _ | with_reducible assumption | ((with_reducible refine Below.drew ?_)) | ((with_reducible refine below_drewN ?_ _)) | ((with_reducible refine Below.alloc ?_ ?_ _); rotate_left; focus (first | omega | (simp; done) | (simp; omega))) | ((with_reducible refine Below.setCell ?_ ?_ _); rotate_left; focus (first | omega | (simp; done) | (simp; omega))) | ((with_reducible refine Below.trans ?_ (Below.mono (by with_reducible assumption) ?_)); rotate_left; focus (first | omega | (simp; done) | (simp; omega))))))) ?_
        (repeat (first | (refine wE_skip (by rfl) ?_; simp only [Act.put, Nat.reduceAdd, List.setIfInBounds_toArray, List.set_cons_zero, List.set_cons_succ, List.nil_append, List.cons_append]) | (refine wE_open (by rfl) (by rfl) ?_; apply Exists.intro; refine ⟨fun vs wq hw => ?_, ?_⟩; (focus (rw [HCl.out] at hw; (try simp only [List.nil_append, List.cons_append] at hw); (try dsimp only at hw); go_split_ands; go_simp <;> first | with_reducible exact (rfl : Value.bool false = _) | with_reducible exact (rfl : Value.bool true = _) | ((try go_bits) <;> exact rfl))); simp only [Act.put, Nat.reduceAdd, List.setIfInBounds_toArray, List.set_cons_zero, List.set_cons_succ, List.nil_append, List.cons_append]) | (refine wE_seal (by rfl) (by rfl) (by kernel_rfl) ?_; apply Exists.intro; refine ⟨fun wq hw => ?_, ?_⟩; (focus (rw [HCl.out] at hw; (try simp only [List.nil_append, List.cons_append] at hw); (try dsimp only at hw); go_split_ands; go_simp <;> (try go_bits) <;> exact rfl)); simp only [Act.put, Nat.reduceAdd, List.setIfInBounds_toArray, List.set_cons_zero, List.set_cons_succ, List.nil_append, List.cons_append]) | (refine wE_seal (by rfl) (by rfl) (by kernel_rfl) ?_; apply Exists.intro; refine ⟨fun wq hw => ?_, ?_⟩; (focus (rw [HCl.out] at hw; (try simp only [List.nil_append, List.cons_append] at hw); (try dsimp only at hw); go_split_ands; go_simp; fail)); simp only [Act.put, Nat.reduceAdd, List.setIfInBounds_toArray, List.set_cons_zero, List.set_cons_succ, List.nil_append, List.cons_append]) | (refine wE_eff (by rfl) (by rfl) (fun wq hw => ?_) (fun u hu => ?_); (focus (rw [HCl.out] at hw; (try simp only [List.nil_append, List.cons_append] at hw); (try dsimp only at hw); go_split_ands; go_simp; rw [HCl.out]; (try simp only [List.nil_append, List.cons_append]); (try dsimp only); skip; ((repeat' apply And.intro) <;> first | (simp [go_sem, *]; done) | omega | (repeat' (first | with_reducible exact Below.refl _ _ | with_reducible assumption | ((with_reducible refine Below.drew ?_)) | ((with_reducible refine below_drewN ?_ _)) | ((with_reducible refine Below.alloc ?_ ?_ _); rotate_left; focus (first | omega | (simp; done) | (simp; omega))) | ((with_reducible refine Below.setCell ?_ ?_ _); rotate_left; focus (first | omega | (simp; done) | (simp; omega))) | ((with_reducible refine Below.trans ?_ (Below.mono (by with_reducible assumption) ?_)); rotate_left; focus (first | omega | (simp; done) | (simp; omega)))))))); clear hu; simp only [Act.put, Nat.reduceAdd, List.setIfInBounds_toArray, List.set_cons_zero, List.set_cons_succ, List.nil_append, List.cons_append])))
        refine wE_nil ?_; intro w' hw; rw [HCl.out] at hw; (try simp only [List.nil_append, List.cons_append] at hw); (try dsimp only at hw); clear HCl
        go_split_ands
        go_wp2
        go_roundw
        case rel => exact ⟨j + 1, k + 1, t, by omega, by go_num, by go_num, rfl, HP2.out, by assumption⟩
        case measure => (simp [intOf]; try omega)
    · obtain rfl : j = Q.length := by omega
      have hkk := HPE.out k cc hP
      have d5 : ((k : Int) == L.length) = true := by simp; omega
      have d6 : (k == L.length) = true := by simp; omega
      clear hP
      go_wp2_with (go_at_call 28; ((with_reducible refine (K1.out _).mono ?_); rintro ee w9 ⟨rfl, hb9⟩; (have h9 : Below w.heap.size w w9 := (hBw.trans (hB.mono hsw)).trans (hb9.mono (by omega)))))
      (go_ret; refine ⟨?_, ?_⟩; (focus (exact rfl)); ((repeat' (first | with_reducible exact Below.refl _ _ | with_reducible assumption | ((with_reducible refine Below.drew ?_)) | ((with_reducible refine below_drewN ?_ _)) | ((with_reducible refine Below.alloc ?_ ?_ _); rotate_left; focus (first | omega | (simp; done) | (simp; omega))) | ((with_reducible refine Below.setCell ?_ ?_ _); rotate_left; focus (first | omega | (simp; done) | (simp; omega))) | ((with_reducible refine Below.trans ?_ (Below.mono (by with_reducible assumption) ?_)); rotate_left; focus (first | omega | (simp; done) | (simp; omega))))); done))
theorem captureOps_law (v : Value) (most : Int) {w : World} (h : Op.FlatSlice w 2 [.int .u64, .str] v) (w1 : (Lit.int .i64 most).wf = true) : Calls Try.prog 10 #[v, .int .i64 most] w fun e w' => e = .returned (.bool true) ∧ Below w.heap.size w w' := by
  obtain ⟨a, L, cap, rfl, hR, hw⟩ := fms_of h
  by_cases hf : fewb L = true
  · by_cases he : chk L = 0
    · exact lops_ok L hw hf he a cap most w hR
    · exact lops_bad L hw hf he a cap most w hR
  · have k := few_c L hw a cap w hR
    rw [show fewb L = false by simpa using hf] at k
    exact lops_not _ most w k
end Go.Proofs.Ytnfhiagbbmaobaa
