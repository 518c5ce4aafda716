/- The reference's Decode (captures). -/
import Derived.Test.YtnfhiagbbmaobaaCp5
import Derived.Test.YtnfhiagbbmaobaaCp6
import Derived.Test.YtnfhiagbbmaobaaRowB
namespace Go.Proofs.Ytnfhiagbbmaobaa
set_option linter.unusedVariables false
set_option linter.unusedSimpArgs false
set_option maxRecDepth 100000
open Go.RowKit Fg Reg
attribute [local irreducible] Reg.wE Reg2.wT World.ownsRow

/-- What the reference's Decode answers. -/
def RDP (w : World) (T : TypeId) (R : List Fm × Int) (e : Ending) (w' : World) : Prop := ∃ v, e = .returned (.agg #[v, .int .i64 R.2]) ∧ w'.ownsRow w.heap.size T 2 v R.1.length (R.1.flatMap Fm.cells) ∧ Below w.heap.size w w'
theorem rft_info : (Try.prog.info? 124).map (fun i => (i.zero, i.size, i.bytes)) = some (some (.agg #[.int .u64 0, .string ⟨#[]⟩]), 2, 24) := by kernel_rfl
theorem rft_parts : ∃ i, Try.prog.info? 124 = some i ∧ i.zero = some (.agg #[.int .u64 0, .string ⟨#[]⟩]) ∧ i.size = 2 ∧ i.bytes = 24 := by
  obtain ⟨i, hi, h⟩ := Option.map_eq_some_iff.1 rft_info
  simp only [Prod.mk.injEq] at h
  exact ⟨i, hi, h.1, h.2.1, h.2.2⟩
theorem onto_start (S : ByteArray) (h4 : 4 ≤ S.size) : onto [] (pg S 4 0 ([] : List Fm).length) = pg S 4 0 0 := by
  unfold onto
  show (if (pg S 4 0 0).2 = 0 then ([] ++ (pg S 4 0 0).1, 0) else ([], (pg S 4 0 0).2)) = pg S 4 0 0
  split
  · rename_i h0; rw [List.nil_append]; exact Prod.ext rfl h0.symm
  · rename_i h0
    by_cases hp2 : pstep S 4 0 = 0
    · by_cases hs : S.size ≤ 4
      · rw [pg_end S hs] at h0; exact absurd rfl h0
      · rw [pg_good S (by omega) (by omega) hp2] at h0 ⊢
        split at h0
        · exact absurd rfl h0
        · rename_i h1; rw [if_neg h1]
    · by_cases hs : S.size ≤ 4
      · rw [pg_end S hs] at h0; exact absurd rfl h0
      · rw [pg_bad S (by omega) (by omega) hp2]
theorem crde_short (S : ByteArray) (h : S.size < 4) (w : World) : Calls Try.prog 35 #[.string S] w (RDP w 124 (pdec S)) := by
  have hp : pdec S = ([], 3) := by unfold pdec; rw [if_pos h]
  rw [hp]
  have d1 : decide ((S.size : Int) < 4) = true := by simp; omega
  go_enter Try.func35, Try.ntmps35
  go_wp2
  refine bodyPost_ret (v := .agg #[.slice none 0 0, .int .i64 3]) (by simp [results, Try.results35, go_sem, *]) rfl ?_
  exact ⟨_, rfl, World.ownsRow_nil _ _ _ _, by ((repeat' (first | with_reducible exact Below.refl _ _ | with_reducible assumption | ((with_reducible refine Below.drew ?_)) | ((with_reducible refine below_drewN ?_ _)) | ((with_reducible refine Below.alloc ?_ ?_ _); rotate_left; focus (first | omega | (simp; done) | (simp; omega))) | ((with_reducible refine Below.setCell ?_ ?_ _); rotate_left; focus (first | omega | (simp; done) | (simp; omega))) | ((with_reducible refine Below.trans ?_ (Below.mono (by with_reducible assumption) ?_)); rotate_left; focus (first | omega | (simp; done) | (simp; omega))))); done)⟩
theorem crde_form (S : ByteArray) (h4 : 4 ≤ S.size) (hM : S.size ≤ 9000000000000000000) (h : S.extract 0 4 ≠ (⟨#[102, 108, 111, 103]⟩ : ByteArray)) (w : World) : Calls Try.prog 35 #[.string S] w (RDP w 124 (pdec S)) := by
  have hp : pdec S = ([], 4) := by unfold pdec; rw [if_neg (by omega), if_pos (by rw [flog_lit]; exact h)]
  rw [hp]
  have d1 : decide ((S.size : Int) < 4) = false := by simp; omega
  have hi : (4 : Int) ≤ S.size := by omega
  have hb : ((S.extract 0 4).toList == [102, 108, 111, 103]) = false := by
    have := list_ne h
    rw [show ((⟨#[102, 108, 111, 103]⟩ : ByteArray)).toList = [102, 108, 111, 103] by decide +kernel] at this
    exact this
  clear h hp
  go_enter Try.func35, Try.ntmps35
  go_wp2
  refine bodyPost_ret (v := .agg #[.slice none 0 0, .int .i64 4]) (by simp [results, Try.results35, go_sem, *]) rfl ?_
  exact ⟨_, rfl, World.ownsRow_nil _ _ _ _, by ((repeat' (first | with_reducible exact Below.refl _ _ | with_reducible assumption | ((with_reducible refine Below.drew ?_)) | ((with_reducible refine below_drewN ?_ _)) | ((with_reducible refine Below.alloc ?_ ?_ _); rotate_left; focus (first | omega | (simp; done) | (simp; omega))) | ((with_reducible refine Below.setCell ?_ ?_ _); rotate_left; focus (first | omega | (simp; done) | (simp; omega))) | ((with_reducible refine Below.trans ?_ (Below.mono (by with_reducible assumption) ?_)); rotate_left; focus (first | omega | (simp; done) | (simp; omega))))); done)⟩
set_option maxHeartbeats 16000000 in
theorem crde_main (S : ByteArray) (h4 : 4 ≤ S.size) (hM : S.size ≤ 9000000000000000000) (h : S.extract 0 4 = (⟨#[102, 108, 111, 103]⟩ : ByteArray)) (w : World) : Calls Try.prog 35 #[.string S] w (RDP w 124 (pdec S)) := by
  obtain ⟨ie, HI0, HZ0, HZ1, HZ2⟩ := rft_parts
  have hp : pdec S = pg S 4 0 0 := by unfold pdec; rw [if_neg (by omega), if_neg (by rw [flog_lit]; simpa using h)]
  have d1 : decide ((S.size : Int) < 4) = false := by simp; omega
  have hi0 : (4 : Int) ≤ S.size := by omega
  have hb0 : ((S.extract 0 4).toList == [102, 108, 111, 103]) = true := by rw [h]; decide +kernel
  obtain ⟨RR, hRR⟩ : ∃ RR, pdec S = RR := ⟨_, rfl⟩
  rw [hRR]
  have H0 : onto [] (pg S 4 0 ([] : List Fm).length) = RR := by
    rw [← hRR, hp]
    exact onto_start S h4
  have HH0 := Lib.hid H0
  clear h hp hRR H0
  go_enter Try.func35, Try.ntmps35
  go_wp2
  go_loopw [3, 4, 5] (fun out ii la wr => ∃ (i : Nat) (x : Int) (A : List Fm) (v : Value), 4 ≤ i ∧ i ≤ S.size ∧ ii = .int .i64 i ∧ out = v ∧ la = .int .u64 x ∧ 0 ≤ x ∧ x ≤ 4611686018427387904 ∧ A.length ≤ 1000 ∧ wr.ownsRow (w.heap.size + 1) 124 2 v A.length (A.flatMap Fm.cells) ∧ onto A (pg S i x A.length) = RR ∧ Below w.heap.size w wr ∧ (wr).cell? ⟨w.heap.size, 0, none⟩ = some (.slice none 0 0) ∧ (wr).cell? ⟨w.heap.size, 1, none⟩ = some (.int .i64 0) ∧ (wr).frozen? ⟨w.heap.size, 0, none⟩ = false ∧ (wr).frozen? ⟨w.heap.size, 1, none⟩ = false ∧ w.heap.size < (wr).heap.size) (fun _ ii _ _ => S.size - (intOf ii).toNat)
  case atStart => exact ⟨4, 0, [], _, by omega, h4, rfl, rfl, rfl, by omega, by omega, by simp, World.ownsRow_nil _ _ _ _, HH0.out, by ((repeat' (first | with_reducible exact Below.refl _ _ | with_reducible assumption | ((with_reducible refine Below.drew ?_)) | ((with_reducible refine below_drewN ?_ _)) | ((with_reducible refine Below.alloc ?_ ?_ _); rotate_left; focus (first | omega | (simp; done) | (simp; omega))) | ((with_reducible refine Below.setCell ?_ ?_ _); rotate_left; focus (first | omega | (simp; done) | (simp; omega))) | ((with_reducible refine Below.trans ?_ (Below.mono (by with_reducible assumption) ?_)); rotate_left; focus (first | omega | (simp; done) | (simp; omega))))); done), by simp [go_sem], by simp [go_sem], by simp [go_sem], by simp [go_sem], by simp⟩
  case round =>
    obtain ⟨i, x, A, v, hi4, hi, rfl, hv, rfl, hx0, hx1, hA, hO, hon, hB, z0, z1, z2, z3, z4⟩ := hrel
    have hv' := hv.symm
    subst hv'
    have HON := Lib.hid hon
    clear hon hb0 d1 hi0
    obtain ⟨ao, cp, rfl⟩ := row_form hO
    by_cases hlt : i < S.size
    · have hlt' : decide ((i : Int) < S.size) = true := by simp; omega
      by_cases hfull : A.length = 1000
      · have hres : RR = ([], 2) := by
          have := HON.out
          rw [hfull, pg_full S hlt] at this
          exact this.symm
        have d2 : ((A.length : Int) == 1000) = true := by simp; omega
        have HRES := Lib.hid hres
        clear hres hfull
        go_wp2
        refine bodyPost_ret (v := .agg #[.slice none 0 0, .int .i64 2]) (by simp [results, Try.results35, go_sem, *]) rfl ?_
        exact ⟨_, by rw [HRES.out], by rw [HRES.out]; exact World.ownsRow_nil _ _ _ _, by ((repeat' (first | with_reducible exact Below.refl _ _ | with_reducible assumption | ((with_reducible refine Below.drew ?_)) | ((with_reducible refine below_drewN ?_ _)) | ((with_reducible refine Below.alloc ?_ ?_ _); rotate_left; focus (first | omega | (simp; done) | (simp; omega))) | ((with_reducible refine Below.setCell ?_ ?_ _); rotate_left; focus (first | omega | (simp; done) | (simp; omega))) | ((with_reducible refine Below.trans ?_ (Below.mono (by with_reducible assumption) ?_)); rotate_left; focus (first | omega | (simp; done) | (simp; omega))))); done)⟩
      have d2 : ((A.length : Int) == 1000) = false := by simp; omega
      have hbad : ∀ e, pstep S i x = e → e ≠ 0 → RR = ([], e) := fun e he hne => by
        have := HON.out
        rw [pg_bad S hlt hfull (by rw [he]; exact hne), he] at this
        rw [← this]
        unfold onto
        rw [if_neg hne]
      by_cases h1 : S.size < i + 10
      · have HRES := Lib.hid (hbad 3 (by unfold pstep; rw [if_pos h1]) (by omega))
        have d3 : decide ((S.size : Int) - i < 10) = true := by simp; omega
        clear hbad hfull
        go_wp2
        refine bodyPost_ret (v := .agg #[.slice none 0 0, .int .i64 3]) (by simp [results, Try.results35, go_sem, *]) rfl ?_
        exact ⟨_, by rw [HRES.out], by rw [HRES.out]; exact World.ownsRow_nil _ _ _ _, by ((repeat' (first | with_reducible exact Below.refl _ _ | with_reducible assumption | ((with_reducible refine Below.drew ?_)) | ((with_reducible refine below_drewN ?_ _)) | ((with_reducible refine Below.alloc ?_ ?_ _); rotate_left; focus (first | omega | (simp; done) | (simp; omega))) | ((with_reducible refine Below.setCell ?_ ?_ _); rotate_left; focus (first | omega | (simp; done) | (simp; omega))) | ((with_reducible refine Below.trans ?_ (Below.mono (by with_reducible assumption) ?_)); rotate_left; focus (first | omega | (simp; done) | (simp; omega))))); done)⟩
      have d3 : decide ((S.size : Int) - i < 10) = false := by simp; omega
      have K2 := fun z => cat2_c S (i + 8) (by omega) hM z
      have nb := nat_bd2 S (i + 8)
      obtain ⟨n, hn⟩ : ∃ n, nat S (i + 8) 2 = n := ⟨_, rfl⟩
      rw [hn, show ((i + 8 : Nat) : Int) = (i : Int) + 8 by omega] at K2
      rw [hn] at nb
      replace K2 := Lib.hid K2
      have hst : pstep S i x = if n < 1 ∨ 16384 < n then 26 else if (S.size : Int) < i + 10 + n then 3 else if nat S i 8 < x ∨ 4611686018427387904 < nat S i 8 then 27 else 0 := by unfold pstep; rw [if_neg h1, hn]
      by_cases h2 : n < 1 ∨ 16384 < n
      · have HRES := Lib.hid (hbad 26 (by rw [hst, if_pos h2]) (by omega))
        have d4 : (decide (n < 1) || decide (16384 < n)) = true := by simpa using h2
        clear hbad hfull hst hn
        by_cases h3 : n < 1
        · have d5 : decide (n < 1) = true := by simpa using h3
          clear d4 h2
          go_wp2_with (go_at_call 61; ((with_reducible refine (K2.out _).mono ?_); rintro e w1 ⟨rfl, hbel⟩; obtain ⟨hcc, hff⟩ := bcell hbel; have hsz := hbel.size; (try simp at hsz); have hF : ((w1).cell? ⟨w.heap.size, 0, none⟩ = some (.slice none 0 0) ∧ (w1).cell? ⟨w.heap.size, 1, none⟩ = some (.int .i64 0) ∧ (w1).frozen? ⟨w.heap.size, 0, none⟩ = false ∧ (w1).frozen? ⟨w.heap.size, 1, none⟩ = false ∧ w.heap.size < (w1).heap.size) ∧ Below w.heap.size w w1 := (by ((repeat' apply And.intro) <;> first | (simp [go_sem, *]; done) | omega | (repeat' (first | with_reducible exact Below.refl _ _ | with_reducible assumption | ((with_reducible refine Below.drew ?_)) | ((with_reducible refine below_drewN ?_ _)) | ((with_reducible refine Below.alloc ?_ ?_ _); rotate_left; focus (first | omega | (simp; done) | (simp; omega))) | ((with_reducible refine Below.setCell ?_ ?_ _); rotate_left; focus (first | omega | (simp; done) | (simp; omega))) | ((with_reducible refine Below.trans ?_ (Below.mono (by with_reducible assumption) ?_)); rotate_left; focus (first | omega | (simp; done) | (simp; omega))))))); go_split_ands; clear hcc hff hbel))
          refine bodyPost_ret (v := .agg #[.slice none 0 0, .int .i64 26]) (by simp [results, Try.results35, go_sem, *]) rfl ?_
          exact ⟨_, by rw [HRES.out], by rw [HRES.out]; exact World.ownsRow_nil _ _ _ _, by ((repeat' (first | with_reducible exact Below.refl _ _ | with_reducible assumption | ((with_reducible refine Below.drew ?_)) | ((with_reducible refine below_drewN ?_ _)) | ((with_reducible refine Below.alloc ?_ ?_ _); rotate_left; focus (first | omega | (simp; done) | (simp; omega))) | ((with_reducible refine Below.setCell ?_ ?_ _); rotate_left; focus (first | omega | (simp; done) | (simp; omega))) | ((with_reducible refine Below.trans ?_ (Below.mono (by with_reducible assumption) ?_)); rotate_left; focus (first | omega | (simp; done) | (simp; omega))))); done)⟩
        · have d5 : decide (n < 1) = false := by simpa using h3
          have d6 : decide (16384 < n) = true := by simp; omega
          clear d4 h2
          go_wp2_with (go_at_call 61; ((with_reducible refine (K2.out _).mono ?_); rintro e w1 ⟨rfl, hbel⟩; obtain ⟨hcc, hff⟩ := bcell hbel; have hsz := hbel.size; (try simp at hsz); have hF : ((w1).cell? ⟨w.heap.size, 0, none⟩ = some (.slice none 0 0) ∧ (w1).cell? ⟨w.heap.size, 1, none⟩ = some (.int .i64 0) ∧ (w1).frozen? ⟨w.heap.size, 0, none⟩ = false ∧ (w1).frozen? ⟨w.heap.size, 1, none⟩ = false ∧ w.heap.size < (w1).heap.size) ∧ Below w.heap.size w w1 := (by ((repeat' apply And.intro) <;> first | (simp [go_sem, *]; done) | omega | (repeat' (first | with_reducible exact Below.refl _ _ | with_reducible assumption | ((with_reducible refine Below.drew ?_)) | ((with_reducible refine below_drewN ?_ _)) | ((with_reducible refine Below.alloc ?_ ?_ _); rotate_left; focus (first | omega | (simp; done) | (simp; omega))) | ((with_reducible refine Below.setCell ?_ ?_ _); rotate_left; focus (first | omega | (simp; done) | (simp; omega))) | ((with_reducible refine Below.trans ?_ (Below.mono (by with_reducible assumption) ?_)); rotate_left; focus (first | omega | (simp; done) | (simp; omega))))))); go_split_ands; clear hcc hff hbel))
          refine bodyPost_ret (v := .agg #[.slice none 0 0, .int .i64 26]) (by simp [results, Try.results35, go_sem, *]) rfl ?_
          exact ⟨_, by rw [HRES.out], by rw [HRES.out]; exact World.ownsRow_nil _ _ _ _, by ((repeat' (first | with_reducible exact Below.refl _ _ | with_reducible assumption | ((with_reducible refine Below.drew ?_)) | ((with_reducible refine below_drewN ?_ _)) | ((with_reducible refine Below.alloc ?_ ?_ _); rotate_left; focus (first | omega | (simp; done) | (simp; omega))) | ((with_reducible refine Below.setCell ?_ ?_ _); rotate_left; focus (first | omega | (simp; done) | (simp; omega))) | ((with_reducible refine Below.trans ?_ (Below.mono (by with_reducible assumption) ?_)); rotate_left; focus (first | omega | (simp; done) | (simp; omega))))); done)⟩
      have d5 : decide (n < 1) = false := by simp; omega
      have d6 : decide (16384 < n) = false := by simp; omega
      rw [if_neg h2] at hst
      by_cases h3 : (S.size : Int) < i + 10 + n
      · have HRES := Lib.hid (hbad 3 (by rw [hst, if_pos h3]) (by omega))
        have d7 : decide ((S.size : Int) - i - 10 < n) = true := by simp; omega
        clear hbad hfull hst hn
        go_wp2_with (go_at_call 61; ((with_reducible refine (K2.out _).mono ?_); rintro e w1 ⟨rfl, hbel⟩; obtain ⟨hcc, hff⟩ := bcell hbel; have hsz := hbel.size; (try simp at hsz); have hF : ((w1).cell? ⟨w.heap.size, 0, none⟩ = some (.slice none 0 0) ∧ (w1).cell? ⟨w.heap.size, 1, none⟩ = some (.int .i64 0) ∧ (w1).frozen? ⟨w.heap.size, 0, none⟩ = false ∧ (w1).frozen? ⟨w.heap.size, 1, none⟩ = false ∧ w.heap.size < (w1).heap.size) ∧ Below w.heap.size w w1 := (by ((repeat' apply And.intro) <;> first | (simp [go_sem, *]; done) | omega | (repeat' (first | with_reducible exact Below.refl _ _ | with_reducible assumption | ((with_reducible refine Below.drew ?_)) | ((with_reducible refine below_drewN ?_ _)) | ((with_reducible refine Below.alloc ?_ ?_ _); rotate_left; focus (first | omega | (simp; done) | (simp; omega))) | ((with_reducible refine Below.setCell ?_ ?_ _); rotate_left; focus (first | omega | (simp; done) | (simp; omega))) | ((with_reducible refine Below.trans ?_ (Below.mono (by with_reducible assumption) ?_)); rotate_left; focus (first | omega | (simp; done) | (simp; omega))))))); go_split_ands; clear hcc hff hbel))
        refine bodyPost_ret (v := .agg #[.slice none 0 0, .int .i64 3]) (by simp [results, Try.results35, go_sem, *]) rfl ?_
        exact ⟨_, by rw [HRES.out], by rw [HRES.out]; exact World.ownsRow_nil _ _ _ _, by ((repeat' (first | with_reducible exact Below.refl _ _ | with_reducible assumption | ((with_reducible refine Below.drew ?_)) | ((with_reducible refine below_drewN ?_ _)) | ((with_reducible refine Below.alloc ?_ ?_ _); rotate_left; focus (first | omega | (simp; done) | (simp; omega))) | ((with_reducible refine Below.setCell ?_ ?_ _); rotate_left; focus (first | omega | (simp; done) | (simp; omega))) | ((with_reducible refine Below.trans ?_ (Below.mono (by with_reducible assumption) ?_)); rotate_left; focus (first | omega | (simp; done) | (simp; omega))))); done)⟩
      have d7 : decide ((S.size : Int) - i - 10 < n) = false := by simp; omega
      rw [if_neg h3] at hst
      have K8 := fun z => cat8_c S i (by omega) hM z
      have n8 := nat_bd8 S i
      obtain ⟨t, ht⟩ : ∃ t, nat S i 8 = t := ⟨_, rfl⟩
      rw [ht] at hst K8 n8
      replace K8 := Lib.hid K8
      by_cases h5 : t < x ∨ 4611686018427387904 < t
      · have HRES := Lib.hid (hbad 27 (by rw [hst, if_pos h5]) (by omega))
        clear hbad hfull hst hn ht
        by_cases h6 : t < x
        · have d8 : decide (t < x) = true := by simpa using h6
          clear h5
          go_wp2_with (go_at_call 61; (first | ((with_reducible refine (K2.out _).mono ?_); rintro e w1 ⟨rfl, hbel⟩; obtain ⟨hcc, hff⟩ := bcell hbel; have hsz := hbel.size; (try simp at hsz); have hF : ((w1).cell? ⟨w.heap.size, 0, none⟩ = some (.slice none 0 0) ∧ (w1).cell? ⟨w.heap.size, 1, none⟩ = some (.int .i64 0) ∧ (w1).frozen? ⟨w.heap.size, 0, none⟩ = false ∧ (w1).frozen? ⟨w.heap.size, 1, none⟩ = false ∧ w.heap.size < (w1).heap.size) ∧ Below w.heap.size w w1 := (by ((repeat' apply And.intro) <;> first | (simp [go_sem, *]; done) | omega | (repeat' (first | with_reducible exact Below.refl _ _ | with_reducible assumption | ((with_reducible refine Below.drew ?_)) | ((with_reducible refine below_drewN ?_ _)) | ((with_reducible refine Below.alloc ?_ ?_ _); rotate_left; focus (first | omega | (simp; done) | (simp; omega))) | ((with_reducible refine Below.setCell ?_ ?_ _); rotate_left; focus (first | omega | (simp; done) | (simp; omega))) | ((with_reducible refine Below.trans ?_ (Below.mono (by with_reducible assumption) ?_)); rotate_left; focus (first | omega | (simp; done) | (simp; omega))))))); go_split_ands; clear hcc hff hbel) | ((with_reducible refine (K8.out _).mono ?_); rintro e w1 ⟨rfl, hbel⟩; obtain ⟨hcc, hff⟩ := bcell hbel; have hsz := hbel.size; (try simp at hsz); have hF : ((w1).cell? ⟨w.heap.size, 0, none⟩ = some (.slice none 0 0) ∧ (w1).cell? ⟨w.heap.size, 1, none⟩ = some (.int .i64 0) ∧ (w1).frozen? ⟨w.heap.size, 0, none⟩ = false ∧ (w1).frozen? ⟨w.heap.size, 1, none⟩ = false ∧ w.heap.size < (w1).heap.size) ∧ Below w.heap.size w w1 := (by ((repeat' apply And.intro) <;> first | (simp [go_sem, *]; done) | omega | (repeat' (first | with_reducible exact Below.refl _ _ | with_reducible assumption | ((with_reducible refine Below.drew ?_)) | ((with_reducible refine below_drewN ?_ _)) | ((with_reducible refine Below.alloc ?_ ?_ _); rotate_left; focus (first | omega | (simp; done) | (simp; omega))) | ((with_reducible refine Below.setCell ?_ ?_ _); rotate_left; focus (first | omega | (simp; done) | (simp; omega))) | ((with_reducible refine Below.trans ?_ (Below.mono (by with_reducible assumption) ?_)); rotate_left; focus (first | omega | (simp; done) | (simp; omega))))))); go_split_ands; clear hcc hff hbel)))
          refine bodyPost_ret (v := .agg #[.slice none 0 0, .int .i64 27]) (by simp [results, Try.results35, go_sem, *]) rfl ?_
          exact ⟨_, by rw [HRES.out], by rw [HRES.out]; exact World.ownsRow_nil _ _ _ _, by ((repeat' (first | with_reducible exact Below.refl _ _ | with_reducible assumption | ((with_reducible refine Below.drew ?_)) | ((with_reducible refine below_drewN ?_ _)) | ((with_reducible refine Below.alloc ?_ ?_ _); rotate_left; focus (first | omega | (simp; done) | (simp; omega))) | ((with_reducible refine Below.setCell ?_ ?_ _); rotate_left; focus (first | omega | (simp; done) | (simp; omega))) | ((with_reducible refine Below.trans ?_ (Below.mono (by with_reducible assumption) ?_)); rotate_left; focus (first | omega | (simp; done) | (simp; omega))))); done)⟩
        · have d8 : decide (t < x) = false := by simpa using h6
          have d9 : decide (4611686018427387904 < t) = true := by simp; omega
          clear h5
          go_wp2_with (go_at_call 61; (first | ((with_reducible refine (K2.out _).mono ?_); rintro e w1 ⟨rfl, hbel⟩; obtain ⟨hcc, hff⟩ := bcell hbel; have hsz := hbel.size; (try simp at hsz); have hF : ((w1).cell? ⟨w.heap.size, 0, none⟩ = some (.slice none 0 0) ∧ (w1).cell? ⟨w.heap.size, 1, none⟩ = some (.int .i64 0) ∧ (w1).frozen? ⟨w.heap.size, 0, none⟩ = false ∧ (w1).frozen? ⟨w.heap.size, 1, none⟩ = false ∧ w.heap.size < (w1).heap.size) ∧ Below w.heap.size w w1 := (by ((repeat' apply And.intro) <;> first | (simp [go_sem, *]; done) | omega | (repeat' (first | with_reducible exact Below.refl _ _ | with_reducible assumption | ((with_reducible refine Below.drew ?_)) | ((with_reducible refine below_drewN ?_ _)) | ((with_reducible refine Below.alloc ?_ ?_ _); rotate_left; focus (first | omega | (simp; done) | (simp; omega))) | ((with_reducible refine Below.setCell ?_ ?_ _); rotate_left; focus (first | omega | (simp; done) | (simp; omega))) | ((with_reducible refine Below.trans ?_ (Below.mono (by with_reducible assumption) ?_)); rotate_left; focus (first | omega | (simp; done) | (simp; omega))))))); go_split_ands; clear hcc hff hbel) | ((with_reducible refine (K8.out _).mono ?_); rintro e w1 ⟨rfl, hbel⟩; obtain ⟨hcc, hff⟩ := bcell hbel; have hsz := hbel.size; (try simp at hsz); have hF : ((w1).cell? ⟨w.heap.size, 0, none⟩ = some (.slice none 0 0) ∧ (w1).cell? ⟨w.heap.size, 1, none⟩ = some (.int .i64 0) ∧ (w1).frozen? ⟨w.heap.size, 0, none⟩ = false ∧ (w1).frozen? ⟨w.heap.size, 1, none⟩ = false ∧ w.heap.size < (w1).heap.size) ∧ Below w.heap.size w w1 := (by ((repeat' apply And.intro) <;> first | (simp [go_sem, *]; done) | omega | (repeat' (first | with_reducible exact Below.refl _ _ | with_reducible assumption | ((with_reducible refine Below.drew ?_)) | ((with_reducible refine below_drewN ?_ _)) | ((with_reducible refine Below.alloc ?_ ?_ _); rotate_left; focus (first | omega | (simp; done) | (simp; omega))) | ((with_reducible refine Below.setCell ?_ ?_ _); rotate_left; focus (first | omega | (simp; done) | (simp; omega))) | ((with_reducible refine Below.trans ?_ (Below.mono (by with_reducible assumption) ?_)); rotate_left; focus (first | omega | (simp; done) | (simp; omega))))))); go_split_ands; clear hcc hff hbel)))
          refine bodyPost_ret (v := .agg #[.slice none 0 0, .int .i64 27]) (by simp [results, Try.results35, go_sem, *]) rfl ?_
          exact ⟨_, by rw [HRES.out], by rw [HRES.out]; exact World.ownsRow_nil _ _ _ _, by ((repeat' (first | with_reducible exact Below.refl _ _ | with_reducible assumption | ((with_reducible refine Below.drew ?_)) | ((with_reducible refine below_drewN ?_ _)) | ((with_reducible refine Below.alloc ?_ ?_ _); rotate_left; focus (first | omega | (simp; done) | (simp; omega))) | ((with_reducible refine Below.setCell ?_ ?_ _); rotate_left; focus (first | omega | (simp; done) | (simp; omega))) | ((with_reducible refine Below.trans ?_ (Below.mono (by with_reducible assumption) ?_)); rotate_left; focus (first | omega | (simp; done) | (simp; omega))))); done)⟩
      have d8 : decide (t < x) = false := by simp; omega
      have d9 : decide (4611686018427387904 < t) = false := by simp; omega
      rw [if_neg h5] at hst
      have hng : onto (A ++ [pfr S i]) (pg S (pnx S i) (nat S i 8) (A ++ [pfr S i]).length) = RR := by rw [← onto_good S hlt hfull hst]; exact HON.out
      have hnx1 : ((pnx S i : Nat) : Int) = i + 10 + n := by unfold pnx; rw [hn]; omega
      have hfc : Fm.cells (pfr S i) = [.int .u64 t, .string (pfr S i).d] := by rw [← ht]; rfl
      have hfd : (pfr S i).d = S.extract (i + 10) (pnx S i) := rfl
      rw [ht] at hng
      have hA2 : A.length + 1 ≤ 1000 := by omega
      have ht5 : t ≤ 4611686018427387904 := by omega
      obtain ⟨e, hpe⟩ : ∃ e, pnx S i = e := ⟨_, rfl⟩
      rw [hpe] at hng hnx1 hfd
      obtain ⟨D, hD⟩ : ∃ D, (pfr S i).d = D := ⟨_, rfl⟩
      rw [hD] at hfd hfc
      have hez : e ≤ S.size := by omega
      have hsl : (S.extract (i + 10) e) = D := hfd.symm
      have HNG := Lib.hid hng
      have HFC := Lib.hid hfc
      have HSL := Lib.hid hsl
      clear hng hfc hbad hst hfull hn ht hD hpe hfd hsl h5 h3 h2 h1
      have hsz := hB.size
      have hblk := row_blk hO
      have hvb : (Value.slice ao A.length cp).ownBlock ≠ some wr.heap.size := fun e => by have := (hblk _ e).2; omega
      have hvw : (Value.slice ao A.length cp).ownBlock ≠ some w.heap.size := fun e => by have := (hblk _ e).1; omega
      have hE1 : ((i : Int) + 10).toNat = i + 10 := by omega
      have hE2 : ((i : Int) + 10 + n).toNat = e := by omega
      go_wp2_with (first
        | (go_at_call 61; (first | ((with_reducible refine (K2.out _).mono ?_); rintro e w3 ⟨rfl, hbel⟩; (have hO3 := row_bel hO hbel); obtain ⟨hcc, hff⟩ := bcell hbel; (have hsz3 := hbel.size); have hF : ((w3).cell? ⟨w.heap.size, 0, none⟩ = some (.slice none 0 0) ∧ (w3).cell? ⟨w.heap.size, 1, none⟩ = some (.int .i64 0) ∧ (w3).frozen? ⟨w.heap.size, 0, none⟩ = false ∧ (w3).frozen? ⟨w.heap.size, 1, none⟩ = false ∧ w.heap.size < (w3).heap.size) ∧ Below w.heap.size w w3 := (by ((repeat' apply And.intro) <;> first | (simp [go_sem, *]; done) | omega | (repeat' (first | with_reducible exact Below.refl _ _ | with_reducible assumption | ((with_reducible refine Below.drew ?_)) | ((with_reducible refine below_drewN ?_ _)) | ((with_reducible refine Below.alloc ?_ ?_ _); rotate_left; focus (first | omega | (simp; done) | (simp; omega))) | ((with_reducible refine Below.setCell ?_ ?_ _); rotate_left; focus (first | omega | (simp; done) | (simp; omega))) | ((with_reducible refine Below.trans ?_ (Below.mono (by with_reducible assumption) ?_)); rotate_left; focus (first | omega | (simp; done) | (simp; omega))))))); go_split_ands; clear hcc hff) | ((with_reducible refine (K8.out _).mono ?_); rintro e w4 ⟨rfl, hbel2⟩; (have hO4 := row_bel hO3 hbel2); obtain ⟨hcc, hff⟩ := bcell hbel2; (have hsz4 := hbel2.size); have hF : ((w4).cell? ⟨w.heap.size, 0, none⟩ = some (.slice none 0 0) ∧ (w4).cell? ⟨w.heap.size, 1, none⟩ = some (.int .i64 0) ∧ (w4).frozen? ⟨w.heap.size, 0, none⟩ = false ∧ (w4).frozen? ⟨w.heap.size, 1, none⟩ = false ∧ w.heap.size < (w4).heap.size) ∧ Below w.heap.size w w4 := (by ((repeat' apply And.intro) <;> first | (simp [go_sem, *]; done) | omega | (repeat' (first | with_reducible exact Below.refl _ _ | with_reducible assumption | ((with_reducible refine Below.drew ?_)) | ((with_reducible refine below_drewN ?_ _)) | ((with_reducible refine Below.alloc ?_ ?_ _); rotate_left; focus (first | omega | (simp; done) | (simp; omega))) | ((with_reducible refine Below.setCell ?_ ?_ _); rotate_left; focus (first | omega | (simp; done) | (simp; omega))) | ((with_reducible refine Below.trans ?_ (Below.mono (by with_reducible assumption) ?_)); rotate_left; focus (first | omega | (simp; done) | (simp; omega))))))); go_split_ands; clear hcc hff)))
        | (at_builtin; (refine wpList_append_gw rfl _ _ 73 rfl (w.heap.size + 1) 124 ie (.agg #[.int .u64 0, .string ⟨#[]⟩]) 2 24 Try.underlying73 HI0 HZ0 HZ1 HZ2 rfl (by decide) _ _ _ rfl (row_al hO4 _) ⟨_, 0, none⟩ 1 1 [.int .u64 t, .string D] rfl rfl ?c1 ?c2 ?c3 ?c4 ?c5 ?_)))
      case c1 => (intro j u hu; rcases j with _ | _ | j <;> simp at hu <;> (try subst hu) <;> simp [Addr.add, go_sem] <;> (try exact HSL.out))
      case c2 => (intro u hu; simp at hu; rcases hu with rfl | rfl <;> rfl)
      case c3 => (unfold maxLen; omega)
      case c4 => omega
      case c5 => (simp; omega)
      intro v5 w5 hO5 hg5
      have hO6 : w5.ownsRow (w.heap.size + 1) 124 2 v5 (A ++ [pfr S i]).length ((A ++ [pfr S i]).flatMap Fm.cells) := by
        rw [List.length_append, List.flatMap_append]
        have e : List.flatMap Fm.cells [pfr S i] = [.int .u64 t, .string D] := by simp [HFC.out]
        rw [e]
        exact hO5
      have hbw := hg5.only.below (B := w.heap.size) (a := w) (by repeat' (first | with_reducible exact Below.refl _ _ | with_reducible assumption | ((with_reducible refine Below.drew ?_)) | ((with_reducible refine below_drewN ?_ _)) | ((with_reducible refine Below.alloc ?_ ?_ _); rotate_left; focus (first | omega | (simp; done) | (simp; omega))) | ((with_reducible refine Below.setCell ?_ ?_ _); rotate_left; focus (first | omega | (simp; done) | (simp; omega))) | ((with_reducible refine Below.trans ?_ (Below.mono (by with_reducible assumption) ?_)); rotate_left; focus (first | omega | (simp; done) | (simp; omega))))) (by simp; omega) (fun k hk => by have := (hblk k hk).1; omega)
      have hq : (w5).cell? ⟨w.heap.size, 0, none⟩ = some (.slice none 0 0) ∧ (w5).cell? ⟨w.heap.size, 1, none⟩ = some (.int .i64 0) ∧ (w5).frozen? ⟨w.heap.size, 0, none⟩ = false ∧ (w5).frozen? ⟨w.heap.size, 1, none⟩ = false ∧ w.heap.size < (w5).heap.size := ⟨(hg5.cell (by simp; omega) hvw).trans (by simp [go_sem, *]), (hg5.cell (by simp; omega) hvw).trans (by simp [go_sem, *]), (hg5.frozen (by simp; omega) hvw).trans (by simp [go_sem, *]), (hg5.frozen (by simp; omega) hvw).trans (by simp [go_sem, *]), by have := hg5.only.size; simp at this; omega⟩
      have HO6 := Lib.hid hO6
      have HQ := Lib.hid hq
      clear hO5 hO6 hO3 hO4 hq hO
      go_wp2
      go_roundw
      case rel => exact ⟨e, t, A ++ [pfr S i], v5, by omega, hez, by go_num, rfl, rfl, by omega, by omega, by simp; omega, HO6.out, HNG.out, hbw, HQ.out⟩
      case measure => (simp [intOf]; try omega)
    · obtain rfl : i = S.size := by omega
      have hlt' : decide ((S.size : Int) < S.size) = false := by simp
      have hres : RR = (A, 0) := by
        have := HON.out
        rw [pg_end S (Nat.le_refl _)] at this
        rw [← this]
        unfold onto
        rw [if_pos rfl, List.append_nil]
      have HRES := Lib.hid hres
      clear hres
      have hblk := row_blk hO
      have hvw : (Value.slice ao A.length cp).ownBlock ≠ some w.heap.size := fun e => by have := (hblk _ e).1; omega
      have HO := Lib.hid hO
      clear hO hblk
      go_wp2
      refine bodyPost_ret (v := .agg #[.slice ao A.length cp, .int .i64 0]) (by simp [results, Try.results35, go_sem, *]) rfl ?_
      exact ⟨_, by rw [HRES.out], by rw [HRES.out]; exact row_base (row_set2 (row_set2 HO.out hvw _ _ _) hvw _ _ _) (by omega), by ((repeat' (first | with_reducible exact Below.refl _ _ | with_reducible assumption | ((with_reducible refine Below.drew ?_)) | ((with_reducible refine below_drewN ?_ _)) | ((with_reducible refine Below.alloc ?_ ?_ _); rotate_left; focus (first | omega | (simp; done) | (simp; omega))) | ((with_reducible refine Below.setCell ?_ ?_ _); rotate_left; focus (first | omega | (simp; done) | (simp; omega))) | ((with_reducible refine Below.trans ?_ (Below.mono (by with_reducible assumption) ?_)); rotate_left; focus (first | omega | (simp; done) | (simp; omega))))); done)⟩
theorem cdec_c (S : ByteArray) (hM : S.size ≤ 9000000000000000000) (w : World) : Calls Try.prog 32 #[.string S] w (CDP w 93 (pdec S)) := by
  by_cases h : S.size < 4
  · exact cdec_short S h w
  by_cases h2 : S.extract 0 4 = (⟨#[102, 108, 111, 103]⟩ : ByteArray)
  · exact cdec_main S (by omega) (by omega) h2 w
  · exact cdec_form S (by omega) (by omega) h2 w
theorem crde_c (S : ByteArray) (hM : S.size ≤ 9000000000000000000) (w : World) : Calls Try.prog 35 #[.string S] w (RDP w 124 (pdec S)) := by
  by_cases h : S.size < 4
  · exact crde_short S h w
  by_cases h2 : S.extract 0 4 = (⟨#[102, 108, 111, 103]⟩ : ByteArray)
  · exact crde_main S (by omega) hM h2 w
  · exact crde_form S (by omega) hM h2 w
end Go.Proofs.Ytnfhiagbbmaobaa
