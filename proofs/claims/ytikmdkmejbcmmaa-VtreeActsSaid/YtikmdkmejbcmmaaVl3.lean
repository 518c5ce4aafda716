/- A nil table; two. -/
import Derived.Test.YtikmdkmejbcmmaaVl2
namespace Go.Proofs.Ytikmdkmejbcmmaa
set_option linter.unusedVariables false
set_option linter.unusedSimpArgs false
set_option maxRecDepth 100000
open Go.RowKit Fg Reg
attribute [local irreducible] Reg.wE NT

theorem v_get0 (i : Int) (w : World) : Calls Try.prog 49 #[.pointer none, .int .i64 i] w fun ee w' => ee = .returned (.tuple #[.int .u64 0, .int .u64 0, .int .i64 7]) ∧ Below w.heap.size w w' := by
  go_enter Try.func49, Try.ntmps49
  go_wp2
  refine bodyPost_ret (v := (.tuple #[.int .u64 0, .int .u64 0, .int .i64 7])) (by simp [results, Try.results49, go_sem, *]) rfl ⟨rfl, ?_⟩
  (repeat' (first | assumption | exact Below.refl _ _ | refine Below.setCell ?_ (by first | (simp; done) | omega | (simp; omega)) _ | refine Below.alloc ?_ (by first | (simp; done) | omega | (simp; omega)) _ | refine Below.drew ?_ | refine below_drewN ?_ _))
theorem v_drop0 (i : Int) (w : World) : Calls Try.prog 45 #[.pointer none, .int .i64 i] w fun ee w' => ee = .returned (.int .i64 7) ∧ Below w.heap.size w w' := by
  go_enter Try.func45, Try.ntmps45
  go_wp2_with (go_at_call 49; (with_reducible refine (v_get0 i w).mono ?_); rintro _ w1 ⟨rfl, hbel⟩)
  go_ret
  exact ⟨rfl, by with_reducible assumption⟩
theorem v_set0 (i p q : Int) (w : World) : Calls Try.prog 46 #[.pointer none, .int .i64 i, .int .u64 p, .int .u64 q] w fun ee w' => ee = .returned (.int .i64 7) ∧ Below w.heap.size w w' := by
  go_enter Try.func46, Try.ntmps46
  go_wp2
  go_ret
  refine ⟨rfl, ?_⟩
  (repeat' (first | assumption | exact Below.refl _ _ | refine Below.setCell ?_ (by first | (simp; done) | omega | (simp; omega)) _ | refine Below.alloc ?_ (by first | (simp; done) | omega | (simp; omega)) _ | refine Below.drew ?_ | refine below_drewN ?_ _))
theorem v_pick0 (n : Int) (w : World) : Calls Try.prog 48 #[.pointer none, .int .u64 n] w fun ee w' => ee = .returned (.tuple #[.int .i64 0, .bool false]) ∧ Below w.heap.size w w' := by
  go_enter Try.func48, Try.ntmps48
  go_wp2
  refine bodyPost_ret (v := (.tuple #[.int .i64 0, .bool false])) (by simp [results, Try.results48, go_sem, *]) rfl ⟨rfl, ?_⟩
  (repeat' (first | assumption | exact Below.refl _ _ | refine Below.setCell ?_ (by first | (simp; done) | omega | (simp; omega)) _ | refine Below.alloc ?_ (by first | (simp; done) | omega | (simp; omega)) _ | refine Below.drew ?_ | refine below_drewN ?_ _))
theorem v_len0 (w : World) : Calls Try.prog 53 #[.pointer none] w fun ee w' => ee = .returned (.int .i64 0) ∧ Below w.heap.size w w' := by
  go_enter Try.func53, Try.ntmps53
  go_wp2
  go_ret
  refine ⟨rfl, ?_⟩
  (repeat' (first | assumption | exact Below.refl _ _ | refine Below.setCell ?_ (by first | (simp; done) | omega | (simp; omega)) _ | refine Below.alloc ?_ (by first | (simp; done) | omega | (simp; omega)) _ | refine Below.drew ?_ | refine below_drewN ?_ _))
theorem v_ids0 (w : World) : Calls Try.prog 51 #[.pointer none] w fun ee w' => ee = .returned (.slice none 0 0) ∧ Below w.heap.size w w' := by
  go_enter Try.func51, Try.ntmps51
  go_wp2
  go_ret
  refine ⟨rfl, ?_⟩
  (repeat' (first | assumption | exact Below.refl _ _ | refine Below.setCell ?_ (by first | (simp; done) | omega | (simp; omega)) _ | refine Below.alloc ?_ (by first | (simp; done) | omega | (simp; omega)) _ | refine Below.drew ?_ | refine below_drewN ?_ _))
theorem v_fit0 (w : World) : Calls Try.prog 50 #[.pointer none] w fun ee w' => ee = .returned (.int .u64 9223372036854775808) ∧ Below w.heap.size w w' := by
  go_enter Try.func50, Try.ntmps50
  go_wp2
  go_ret
  refine ⟨rfl, ?_⟩
  (repeat' (first | assumption | exact Below.refl _ _ | refine Below.setCell ?_ (by first | (simp; done) | omega | (simp; omega)) _ | refine Below.alloc ?_ (by first | (simp; done) | omega | (simp; omega)) _ | refine Below.drew ?_ | refine below_drewN ?_ _))
theorem v_low0 (w : World) : Calls Try.prog 52 #[.pointer none] w fun ee w' => ee = .returned (.tuple #[.int .u64 0, .bool false]) ∧ Below w.heap.size w w' := by
  go_enter Try.func52, Try.ntmps52
  go_wp2
  refine bodyPost_ret (v := (.tuple #[.int .u64 0, .bool false])) (by simp [results, Try.results52, go_sem, *]) rfl ⟨rfl, ?_⟩
  (repeat' (first | assumption | exact Below.refl _ _ | refine Below.setCell ?_ (by first | (simp; done) | omega | (simp; omega)) _ | refine Below.alloc ?_ (by first | (simp; done) | omega | (simp; omega)) _ | refine Below.drew ?_ | refine below_drewN ?_ _))
theorem v_seto {w : World} (tb mb a : Nat) (t : Tr) (L : List Rw) (x : Rw) (z : World) (h : OT w z tb mb a t L) (hi : iok x.id) (hL : L.length ≤ 200) :
    Calls Try.prog 46 #[.pointer (some ⟨tb, 0, none⟩), .int .i64 x.id, .int .u64 x.a, .int .u64 x.b] z fun e w' => e = .returned (.int .i64 0) ∧ ∃ t', OT w w' tb mb a t' (setL x L) := by
  refine (v_set_c tb mb a t L x z h.tbl hi hL).mono ?_
  rintro e w' ⟨h1, t', h2, h3, h4⟩
  exact ⟨h1, t', h.turn h2 h3 h4⟩
theorem v_s1 {w : World} (tb mb a : Nat) (t : Tr) (z : World) (h : OT w z tb mb a t []) :
    Calls Try.prog 46 #[.pointer (some ⟨tb, 0, none⟩), .int .i64 1, .int .u64 7, .int .u64 0] z fun e w' => e = .returned (.int .i64 0) ∧ ∃ t', OT w w' tb mb a t' [(⟨1, 7, 0⟩ : Rw)] := v_seto tb mb a t [] (⟨1, 7, 0⟩ : Rw) z h (show (Lit.int .i64 1).wf = true by decide) (by simp)
theorem v_s2 {w : World} (tb mb a : Nat) (t : Tr) (z : World) (h : OT w z tb mb a t [(⟨1, 7, 0⟩ : Rw)]) :
    Calls Try.prog 46 #[.pointer (some ⟨tb, 0, none⟩), .int .i64 2, .int .u64 3, .int .u64 10] z fun e w' => e = .returned (.int .i64 0) ∧ ∃ t', OT w w' tb mb a t' [(⟨1, 7, 0⟩ : Rw), (⟨2, 3, 10⟩ : Rw)] := v_seto tb mb a t [(⟨1, 7, 0⟩ : Rw)] (⟨2, 3, 10⟩ : Rw) z h (show (Lit.int .i64 2).wf = true by decide) (by simp)
theorem v_tl2 {w z : World} {tb mb a : Nat} {t : Tr} (h : OT w z tb mb a t [(⟨1, 7, 0⟩ : Rw), (⟨2, 3, 10⟩ : Rw)]) : tl t = [⟨3, 2, 10, 2⟩, ⟨7, 1, 0, 1⟩] := ss_same _ _ h.tbl.tr.ss (by unfold SS; decide) fun x => by
  rw [h.tbl.tm x]
  constructor
  · rintro ⟨r, hr, rfl⟩
    rcases List.mem_cons.1 hr with rfl | hr
    · simp [Rw.it]
    · rcases List.mem_cons.1 hr with rfl | hr
      · simp [Rw.it]
      · simp at hr
  · intro hx
    rcases List.mem_cons.1 hx with rfl | hx
    · exact ⟨(⟨2, 3, 10⟩ : Rw), by simp, rfl⟩
    · rcases List.mem_cons.1 hx with rfl | hx
      · exact ⟨(⟨1, 7, 0⟩ : Rw), by simp, rfl⟩
      · simp at hx
theorem v_ne2 {w z : World} {tb mb a : Nat} {t : Tr} (h : OT w z tb mb a t [(⟨1, 7, 0⟩ : Rw), (⟨2, 3, 10⟩ : Rw)]) : isN t = false ∧ lst t = ⟨3, 2, 10, 2⟩ := by
  have h1 := v_tl2 h
  cases hn : isN t with
  | true => have := isN_nil hn; subst this; simp [tl] at h1
  | false =>
    obtain ⟨L', hL⟩ := lst_hd t hn
    rw [h1] at hL
    injection hL with h2 h3
    exact ⟨rfl, h2.symm⟩
theorem v_n2 {w : World} (tb mb a : Nat) (t : Tr) (z : World) (h : OT w z tb mb a t [(⟨1, 7, 0⟩ : Rw), (⟨2, 3, 10⟩ : Rw)]) : Calls Try.prog 53 #[.pointer (some ⟨tb, 0, none⟩)] z fun ee w' => ee = .returned (.int .i64 2) ∧ Below z.heap.size z w' := v_len_c tb mb a t [(⟨1, 7, 0⟩ : Rw), (⟨2, 3, 10⟩ : Rw)] z h.tbl
theorem v_p9_b : fstL 9 ([⟨3, 2, 10, 2⟩, ⟨7, 1, 0, 1⟩] : List It) = some ⟨7, 1, 0, 1⟩ := by
  rfl
theorem v_p9 {w : World} (tb mb a : Nat) (t : Tr) (z : World) (h : OT w z tb mb a t [(⟨1, 7, 0⟩ : Rw), (⟨2, 3, 10⟩ : Rw)]) : Calls Try.prog 48 #[.pointer (some ⟨tb, 0, none⟩), .int .u64 9] z fun ee w' => ee = .returned (.tuple #[.int .i64 1, .bool true]) ∧ Below z.heap.size z w' := by
  have h1 := v_pick_c tb mb a t _ 9 z h.tbl
  rw [v_tl2 h, show mnn 9 9223372036854775807 = 9 from rfl, v_p9_b] at h1
  exact h1
theorem v_p10_b : fstL 10 ([⟨3, 2, 10, 2⟩, ⟨7, 1, 0, 1⟩] : List It) = some ⟨3, 2, 10, 2⟩ := by
  rfl
theorem v_p10 {w : World} (tb mb a : Nat) (t : Tr) (z : World) (h : OT w z tb mb a t [(⟨1, 7, 0⟩ : Rw), (⟨2, 3, 10⟩ : Rw)]) : Calls Try.prog 48 #[.pointer (some ⟨tb, 0, none⟩), .int .u64 10] z fun ee w' => ee = .returned (.tuple #[.int .i64 2, .bool true]) ∧ Below z.heap.size z w' := by
  have h1 := v_pick_c tb mb a t _ 10 z h.tbl
  rw [v_tl2 h, show mnn 10 9223372036854775807 = 10 from rfl, v_p10_b] at h1
  exact h1
theorem v_l2 {w : World} (tb mb a : Nat) (t : Tr) (z : World) (h : OT w z tb mb a t [(⟨1, 7, 0⟩ : Rw), (⟨2, 3, 10⟩ : Rw)]) : Calls Try.prog 52 #[.pointer (some ⟨tb, 0, none⟩)] z fun ee w' => ee = .returned (.tuple #[.int .u64 3, .bool true]) ∧ Below z.heap.size z w' := by
  have h1 := v_low_c tb mb a t _ z h.tbl
  rw [(v_ne2 h).1, (v_ne2 h).2] at h1
  exact h1
theorem v_f_b : belL 18446744073709551615 ([⟨3, 2, 10, 2⟩, ⟨7, 1, 0, 1⟩] : List It) = some ⟨7, 1, 0, 1⟩ := by
  refine Mn.uniq (bel_mn 18446744073709551615 _ (by unfold SS; decide)) ⟨by simp, by decide, by decide⟩
theorem v_f2 {w : World} (tb mb a : Nat) (t : Tr) (z : World) (h : OT w z tb mb a t [(⟨1, 7, 0⟩ : Rw), (⟨2, 3, 10⟩ : Rw)]) : Calls Try.prog 50 #[.pointer (some ⟨tb, 0, none⟩)] z fun ee w' => ee = .returned (.int .u64 0) ∧ Below z.heap.size z w' := by
  have h1 := v_fit_c tb mb a t _ z h.tbl
  rw [v_tl2 h, v_f_b] at h1
  exact h1
set_option maxHeartbeats 8000000 in
theorem v_two_c (w : World) : Calls Try.prog 43 #[] w fun ee w' => ee = .returned (.bool true) ∧ Below w.heap.size w w' := by
  go_enter Try.func43, Try.ntmps43
  go_wp2_with (first | (go_at_call 44; (with_reducible refine (v_new_c w).mono ?_); rintro _ wk ⟨tb, mb, a, rfl, hO⟩; have HS := Lib.hid hO; clear hO) | (go_at_call 46; first | ((with_reducible refine (v_s1 tb mb a _ _ (HS.out.step (by (repeat' (first | assumption | exact Below.refl _ _ | refine Below.setCell ?_ (by first | (simp; done) | omega | (simp; omega)) _ | refine Below.alloc ?_ (by first | (simp; done) | omega | (simp; omega)) _ | refine Below.drew ?_ | refine below_drewN ?_ _))))).mono ?_); rintro _ wk ⟨rfl, t1, hO⟩; have HS := Lib.hid hO; clear hO) | ((with_reducible refine (v_s2 tb mb a _ _ (HS.out.step (by (repeat' (first | assumption | exact Below.refl _ _ | refine Below.setCell ?_ (by first | (simp; done) | omega | (simp; omega)) _ | refine Below.alloc ?_ (by first | (simp; done) | omega | (simp; omega)) _ | refine Below.drew ?_ | refine below_drewN ?_ _))))).mono ?_); rintro _ wk ⟨rfl, t2, hO⟩; have HS := Lib.hid hO; clear hO)) | (go_at_call 48; (with_reducible refine (v_p9 tb mb a _ _ (HS.out.step (by (repeat' (first | assumption | exact Below.refl _ _ | refine Below.setCell ?_ (by first | (simp; done) | omega | (simp; omega)) _ | refine Below.alloc ?_ (by first | (simp; done) | omega | (simp; omega)) _ | refine Below.drew ?_ | refine below_drewN ?_ _))))).mono ?_); rintro _ wk ⟨rfl, hbel⟩; have HS := Lib.hid ((HS.out.step (by (repeat' (first | assumption | exact Below.refl _ _ | refine Below.setCell ?_ (by first | (simp; done) | omega | (simp; omega)) _ | refine Below.alloc ?_ (by first | (simp; done) | omega | (simp; omega)) _ | refine Below.drew ?_ | refine below_drewN ?_ _)))).step hbel); clear hbel) | (go_at_call 48; (with_reducible refine (v_p10 tb mb a _ _ (HS.out.step (by (repeat' (first | assumption | exact Below.refl _ _ | refine Below.setCell ?_ (by first | (simp; done) | omega | (simp; omega)) _ | refine Below.alloc ?_ (by first | (simp; done) | omega | (simp; omega)) _ | refine Below.drew ?_ | refine below_drewN ?_ _))))).mono ?_); rintro _ wk ⟨rfl, hbel⟩; have HS := Lib.hid ((HS.out.step (by (repeat' (first | assumption | exact Below.refl _ _ | refine Below.setCell ?_ (by first | (simp; done) | omega | (simp; omega)) _ | refine Below.alloc ?_ (by first | (simp; done) | omega | (simp; omega)) _ | refine Below.drew ?_ | refine below_drewN ?_ _)))).step hbel); clear hbel) | (go_at_call 53; (with_reducible refine (v_n2 tb mb a _ _ (HS.out.step (by (repeat' (first | assumption | exact Below.refl _ _ | refine Below.setCell ?_ (by first | (simp; done) | omega | (simp; omega)) _ | refine Below.alloc ?_ (by first | (simp; done) | omega | (simp; omega)) _ | refine Below.drew ?_ | refine below_drewN ?_ _))))).mono ?_); rintro _ wk ⟨rfl, hbel⟩; have HS := Lib.hid ((HS.out.step (by (repeat' (first | assumption | exact Below.refl _ _ | refine Below.setCell ?_ (by first | (simp; done) | omega | (simp; omega)) _ | refine Below.alloc ?_ (by first | (simp; done) | omega | (simp; omega)) _ | refine Below.drew ?_ | refine below_drewN ?_ _)))).step hbel); clear hbel) | (go_at_call 52; (with_reducible refine (v_l2 tb mb a _ _ (HS.out.step (by (repeat' (first | assumption | exact Below.refl _ _ | refine Below.setCell ?_ (by first | (simp; done) | omega | (simp; omega)) _ | refine Below.alloc ?_ (by first | (simp; done) | omega | (simp; omega)) _ | refine Below.drew ?_ | refine below_drewN ?_ _))))).mono ?_); rintro _ wk ⟨rfl, hbel⟩; have HS := Lib.hid ((HS.out.step (by (repeat' (first | assumption | exact Below.refl _ _ | refine Below.setCell ?_ (by first | (simp; done) | omega | (simp; omega)) _ | refine Below.alloc ?_ (by first | (simp; done) | omega | (simp; omega)) _ | refine Below.drew ?_ | refine below_drewN ?_ _)))).step hbel); clear hbel) | (go_at_call 50; (with_reducible refine (v_f2 tb mb a _ _ (HS.out.step (by (repeat' (first | assumption | exact Below.refl _ _ | refine Below.setCell ?_ (by first | (simp; done) | omega | (simp; omega)) _ | refine Below.alloc ?_ (by first | (simp; done) | omega | (simp; omega)) _ | refine Below.drew ?_ | refine below_drewN ?_ _))))).mono ?_); rintro _ wk ⟨rfl, hbel⟩; have HS := Lib.hid ((HS.out.step (by (repeat' (first | assumption | exact Below.refl _ _ | refine Below.setCell ?_ (by first | (simp; done) | omega | (simp; omega)) _ | refine Below.alloc ?_ (by first | (simp; done) | omega | (simp; omega)) _ | refine Below.drew ?_ | refine below_drewN ?_ _)))).step hbel); clear hbel))
  go_ret
  exact ⟨rfl, HS.out.hb⟩
set_option maxHeartbeats 8000000 in
theorem vtreeNil_law (a0 a1 a2 a3 a4 : Int) (h0 : (Lit.int .i64 a0).wf = true) (h1 : (Lit.int .i64 a1).wf = true) (h2 : (Lit.int .u64 a2).wf = true) (h3 : (Lit.int .u64 a3).wf = true) (h4 : (Lit.int .u64 a4).wf = true) (w : World) :
    Calls Try.prog 11 #[.agg #[.int .i64 a0, .int .i64 a1, .int .u64 a2, .int .u64 a3, .int .u64 a4]] w fun ee w' => ee = .returned (.bool true) ∧ Below w.heap.size w w' := by
  clear h0 h1 h2 h3 h4
  go_enter Try.func11, Try.ntmps11
  go_wp2_with (first | (go_at_call 49; ((with_reducible refine (v_get0 a1 _).mono ?_); rintro e w1 ⟨rfl, hbel⟩; obtain ⟨hcc, hff⟩ := bcell hbel; have hsz := hbel.size; (try simp at hsz); have hF : (w1.cell? ⟨w.heap.size, 1, none⟩ = some (.int .i64 a1) ∧ w1.cell? ⟨w.heap.size, 2, none⟩ = some (.int .u64 a2) ∧ w1.cell? ⟨w.heap.size, 3, none⟩ = some (.int .u64 a3) ∧ w1.cell? ⟨w.heap.size, 4, none⟩ = some (.int .u64 a4) ∧ w.heap.size < w1.heap.size) ∧ Below w.heap.size w w1 := (by ((repeat' apply And.intro) <;> first | (simp [go_sem, *]; done) | omega | (repeat' (first | with_reducible exact Below.refl _ _ | with_reducible assumption | ((with_reducible refine Below.drew ?_)) | ((with_reducible refine below_drewN ?_ _)) | ((with_reducible refine Below.alloc ?_ ?_ _); rotate_left; focus (first | omega | (simp; done) | (simp; omega))) | ((with_reducible refine Below.setCell ?_ ?_ _); rotate_left; focus (first | omega | (simp; done) | (simp; omega))) | ((with_reducible refine Below.trans ?_ (Below.mono (by with_reducible assumption) ?_)); rotate_left; focus (first | omega | (simp; done) | (simp; omega))))))); go_split_ands; clear hcc hff hbel)) | (go_at_call 48; ((with_reducible refine (v_pick0 a4 _).mono ?_); rintro e w2 ⟨rfl, hbel⟩; obtain ⟨hcc, hff⟩ := bcell hbel; have hsz := hbel.size; (try simp at hsz); have hF : (w2.cell? ⟨w.heap.size, 1, none⟩ = some (.int .i64 a1) ∧ w2.cell? ⟨w.heap.size, 2, none⟩ = some (.int .u64 a2) ∧ w2.cell? ⟨w.heap.size, 3, none⟩ = some (.int .u64 a3) ∧ w2.cell? ⟨w.heap.size, 4, none⟩ = some (.int .u64 a4) ∧ w.heap.size < w2.heap.size) ∧ Below w.heap.size w w2 := (by ((repeat' apply And.intro) <;> first | (simp [go_sem, *]; done) | omega | (repeat' (first | with_reducible exact Below.refl _ _ | with_reducible assumption | ((with_reducible refine Below.drew ?_)) | ((with_reducible refine below_drewN ?_ _)) | ((with_reducible refine Below.alloc ?_ ?_ _); rotate_left; focus (first | omega | (simp; done) | (simp; omega))) | ((with_reducible refine Below.setCell ?_ ?_ _); rotate_left; focus (first | omega | (simp; done) | (simp; omega))) | ((with_reducible refine Below.trans ?_ (Below.mono (by with_reducible assumption) ?_)); rotate_left; focus (first | omega | (simp; done) | (simp; omega))))))); go_split_ands; clear hcc hff hbel)) | (go_at_call 52; ((with_reducible refine (v_low0 _).mono ?_); rintro e w3 ⟨rfl, hbel⟩; obtain ⟨hcc, hff⟩ := bcell hbel; have hsz := hbel.size; (try simp at hsz); have hF : (w3.cell? ⟨w.heap.size, 1, none⟩ = some (.int .i64 a1) ∧ w3.cell? ⟨w.heap.size, 2, none⟩ = some (.int .u64 a2) ∧ w3.cell? ⟨w.heap.size, 3, none⟩ = some (.int .u64 a3) ∧ w3.cell? ⟨w.heap.size, 4, none⟩ = some (.int .u64 a4) ∧ w.heap.size < w3.heap.size) ∧ Below w.heap.size w w3 := (by ((repeat' apply And.intro) <;> first | (simp [go_sem, *]; done) | omega | (repeat' (first | with_reducible exact Below.refl _ _ | with_reducible assumption | ((with_reducible refine Below.drew ?_)) | ((with_reducible refine below_drewN ?_ _)) | ((with_reducible refine Below.alloc ?_ ?_ _); rotate_left; focus (first | omega | (simp; done) | (simp; omega))) | ((with_reducible refine Below.setCell ?_ ?_ _); rotate_left; focus (first | omega | (simp; done) | (simp; omega))) | ((with_reducible refine Below.trans ?_ (Below.mono (by with_reducible assumption) ?_)); rotate_left; focus (first | omega | (simp; done) | (simp; omega))))))); go_split_ands; clear hcc hff hbel)) | (go_at_call 46; ((with_reducible refine (v_set0 a1 a2 a3 _).mono ?_); rintro e w4 ⟨rfl, hbel⟩; obtain ⟨hcc, hff⟩ := bcell hbel; have hsz := hbel.size; (try simp at hsz); have hF : (w4.cell? ⟨w.heap.size, 1, none⟩ = some (.int .i64 a1) ∧ w4.cell? ⟨w.heap.size, 2, none⟩ = some (.int .u64 a2) ∧ w4.cell? ⟨w.heap.size, 3, none⟩ = some (.int .u64 a3) ∧ w4.cell? ⟨w.heap.size, 4, none⟩ = some (.int .u64 a4) ∧ w.heap.size < w4.heap.size) ∧ Below w.heap.size w w4 := (by ((repeat' apply And.intro) <;> first | (simp [go_sem, *]; done) | omega | (repeat' (first | with_reducible exact Below.refl _ _ | with_reducible assumption | ((with_reducible refine Below.drew ?_)) | ((with_reducible refine below_drewN ?_ _)) | ((with_reducible refine Below.alloc ?_ ?_ _); rotate_left; focus (first | omega | (simp; done) | (simp; omega))) | ((with_reducible refine Below.setCell ?_ ?_ _); rotate_left; focus (first | omega | (simp; done) | (simp; omega))) | ((with_reducible refine Below.trans ?_ (Below.mono (by with_reducible assumption) ?_)); rotate_left; focus (first | omega | (simp; done) | (simp; omega))))))); go_split_ands; clear hcc hff hbel)) | (go_at_call 45; ((with_reducible refine (v_drop0 a1 _).mono ?_); rintro e w5 ⟨rfl, hbel⟩; obtain ⟨hcc, hff⟩ := bcell hbel; have hsz := hbel.size; (try simp at hsz); have hF : (w5.cell? ⟨w.heap.size, 1, none⟩ = some (.int .i64 a1) ∧ w5.cell? ⟨w.heap.size, 2, none⟩ = some (.int .u64 a2) ∧ w5.cell? ⟨w.heap.size, 3, none⟩ = some (.int .u64 a3) ∧ w5.cell? ⟨w.heap.size, 4, none⟩ = some (.int .u64 a4) ∧ w.heap.size < w5.heap.size) ∧ Below w.heap.size w w5 := (by ((repeat' apply And.intro) <;> first | (simp [go_sem, *]; done) | omega | (repeat' (first | with_reducible exact Below.refl _ _ | with_reducible assumption | ((with_reducible refine Below.drew ?_)) | ((with_reducible refine below_drewN ?_ _)) | ((with_reducible refine Below.alloc ?_ ?_ _); rotate_left; focus (first | omega | (simp; done) | (simp; omega))) | ((with_reducible refine Below.setCell ?_ ?_ _); rotate_left; focus (first | omega | (simp; done) | (simp; omega))) | ((with_reducible refine Below.trans ?_ (Below.mono (by with_reducible assumption) ?_)); rotate_left; focus (first | omega | (simp; done) | (simp; omega))))))); go_split_ands; clear hcc hff hbel)) | (go_at_call 50; ((with_reducible refine (v_fit0 _).mono ?_); rintro e w6 ⟨rfl, hbel⟩; obtain ⟨hcc, hff⟩ := bcell hbel; have hsz := hbel.size; (try simp at hsz); have hF : (w6.cell? ⟨w.heap.size, 1, none⟩ = some (.int .i64 a1) ∧ w6.cell? ⟨w.heap.size, 2, none⟩ = some (.int .u64 a2) ∧ w6.cell? ⟨w.heap.size, 3, none⟩ = some (.int .u64 a3) ∧ w6.cell? ⟨w.heap.size, 4, none⟩ = some (.int .u64 a4) ∧ w.heap.size < w6.heap.size) ∧ Below w.heap.size w w6 := (by ((repeat' apply And.intro) <;> first | (simp [go_sem, *]; done) | omega | (repeat' (first | with_reducible exact Below.refl _ _ | with_reducible assumption | ((with_reducible refine Below.drew ?_)) | ((with_reducible refine below_drewN ?_ _)) | ((with_reducible refine Below.alloc ?_ ?_ _); rotate_left; focus (first | omega | (simp; done) | (simp; omega))) | ((with_reducible refine Below.setCell ?_ ?_ _); rotate_left; focus (first | omega | (simp; done) | (simp; omega))) | ((with_reducible refine Below.trans ?_ (Below.mono (by with_reducible assumption) ?_)); rotate_left; focus (first | omega | (simp; done) | (simp; omega))))))); go_split_ands; clear hcc hff hbel)) | (go_at_call 53; ((with_reducible refine (v_len0 _).mono ?_); rintro e w7 ⟨rfl, hbel⟩; obtain ⟨hcc, hff⟩ := bcell hbel; have hsz := hbel.size; (try simp at hsz); have hF : (w7.cell? ⟨w.heap.size, 1, none⟩ = some (.int .i64 a1) ∧ w7.cell? ⟨w.heap.size, 2, none⟩ = some (.int .u64 a2) ∧ w7.cell? ⟨w.heap.size, 3, none⟩ = some (.int .u64 a3) ∧ w7.cell? ⟨w.heap.size, 4, none⟩ = some (.int .u64 a4) ∧ w.heap.size < w7.heap.size) ∧ Below w.heap.size w w7 := (by ((repeat' apply And.intro) <;> first | (simp [go_sem, *]; done) | omega | (repeat' (first | with_reducible exact Below.refl _ _ | with_reducible assumption | ((with_reducible refine Below.drew ?_)) | ((with_reducible refine below_drewN ?_ _)) | ((with_reducible refine Below.alloc ?_ ?_ _); rotate_left; focus (first | omega | (simp; done) | (simp; omega))) | ((with_reducible refine Below.setCell ?_ ?_ _); rotate_left; focus (first | omega | (simp; done) | (simp; omega))) | ((with_reducible refine Below.trans ?_ (Below.mono (by with_reducible assumption) ?_)); rotate_left; focus (first | omega | (simp; done) | (simp; omega))))))); go_split_ands; clear hcc hff hbel)) | (go_at_call 51; ((with_reducible refine (v_ids0 _).mono ?_); rintro e w8 ⟨rfl, hbel⟩; obtain ⟨hcc, hff⟩ := bcell hbel; have hsz := hbel.size; (try simp at hsz); have hF : (w8.cell? ⟨w.heap.size, 1, none⟩ = some (.int .i64 a1) ∧ w8.cell? ⟨w.heap.size, 2, none⟩ = some (.int .u64 a2) ∧ w8.cell? ⟨w.heap.size, 3, none⟩ = some (.int .u64 a3) ∧ w8.cell? ⟨w.heap.size, 4, none⟩ = some (.int .u64 a4) ∧ w.heap.size < w8.heap.size) ∧ Below w.heap.size w w8 := (by ((repeat' apply And.intro) <;> first | (simp [go_sem, *]; done) | omega | (repeat' (first | with_reducible exact Below.refl _ _ | with_reducible assumption | ((with_reducible refine Below.drew ?_)) | ((with_reducible refine below_drewN ?_ _)) | ((with_reducible refine Below.alloc ?_ ?_ _); rotate_left; focus (first | omega | (simp; done) | (simp; omega))) | ((with_reducible refine Below.setCell ?_ ?_ _); rotate_left; focus (first | omega | (simp; done) | (simp; omega))) | ((with_reducible refine Below.trans ?_ (Below.mono (by with_reducible assumption) ?_)); rotate_left; focus (first | omega | (simp; done) | (simp; omega))))))); go_split_ands; clear hcc hff hbel)) | (go_at_call 43; ((with_reducible refine (v_two_c _).mono ?_); rintro e w9 ⟨rfl, hbel⟩; obtain ⟨hcc, hff⟩ := bcell hbel; have hsz := hbel.size; (try simp at hsz); have hF : Below w.heap.size w w9 := (by ((repeat' apply And.intro) <;> first | (simp [go_sem, *]; done) | omega | (repeat' (first | with_reducible exact Below.refl _ _ | with_reducible assumption | ((with_reducible refine Below.drew ?_)) | ((with_reducible refine below_drewN ?_ _)) | ((with_reducible refine Below.alloc ?_ ?_ _); rotate_left; focus (first | omega | (simp; done) | (simp; omega))) | ((with_reducible refine Below.setCell ?_ ?_ _); rotate_left; focus (first | omega | (simp; done) | (simp; omega))) | ((with_reducible refine Below.trans ?_ (Below.mono (by with_reducible assumption) ?_)); rotate_left; focus (first | omega | (simp; done) | (simp; omega))))))); go_split_ands; clear hcc hff hbel)))
  go_ret
  exact ⟨rfl, by with_reducible assumption⟩
end Go.Proofs.Ytikmdkmejbcmmaa
