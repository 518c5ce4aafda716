/- A nil table; two. -/
import Derived.Test.YtikmdkmejbcmmaaEl2
namespace Go.Proofs.Ytikmdkmejbcmmaa
set_option linter.unusedVariables false
set_option linter.unusedSimpArgs false
set_option maxRecDepth 100000
open Go.RowKit Fg Reg
attribute [local irreducible] Reg.wE NT

theorem e_get0 (i : Int) (w : World) : Calls Try.prog 37 #[.pointer none, .int .i64 i] w fun ee w' => ee = .returned (.tuple #[.int .u64 0, .int .u64 0, .int .i64 7]) ∧ Below w.heap.size w w' := by
  go_enter Try.func37, Try.ntmps37
  go_wp2
  refine bodyPost_ret (v := (.tuple #[.int .u64 0, .int .u64 0, .int .i64 7])) (by simp [results, Try.results37, go_sem, *]) rfl ⟨rfl, ?_⟩
  (repeat' (first | assumption | exact Below.refl _ _ | refine Below.setCell ?_ (by first | (simp; done) | omega | (simp; omega)) _ | refine Below.alloc ?_ (by first | (simp; done) | omega | (simp; omega)) _ | refine Below.drew ?_ | refine below_drewN ?_ _))
theorem e_drop0 (i : Int) (w : World) : Calls Try.prog 33 #[.pointer none, .int .i64 i] w fun ee w' => ee = .returned (.int .i64 7) ∧ Below w.heap.size w w' := by
  go_enter Try.func33, Try.ntmps33
  go_wp2_with (go_at_call 37; (with_reducible refine (e_get0 i w).mono ?_); rintro _ w1 ⟨rfl, hbel⟩)
  go_ret
  exact ⟨rfl, by with_reducible assumption⟩
theorem e_set0 (i p q : Int) (w : World) : Calls Try.prog 35 #[.pointer none, .int .i64 i, .int .u64 p, .int .u64 q] w fun ee w' => ee = .returned (.int .i64 7) ∧ Below w.heap.size w w' := by
  go_enter Try.func35, Try.ntmps35
  go_wp2
  go_ret
  refine ⟨rfl, ?_⟩
  (repeat' (first | assumption | exact Below.refl _ _ | refine Below.setCell ?_ (by first | (simp; done) | omega | (simp; omega)) _ | refine Below.alloc ?_ (by first | (simp; done) | omega | (simp; omega)) _ | refine Below.drew ?_ | refine below_drewN ?_ _))
theorem e_pick0 (n : Int) (w : World) : Calls Try.prog 39 #[.pointer none, .int .u64 n] w fun ee w' => ee = .returned (.tuple #[.int .i64 0, .bool false]) ∧ Below w.heap.size w w' := by
  go_enter Try.func39, Try.ntmps39
  go_wp2
  refine bodyPost_ret (v := (.tuple #[.int .i64 0, .bool false])) (by simp [results, Try.results39, go_sem, *]) rfl ⟨rfl, ?_⟩
  (repeat' (first | assumption | exact Below.refl _ _ | refine Below.setCell ?_ (by first | (simp; done) | omega | (simp; omega)) _ | refine Below.alloc ?_ (by first | (simp; done) | omega | (simp; omega)) _ | refine Below.drew ?_ | refine below_drewN ?_ _))
theorem e_len0 (w : World) : Calls Try.prog 42 #[.pointer none] w fun ee w' => ee = .returned (.int .i64 0) ∧ Below w.heap.size w w' := by
  go_enter Try.func42, Try.ntmps42
  go_wp2
  go_ret
  refine ⟨rfl, ?_⟩
  (repeat' (first | assumption | exact Below.refl _ _ | refine Below.setCell ?_ (by first | (simp; done) | omega | (simp; omega)) _ | refine Below.alloc ?_ (by first | (simp; done) | omega | (simp; omega)) _ | refine Below.drew ?_ | refine below_drewN ?_ _))
theorem e_ids0 (w : World) : Calls Try.prog 40 #[.pointer none] w fun ee w' => ee = .returned (.slice none 0 0) ∧ Below w.heap.size w w' := by
  go_enter Try.func40, Try.ntmps40
  go_wp2
  go_ret
  refine ⟨rfl, ?_⟩
  (repeat' (first | assumption | exact Below.refl _ _ | refine Below.setCell ?_ (by first | (simp; done) | omega | (simp; omega)) _ | refine Below.alloc ?_ (by first | (simp; done) | omega | (simp; omega)) _ | refine Below.drew ?_ | refine below_drewN ?_ _))
theorem e_next0 (w : World) : Calls Try.prog 41 #[.pointer none] w fun ee w' => ee = .returned (.int .u64 9223372036854775808) ∧ Below w.heap.size w w' := by
  go_enter Try.func41, Try.ntmps41
  go_wp2
  go_ret
  refine ⟨rfl, ?_⟩
  (repeat' (first | assumption | exact Below.refl _ _ | refine Below.setCell ?_ (by first | (simp; done) | omega | (simp; omega)) _ | refine Below.alloc ?_ (by first | (simp; done) | omega | (simp; omega)) _ | refine Below.drew ?_ | refine below_drewN ?_ _))
theorem e_seto {w : World} (tb mb a : Nat) (t : Tr) (L : List Rw) (x : Rw) (z : World) (h : OT w z tb mb a t L) (hi : iok x.id) (hL : L.length ≤ 200) :
    Calls Try.prog 35 #[.pointer (some ⟨tb, 0, none⟩), .int .i64 x.id, .int .u64 x.a, .int .u64 x.b] z fun e w' => e = .returned (.int .i64 0) ∧ ∃ t', OT w w' tb mb a t' (setL x L) := by
  refine (e_set_c tb mb a t L x z h.tbl hi hL).mono ?_
  rintro e w' ⟨h1, t', h2, h3, h4⟩
  exact ⟨h1, t', h.turn h2 h3 h4⟩
theorem e_s1 {w : World} (tb mb a : Nat) (t : Tr) (z : World) (h : OT w z tb mb a t []) :
    Calls Try.prog 35 #[.pointer (some ⟨tb, 0, none⟩), .int .i64 1, .int .u64 5, .int .u64 9] z fun e w' => e = .returned (.int .i64 0) ∧ ∃ t', OT w w' tb mb a t' [(⟨1, 5, 9⟩ : Rw)] := e_seto tb mb a t [] (⟨1, 5, 9⟩ : Rw) z h (show (Lit.int .i64 1).wf = true by decide) (by simp)
theorem e_s2 {w : World} (tb mb a : Nat) (t : Tr) (z : World) (h : OT w z tb mb a t [(⟨1, 5, 9⟩ : Rw)]) :
    Calls Try.prog 35 #[.pointer (some ⟨tb, 0, none⟩), .int .i64 2, .int .u64 3, .int .u64 20] z fun e w' => e = .returned (.int .i64 0) ∧ ∃ t', OT w w' tb mb a t' [(⟨1, 5, 9⟩ : Rw), (⟨2, 3, 20⟩ : Rw)] := e_seto tb mb a t [(⟨1, 5, 9⟩ : Rw)] (⟨2, 3, 20⟩ : Rw) z h (show (Lit.int .i64 2).wf = true by decide) (by simp)
theorem e_tl2 {w z : World} {tb mb a : Nat} {t : Tr} (h : OT w z tb mb a t [(⟨1, 5, 9⟩ : Rw), (⟨2, 3, 20⟩ : Rw)]) : tl t = [⟨3, 2, 20, 2⟩, ⟨5, 1, 9, 1⟩] := ss_same _ _ h.tbl.tr.ss (by unfold SS; decide) fun x => by
  rw [h.tbl.tm x]
  constructor
  · rintro ⟨r, hr, rfl⟩
    rcases List.mem_cons.1 hr with rfl | hr
    · simp [Rw.it]
    · rcases List.mem_cons.1 hr with rfl | hr
      · simp [Rw.it]
      · simp at hr
  · intro hx
    rcases List.mem_cons.1 hx with rfl | hx
    · exact ⟨(⟨2, 3, 20⟩ : Rw), by simp, rfl⟩
    · rcases List.mem_cons.1 hx with rfl | hx
      · exact ⟨(⟨1, 5, 9⟩ : Rw), by simp, rfl⟩
      · simp at hx
theorem e_ne2 {w z : World} {tb mb a : Nat} {t : Tr} (h : OT w z tb mb a t [(⟨1, 5, 9⟩ : Rw), (⟨2, 3, 20⟩ : Rw)]) : isN t = false ∧ lst t = ⟨3, 2, 20, 2⟩ := by
  have h1 := e_tl2 h
  cases hn : isN t with
  | true => have := isN_nil hn; subst this; simp [tl] at h1
  | false =>
    obtain ⟨L', hL⟩ := lst_hd t hn
    rw [h1] at hL
    injection hL with h2 h3
    exact ⟨rfl, h2.symm⟩
theorem e_n2 {w : World} (tb mb a : Nat) (t : Tr) (z : World) (h : OT w z tb mb a t [(⟨1, 5, 9⟩ : Rw), (⟨2, 3, 20⟩ : Rw)]) : Calls Try.prog 42 #[.pointer (some ⟨tb, 0, none⟩)] z fun ee w' => ee = .returned (.int .i64 2) ∧ Below z.heap.size z w' := e_len_c tb mb a t [(⟨1, 5, 9⟩ : Rw), (⟨2, 3, 20⟩ : Rw)] z h.tbl
theorem e_p4_b : belL 4 ([⟨3, 2, 20, 2⟩, ⟨5, 1, 9, 1⟩] : List It) = some ⟨3, 2, 20, 2⟩ := by
  refine Mn.uniq (bel_mn 4 _ (by unfold SS; decide)) ⟨by simp, by decide, by decide⟩
theorem e_p4 {w : World} (tb mb a : Nat) (t : Tr) (z : World) (h : OT w z tb mb a t [(⟨1, 5, 9⟩ : Rw), (⟨2, 3, 20⟩ : Rw)]) : Calls Try.prog 39 #[.pointer (some ⟨tb, 0, none⟩), .int .u64 4] z fun ee w' => ee = .returned (.tuple #[.int .i64 2, .bool true]) ∧ Below z.heap.size z w' := by
  have h1 := e_pick_c tb mb a t _ 4 z h.tbl
  rw [e_tl2 h, show mnn 4 9223372036854775807 = 4 from rfl, e_p4_b] at h1
  exact h1
theorem e_p5_b : belL 5 ([⟨3, 2, 20, 2⟩, ⟨5, 1, 9, 1⟩] : List It) = some ⟨5, 1, 9, 1⟩ := by
  refine Mn.uniq (bel_mn 5 _ (by unfold SS; decide)) ⟨by simp, by decide, by decide⟩
theorem e_p5 {w : World} (tb mb a : Nat) (t : Tr) (z : World) (h : OT w z tb mb a t [(⟨1, 5, 9⟩ : Rw), (⟨2, 3, 20⟩ : Rw)]) : Calls Try.prog 39 #[.pointer (some ⟨tb, 0, none⟩), .int .u64 5] z fun ee w' => ee = .returned (.tuple #[.int .i64 1, .bool true]) ∧ Below z.heap.size z w' := by
  have h1 := e_pick_c tb mb a t _ 5 z h.tbl
  rw [e_tl2 h, show mnn 5 9223372036854775807 = 5 from rfl, e_p5_b] at h1
  exact h1
theorem e_p2_b : belL 2 ([⟨3, 2, 20, 2⟩, ⟨5, 1, 9, 1⟩] : List It) = none := by
  refine Mn.uniq (bel_mn 2 _ (by unfold SS; decide)) (by show ∀ x ∈ _, _; decide)
theorem e_p2 {w : World} (tb mb a : Nat) (t : Tr) (z : World) (h : OT w z tb mb a t [(⟨1, 5, 9⟩ : Rw), (⟨2, 3, 20⟩ : Rw)]) : Calls Try.prog 39 #[.pointer (some ⟨tb, 0, none⟩), .int .u64 2] z fun ee w' => ee = .returned (.tuple #[.int .i64 0, .bool false]) ∧ Below z.heap.size z w' := by
  have h1 := e_pick_c tb mb a t _ 2 z h.tbl
  rw [e_tl2 h, show mnn 2 9223372036854775807 = 2 from rfl, e_p2_b] at h1
  exact h1
theorem e_x2 {w : World} (tb mb a : Nat) (t : Tr) (z : World) (h : OT w z tb mb a t [(⟨1, 5, 9⟩ : Rw), (⟨2, 3, 20⟩ : Rw)]) : Calls Try.prog 41 #[.pointer (some ⟨tb, 0, none⟩)] z fun ee w' => ee = .returned (.int .u64 3) ∧ Below z.heap.size z w' := by
  have h1 := e_next_c tb mb a t _ z h.tbl
  rw [(e_ne2 h).1, (e_ne2 h).2] at h1
  exact h1
set_option maxHeartbeats 8000000 in
theorem e_two_c (w : World) : Calls Try.prog 30 #[] w fun ee w' => ee = .returned (.bool true) ∧ Below w.heap.size w w' := by
  go_enter Try.func30, Try.ntmps30
  go_wp2_with (first | (go_at_call 31; (with_reducible refine (e_new_c w).mono ?_); rintro _ wk ⟨tb, mb, a, rfl, hO⟩; have HS := Lib.hid hO; clear hO) | (go_at_call 35; first | ((with_reducible refine (e_s1 tb mb a _ _ (HS.out.step (by (repeat' (first | assumption | exact Below.refl _ _ | refine Below.setCell ?_ (by first | (simp; done) | omega | (simp; omega)) _ | refine Below.alloc ?_ (by first | (simp; done) | omega | (simp; omega)) _ | refine Below.drew ?_ | refine below_drewN ?_ _))))).mono ?_); rintro _ wk ⟨rfl, t1, hO⟩; have HS := Lib.hid hO; clear hO) | ((with_reducible refine (e_s2 tb mb a _ _ (HS.out.step (by (repeat' (first | assumption | exact Below.refl _ _ | refine Below.setCell ?_ (by first | (simp; done) | omega | (simp; omega)) _ | refine Below.alloc ?_ (by first | (simp; done) | omega | (simp; omega)) _ | refine Below.drew ?_ | refine below_drewN ?_ _))))).mono ?_); rintro _ wk ⟨rfl, t2, hO⟩; have HS := Lib.hid hO; clear hO)) | (go_at_call 39; (with_reducible refine (e_p4 tb mb a _ _ (HS.out.step (by (repeat' (first | assumption | exact Below.refl _ _ | refine Below.setCell ?_ (by first | (simp; done) | omega | (simp; omega)) _ | refine Below.alloc ?_ (by first | (simp; done) | omega | (simp; omega)) _ | refine Below.drew ?_ | refine below_drewN ?_ _))))).mono ?_); rintro _ wk ⟨rfl, hbel⟩; have HS := Lib.hid ((HS.out.step (by (repeat' (first | assumption | exact Below.refl _ _ | refine Below.setCell ?_ (by first | (simp; done) | omega | (simp; omega)) _ | refine Below.alloc ?_ (by first | (simp; done) | omega | (simp; omega)) _ | refine Below.drew ?_ | refine below_drewN ?_ _)))).step hbel); clear hbel) | (go_at_call 39; (with_reducible refine (e_p5 tb mb a _ _ (HS.out.step (by (repeat' (first | assumption | exact Below.refl _ _ | refine Below.setCell ?_ (by first | (simp; done) | omega | (simp; omega)) _ | refine Below.alloc ?_ (by first | (simp; done) | omega | (simp; omega)) _ | refine Below.drew ?_ | refine below_drewN ?_ _))))).mono ?_); rintro _ wk ⟨rfl, hbel⟩; have HS := Lib.hid ((HS.out.step (by (repeat' (first | assumption | exact Below.refl _ _ | refine Below.setCell ?_ (by first | (simp; done) | omega | (simp; omega)) _ | refine Below.alloc ?_ (by first | (simp; done) | omega | (simp; omega)) _ | refine Below.drew ?_ | refine below_drewN ?_ _)))).step hbel); clear hbel) | (go_at_call 39; (with_reducible refine (e_p2 tb mb a _ _ (HS.out.step (by (repeat' (first | assumption | exact Below.refl _ _ | refine Below.setCell ?_ (by first | (simp; done) | omega | (simp; omega)) _ | refine Below.alloc ?_ (by first | (simp; done) | omega | (simp; omega)) _ | refine Below.drew ?_ | refine below_drewN ?_ _))))).mono ?_); rintro _ wk ⟨rfl, hbel⟩; have HS := Lib.hid ((HS.out.step (by (repeat' (first | assumption | exact Below.refl _ _ | refine Below.setCell ?_ (by first | (simp; done) | omega | (simp; omega)) _ | refine Below.alloc ?_ (by first | (simp; done) | omega | (simp; omega)) _ | refine Below.drew ?_ | refine below_drewN ?_ _)))).step hbel); clear hbel) | (go_at_call 42; (with_reducible refine (e_n2 tb mb a _ _ (HS.out.step (by (repeat' (first | assumption | exact Below.refl _ _ | refine Below.setCell ?_ (by first | (simp; done) | omega | (simp; omega)) _ | refine Below.alloc ?_ (by first | (simp; done) | omega | (simp; omega)) _ | refine Below.drew ?_ | refine below_drewN ?_ _))))).mono ?_); rintro _ wk ⟨rfl, hbel⟩; have HS := Lib.hid ((HS.out.step (by (repeat' (first | assumption | exact Below.refl _ _ | refine Below.setCell ?_ (by first | (simp; done) | omega | (simp; omega)) _ | refine Below.alloc ?_ (by first | (simp; done) | omega | (simp; omega)) _ | refine Below.drew ?_ | refine below_drewN ?_ _)))).step hbel); clear hbel) | (go_at_call 41; (with_reducible refine (e_x2 tb mb a _ _ (HS.out.step (by (repeat' (first | assumption | exact Below.refl _ _ | refine Below.setCell ?_ (by first | (simp; done) | omega | (simp; omega)) _ | refine Below.alloc ?_ (by first | (simp; done) | omega | (simp; omega)) _ | refine Below.drew ?_ | refine below_drewN ?_ _))))).mono ?_); rintro _ wk ⟨rfl, hbel⟩; have HS := Lib.hid ((HS.out.step (by (repeat' (first | assumption | exact Below.refl _ _ | refine Below.setCell ?_ (by first | (simp; done) | omega | (simp; omega)) _ | refine Below.alloc ?_ (by first | (simp; done) | omega | (simp; omega)) _ | refine Below.drew ?_ | refine below_drewN ?_ _)))).step hbel); clear hbel))
  go_ret
  exact ⟨rfl, HS.out.hb⟩
set_option maxHeartbeats 8000000 in
theorem eltreeNil_law (a0 a1 a2 a3 a4 : Int) (h0 : (Lit.int .i64 a0).wf = true) (h1 : (Lit.int .i64 a1).wf = true) (h2 : (Lit.int .u64 a2).wf = true) (h3 : (Lit.int .u64 a3).wf = true) (h4 : (Lit.int .u64 a4).wf = true) (w : World) :
    Calls Try.prog 8 #[.agg #[.int .i64 a0, .int .i64 a1, .int .u64 a2, .int .u64 a3, .int .u64 a4]] w fun ee w' => ee = .returned (.bool true) ∧ Below w.heap.size w w' := by
  clear h0 h1 h2 h3 h4
  go_enter Try.func8, Try.ntmps8
  go_wp2_with (first | (go_at_call 37; ((with_reducible refine (e_get0 a1 _).mono ?_); rintro e w1 ⟨rfl, hbel⟩; obtain ⟨hcc, hff⟩ := bcell hbel; have hsz := hbel.size; (try simp at hsz); have hF : (w1.cell? ⟨w.heap.size, 1, none⟩ = some (.int .i64 a1) ∧ w1.cell? ⟨w.heap.size, 2, none⟩ = some (.int .u64 a2) ∧ w1.cell? ⟨w.heap.size, 3, none⟩ = some (.int .u64 a3) ∧ w1.cell? ⟨w.heap.size, 4, none⟩ = some (.int .u64 a4) ∧ w.heap.size < w1.heap.size) ∧ Below w.heap.size w w1 := (by ((repeat' apply And.intro) <;> first | (simp [go_sem, *]; done) | omega | (repeat' (first | with_reducible exact Below.refl _ _ | with_reducible assumption | ((with_reducible refine Below.drew ?_)) | ((with_reducible refine below_drewN ?_ _)) | ((with_reducible refine Below.alloc ?_ ?_ _); rotate_left; focus (first | omega | (simp; done) | (simp; omega))) | ((with_reducible refine Below.setCell ?_ ?_ _); rotate_left; focus (first | omega | (simp; done) | (simp; omega))) | ((with_reducible refine Below.trans ?_ (Below.mono (by with_reducible assumption) ?_)); rotate_left; focus (first | omega | (simp; done) | (simp; omega))))))); go_split_ands; clear hcc hff hbel)) | (go_at_call 39; ((with_reducible refine (e_pick0 a4 _).mono ?_); rintro e w2 ⟨rfl, hbel⟩; obtain ⟨hcc, hff⟩ := bcell hbel; have hsz := hbel.size; (try simp at hsz); have hF : (w2.cell? ⟨w.heap.size, 1, none⟩ = some (.int .i64 a1) ∧ w2.cell? ⟨w.heap.size, 2, none⟩ = some (.int .u64 a2) ∧ w2.cell? ⟨w.heap.size, 3, none⟩ = some (.int .u64 a3) ∧ w2.cell? ⟨w.heap.size, 4, none⟩ = some (.int .u64 a4) ∧ w.heap.size < w2.heap.size) ∧ Below w.heap.size w w2 := (by ((repeat' apply And.intro) <;> first | (simp [go_sem, *]; done) | omega | (repeat' (first | with_reducible exact Below.refl _ _ | with_reducible assumption | ((with_reducible refine Below.drew ?_)) | ((with_reducible refine below_drewN ?_ _)) | ((with_reducible refine Below.alloc ?_ ?_ _); rotate_left; focus (first | omega | (simp; done) | (simp; omega))) | ((with_reducible refine Below.setCell ?_ ?_ _); rotate_left; focus (first | omega | (simp; done) | (simp; omega))) | ((with_reducible refine Below.trans ?_ (Below.mono (by with_reducible assumption) ?_)); rotate_left; focus (first | omega | (simp; done) | (simp; omega))))))); go_split_ands; clear hcc hff hbel)) | (go_at_call 35; ((with_reducible refine (e_set0 a1 a2 a3 _).mono ?_); rintro e w4 ⟨rfl, hbel⟩; obtain ⟨hcc, hff⟩ := bcell hbel; have hsz := hbel.size; (try simp at hsz); have hF : (w4.cell? ⟨w.heap.size, 1, none⟩ = some (.int .i64 a1) ∧ w4.cell? ⟨w.heap.size, 2, none⟩ = some (.int .u64 a2) ∧ w4.cell? ⟨w.heap.size, 3, none⟩ = some (.int .u64 a3) ∧ w4.cell? ⟨w.heap.size, 4, none⟩ = some (.int .u64 a4) ∧ w.heap.size < w4.heap.size) ∧ Below w.heap.size w w4 := (by ((repeat' apply And.intro) <;> first | (simp [go_sem, *]; done) | omega | (repeat' (first | with_reducible exact Below.refl _ _ | with_reducible assumption | ((with_reducible refine Below.drew ?_)) | ((with_reducible refine below_drewN ?_ _)) | ((with_reducible refine Below.alloc ?_ ?_ _); rotate_left; focus (first | omega | (simp; done) | (simp; omega))) | ((with_reducible refine Below.setCell ?_ ?_ _); rotate_left; focus (first | omega | (simp; done) | (simp; omega))) | ((with_reducible refine Below.trans ?_ (Below.mono (by with_reducible assumption) ?_)); rotate_left; focus (first | omega | (simp; done) | (simp; omega))))))); go_split_ands; clear hcc hff hbel)) | (go_at_call 33; ((with_reducible refine (e_drop0 a1 _).mono ?_); rintro e w5 ⟨rfl, hbel⟩; obtain ⟨hcc, hff⟩ := bcell hbel; have hsz := hbel.size; (try simp at hsz); have hF : (w5.cell? ⟨w.heap.size, 1, none⟩ = some (.int .i64 a1) ∧ w5.cell? ⟨w.heap.size, 2, none⟩ = some (.int .u64 a2) ∧ w5.cell? ⟨w.heap.size, 3, none⟩ = some (.int .u64 a3) ∧ w5.cell? ⟨w.heap.size, 4, none⟩ = some (.int .u64 a4) ∧ w.heap.size < w5.heap.size) ∧ Below w.heap.size w w5 := (by ((repeat' apply And.intro) <;> first | (simp [go_sem, *]; done) | omega | (repeat' (first | with_reducible exact Below.refl _ _ | with_reducible assumption | ((with_reducible refine Below.drew ?_)) | ((with_reducible refine below_drewN ?_ _)) | ((with_reducible refine Below.alloc ?_ ?_ _); rotate_left; focus (first | omega | (simp; done) | (simp; omega))) | ((with_reducible refine Below.setCell ?_ ?_ _); rotate_left; focus (first | omega | (simp; done) | (simp; omega))) | ((with_reducible refine Below.trans ?_ (Below.mono (by with_reducible assumption) ?_)); rotate_left; focus (first | omega | (simp; done) | (simp; omega))))))); go_split_ands; clear hcc hff hbel)) | (go_at_call 41; ((with_reducible refine (e_next0 _).mono ?_); rintro e w6 ⟨rfl, hbel⟩; obtain ⟨hcc, hff⟩ := bcell hbel; have hsz := hbel.size; (try simp at hsz); have hF : (w6.cell? ⟨w.heap.size, 1, none⟩ = some (.int .i64 a1) ∧ w6.cell? ⟨w.heap.size, 2, none⟩ = some (.int .u64 a2) ∧ w6.cell? ⟨w.heap.size, 3, none⟩ = some (.int .u64 a3) ∧ w6.cell? ⟨w.heap.size, 4, none⟩ = some (.int .u64 a4) ∧ w.heap.size < w6.heap.size) ∧ Below w.heap.size w w6 := (by ((repeat' apply And.intro) <;> first | (simp [go_sem, *]; done) | omega | (repeat' (first | with_reducible exact Below.refl _ _ | with_reducible assumption | ((with_reducible refine Below.drew ?_)) | ((with_reducible refine below_drewN ?_ _)) | ((with_reducible refine Below.alloc ?_ ?_ _); rotate_left; focus (first | omega | (simp; done) | (simp; omega))) | ((with_reducible refine Below.setCell ?_ ?_ _); rotate_left; focus (first | omega | (simp; done) | (simp; omega))) | ((with_reducible refine Below.trans ?_ (Below.mono (by with_reducible assumption) ?_)); rotate_left; focus (first | omega | (simp; done) | (simp; omega))))))); go_split_ands; clear hcc hff hbel)) | (go_at_call 42; ((with_reducible refine (e_len0 _).mono ?_); rintro e w7 ⟨rfl, hbel⟩; obtain ⟨hcc, hff⟩ := bcell hbel; have hsz := hbel.size; (try simp at hsz); have hF : (w7.cell? ⟨w.heap.size, 1, none⟩ = some (.int .i64 a1) ∧ w7.cell? ⟨w.heap.size, 2, none⟩ = some (.int .u64 a2) ∧ w7.cell? ⟨w.heap.size, 3, none⟩ = some (.int .u64 a3) ∧ w7.cell? ⟨w.heap.size, 4, none⟩ = some (.int .u64 a4) ∧ w.heap.size < w7.heap.size) ∧ Below w.heap.size w w7 := (by ((repeat' apply And.intro) <;> first | (simp [go_sem, *]; done) | omega | (repeat' (first | with_reducible exact Below.refl _ _ | with_reducible assumption | ((with_reducible refine Below.drew ?_)) | ((with_reducible refine below_drewN ?_ _)) | ((with_reducible refine Below.alloc ?_ ?_ _); rotate_left; focus (first | omega | (simp; done) | (simp; omega))) | ((with_reducible refine Below.setCell ?_ ?_ _); rotate_left; focus (first | omega | (simp; done) | (simp; omega))) | ((with_reducible refine Below.trans ?_ (Below.mono (by with_reducible assumption) ?_)); rotate_left; focus (first | omega | (simp; done) | (simp; omega))))))); go_split_ands; clear hcc hff hbel)) | (go_at_call 40; ((with_reducible refine (e_ids0 _).mono ?_); rintro e w8 ⟨rfl, hbel⟩; obtain ⟨hcc, hff⟩ := bcell hbel; have hsz := hbel.size; (try simp at hsz); have hF : (w8.cell? ⟨w.heap.size, 1, none⟩ = some (.int .i64 a1) ∧ w8.cell? ⟨w.heap.size, 2, none⟩ = some (.int .u64 a2) ∧ w8.cell? ⟨w.heap.size, 3, none⟩ = some (.int .u64 a3) ∧ w8.cell? ⟨w.heap.size, 4, none⟩ = some (.int .u64 a4) ∧ w.heap.size < w8.heap.size) ∧ Below w.heap.size w w8 := (by ((repeat' apply And.intro) <;> first | (simp [go_sem, *]; done) | omega | (repeat' (first | with_reducible exact Below.refl _ _ | with_reducible assumption | ((with_reducible refine Below.drew ?_)) | ((with_reducible refine below_drewN ?_ _)) | ((with_reducible refine Below.alloc ?_ ?_ _); rotate_left; focus (first | omega | (simp; done) | (simp; omega))) | ((with_reducible refine Below.setCell ?_ ?_ _); rotate_left; focus (first | omega | (simp; done) | (simp; omega))) | ((with_reducible refine Below.trans ?_ (Below.mono (by with_reducible assumption) ?_)); rotate_left; focus (first | omega | (simp; done) | (simp; omega))))))); go_split_ands; clear hcc hff hbel)) | (go_at_call 30; ((with_reducible refine (e_two_c _).mono ?_); rintro e w9 ⟨rfl, hbel⟩; obtain ⟨hcc, hff⟩ := bcell hbel; have hsz := hbel.size; (try simp at hsz); have hF : Below w.heap.size w w9 := (by ((repeat' apply And.intro) <;> first | (simp [go_sem, *]; done) | omega | (repeat' (first | with_reducible exact Below.refl _ _ | with_reducible assumption | ((with_reducible refine Below.drew ?_)) | ((with_reducible refine below_drewN ?_ _)) | ((with_reducible refine Below.alloc ?_ ?_ _); rotate_left; focus (first | omega | (simp; done) | (simp; omega))) | ((with_reducible refine Below.setCell ?_ ?_ _); rotate_left; focus (first | omega | (simp; done) | (simp; omega))) | ((with_reducible refine Below.trans ?_ (Below.mono (by with_reducible assumption) ?_)); rotate_left; focus (first | omega | (simp; done) | (simp; omega))))))); go_split_ands; clear hcc hff hbel)))
  go_ret
  exact ⟨rfl, by with_reducible assumption⟩
end Go.Proofs.Ytikmdkmejbcmmaa
