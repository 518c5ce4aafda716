/- AdmitRoom. -/
import Derived.Test.YtpabidiggehmnaaAd8
namespace Go.Proofs.Ytpabidiggehmnaa
set_option linter.unusedVariables false
set_option linter.unusedSimpArgs false
set_option maxRecDepth 100000
open Go.RowKit Fg Reg Go.Sort
attribute [local irreducible] Reg.wE Holds QS

theorem roomA_out (T : Int) (a : Option Addr) (n c : Nat) (hn : 64 < n) (w : World) : Calls Try.prog 10 #[.int .i64 T, .slice a n c] w fun e w' => e = .returned (.bool true) ∧ Below w.heap.size w w' := by
  have K7 := Lib.hid whole_c
  have d1 : decide (64 < (n : Int)) = true := by simp; omega
  go_enter Try.func10, Try.ntmps10
  go_wp2_with (go_at_call 23; ((with_reducible refine (K7.out _).mono ?_); rintro e w7 ⟨rfl, hbel⟩; obtain ⟨hcc, hff⟩ := bcell hbel; have hsz := hbel.size; (try simp at hsz); have hF : Below w.heap.size w w7 := (by ((repeat' apply And.intro) <;> first | (simp [go_sem, *]; done) | omega | (repeat' (first | with_reducible exact Below.refl _ _ | with_reducible assumption | ((with_reducible refine Below.drew ?_)) | ((with_reducible refine below_drewN ?_ _)) | ((with_reducible refine Below.alloc ?_ ?_ _); rotate_left; focus (first | omega | (simp; done) | (simp; omega))) | ((with_reducible refine Below.setCell ?_ ?_ _); rotate_left; focus (first | omega | (simp; done) | (simp; omega))) | ((with_reducible refine Below.trans ?_ (Below.mono (by with_reducible assumption) ?_)); rotate_left; focus (first | omega | (simp; done) | (simp; omega))))))); go_split_ands; clear hcc hff hbel))
  (go_ret; refine ⟨?_, ?_⟩; (focus (exact rfl)); ((repeat' (first | with_reducible exact Below.refl _ _ | with_reducible assumption | ((with_reducible refine Below.drew ?_)) | ((with_reducible refine below_drewN ?_ _)) | ((with_reducible refine Below.alloc ?_ ?_ _); rotate_left; focus (first | omega | (simp; done) | (simp; omega))) | ((with_reducible refine Below.setCell ?_ ?_ _); rotate_left; focus (first | omega | (simp; done) | (simp; omega))) | ((with_reducible refine Below.trans ?_ (Below.mono (by with_reducible assumption) ?_)); rotate_left; focus (first | omega | (simp; done) | (simp; omega))))); done))
theorem ok_lin {l : List Cv} (hok : (∀ k (h : k < l.length), l[k].ok)) {n : Int} (h0 : 0 ≤ n) (h1 : n ≤ 65537) : ∀ k (h : k < (l ++ [linc n]).length), (l ++ [linc n])[k].ok := fun k hk => by
  by_cases h : k < l.length
  · rw [List.getElem_append_left h]; exact hok k h
  · rw [List.getElem_append_right (by omega)]
    simp only [List.getElem_singleton]
    exact ⟨by unfold In; show 0 ≤ n ∧ n ≤ _; omega, by unfold In; show (0 : Int) ≤ 0 ∧ (0 : Int) ≤ _; omega, by unfold In; show 0 ≤ n ∧ n ≤ _; omega⟩
set_option maxHeartbeats 8000000 in
theorem roomA_in (T : Int) (l : List Cv) (a : Option Addr) (c : Nat) (hn : l.length ≤ 64) (hok : (∀ k (h : k < l.length), l[k].ok)) (hnone : a = none → c = 0) (w : World) (hR : RwV Cv.cells 3 w a l) :
    Calls Try.prog 10 #[.int .i64 T, .slice a l.length c] w fun e w' => e = .returned (.bool true) ∧ Below w.heap.size w w' := by
  have K7 := Lib.hid whole_c
  have D1 : decide (64 < (l.length : Int)) = false := decide_eq_false (by omega)
  have hmem : ∀ cv ∈ l, cv.ok := fun cv hcv => by
    obtain ⟨j, hj, rfl⟩ := List.getElem_of_mem hcv
    exact hok j hj
  have k1 := fun (z : World) (hz : Below w.heap.size w z) => room_c T l a c (by omega) hok z (hR.below hz)
  have k2 := fun (z : World) (hz : Below w.heap.size w z) => rfits_c T l a c (by omega) hok z (hR.below hz)
  by_cases hf : fitr T l = 0
  · rw [hf] at k2
    rw [if_pos hf, hf] at k1
    have hA := fit_adm.1 hf
    obtain ⟨r0, r1, r2, r3⟩ := room_facts hmem hA
    have r2' := fit_adm.2 r2
    generalize room T l (kns l) = R at *
    have k3 := fun (a2 : Option Addr) (c2 : Nat) (z : World) (h2 : RwV Cv.cells 3 z a2 (l ++ [linc R])) => fits_c T (l ++ [linc R]) a2 c2 (by rw [List.length_append, List.length_singleton]; omega) (ok_lin hok r0 (by omega)) z h2
    have k4 := fun (a2 : Option Addr) (c2 : Nat) (z : World) (h2 : RwV Cv.cells 3 z a2 (l ++ [linc (R + 1)])) => fits_c T (l ++ [linc (R + 1)]) a2 c2 (by rw [List.length_append, List.length_singleton]; omega) (ok_lin hok (by omega) (by omega)) z h2
    rw [r2'] at k3
    rw [r3] at k4
    have W1 : IntKind.u64.wrap (R + 1) = R + 1 := by rw [IntKind.wrap_u64]; omega
    have D2 : decide (R ≤ 65536) = true := decide_eq_true r1
    obtain ⟨ic, ci0, cz0, cz1, cz2⟩ := cv_parts
    have CI0 := Lib.hid ci0
    have CZ0 := Lib.hid cz0
    have CZ1 := Lib.hid cz1
    have CZ2 := Lib.hid cz2
    have HR := Lib.hid hR
    have K1 := Lib.hid k1
    have K2 := Lib.hid k2
    have K3 := Lib.hid k3
    have K4 := Lib.hid k4
    clear k1 k2 k3 k4 ci0 cz0 cz1 cz2 hR hok hmem hf hA r2 r3 r2'
    go_enter Try.func10, Try.ntmps10
    go_wp2_with (first
      | go_guarded
      | (go_at_call 29; ((with_reducible refine (K1.out _ (by repeat' (first | with_reducible exact Below.refl _ _ | with_reducible assumption | ((with_reducible refine Below.drew ?_)) | ((with_reducible refine below_drewN ?_ _)) | ((with_reducible refine Below.alloc ?_ ?_ _); rotate_left; focus (first | omega | (simp; done) | (simp; omega))) | ((with_reducible refine Below.setCell ?_ ?_ _); rotate_left; focus (first | omega | (simp; done) | (simp; omega))) | ((with_reducible refine Below.trans ?_ (Below.mono (by with_reducible assumption) ?_)); rotate_left; focus (first | omega | (simp; done) | (simp; omega)))))).mono ?_); rintro e w1 ⟨rfl, hbel⟩; (have hb1 : Below w.heap.size w w1 := (by repeat' (first | with_reducible exact Below.refl _ _ | with_reducible assumption | ((with_reducible refine Below.drew ?_)) | ((with_reducible refine below_drewN ?_ _)) | ((with_reducible refine Below.alloc ?_ ?_ _); rotate_left; focus (first | omega | (simp; done) | (simp; omega))) | ((with_reducible refine Below.setCell ?_ ?_ _); rotate_left; focus (first | omega | (simp; done) | (simp; omega))) | ((with_reducible refine Below.trans ?_ (Below.mono (by with_reducible assumption) ?_)); rotate_left; focus (first | omega | (simp; done) | (simp; omega)))))); (have hs1 := hb1.size); clear hbel))
      | (go_at_call 27; ((with_reducible refine (K2.out _ hb1).mono ?_); rintro e w2 ⟨rfl, hbel⟩; (have hb2 : Below w.heap.size w w2 := hb1.trans (Below.mono hbel hs1)); (have hs2 := hb2.size); clear hbel))
      | ((at_builtin; refine wpList_append_rows rfl _ _ 22 rfl (w2).heap.size 56 ic (.agg #[.int .u64 0, .int .u64 0, .int .u64 0]) 3 24 Try.underlying22 CI0.out CZ0.out CZ1.out CZ2.out rfl (by decide) (.slice none 0 0) 0 [] rfl (World.ownsRow_nil _ _ _ _) cvC l a c rfl (HR.out.below hb2) hnone (by unfold maxLen; omega) (by omega) (Nat.le_refl _) ?_; intro v3 w3 hown3 hg3); (have hb3 : Below w2.heap.size w2 w3 := (Only.of_grown (B := w2.heap.size) hg3 (fun k hk => by simp [Value.ownBlock] at hk)).below (Below.refl _ _) (Nat.le_refl _) (fun k hk => hk)); (have hs3 := hb3.size); clear hg3)
      | ((at_builtin; refine wpList_append_own _ rfl _ _ 22 rfl (w2).heap.size 56 ic (.agg #[.int .u64 0, .int .u64 0, .int .u64 0]) 3 24 Try.underlying22 CI0.out CZ0.out CZ1.out CZ2.out rfl (by decide) v3 _ _ rfl (World.ownsRow.alloc (hown3) _) ⟨_, 0, none⟩ 1 1 (Cv.cells (linc (R))) rfl rfl ?c1 ?c2 ?c3 ?c4 ?c5 ?_; (case c1 => (intro j u hu; unfold Cv.cells linc at hu; rcases j with _ | _ | _ | j <;> simp at hu <;> (try subst hu) <;> simp [Addr.add, go_sem])); (case c2 => (exact cvC.one _)); (case c3 => (unfold maxLen; omega)); (case c4 => omega); (case c5 => (simp; omega)); intro v4 w4 hown4 hg4 _); (have hb4 : Below w2.heap.size w2 w4 := (Only.of_grown (B := w2.heap.size) hg4 (fun k hk => (hown3.lt k hk).1)).below (Below.alloc hb3 hs3 _) (by simp; omega) (fun k hk => hk)); (have hb4w : Below w.heap.size w w4 := hb2.trans (Below.mono hb4 hs2)); clear hg4)
      | ((at_builtin; refine wpList_append_rows rfl _ _ 22 rfl (w4).heap.size 56 ic (.agg #[.int .u64 0, .int .u64 0, .int .u64 0]) 3 24 Try.underlying22 CI0.out CZ0.out CZ1.out CZ2.out rfl (by decide) (.slice none 0 0) 0 [] rfl (World.ownsRow_nil _ _ _ _) cvC l a c rfl (HR.out.below hb4w) hnone (by unfold maxLen; omega) (by omega) (Nat.le_refl _) ?_; intro v5 w5 hown5 hg5); (have hb5 : Below w4.heap.size w4 w5 := (Only.of_grown (B := w4.heap.size) hg5 (fun k hk => by simp [Value.ownBlock] at hk)).below (Below.refl _ _) (Nat.le_refl _) (fun k hk => hk)); (have hs5 := hb5.size); clear hg5)
      | ((at_builtin; refine wpList_append_own _ rfl _ _ 22 rfl (w4).heap.size 56 ic (.agg #[.int .u64 0, .int .u64 0, .int .u64 0]) 3 24 Try.underlying22 CI0.out CZ0.out CZ1.out CZ2.out rfl (by decide) v5 _ _ rfl (World.ownsRow.alloc (hown5) _) ⟨_, 0, none⟩ 1 1 (Cv.cells (linc ((R + 1)))) rfl rfl ?c1 ?c2 ?c3 ?c4 ?c5 ?_; (case c1 => (intro j u hu; unfold Cv.cells linc at hu; rcases j with _ | _ | _ | j <;> simp at hu <;> (try subst hu) <;> simp [Addr.add, go_sem])); (case c2 => (exact cvC.one _)); (case c3 => (unfold maxLen; omega)); (case c4 => omega); (case c5 => (simp; omega)); intro v6 w6 hown6 hg6 _); (have hb6 : Below w4.heap.size w4 w6 := (Only.of_grown (B := w4.heap.size) hg6 (fun k hk => (hown5.lt k hk).1)).below (Below.alloc hb5 hs5 _) (by simp; omega) (fun k hk => hk)); (have hb6w : Below w.heap.size w w6 := hb4w.trans (Below.mono hb6 hb4w.size)); clear hg6))
    have hl1 : ∀ x, (l ++ [linc x]).length = l.length + 1 := fun x => by rw [List.length_append, List.length_singleton]
    have o4 : w4.ownsRow w2.heap.size 56 3 v4 (l ++ [linc R]).length ((l ++ [linc R]).flatMap Cv.cells) := by
      rw [hl1, List.flatMap_append, List.flatMap_singleton]
      simpa using hown4
    have o6 : w6.ownsRow w4.heap.size 56 3 v6 (l ++ [linc (R + 1)]).length ((l ++ [linc (R + 1)]).flatMap Cv.cells) := by
      rw [hl1, List.flatMap_append, List.flatMap_singleton]
      simpa using hown6
    obtain ⟨a4, c4, rfl, hr4, -, -, -⟩ := RwV.of_own cvC o4
    obtain ⟨a6, c6, rfl, hr6, -, -, -⟩ := RwV.of_own cvC o6
    have hs6 := hb6w.size
    have K33 := Lib.hid (fun (z : World) (hz : Below w6.heap.size w6 z) => K3.out a4 c4 z ((hr4.below hb6).below hz))
    have K44 := Lib.hid (fun (z : World) (hz : Below w6.heap.size w6 z) => K4.out a6 c6 z (hr6.below hz))
    rw [hl1] at K33 K44 ⊢
    rw [hl1]
    clear o4 o6 hown3 hown4 hown5 hown6 hr4 hr6 hl1 K3 K4
    have hBw : Below w6.heap.size w6 w6 := Below.refl _ _
    go_wp2_with (first
      | go_guarded
      | (go_at_call 26; ((with_reducible refine (K33.out _ (by repeat' (first | with_reducible exact Below.refl _ _ | with_reducible assumption | ((with_reducible refine Below.drew ?_)) | ((with_reducible refine below_drewN ?_ _)) | ((with_reducible refine Below.alloc ?_ ?_ _); rotate_left; focus (first | omega | (simp; done) | (simp; omega))) | ((with_reducible refine Below.setCell ?_ ?_ _); rotate_left; focus (first | omega | (simp; done) | (simp; omega))) | ((with_reducible refine Below.trans ?_ (Below.mono (by with_reducible assumption) ?_)); rotate_left; focus (first | omega | (simp; done) | (simp; omega)))))).mono ?_); rintro e w7 ⟨rfl, hbel⟩; obtain ⟨hcc, hff⟩ := bcell hbel; have hsz := hbel.size; (try simp at hsz); have hF : w6.heap.size ≤ w7.heap.size ∧ Below w6.heap.size w6 w7 ∧ Below w.heap.size w w7 := (by ((repeat' apply And.intro) <;> first | (simp [go_sem, *]; done) | omega | (repeat' (first | with_reducible exact Below.refl _ _ | with_reducible assumption | ((with_reducible refine Below.drew ?_)) | ((with_reducible refine below_drewN ?_ _)) | ((with_reducible refine Below.alloc ?_ ?_ _); rotate_left; focus (first | omega | (simp; done) | (simp; omega))) | ((with_reducible refine Below.setCell ?_ ?_ _); rotate_left; focus (first | omega | (simp; done) | (simp; omega))) | ((with_reducible refine Below.trans ?_ (Below.mono (by with_reducible assumption) ?_)); rotate_left; focus (first | omega | (simp; done) | (simp; omega))))))); go_split_ands; clear hcc hff hbel))
      | (go_at_call 26; ((with_reducible refine (K44.out _ (by repeat' (first | with_reducible exact Below.refl _ _ | with_reducible assumption | ((with_reducible refine Below.drew ?_)) | ((with_reducible refine below_drewN ?_ _)) | ((with_reducible refine Below.alloc ?_ ?_ _); rotate_left; focus (first | omega | (simp; done) | (simp; omega))) | ((with_reducible refine Below.setCell ?_ ?_ _); rotate_left; focus (first | omega | (simp; done) | (simp; omega))) | ((with_reducible refine Below.trans ?_ (Below.mono (by with_reducible assumption) ?_)); rotate_left; focus (first | omega | (simp; done) | (simp; omega)))))).mono ?_); rintro e w8 ⟨rfl, hbel⟩; obtain ⟨hcc, hff⟩ := bcell hbel; have hsz := hbel.size; (try simp at hsz); have hF : w6.heap.size ≤ w8.heap.size ∧ Below w6.heap.size w6 w8 ∧ Below w.heap.size w w8 := (by ((repeat' apply And.intro) <;> first | (simp [go_sem, *]; done) | omega | (repeat' (first | with_reducible exact Below.refl _ _ | with_reducible assumption | ((with_reducible refine Below.drew ?_)) | ((with_reducible refine below_drewN ?_ _)) | ((with_reducible refine Below.alloc ?_ ?_ _); rotate_left; focus (first | omega | (simp; done) | (simp; omega))) | ((with_reducible refine Below.setCell ?_ ?_ _); rotate_left; focus (first | omega | (simp; done) | (simp; omega))) | ((with_reducible refine Below.trans ?_ (Below.mono (by with_reducible assumption) ?_)); rotate_left; focus (first | omega | (simp; done) | (simp; omega))))))); go_split_ands; clear hcc hff hbel))
      | (go_at_call 23; ((with_reducible refine (K7.out _).mono ?_); rintro e w9 ⟨rfl, hbel⟩; obtain ⟨hcc, hff⟩ := bcell hbel; have hsz := hbel.size; (try simp at hsz); have hF : Below w.heap.size w w9 := (by ((repeat' apply And.intro) <;> first | (simp [go_sem, *]; done) | omega | (repeat' (first | with_reducible exact Below.refl _ _ | with_reducible assumption | ((with_reducible refine Below.drew ?_)) | ((with_reducible refine below_drewN ?_ _)) | ((with_reducible refine Below.alloc ?_ ?_ _); rotate_left; focus (first | omega | (simp; done) | (simp; omega))) | ((with_reducible refine Below.setCell ?_ ?_ _); rotate_left; focus (first | omega | (simp; done) | (simp; omega))) | ((with_reducible refine Below.trans ?_ (Below.mono (by with_reducible assumption) ?_)); rotate_left; focus (first | omega | (simp; done) | (simp; omega))))))); go_split_ands; clear hcc hff hbel)))
    (go_ret; refine ⟨?_, ?_⟩; (focus (exact rfl)); ((repeat' (first | with_reducible exact Below.refl _ _ | with_reducible assumption | ((with_reducible refine Below.drew ?_)) | ((with_reducible refine below_drewN ?_ _)) | ((with_reducible refine Below.alloc ?_ ?_ _); rotate_left; focus (first | omega | (simp; done) | (simp; omega))) | ((with_reducible refine Below.setCell ?_ ?_ _); rotate_left; focus (first | omega | (simp; done) | (simp; omega))) | ((with_reducible refine Below.trans ?_ (Below.mono (by with_reducible assumption) ?_)); rotate_left; focus (first | omega | (simp; done) | (simp; omega))))); done))
  · rw [if_neg hf] at k1
    have hfb : (fitr T l == 0) = false := by simpa using hf
    have hfb2 : (fitr T l != 0) = true := by simpa using hf
    generalize fitr T l = F at *
    have hFF : (F == F) = true := by simp
    have K1 := Lib.hid k1
    have K2 := Lib.hid k2
    clear k1 k2 hR hok hmem hf
    go_enter Try.func10, Try.ntmps10
    go_wp2_with (first
      | go_guarded
      | (go_at_call 29; ((with_reducible refine (K1.out _ (by repeat' (first | with_reducible exact Below.refl _ _ | with_reducible assumption | ((with_reducible refine Below.drew ?_)) | ((with_reducible refine below_drewN ?_ _)) | ((with_reducible refine Below.alloc ?_ ?_ _); rotate_left; focus (first | omega | (simp; done) | (simp; omega))) | ((with_reducible refine Below.setCell ?_ ?_ _); rotate_left; focus (first | omega | (simp; done) | (simp; omega))) | ((with_reducible refine Below.trans ?_ (Below.mono (by with_reducible assumption) ?_)); rotate_left; focus (first | omega | (simp; done) | (simp; omega)))))).mono ?_); rintro e w1 ⟨rfl, hbel⟩; obtain ⟨hcc, hff⟩ := bcell hbel; have hsz := hbel.size; (try simp at hsz); have hF : Below w.heap.size w w1 := (by ((repeat' apply And.intro) <;> first | (simp [go_sem, *]; done) | omega | (repeat' (first | with_reducible exact Below.refl _ _ | with_reducible assumption | ((with_reducible refine Below.drew ?_)) | ((with_reducible refine below_drewN ?_ _)) | ((with_reducible refine Below.alloc ?_ ?_ _); rotate_left; focus (first | omega | (simp; done) | (simp; omega))) | ((with_reducible refine Below.setCell ?_ ?_ _); rotate_left; focus (first | omega | (simp; done) | (simp; omega))) | ((with_reducible refine Below.trans ?_ (Below.mono (by with_reducible assumption) ?_)); rotate_left; focus (first | omega | (simp; done) | (simp; omega))))))); go_split_ands; clear hcc hff hbel))
      | (go_at_call 27; ((with_reducible refine (K2.out _ (by repeat' (first | with_reducible exact Below.refl _ _ | with_reducible assumption | ((with_reducible refine Below.drew ?_)) | ((with_reducible refine below_drewN ?_ _)) | ((with_reducible refine Below.alloc ?_ ?_ _); rotate_left; focus (first | omega | (simp; done) | (simp; omega))) | ((with_reducible refine Below.setCell ?_ ?_ _); rotate_left; focus (first | omega | (simp; done) | (simp; omega))) | ((with_reducible refine Below.trans ?_ (Below.mono (by with_reducible assumption) ?_)); rotate_left; focus (first | omega | (simp; done) | (simp; omega)))))).mono ?_); rintro e w2 ⟨rfl, hbel⟩; obtain ⟨hcc, hff⟩ := bcell hbel; have hsz := hbel.size; (try simp at hsz); have hF : Below w.heap.size w w2 := (by ((repeat' apply And.intro) <;> first | (simp [go_sem, *]; done) | omega | (repeat' (first | with_reducible exact Below.refl _ _ | with_reducible assumption | ((with_reducible refine Below.drew ?_)) | ((with_reducible refine below_drewN ?_ _)) | ((with_reducible refine Below.alloc ?_ ?_ _); rotate_left; focus (first | omega | (simp; done) | (simp; omega))) | ((with_reducible refine Below.setCell ?_ ?_ _); rotate_left; focus (first | omega | (simp; done) | (simp; omega))) | ((with_reducible refine Below.trans ?_ (Below.mono (by with_reducible assumption) ?_)); rotate_left; focus (first | omega | (simp; done) | (simp; omega))))))); go_split_ands; clear hcc hff hbel))
      | (go_at_call 23; ((with_reducible refine (K7.out _).mono ?_); rintro e w7 ⟨rfl, hbel⟩; obtain ⟨hcc, hff⟩ := bcell hbel; have hsz := hbel.size; (try simp at hsz); have hF : Below w.heap.size w w7 := (by ((repeat' apply And.intro) <;> first | (simp [go_sem, *]; done) | omega | (repeat' (first | with_reducible exact Below.refl _ _ | with_reducible assumption | ((with_reducible refine Below.drew ?_)) | ((with_reducible refine below_drewN ?_ _)) | ((with_reducible refine Below.alloc ?_ ?_ _); rotate_left; focus (first | omega | (simp; done) | (simp; omega))) | ((with_reducible refine Below.setCell ?_ ?_ _); rotate_left; focus (first | omega | (simp; done) | (simp; omega))) | ((with_reducible refine Below.trans ?_ (Below.mono (by with_reducible assumption) ?_)); rotate_left; focus (first | omega | (simp; done) | (simp; omega))))))); go_split_ands; clear hcc hff hbel)))
    (go_ret; refine ⟨?_, ?_⟩; (focus (exact rfl)); ((repeat' (first | with_reducible exact Below.refl _ _ | with_reducible assumption | ((with_reducible refine Below.drew ?_)) | ((with_reducible refine below_drewN ?_ _)) | ((with_reducible refine Below.alloc ?_ ?_ _); rotate_left; focus (first | omega | (simp; done) | (simp; omega))) | ((with_reducible refine Below.setCell ?_ ?_ _); rotate_left; focus (first | omega | (simp; done) | (simp; omega))) | ((with_reducible refine Below.trans ?_ (Below.mono (by with_reducible assumption) ?_)); rotate_left; focus (first | omega | (simp; done) | (simp; omega))))); done))
theorem admitRoom_law (T : Int) (v : Value) {w : World} (wT : (Lit.int .i64 T).wf = true) (hs : Op.FlatSlice w 3 [.int .u64, .int .u64, .int .u64] v) :
    Calls Try.prog 10 #[.int .i64 T, v] w fun e w' => e = .returned (.bool true) ∧ Below w.heap.size w w' := by
  obtain ⟨a, l, cap, rfl, hR, hok, hc, hcm, hnone⟩ := cvs_of2 hs
  by_cases hn : l.length ≤ 64
  case neg => exact roomA_out T a _ cap (by omega) w
  exact roomA_in T l a cap hn hok hnone w hR
end Go.Proofs.Ytpabidiggehmnaa
