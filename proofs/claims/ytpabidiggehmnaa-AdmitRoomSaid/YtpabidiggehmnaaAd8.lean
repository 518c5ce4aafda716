/- AdmitLess. -/
import Derived.Test.YtpabidiggehmnaaAd7
import Derived.Test.YtpabidiggehmnaaAppR
namespace Go.Proofs.Ytpabidiggehmnaa
set_option linter.unusedVariables false
set_option linter.unusedSimpArgs false
set_option maxRecDepth 100000
open Go.RowKit Fg Reg Go.Sort
attribute [local irreducible] Reg.wE Holds QS

theorem cvC : CellsOf Cv.cells 3 := ⟨fun _ => rfl, fun x v hv => by simp [Cv.cells] at hv; rcases hv with rfl | rfl | rfl <;> rfl, by decide⟩
theorem cv_info : (Try.prog.info? 56).map (fun i => (i.zero, i.size, i.bytes)) = some (some (.agg #[.int .u64 0, .int .u64 0, .int .u64 0]), 3, 24) := by kernel_rfl
theorem cv_parts : ∃ i, Try.prog.info? 56 = some i ∧ i.zero = some (.agg #[.int .u64 0, .int .u64 0, .int .u64 0]) ∧ i.size = 3 ∧ i.bytes = 24 := by
  obtain ⟨i, hi, h⟩ := Option.map_eq_some_iff.1 cv_info
  simp only [Prod.mk.injEq] at h
  exact ⟨i, hi, h.1, h.2.1, h.2.2⟩
theorem rw_drop {w : World} {b o : Nat} {l : List Cv} (h : RwV Cv.cells 3 w (some ⟨b, o, none⟩) l) (Q : Nat) : RwV Cv.cells 3 w (some ⟨b, o + Q * 3, none⟩) (l.drop Q) := fun k hk => by
  have hk' : Q + k < l.length := by rw [List.length_drop] at hk; omega
  obtain ⟨b1, o1, e, h1, h2⟩ := h (Q + k) hk'
  simp only [Option.some.injEq, Addr.mk.injEq, and_true] at e
  obtain ⟨rfl, rfl⟩ := e
  refine ⟨b, o + Q * 3, rfl, h1, ?_⟩
  rw [List.getElem_drop, show o + Q * 3 + k * 3 = o + (Q + k) * 3 by omega]
  exact h2
theorem rw_take {w : World} {a : Option Addr} {l : List Cv} (h : RwV Cv.cells 3 w a l) (Q : Nat) : RwV Cv.cells 3 w a (l.take Q) := fun k hk => by
  have hk' : k < l.length := by rw [List.length_take] at hk; omega
  obtain ⟨b1, o1, e, h1, h2⟩ := h k hk'
  refine ⟨b1, o1, e, h1, ?_⟩
  rw [List.getElem_take]
  exact h2
theorem ok_rot {l : List Cv} (hok : (∀ k (h : k < l.length), l[k].ok)) (Q : Nat) : ∀ k (h : k < (l.drop Q ++ l.take Q).length), (l.drop Q ++ l.take Q)[k].ok := fun k hk => by
  have hm : (l.drop Q ++ l.take Q)[k] ∈ l.drop Q ++ l.take Q := List.getElem_mem hk
  have : (l.drop Q ++ l.take Q)[k] ∈ l := by
    rw [List.mem_append, Or.comm, ← List.mem_append, List.take_append_drop] at hm
    exact hm
  obtain ⟨j, hj, e⟩ := List.getElem_of_mem this
  rw [← e]
  exact hok j hj

theorem cvs_of2 {w : World} {v : Value} (h : Op.FlatSlice w 3 [.int .u64, .int .u64, .int .u64] v) :
    ∃ a, ∃ l : List Cv, ∃ cap, v = .slice a l.length cap ∧ RwV Cv.cells 3 w a l ∧ (∀ k (h : k < l.length), l[k].ok) ∧ l.length ≤ cap ∧ cap ≤ maxLen ∧ (a = none → cap = 0) := by
  have h' := h
  obtain ⟨a, l, cap, e, h1, h2⟩ := cvs_of h'
  refine ⟨a, l, cap, e, h1, h2, ?_⟩
  rcases h with h | ⟨a2, cap2, h, hc⟩ | ⟨b, o, n, cap2, css, h0, h, h3, h4, hlt, hn, hi⟩
  · rw [e] at h
    simp only [Value.slice.injEq] at h
    obtain ⟨rfl, h5, rfl⟩ := h
    exact ⟨by omega, by unfold maxLen; omega, fun _ => rfl⟩
  · rw [e] at h
    simp only [Value.slice.injEq] at h
    obtain ⟨rfl, h5, rfl⟩ := h
    exact ⟨by omega, hc, fun h => by cases h⟩
  · rw [e] at h
    simp only [Value.slice.injEq] at h
    obtain ⟨rfl, h5, rfl⟩ := h
    exact ⟨by omega, h4, fun h => by cases h⟩

theorem less_out (T : Int) (a : Option Addr) (n c : Nat) (tn : Int) (h : n = 0 ∨ 64 < n ∨ tn < 0) (w : World) : Calls Try.prog 9 #[.int .i64 T, .slice a n c, .int .i64 tn] w fun e w' => e = .returned (.bool true) ∧ Below w.heap.size w w' := by
  have K7 := Lib.hid whole_c
  by_cases h0 : n = 0
  · subst h0
    go_enter Try.func9, Try.ntmps9
    go_wp2_with (first | go_guarded | (go_at_call 23; ((with_reducible refine (K7.out _).mono ?_); rintro e w7 ⟨rfl, hbel⟩; obtain ⟨hcc, hff⟩ := bcell hbel; have hsz := hbel.size; (try simp at hsz); have hF : Below w.heap.size w w7 := (by ((repeat' apply And.intro) <;> first | (simp [go_sem, *]; done) | omega | (repeat' (first | with_reducible exact Below.refl _ _ | with_reducible assumption | ((with_reducible refine Below.drew ?_)) | ((with_reducible refine below_drewN ?_ _)) | ((with_reducible refine Below.alloc ?_ ?_ _); rotate_left; focus (first | omega | (simp; done) | (simp; omega))) | ((with_reducible refine Below.setCell ?_ ?_ _); rotate_left; focus (first | omega | (simp; done) | (simp; omega))) | ((with_reducible refine Below.trans ?_ (Below.mono (by with_reducible assumption) ?_)); rotate_left; focus (first | omega | (simp; done) | (simp; omega))))))); go_split_ands; clear hcc hff hbel)))
    (go_ret; refine ⟨?_, ?_⟩; (focus (exact rfl)); ((repeat' (first | with_reducible exact Below.refl _ _ | with_reducible assumption | ((with_reducible refine Below.drew ?_)) | ((with_reducible refine below_drewN ?_ _)) | ((with_reducible refine Below.alloc ?_ ?_ _); rotate_left; focus (first | omega | (simp; done) | (simp; omega))) | ((with_reducible refine Below.setCell ?_ ?_ _); rotate_left; focus (first | omega | (simp; done) | (simp; omega))) | ((with_reducible refine Below.trans ?_ (Below.mono (by with_reducible assumption) ?_)); rotate_left; focus (first | omega | (simp; done) | (simp; omega))))); done))
  · have D0 : ((n : Int) == 0) = false := by rw [beq_eq_false_iff_ne]; omega
    by_cases h1 : 64 < n
    · have D1 : decide (64 < (n : Int)) = true := decide_eq_true (by omega)
      go_enter Try.func9, Try.ntmps9
      go_wp2_with (first | go_guarded | (go_at_call 23; ((with_reducible refine (K7.out _).mono ?_); rintro e w7 ⟨rfl, hbel⟩; obtain ⟨hcc, hff⟩ := bcell hbel; have hsz := hbel.size; (try simp at hsz); have hF : Below w.heap.size w w7 := (by ((repeat' apply And.intro) <;> first | (simp [go_sem, *]; done) | omega | (repeat' (first | with_reducible exact Below.refl _ _ | with_reducible assumption | ((with_reducible refine Below.drew ?_)) | ((with_reducible refine below_drewN ?_ _)) | ((with_reducible refine Below.alloc ?_ ?_ _); rotate_left; focus (first | omega | (simp; done) | (simp; omega))) | ((with_reducible refine Below.setCell ?_ ?_ _); rotate_left; focus (first | omega | (simp; done) | (simp; omega))) | ((with_reducible refine Below.trans ?_ (Below.mono (by with_reducible assumption) ?_)); rotate_left; focus (first | omega | (simp; done) | (simp; omega))))))); go_split_ands; clear hcc hff hbel)))
      (go_ret; refine ⟨?_, ?_⟩; (focus (exact rfl)); ((repeat' (first | with_reducible exact Below.refl _ _ | with_reducible assumption | ((with_reducible refine Below.drew ?_)) | ((with_reducible refine below_drewN ?_ _)) | ((with_reducible refine Below.alloc ?_ ?_ _); rotate_left; focus (first | omega | (simp; done) | (simp; omega))) | ((with_reducible refine Below.setCell ?_ ?_ _); rotate_left; focus (first | omega | (simp; done) | (simp; omega))) | ((with_reducible refine Below.trans ?_ (Below.mono (by with_reducible assumption) ?_)); rotate_left; focus (first | omega | (simp; done) | (simp; omega))))); done))
    · have D1 : decide (64 < (n : Int)) = false := decide_eq_false (by omega)
      have D2 : decide (tn < 0) = true := decide_eq_true (by omega)
      go_enter Try.func9, Try.ntmps9
      go_wp2_with (first | go_guarded | (go_at_call 23; ((with_reducible refine (K7.out _).mono ?_); rintro e w7 ⟨rfl, hbel⟩; obtain ⟨hcc, hff⟩ := bcell hbel; have hsz := hbel.size; (try simp at hsz); have hF : Below w.heap.size w w7 := (by ((repeat' apply And.intro) <;> first | (simp [go_sem, *]; done) | omega | (repeat' (first | with_reducible exact Below.refl _ _ | with_reducible assumption | ((with_reducible refine Below.drew ?_)) | ((with_reducible refine below_drewN ?_ _)) | ((with_reducible refine Below.alloc ?_ ?_ _); rotate_left; focus (first | omega | (simp; done) | (simp; omega))) | ((with_reducible refine Below.setCell ?_ ?_ _); rotate_left; focus (first | omega | (simp; done) | (simp; omega))) | ((with_reducible refine Below.trans ?_ (Below.mono (by with_reducible assumption) ?_)); rotate_left; focus (first | omega | (simp; done) | (simp; omega))))))); go_split_ands; clear hcc hff hbel)))
      (go_ret; refine ⟨?_, ?_⟩; (focus (exact rfl)); ((repeat' (first | with_reducible exact Below.refl _ _ | with_reducible assumption | ((with_reducible refine Below.drew ?_)) | ((with_reducible refine below_drewN ?_ _)) | ((with_reducible refine Below.alloc ?_ ?_ _); rotate_left; focus (first | omega | (simp; done) | (simp; omega))) | ((with_reducible refine Below.setCell ?_ ?_ _); rotate_left; focus (first | omega | (simp; done) | (simp; omega))) | ((with_reducible refine Below.trans ?_ (Below.mono (by with_reducible assumption) ?_)); rotate_left; focus (first | omega | (simp; done) | (simp; omega))))); done))
set_option maxHeartbeats 8000000 in
theorem less_in (T : Int) (l : List Cv) (b o : Nat) (c : Nat) (hn0 : 0 < l.length) (hn : l.length ≤ 64) (hc : l.length ≤ c) (tn : Nat) (htn : tn ≤ 9223372036854775807) (hok : (∀ k (h : k < l.length), l[k].ok)) (w : World) (hR : RwV Cv.cells 3 w (some ⟨b, o, none⟩) l) :
    Calls Try.prog 9 #[.int .i64 T, .slice (some ⟨b, o, none⟩) l.length c, .int .i64 tn] w fun e w' => e = .returned (.bool true) ∧ Below w.heap.size w w' := by
  have K7 := Lib.hid whole_c
  have D00 : ((l.length : Int) == 0) = false := by rw [beq_eq_false_iff_ne]; omega
  have D1 : decide (64 < (l.length : Int)) = false := decide_eq_false (by omega)
  have D2 : decide ((tn : Int) < 0) = false := decide_eq_false (by omega)
  obtain ⟨Q, hQ⟩ : ∃ Q, tn % l.length = Q := ⟨_, rfl⟩
  have hQl : Q < l.length := by rw [← hQ]; exact Nat.mod_lt _ hn0
  have hQI : (tn : Int) % (l.length : Int) = Q := by rw [← hQ]; rfl
  have hmem : ∀ cv ∈ l, cv.ok := fun cv hcv => by
    obtain ⟨j, hj, rfl⟩ := List.getElem_of_mem hcv
    exact hok j hj
  have hlm : (l.drop Q ++ l.take Q).length = l.length := by rw [List.length_append, List.length_drop, List.length_take]; omega
  have k1 := fun (z : World) (hz : Below w.heap.size w z) => fits_c T l (some ⟨b, o, none⟩) c (by omega) hok z (hR.below hz)
  have k2 := fun (a2 : Option Addr) (c2 : Nat) (z : World) (h2 : RwV Cv.cells 3 z a2 (l.drop Q ++ l.take Q)) => fits_c T (l.drop Q ++ l.take Q) a2 c2 (by omega) (ok_rot hok Q) z h2
  have hrot := rot_fit T l Q
  rw [hrot] at k2
  have htl : ∃ x r, l.drop Q ++ l.take Q = x :: r := by
    cases hx : l.drop Q ++ l.take Q with
    | nil => rw [hx] at hlm; simp at hlm; omega
    | cons x r => exact ⟨x, r, rfl⟩
  obtain ⟨x, r, hxr⟩ := htl
  have hrl : r.length + 1 = l.length := by rw [← hlm, hxr]; rfl
  have k3 : fitr T l = 0 → ∀ (a3 : Option Addr) (c3 : Nat) (z : World), RwV Cv.cells 3 z a3 r → Calls Try.prog 26 #[.int .i64 T, .slice a3 r.length c3] z fun e w' => e = .returned (.int .i64 0) ∧ Below z.heap.size z w' := fun h0 a3 c3 z hz => by
    have hAm : Adm T (x :: r) := by rw [← hxr]; exact fit_adm.1 (by rw [hrot]; exact h0)
    have hokm : ∀ y ∈ x :: r, y.ok := fun y hy => by
      rw [← hxr, List.mem_append, Or.comm, ← List.mem_append, List.take_append_drop] at hy
      exact hmem y hy
    have h1 := fits_c T r a3 c3 (by omega) (fun k hk => hokm _ (by simp [List.getElem_mem])) z hz
    rw [fit_adm.2 (tail_adm hokm hAm)] at h1
    exact h1
  have hd := rw_drop hR Q
  have ht := rw_take hR Q
  have HD := Lib.hid hd
  have HT := Lib.hid ht
  have HLD := Lib.hid (show (l.drop Q).length = l.length - Q from List.length_drop)
  have HLT := Lib.hid (show (l.take Q).length = Q by rw [List.length_take]; omega)
  have HXR := Lib.hid hxr
  have HLM := Lib.hid hlm
  have K1 := Lib.hid k1
  have K2 := Lib.hid k2
  have K3 := Lib.hid k3
  obtain ⟨ic, ci0, cz0, cz1, cz2⟩ := cv_parts
  have CI0 := Lib.hid ci0
  have CZ0 := Lib.hid cz0
  have CZ1 := Lib.hid cz1
  have CZ2 := Lib.hid cz2
  clear hR hok hQ hmem hrot k1 k2 k3 hd ht hxr hlm ci0 cz0 cz1 cz2
  go_enter Try.func9, Try.ntmps9
  go_wp2_with (first
    | go_guarded
    | (at_builtin; refine wpList_append_rows rfl _ _ 22 rfl w.heap.size 56 ic (.agg #[.int .u64 0, .int .u64 0, .int .u64 0]) 3 24 Try.underlying22 CI0.out CZ0.out CZ1.out CZ2.out rfl (by decide) (.slice none 0 0) 0 [] rfl (World.ownsRow_nil _ _ _ _) cvC (l.drop Q) (some ⟨b, o + Q * 3, none⟩) (c - Q) (by rw [HLD.out]; rfl) HD.out (fun h => by cases h) (by rw [HLD.out]; unfold maxLen; omega) (by rw [HLD.out]; omega) (Nat.le_refl _) ?_; intro v1 w1 hown1 hg1; (have hb1 : Below w.heap.size w w1 := (Only.of_grown (B := w.heap.size) hg1 (fun k hk => by simp [Value.ownBlock] at hk)).below (Below.refl _ _) (Nat.le_refl _) (fun k hk => hk)); clear hg1)
    | (at_builtin; refine wpList_append_rows rfl _ _ 22 rfl w.heap.size 56 ic (.agg #[.int .u64 0, .int .u64 0, .int .u64 0]) 3 24 Try.underlying22 CI0.out CZ0.out CZ1.out CZ2.out rfl (by decide) v1 _ _ rfl hown1 cvC (l.take Q) (some ⟨b, o, none⟩) c (by rw [HLT.out]; rfl) (HT.out.below hb1) (fun h => by cases h) (by rw [HLT.out, HLD.out]; unfold maxLen; omega) (by rw [HLT.out, HLD.out]; omega) hb1.size ?_; intro v2 w2 hown2 hg2; (have hb2 : Below w.heap.size w w2 := (Only.of_grown (B := w.heap.size) hg2 (fun k hk => (hown1.lt k hk).1)).below hb1 hb1.size (fun k hk => hk)); clear hg2 hown1 hb1))
  have hown3 : w2.ownsRow w.heap.size 56 3 v2 (l.drop Q ++ l.take Q).length ((l.drop Q ++ l.take Q).flatMap Cv.cells) := by
    rw [List.length_append, List.flatMap_append]
    simpa using hown2
  obtain ⟨a2, c2, rfl, hR2, hc2, hcm, -⟩ := RwV.of_own cvC hown3
  have HR2 := Lib.hid hR2
  have hs2 := hb2.size
  rw [HLM.out] at hc2 ⊢
  clear hown2 hown3 hR2
  have K22 := Lib.hid (fun (z : World) (hz : Below w2.heap.size w2 z) => HLM.out ▸ K2.out a2 c2 z (HR2.out.below hz))
  by_cases h0 : fitr T l = 0
  · obtain ⟨b2, o2, ha2, hbl2, -⟩ := HR2.out 0 (by rw [HLM.out]; omega)
    subst ha2
    rw [h0] at K1 K22
    have K33 := Lib.hid (K3.out h0)
    by_cases h1 : c2 = 1
    · have hr0 : r = [] := List.length_eq_zero_iff.1 (by omega)
      have hl1 : l.length = 1 := by rw [hr0] at hrl; simpa using hrl.symm
      subst hr0
      have K4 := Lib.hid (fun (z : World) a3 c3 => (show Calls Try.prog 26 #[.int .i64 T, .slice a3 0 c3] z fun e w' => e = .returned (.int .i64 0) ∧ Below z.heap.size z w' from K33.out a3 c3 z (RwV.nil _ _)))
      subst h1
      have hge : 1 ≤ l.length := by omega
      clear K33 K3 HXR hl1 hrl
      go_wp2_with (first
        | go_guarded
        | (go_at_call 26; ((with_reducible refine (K1.out _ (by repeat' (first | with_reducible exact Below.refl _ _ | with_reducible assumption | ((with_reducible refine Below.drew ?_)) | ((with_reducible refine below_drewN ?_ _)) | ((with_reducible refine Below.alloc ?_ ?_ _); rotate_left; focus (first | omega | (simp; done) | (simp; omega))) | ((with_reducible refine Below.setCell ?_ ?_ _); rotate_left; focus (first | omega | (simp; done) | (simp; omega))) | ((with_reducible refine Below.trans ?_ (Below.mono (by with_reducible assumption) ?_)); rotate_left; focus (first | omega | (simp; done) | (simp; omega)))))).mono ?_); rintro e w4 ⟨rfl, hbel⟩; obtain ⟨hcc, hff⟩ := bcell hbel; have hsz := hbel.size; (try simp at hsz); have hF : w2.heap.size ≤ w4.heap.size ∧ Below w2.heap.size w2 w4 ∧ Below w.heap.size w w4 := (by ((repeat' apply And.intro) <;> first | (simp [go_sem, *]; done) | omega | (repeat' (first | with_reducible exact Below.refl _ _ | with_reducible assumption | ((with_reducible refine Below.drew ?_)) | ((with_reducible refine below_drewN ?_ _)) | ((with_reducible refine Below.alloc ?_ ?_ _); rotate_left; focus (first | omega | (simp; done) | (simp; omega))) | ((with_reducible refine Below.setCell ?_ ?_ _); rotate_left; focus (first | omega | (simp; done) | (simp; omega))) | ((with_reducible refine Below.trans ?_ (Below.mono (by with_reducible assumption) ?_)); rotate_left; focus (first | omega | (simp; done) | (simp; omega))))))); go_split_ands; clear hcc hff hbel))
        | (go_at_call 26; ((with_reducible refine (K22.out _ (by repeat' (first | with_reducible exact Below.refl _ _ | with_reducible assumption | ((with_reducible refine Below.drew ?_)) | ((with_reducible refine below_drewN ?_ _)) | ((with_reducible refine Below.alloc ?_ ?_ _); rotate_left; focus (first | omega | (simp; done) | (simp; omega))) | ((with_reducible refine Below.setCell ?_ ?_ _); rotate_left; focus (first | omega | (simp; done) | (simp; omega))) | ((with_reducible refine Below.trans ?_ (Below.mono (by with_reducible assumption) ?_)); rotate_left; focus (first | omega | (simp; done) | (simp; omega)))))).mono ?_); rintro e w3 ⟨rfl, hbel⟩; obtain ⟨hcc, hff⟩ := bcell hbel; have hsz := hbel.size; (try simp at hsz); have hF : w2.heap.size ≤ w3.heap.size ∧ Below w2.heap.size w2 w3 ∧ Below w.heap.size w w3 := (by ((repeat' apply And.intro) <;> first | (simp [go_sem, *]; done) | omega | (repeat' (first | with_reducible exact Below.refl _ _ | with_reducible assumption | ((with_reducible refine Below.drew ?_)) | ((with_reducible refine below_drewN ?_ _)) | ((with_reducible refine Below.alloc ?_ ?_ _); rotate_left; focus (first | omega | (simp; done) | (simp; omega))) | ((with_reducible refine Below.setCell ?_ ?_ _); rotate_left; focus (first | omega | (simp; done) | (simp; omega))) | ((with_reducible refine Below.trans ?_ (Below.mono (by with_reducible assumption) ?_)); rotate_left; focus (first | omega | (simp; done) | (simp; omega))))))); go_split_ands; clear hcc hff hbel))
        | (go_at_call 26; ((with_reducible refine (K4.out _ _ _).mono ?_); rintro e w5 ⟨rfl, hbel⟩; obtain ⟨hcc, hff⟩ := bcell hbel; have hsz := hbel.size; (try simp at hsz); have hF : Below w.heap.size w w5 := (by ((repeat' apply And.intro) <;> first | (simp [go_sem, *]; done) | omega | (repeat' (first | with_reducible exact Below.refl _ _ | with_reducible assumption | ((with_reducible refine Below.drew ?_)) | ((with_reducible refine below_drewN ?_ _)) | ((with_reducible refine Below.alloc ?_ ?_ _); rotate_left; focus (first | omega | (simp; done) | (simp; omega))) | ((with_reducible refine Below.setCell ?_ ?_ _); rotate_left; focus (first | omega | (simp; done) | (simp; omega))) | ((with_reducible refine Below.trans ?_ (Below.mono (by with_reducible assumption) ?_)); rotate_left; focus (first | omega | (simp; done) | (simp; omega))))))); go_split_ands; clear hcc hff hbel))
        | (go_at_call 23; ((with_reducible refine (K7.out _).mono ?_); rintro e w7 ⟨rfl, hbel⟩; obtain ⟨hcc, hff⟩ := bcell hbel; have hsz := hbel.size; (try simp at hsz); have hF : Below w.heap.size w w7 := (by ((repeat' apply And.intro) <;> first | (simp [go_sem, *]; done) | omega | (repeat' (first | with_reducible exact Below.refl _ _ | with_reducible assumption | ((with_reducible refine Below.drew ?_)) | ((with_reducible refine below_drewN ?_ _)) | ((with_reducible refine Below.alloc ?_ ?_ _); rotate_left; focus (first | omega | (simp; done) | (simp; omega))) | ((with_reducible refine Below.setCell ?_ ?_ _); rotate_left; focus (first | omega | (simp; done) | (simp; omega))) | ((with_reducible refine Below.trans ?_ (Below.mono (by with_reducible assumption) ?_)); rotate_left; focus (first | omega | (simp; done) | (simp; omega))))))); go_split_ands; clear hcc hff hbel)))
      (go_ret; refine ⟨?_, ?_⟩; (focus (exact rfl)); ((repeat' (first | with_reducible exact Below.refl _ _ | with_reducible assumption | ((with_reducible refine Below.drew ?_)) | ((with_reducible refine below_drewN ?_ _)) | ((with_reducible refine Below.alloc ?_ ?_ _); rotate_left; focus (first | omega | (simp; done) | (simp; omega))) | ((with_reducible refine Below.setCell ?_ ?_ _); rotate_left; focus (first | omega | (simp; done) | (simp; omega))) | ((with_reducible refine Below.trans ?_ (Below.mono (by with_reducible assumption) ?_)); rotate_left; focus (first | omega | (simp; done) | (simp; omega))))); done))
    · have hRr : RwV Cv.cells 3 w2 (some ⟨b2, o2 + 1 * 3, none⟩) r := by
        have := rw_drop (l := l.drop Q ++ l.take Q) HR2.out 1
        rw [HXR.out] at this
        exact this
      have hrl2 : l.length - 1 = r.length := by omega
      have K4 := Lib.hid (fun (z : World) (hz : Below w2.heap.size w2 z) c3 => (show Calls Try.prog 26 #[.int .i64 T, .slice (some ⟨b2, o2 + 3, none⟩) (l.length - 1) c3] z fun e w' => e = .returned (.int .i64 0) ∧ Below z.heap.size z w' from by
        rw [hrl2]
        exact K33.out (some ⟨b2, o2 + 1 * 3, none⟩) c3 z (hRr.below hz)))
      clear K33 K3 HXR hRr hrl2
      have hc0 : ¬ c2 - 1 = 0 := by omega
      have hc1 : ¬ c2 = 1 := h1
      go_wp2_with (first
        | go_guarded
        | (go_at_call 26; ((with_reducible refine (K1.out _ (by repeat' (first | with_reducible exact Below.refl _ _ | with_reducible assumption | ((with_reducible refine Below.drew ?_)) | ((with_reducible refine below_drewN ?_ _)) | ((with_reducible refine Below.alloc ?_ ?_ _); rotate_left; focus (first | omega | (simp; done) | (simp; omega))) | ((with_reducible refine Below.setCell ?_ ?_ _); rotate_left; focus (first | omega | (simp; done) | (simp; omega))) | ((with_reducible refine Below.trans ?_ (Below.mono (by with_reducible assumption) ?_)); rotate_left; focus (first | omega | (simp; done) | (simp; omega)))))).mono ?_); rintro e w4 ⟨rfl, hbel⟩; obtain ⟨hcc, hff⟩ := bcell hbel; have hsz := hbel.size; (try simp at hsz); have hF : w2.heap.size ≤ w4.heap.size ∧ Below w2.heap.size w2 w4 ∧ Below w.heap.size w w4 := (by ((repeat' apply And.intro) <;> first | (simp [go_sem, *]; done) | omega | (repeat' (first | with_reducible exact Below.refl _ _ | with_reducible assumption | ((with_reducible refine Below.drew ?_)) | ((with_reducible refine below_drewN ?_ _)) | ((with_reducible refine Below.alloc ?_ ?_ _); rotate_left; focus (first | omega | (simp; done) | (simp; omega))) | ((with_reducible refine Below.setCell ?_ ?_ _); rotate_left; focus (first | omega | (simp; done) | (simp; omega))) | ((with_reducible refine Below.trans ?_ (Below.mono (by with_reducible assumption) ?_)); rotate_left; focus (first | omega | (simp; done) | (simp; omega))))))); go_split_ands; clear hcc hff hbel))
        | (go_at_call 26; ((with_reducible refine (K22.out _ (by repeat' (first | with_reducible exact Below.refl _ _ | with_reducible assumption | ((with_reducible refine Below.drew ?_)) | ((with_reducible refine below_drewN ?_ _)) | ((with_reducible refine Below.alloc ?_ ?_ _); rotate_left; focus (first | omega | (simp; done) | (simp; omega))) | ((with_reducible refine Below.setCell ?_ ?_ _); rotate_left; focus (first | omega | (simp; done) | (simp; omega))) | ((with_reducible refine Below.trans ?_ (Below.mono (by with_reducible assumption) ?_)); rotate_left; focus (first | omega | (simp; done) | (simp; omega)))))).mono ?_); rintro e w3 ⟨rfl, hbel⟩; obtain ⟨hcc, hff⟩ := bcell hbel; have hsz := hbel.size; (try simp at hsz); have hF : w2.heap.size ≤ w3.heap.size ∧ Below w2.heap.size w2 w3 ∧ Below w.heap.size w w3 := (by ((repeat' apply And.intro) <;> first | (simp [go_sem, *]; done) | omega | (repeat' (first | with_reducible exact Below.refl _ _ | with_reducible assumption | ((with_reducible refine Below.drew ?_)) | ((with_reducible refine below_drewN ?_ _)) | ((with_reducible refine Below.alloc ?_ ?_ _); rotate_left; focus (first | omega | (simp; done) | (simp; omega))) | ((with_reducible refine Below.setCell ?_ ?_ _); rotate_left; focus (first | omega | (simp; done) | (simp; omega))) | ((with_reducible refine Below.trans ?_ (Below.mono (by with_reducible assumption) ?_)); rotate_left; focus (first | omega | (simp; done) | (simp; omega))))))); go_split_ands; clear hcc hff hbel))
        | (go_at_call 26; ((with_reducible refine (K4.out _ (by repeat' (first | with_reducible exact Below.refl _ _ | with_reducible assumption | ((with_reducible refine Below.drew ?_)) | ((with_reducible refine below_drewN ?_ _)) | ((with_reducible refine Below.alloc ?_ ?_ _); rotate_left; focus (first | omega | (simp; done) | (simp; omega))) | ((with_reducible refine Below.setCell ?_ ?_ _); rotate_left; focus (first | omega | (simp; done) | (simp; omega))) | ((with_reducible refine Below.trans ?_ (Below.mono (by with_reducible assumption) ?_)); rotate_left; focus (first | omega | (simp; done) | (simp; omega))))) _).mono ?_); rintro e w5 ⟨rfl, hbel⟩; obtain ⟨hcc, hff⟩ := bcell hbel; have hsz := hbel.size; (try simp at hsz); have hF : Below w.heap.size w w5 := (by ((repeat' apply And.intro) <;> first | (simp [go_sem, *]; done) | omega | (repeat' (first | with_reducible exact Below.refl _ _ | with_reducible assumption | ((with_reducible refine Below.drew ?_)) | ((with_reducible refine below_drewN ?_ _)) | ((with_reducible refine Below.alloc ?_ ?_ _); rotate_left; focus (first | omega | (simp; done) | (simp; omega))) | ((with_reducible refine Below.setCell ?_ ?_ _); rotate_left; focus (first | omega | (simp; done) | (simp; omega))) | ((with_reducible refine Below.trans ?_ (Below.mono (by with_reducible assumption) ?_)); rotate_left; focus (first | omega | (simp; done) | (simp; omega))))))); go_split_ands; clear hcc hff hbel))
        | (go_at_call 23; ((with_reducible refine (K7.out _).mono ?_); rintro e w7 ⟨rfl, hbel⟩; obtain ⟨hcc, hff⟩ := bcell hbel; have hsz := hbel.size; (try simp at hsz); have hF : Below w.heap.size w w7 := (by ((repeat' apply And.intro) <;> first | (simp [go_sem, *]; done) | omega | (repeat' (first | with_reducible exact Below.refl _ _ | with_reducible assumption | ((with_reducible refine Below.drew ?_)) | ((with_reducible refine below_drewN ?_ _)) | ((with_reducible refine Below.alloc ?_ ?_ _); rotate_left; focus (first | omega | (simp; done) | (simp; omega))) | ((with_reducible refine Below.setCell ?_ ?_ _); rotate_left; focus (first | omega | (simp; done) | (simp; omega))) | ((with_reducible refine Below.trans ?_ (Below.mono (by with_reducible assumption) ?_)); rotate_left; focus (first | omega | (simp; done) | (simp; omega))))))); go_split_ands; clear hcc hff hbel)))
      (go_ret; refine ⟨?_, ?_⟩; (focus (exact rfl)); ((repeat' (first | with_reducible exact Below.refl _ _ | with_reducible assumption | ((with_reducible refine Below.drew ?_)) | ((with_reducible refine below_drewN ?_ _)) | ((with_reducible refine Below.alloc ?_ ?_ _); rotate_left; focus (first | omega | (simp; done) | (simp; omega))) | ((with_reducible refine Below.setCell ?_ ?_ _); rotate_left; focus (first | omega | (simp; done) | (simp; omega))) | ((with_reducible refine Below.trans ?_ (Below.mono (by with_reducible assumption) ?_)); rotate_left; focus (first | omega | (simp; done) | (simp; omega))))); done))
  · have hfb : (fitr T l == 0) = false := by simpa using h0
    have hfb2 : (fitr T l != 0) = true := by simpa using h0
    generalize fitr T l = F at *
    clear K3 K2
    go_wp2_with (first
      | go_guarded
      | (go_at_call 26; ((with_reducible refine (K1.out _ (by repeat' (first | with_reducible exact Below.refl _ _ | with_reducible assumption | ((with_reducible refine Below.drew ?_)) | ((with_reducible refine below_drewN ?_ _)) | ((with_reducible refine Below.alloc ?_ ?_ _); rotate_left; focus (first | omega | (simp; done) | (simp; omega))) | ((with_reducible refine Below.setCell ?_ ?_ _); rotate_left; focus (first | omega | (simp; done) | (simp; omega))) | ((with_reducible refine Below.trans ?_ (Below.mono (by with_reducible assumption) ?_)); rotate_left; focus (first | omega | (simp; done) | (simp; omega)))))).mono ?_); rintro e w4 ⟨rfl, hbel⟩; obtain ⟨hcc, hff⟩ := bcell hbel; have hsz := hbel.size; (try simp at hsz); have hF : w2.heap.size ≤ w4.heap.size ∧ Below w2.heap.size w2 w4 ∧ Below w.heap.size w w4 := (by ((repeat' apply And.intro) <;> first | (simp [go_sem, *]; done) | omega | (repeat' (first | with_reducible exact Below.refl _ _ | with_reducible assumption | ((with_reducible refine Below.drew ?_)) | ((with_reducible refine below_drewN ?_ _)) | ((with_reducible refine Below.alloc ?_ ?_ _); rotate_left; focus (first | omega | (simp; done) | (simp; omega))) | ((with_reducible refine Below.setCell ?_ ?_ _); rotate_left; focus (first | omega | (simp; done) | (simp; omega))) | ((with_reducible refine Below.trans ?_ (Below.mono (by with_reducible assumption) ?_)); rotate_left; focus (first | omega | (simp; done) | (simp; omega))))))); go_split_ands; clear hcc hff hbel))
      | (go_at_call 26; ((with_reducible refine (K22.out _ (by repeat' (first | with_reducible exact Below.refl _ _ | with_reducible assumption | ((with_reducible refine Below.drew ?_)) | ((with_reducible refine below_drewN ?_ _)) | ((with_reducible refine Below.alloc ?_ ?_ _); rotate_left; focus (first | omega | (simp; done) | (simp; omega))) | ((with_reducible refine Below.setCell ?_ ?_ _); rotate_left; focus (first | omega | (simp; done) | (simp; omega))) | ((with_reducible refine Below.trans ?_ (Below.mono (by with_reducible assumption) ?_)); rotate_left; focus (first | omega | (simp; done) | (simp; omega)))))).mono ?_); rintro e w3 ⟨rfl, hbel⟩; obtain ⟨hcc, hff⟩ := bcell hbel; have hsz := hbel.size; (try simp at hsz); have hF : w2.heap.size ≤ w3.heap.size ∧ Below w2.heap.size w2 w3 ∧ Below w.heap.size w w3 := (by ((repeat' apply And.intro) <;> first | (simp [go_sem, *]; done) | omega | (repeat' (first | with_reducible exact Below.refl _ _ | with_reducible assumption | ((with_reducible refine Below.drew ?_)) | ((with_reducible refine below_drewN ?_ _)) | ((with_reducible refine Below.alloc ?_ ?_ _); rotate_left; focus (first | omega | (simp; done) | (simp; omega))) | ((with_reducible refine Below.setCell ?_ ?_ _); rotate_left; focus (first | omega | (simp; done) | (simp; omega))) | ((with_reducible refine Below.trans ?_ (Below.mono (by with_reducible assumption) ?_)); rotate_left; focus (first | omega | (simp; done) | (simp; omega))))))); go_split_ands; clear hcc hff hbel))
      | (go_at_call 23; ((with_reducible refine (K7.out _).mono ?_); rintro e w7 ⟨rfl, hbel⟩; obtain ⟨hcc, hff⟩ := bcell hbel; have hsz := hbel.size; (try simp at hsz); have hF : Below w.heap.size w w7 := (by ((repeat' apply And.intro) <;> first | (simp [go_sem, *]; done) | omega | (repeat' (first | with_reducible exact Below.refl _ _ | with_reducible assumption | ((with_reducible refine Below.drew ?_)) | ((with_reducible refine below_drewN ?_ _)) | ((with_reducible refine Below.alloc ?_ ?_ _); rotate_left; focus (first | omega | (simp; done) | (simp; omega))) | ((with_reducible refine Below.setCell ?_ ?_ _); rotate_left; focus (first | omega | (simp; done) | (simp; omega))) | ((with_reducible refine Below.trans ?_ (Below.mono (by with_reducible assumption) ?_)); rotate_left; focus (first | omega | (simp; done) | (simp; omega))))))); go_split_ands; clear hcc hff hbel)))
    (go_ret; refine ⟨?_, ?_⟩; (focus (exact rfl)); ((repeat' (first | with_reducible exact Below.refl _ _ | with_reducible assumption | ((with_reducible refine Below.drew ?_)) | ((with_reducible refine below_drewN ?_ _)) | ((with_reducible refine Below.alloc ?_ ?_ _); rotate_left; focus (first | omega | (simp; done) | (simp; omega))) | ((with_reducible refine Below.setCell ?_ ?_ _); rotate_left; focus (first | omega | (simp; done) | (simp; omega))) | ((with_reducible refine Below.trans ?_ (Below.mono (by with_reducible assumption) ?_)); rotate_left; focus (first | omega | (simp; done) | (simp; omega))))); done))
theorem admitLess_law (T : Int) (v : Value) (tn : Int) {w : World} (wT : (Lit.int .i64 T).wf = true) (hs : Op.FlatSlice w 3 [.int .u64, .int .u64, .int .u64] v) (wt : (Lit.int .i64 tn).wf = true) :
    Calls Try.prog 9 #[.int .i64 T, v, .int .i64 tn] w fun e w' => e = .returned (.bool true) ∧ Below w.heap.size w w' := by
  obtain ⟨a, l, cap, rfl, hR, hok, hc, hcm, hnone⟩ := cvs_of2 hs
  by_cases h0 : l.length = 0
  case pos => exact less_out T a _ cap tn (Or.inl h0) w
  by_cases hn : l.length ≤ 64
  case neg => exact less_out T a _ cap tn (Or.inr (Or.inl (by omega))) w
  by_cases ht : 0 ≤ tn
  case neg => exact less_out T a _ cap tn (Or.inr (Or.inr (by omega))) w
  obtain ⟨b, o, rfl, -, -⟩ := hR 0 (by omega)
  obtain ⟨t, rfl⟩ : ∃ t : Nat, tn = t := ⟨tn.toNat, by omega⟩
  have ht2 : (t : Int) ≤ 9223372036854775807 := by have := bounds_i64 wt; omega
  exact less_in T l b o cap (by omega) hn hc t (by omega) hok w hR
end Go.Proofs.Ytpabidiggehmnaa
