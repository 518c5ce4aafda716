/- CaptureDecodes. -/
import Derived.Test.YtnfhiagbbmaobaaCp13
namespace Go.Proofs.Ytnfhiagbbmaobaa
set_option linter.unusedVariables false
set_option linter.unusedSimpArgs false
set_option maxRecDepth 100000
open Go.RowKit Fg Reg
attribute [local irreducible] Reg.wE Reg2.wT Reg.wN World.ownsRow

theorem pgo_err (S : ByteArray) : ∀ f i last c, (pgo S f i last c).2 ≠ 0 → (pgo S f i last c).1 = [] := by
  intro f
  induction f with
  | zero => intro i last c h; rfl
  | succ f ih =>
    intro i last c
    unfold pgo
    split
    · intro h; rfl
    split
    · intro h; rfl
    split
    · intro h; rfl
    split
    · intro h; exact absurd rfl h
    · intro h; rfl
theorem pdec_err (S : ByteArray) (h : (pdec S).2 ≠ 0) : (pdec S).1 = [] := by
  unfold pdec at h ⊢
  split at h
  · rename_i h1; rw [if_pos h1]
  split at h
  · rename_i h1 h2; rw [if_neg h1, if_pos h2]
  · rename_i h1 h2
    rw [if_neg h1, if_neg h2]
    exact pgo_err S _ _ _ _ h
theorem ldec46_far (S : ByteArray) (h : 200000 < S.size) (w : World) : Calls Try.prog 9 #[.string S] w fun e w' => e = .returned (.bool true) ∧ Below w.heap.size w w' := by
  have d1 : decide (200000 < (S.size : Int)) = true := by simp; omega
  have K := Lib.hid (fun z => one_c z)
  go_enter Try.func9, Try.ntmps9
  go_wp2_with (go_at_call 28; ((with_reducible refine (K.out _).mono ?_); rintro e w1 ⟨rfl, hbel⟩; obtain ⟨hcc, hff⟩ := bcell hbel; have hsz := hbel.size; (try simp at hsz); have hF : Below w.heap.size w w1 := (by ((repeat' apply And.intro) <;> first | (simp [go_sem, *]; done) | omega | (repeat' (first | with_reducible exact Below.refl _ _ | with_reducible assumption | ((with_reducible refine Below.drew ?_)) | ((with_reducible refine below_drewN ?_ _)) | ((with_reducible refine Below.alloc ?_ ?_ _); rotate_left; focus (first | omega | (simp; done) | (simp; omega))) | ((with_reducible refine Below.setCell ?_ ?_ _); rotate_left; focus (first | omega | (simp; done) | (simp; omega))) | ((with_reducible refine Below.trans ?_ (Below.mono (by with_reducible assumption) ?_)); rotate_left; focus (first | omega | (simp; done) | (simp; omega))))))); go_split_ands; clear hcc hff hbel))
  (go_ret; refine ⟨?_, ?_⟩; (focus (exact rfl)); ((repeat' (first | with_reducible exact Below.refl _ _ | with_reducible assumption | ((with_reducible refine Below.drew ?_)) | ((with_reducible refine below_drewN ?_ _)) | ((with_reducible refine Below.alloc ?_ ?_ _); rotate_left; focus (first | omega | (simp; done) | (simp; omega))) | ((with_reducible refine Below.setCell ?_ ?_ _); rotate_left; focus (first | omega | (simp; done) | (simp; omega))) | ((with_reducible refine Below.trans ?_ (Below.mono (by with_reducible assumption) ?_)); rotate_left; focus (first | omega | (simp; done) | (simp; omega))))); done))
set_option maxHeartbeats 8000000 in
theorem ldec46_bad (S : ByteArray) (hM : S.size ≤ 200000) (e : Int) (he : e ≠ 0) (hp : pdec S = ([], e)) (w : World) : Calls Try.prog 9 #[.string S] w fun e w' => e = .returned (.bool true) ∧ Below w.heap.size w w' := by
  have d1 : decide (200000 < (S.size : Int)) = false := by simp; omega
  have K1 := Lib.hid (fun z => one_c z)
  have K2 := fun z => cdec_c S (by omega) z
  have K3 := fun z => crde_c S (by omega) z
  rw [hp] at K2 K3
  replace K2 := Lib.hid K2
  replace K3 := Lib.hid K3
  have K4 := fun (a a2 : Option Addr) (cap cap2 : Nat) (w : World) => csame_c [] (by simp) a a2 cap cap2 w (RwV.nil w a) (RwV.nil w a2)
  simp only [List.length_nil] at K4
  replace K4 := Lib.hid K4
  have d2 : (e == 0) = false := by simpa using he
  have d3 : (e != 0) = true := by simpa using he
  clear he hp
  go_enter Try.func9, Try.ntmps9
  go_wp2_with (first
    | (go_at_call 32; ((with_reducible refine (K2.out _).mono ?_); rintro ee w2 ⟨v2, rfl, hO2, hb2⟩; obtain ⟨a2, c2, rfl⟩ := row_form hO2; (have s2 := hb2.size)))
    | (go_at_call 35; ((with_reducible refine (K3.out _).mono ?_); rintro ee w3 ⟨v3, rfl, hO3, hb3⟩; obtain ⟨a3, c3, rfl⟩ := row_form hO3; (have s3 := hb3.size)))
    | (go_at_call 34; ((with_reducible refine (K4.out _ _ _ _ _).mono ?_); rintro e w4 ⟨rfl, hbel⟩; obtain ⟨hcc, hff⟩ := bcell hbel; have hsz := hbel.size; (try simp at hsz); have hF : Below w.heap.size w w4 := (by ((repeat' apply And.intro) <;> first | (simp [go_sem, *]; done) | omega | (repeat' (first | with_reducible exact Below.refl _ _ | with_reducible assumption | ((with_reducible refine Below.drew ?_)) | ((with_reducible refine below_drewN ?_ _)) | ((with_reducible refine Below.alloc ?_ ?_ _); rotate_left; focus (first | omega | (simp; done) | (simp; omega))) | ((with_reducible refine Below.setCell ?_ ?_ _); rotate_left; focus (first | omega | (simp; done) | (simp; omega))) | ((with_reducible refine Below.trans ?_ (Below.mono (by with_reducible assumption) ?_)); rotate_left; focus (first | omega | (simp; done) | (simp; omega))))))); go_split_ands; clear hcc hff hbel))
    | (go_at_call 28; ((with_reducible refine (K1.out _).mono ?_); rintro e w5 ⟨rfl, hbel⟩; obtain ⟨hcc, hff⟩ := bcell hbel; have hsz := hbel.size; (try simp at hsz); have hF : Below w.heap.size w w5 := (by ((repeat' apply And.intro) <;> first | (simp [go_sem, *]; done) | omega | (repeat' (first | with_reducible exact Below.refl _ _ | with_reducible assumption | ((with_reducible refine Below.drew ?_)) | ((with_reducible refine below_drewN ?_ _)) | ((with_reducible refine Below.alloc ?_ ?_ _); rotate_left; focus (first | omega | (simp; done) | (simp; omega))) | ((with_reducible refine Below.setCell ?_ ?_ _); rotate_left; focus (first | omega | (simp; done) | (simp; omega))) | ((with_reducible refine Below.trans ?_ (Below.mono (by with_reducible assumption) ?_)); rotate_left; focus (first | omega | (simp; done) | (simp; omega))))))); go_split_ands; clear hcc hff hbel)))
  (go_ret; refine ⟨?_, ?_⟩; (focus (exact rfl)); ((repeat' (first | with_reducible exact Below.refl _ _ | with_reducible assumption | ((with_reducible refine Below.drew ?_)) | ((with_reducible refine below_drewN ?_ _)) | ((with_reducible refine Below.alloc ?_ ?_ _); rotate_left; focus (first | omega | (simp; done) | (simp; omega))) | ((with_reducible refine Below.setCell ?_ ?_ _); rotate_left; focus (first | omega | (simp; done) | (simp; omega))) | ((with_reducible refine Below.trans ?_ (Below.mono (by with_reducible assumption) ?_)); rotate_left; focus (first | omega | (simp; done) | (simp; omega))))); done))
set_option maxHeartbeats 8000000 in
theorem ldec46_ok (S : ByteArray) (hM : S.size ≤ 200000) (L : List Fm) (hp : pdec S = (L, 0)) (w : World) : Calls Try.prog 9 #[.string S] w fun e w' => e = .returned (.bool true) ∧ Below w.heap.size w w' := by
  obtain ⟨hcap, hchk, hwf⟩ := pdec_back S L hp
  have hL : L.length ≤ 1000 := by
    unfold chk at hchk
    split at hchk
    · omega
    · omega
  have d1 : decide (200000 < (S.size : Int)) = false := by simp; omega
  have K1 := Lib.hid (fun z => one_c z)
  have K2 := fun z => cdec_c S (by omega) z
  have K3 := fun z => crde_c S (by omega) z
  rw [hp] at K2 K3
  replace K2 := Lib.hid K2
  replace K3 := Lib.hid K3
  have K4 := Lib.hid (fun a a2 cap cap2 w h1 h2 => csame_c L (by omega) a a2 cap cap2 w h1 h2)
  have K5 := fun a cap w h => cenc_ok L hwf hchk a cap w h
  rw [hcap] at K5
  replace K5 := Lib.hid K5
  clear hp hcap hchk hwf
  go_enter Try.func9, Try.ntmps9
  go_wp2_with (first
    | (go_at_call 32; ((with_reducible refine (K2.out _).mono ?_); rintro ee w2 ⟨v2, rfl, hO2, hb2⟩; obtain ⟨a2, c2, rfl, hr2, -⟩ := RwV.of_own fm_of hO2; (have H2 := Lib.hid hr2); (have s2 := hb2.size); clear hr2 hO2))
    | (go_at_call 35; ((with_reducible refine (K3.out _).mono ?_); rintro ee w3 ⟨v3, rfl, hO3, hb3⟩; obtain ⟨a3, c3, rfl, hr3, -⟩ := RwV.of_own fm_of hO3; (have H2' := Lib.hid (H2.out.below hb3)); (have H3 := Lib.hid hr3); (have s3 := hb3.size); clear hr3 hO3))
    | (go_at_call 34; ((with_reducible refine (K4.out _ _ _ _ _ (H2'.out.below ((Below.refl _ _).alloc (Nat.le_refl _) _)) (H3.out.below ((Below.refl _ _).alloc (Nat.le_refl _) _))).mono ?_); rintro ee w4 ⟨rfl, hb4⟩; (have H4 := Lib.hid ((H2'.out.below ((Below.refl _ _).alloc (Nat.le_refl _) _)).below hb4)); (have s4 := hb4.size); (try simp at s4)))
    | (go_at_call 29; ((with_reducible refine (K5.out _ _ _ H4.out).mono ?_); rintro ee w5 ⟨rfl, hb5⟩; (have s5 := hb5.size)))
    | (go_at_call 28; ((with_reducible refine (K1.out _).mono ?_); rintro e w6 ⟨rfl, hbel⟩; obtain ⟨hcc, hff⟩ := bcell hbel; have hsz := hbel.size; (try simp at hsz); have hF : Below w.heap.size w w6 := (by ((repeat' apply And.intro) <;> first | (simp [go_sem, *]; done) | omega | (repeat' (first | with_reducible exact Below.refl _ _ | with_reducible assumption | ((with_reducible refine Below.drew ?_)) | ((with_reducible refine below_drewN ?_ _)) | ((with_reducible refine Below.alloc ?_ ?_ _); rotate_left; focus (first | omega | (simp; done) | (simp; omega))) | ((with_reducible refine Below.setCell ?_ ?_ _); rotate_left; focus (first | omega | (simp; done) | (simp; omega))) | ((with_reducible refine Below.trans ?_ (Below.mono (by with_reducible assumption) ?_)); rotate_left; focus (first | omega | (simp; done) | (simp; omega))))))); go_split_ands; clear hcc hff hbel)))
  (go_ret; refine ⟨?_, ?_⟩; (focus (exact rfl)); ((repeat' (first | with_reducible exact Below.refl _ _ | with_reducible assumption | ((with_reducible refine Below.drew ?_)) | ((with_reducible refine below_drewN ?_ _)) | ((with_reducible refine Below.alloc ?_ ?_ _); rotate_left; focus (first | omega | (simp; done) | (simp; omega))) | ((with_reducible refine Below.setCell ?_ ?_ _); rotate_left; focus (first | omega | (simp; done) | (simp; omega))) | ((with_reducible refine Below.trans ?_ (Below.mono (by with_reducible assumption) ?_)); rotate_left; focus (first | omega | (simp; done) | (simp; omega))))); done))
theorem captureDecodes_law (S : ByteArray) (w0 : S.size ≤ maxLen) (w : World) : Calls Try.prog 9 #[.string S] w fun e w' => e = .returned (.bool true) ∧ Below w.heap.size w w' := by
  by_cases h : 200000 < S.size
  · exact ldec46_far S h w
  by_cases he : (pdec S).2 = 0
  · exact ldec46_ok S (by omega) (pdec S).1 (Prod.ext rfl he) w
  · exact ldec46_bad S (by omega) (pdec S).2 he (Prod.ext (pdec_err S he) rfl) w
end Go.Proofs.Ytnfhiagbbmaobaa
