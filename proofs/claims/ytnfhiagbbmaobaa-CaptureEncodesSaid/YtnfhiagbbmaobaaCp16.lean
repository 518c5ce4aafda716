/- CaptureEncodes. -/
import Derived.Test.YtnfhiagbbmaobaaCp15
namespace Go.Proofs.Ytnfhiagbbmaobaa
set_option linter.unusedVariables false
set_option linter.unusedSimpArgs false
set_option maxRecDepth 100000
open Go.RowKit Fg Reg
attribute [local irreducible] Reg.wE Reg2.wT Reg.wN World.ownsRow

set_option maxHeartbeats 8000000 in
theorem lenc46_ok (L : List Fm) (hw : ∀ k (h : k < L.length), L[k].wf) (hf : fewb L = true) (he : chk L = 0) (a : Option Addr) (cap : Nat) (w : World) (hR : RwV Fm.cells 2 w a L) : Calls Try.prog 8 #[.slice a L.length cap] w fun e w' => e = .returned (.bool true) ∧ Below w.heap.size w w' := by
  have hL := few_len hf
  have hS := capS_size L he
  have KF := few_c L hw a cap w hR
  rw [hf] at KF
  have KW := fun a cap w h => cwr_c L hw (by omega) a cap w h
  rw [he] at KW
  have KE := fun w h => cenc_ok L hw he a cap w h
  have KN := fun a cap w h => cren_c L hw he a cap w h
  have KD := fun z => cdec_c (capS L) (by omega) z
  rw [pdec_enc L he] at KD
  obtain ⟨S, hSe⟩ : ∃ S, capS L = S := ⟨_, rfl⟩
  rw [hSe] at KD
  simp only [hSe] at KE KN
  have KR := Lib.hid (fun w h => cref_c L (by omega) a cap w h)
  have KS := Lib.hid (fun a a2 cap cap2 w h1 h2 => csame_c L (by omega) a a2 cap cap2 w h1 h2)
  have K1 := Lib.hid (fun z => one_c z)
  replace KF := Lib.hid KF
  replace KE := Lib.hid KE
  replace KW := Lib.hid KW
  replace KN := Lib.hid KN
  replace KD := Lib.hid KD
  have HR := Lib.hid hR
  clear hR he hf hS hSe hw
  go_enter Try.func8, Try.ntmps8
  go_wp2_with (first
    | (go_at_call 27; ((with_reducible refine KF.out.mono ?_); rintro ee w1 ⟨rfl, hb1⟩; (have HR1 := Lib.hid (HR.out.below hb1)); (have s1 := hb1.size)))
    | (go_at_call 29; ((with_reducible refine (KE.out _ HR1.out).mono ?_); rintro ee w2 ⟨rfl, hb2⟩; (have HR2 := Lib.hid (HR1.out.below hb2)); (have s2 := hb2.size)))
    | (go_at_call 31; ((with_reducible refine (KR.out _ HR2.out).mono ?_); rintro ee w3 ⟨v3, rfl, hO3, hb3⟩; obtain ⟨a3, c3, rfl, hr3, -⟩ := RwV.of_own fm_of hO3; (have H3 := Lib.hid hr3); (have HR3 := Lib.hid (HR2.out.below hb3)); (have s3 := hb3.size); clear hr3 hO3))
    | (go_at_call 30; ((with_reducible refine (KW.out _ _ _ H3.out).mono ?_); rintro ee w4 ⟨rfl, hb4⟩; (have HR4 := Lib.hid (HR3.out.below hb4)); (have s4 := hb4.size)))
    | (go_at_call 32; ((with_reducible refine (KD.out _).mono ?_); rintro ee w5 ⟨v5, rfl, hO5, hb5⟩; obtain ⟨a5, c5, rfl, hr5, -⟩ := RwV.of_own fm_of hO5; (have H5 := Lib.hid hr5); (have HR5 := Lib.hid (HR4.out.below hb5)); (have s5 := hb5.size); clear hr5 hO5))
    | (go_at_call 31; ((with_reducible refine (KR.out _ HR5.out).mono ?_); rintro ee w6 ⟨v6, rfl, hO6, hb6⟩; obtain ⟨a6, c6, rfl, hr6, -⟩ := RwV.of_own fm_of hO6; (have H6 := Lib.hid hr6); (have HR6 := Lib.hid (HR5.out.below hb6)); (have H56 := Lib.hid (H5.out.below hb6)); (have s6 := hb6.size); clear hr6 hO6))
    | (go_at_call 33; ((with_reducible refine (KN.out _ _ _ H6.out).mono ?_); rintro ee w7 ⟨rfl, hb7⟩; (have HR7 := Lib.hid (HR6.out.below hb7)); (have H57 := Lib.hid (H56.out.below hb7)); (have s7 := hb7.size)))
    | (go_at_call 31; ((with_reducible refine (KR.out _ HR7.out).mono ?_); rintro ee w8 ⟨v8, rfl, hO8, hb8⟩; obtain ⟨a8, c8, rfl, hr8, -⟩ := RwV.of_own fm_of hO8; (have H8 := Lib.hid hr8); (have H58 := Lib.hid (H57.out.below hb8)); (have s8 := hb8.size); clear hr8 hO8))
    | (go_at_call 34; ((with_reducible refine (KS.out _ _ _ _ _ H58.out H8.out).mono ?_); rintro ee w9 ⟨rfl, hb9⟩; (have s9 := hb9.size)))
    | (go_at_call 28; ((with_reducible refine (K1.out _).mono ?_); rintro e w10 ⟨rfl, hbel⟩; obtain ⟨hcc, hff⟩ := bcell hbel; have hsz := hbel.size; (try simp at hsz); have hF : Below w.heap.size w w10 := (by ((repeat' apply And.intro) <;> first | (simp [go_sem, *]; done) | omega | (repeat' (first | with_reducible exact Below.refl _ _ | with_reducible assumption | ((with_reducible refine Below.drew ?_)) | ((with_reducible refine below_drewN ?_ _)) | ((with_reducible refine Below.alloc ?_ ?_ _); rotate_left; focus (first | omega | (simp; done) | (simp; omega))) | ((with_reducible refine Below.setCell ?_ ?_ _); rotate_left; focus (first | omega | (simp; done) | (simp; omega))) | ((with_reducible refine Below.trans ?_ (Below.mono (by with_reducible assumption) ?_)); rotate_left; focus (first | omega | (simp; done) | (simp; omega))))))); go_split_ands; clear hcc hff hbel)))
  (go_ret; refine ⟨?_, ?_⟩; (focus (exact rfl)); ((repeat' (first | with_reducible exact Below.refl _ _ | with_reducible assumption | ((with_reducible refine Below.drew ?_)) | ((with_reducible refine below_drewN ?_ _)) | ((with_reducible refine Below.alloc ?_ ?_ _); rotate_left; focus (first | omega | (simp; done) | (simp; omega))) | ((with_reducible refine Below.setCell ?_ ?_ _); rotate_left; focus (first | omega | (simp; done) | (simp; omega))) | ((with_reducible refine Below.trans ?_ (Below.mono (by with_reducible assumption) ?_)); rotate_left; focus (first | omega | (simp; done) | (simp; omega))))); done))
theorem captureEncodes_law (v : Value) (w : World) (h : Op.FlatSlice w 2 [.int .u64, .str] v) : Calls Try.prog 8 #[v] w fun e w' => e = .returned (.bool true) ∧ Below w.heap.size w w' := by
  obtain ⟨a, L, cap, rfl, hR, hw⟩ := fms_of h
  by_cases hf : fewb L = true
  · by_cases he : chk L = 0
    · exact lenc46_ok L hw hf he a cap w hR
    · exact lenc46_bad L hw hf he a cap w hR
  · have k := few_c L hw a cap w hR
    rw [show fewb L = false by simpa using hf] at k
    exact lenc46_not _ w k
end Go.Proofs.Ytnfhiagbbmaobaa
