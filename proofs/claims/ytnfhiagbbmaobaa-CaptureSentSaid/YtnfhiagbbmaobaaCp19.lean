/- CaptureSent. -/
import Derived.Test.YtnfhiagbbmaobaaCp15
import Derived.Test.YtnfhiagbbmaobaaCp17
import Derived.Test.YtnfhiagbbmaobaaCp18
namespace Go.Proofs.Ytnfhiagbbmaobaa
set_option linter.unusedVariables false
set_option linter.unusedSimpArgs false
set_option maxRecDepth 100000
open Go.RowKit Fg Reg
attribute [local irreducible] Reg.wE Reg2.wT Reg.wN World.ownsRow

theorem fewgo_small : ∀ (L : List Fm) (n : Int), fewgo n L = true → ∀ k (h : k < L.length), L[k].d.size ≤ 20000 := by
  intro L
  induction L with
  | nil => intro n _ k h; exact absurd h (Nat.not_lt_zero _)
  | cons f l ih =>
    intro n h k hk
    unfold fewgo at h
    split at h
    · cases h
    · rename_i h1
      cases k with
      | zero => exact Nat.le_of_not_lt h1
      | succ k => exact ih _ h k (by simpa using hk)
theorem few_small {L : List Fm} (h : fewb L = true) : ∀ k (h : k < L.length), L[k].d.size ≤ 20000 := by
  unfold fewb at h
  split at h
  · cases h
  · exact fewgo_small L 0 h
theorem lsent_skip (L : List Fm) (hw : ∀ k (h : k < L.length), L[k].wf) (a a2 : Option Addr) (cap cap2 n : Nat) (w : World) (hR : RwV Fm.cells 2 w a L) (hc : fewb L = false ∨ 100 < L.length ∨ 200 < n) : Calls Try.prog 11 #[.slice a L.length cap, .slice a2 n cap2] w fun e w' => e = .returned (.bool true) ∧ Below w.heap.size w w' := by
  have KF := few_c L hw a cap w hR
  have K1 := Lib.hid (fun z => one_c z)
  by_cases hf : fewb L = true
  · rw [hf] at KF
    replace KF := Lib.hid KF
    by_cases h1 : 100 < L.length
    · have d1 : decide (100 < (L.length : Int)) = true := by simp; omega
      clear hc hR hw hf
      go_enter Try.func11, Try.ntmps11
      go_wp2_with (first
        | (go_at_call 27; ((with_reducible refine (KF.out).mono ?_); rintro e w1 ⟨rfl, hbel⟩; obtain ⟨hcc, hff⟩ := bcell hbel; have hsz := hbel.size; (try simp at hsz); have hF : w.heap.size ≤ w1.heap.size ∧ Below w.heap.size w w1 := (by ((repeat' apply And.intro) <;> first | (simp [go_sem, *]; done) | omega | (repeat' (first | with_reducible exact Below.refl _ _ | with_reducible assumption | ((with_reducible refine Below.drew ?_)) | ((with_reducible refine below_drewN ?_ _)) | ((with_reducible refine Below.alloc ?_ ?_ _); rotate_left; focus (first | omega | (simp; done) | (simp; omega))) | ((with_reducible refine Below.setCell ?_ ?_ _); rotate_left; focus (first | omega | (simp; done) | (simp; omega))) | ((with_reducible refine Below.trans ?_ (Below.mono (by with_reducible assumption) ?_)); rotate_left; focus (first | omega | (simp; done) | (simp; omega))))))); go_split_ands; clear hcc hff hbel))
        | (go_at_call 28; ((with_reducible refine (K1.out _).mono ?_); rintro e w5 ⟨rfl, hbel⟩; obtain ⟨hcc, hff⟩ := bcell hbel; have hsz := hbel.size; (try simp at hsz); have hF : Below w.heap.size w w5 := (by ((repeat' apply And.intro) <;> first | (simp [go_sem, *]; done) | omega | (repeat' (first | with_reducible exact Below.refl _ _ | with_reducible assumption | ((with_reducible refine Below.drew ?_)) | ((with_reducible refine below_drewN ?_ _)) | ((with_reducible refine Below.alloc ?_ ?_ _); rotate_left; focus (first | omega | (simp; done) | (simp; omega))) | ((with_reducible refine Below.setCell ?_ ?_ _); rotate_left; focus (first | omega | (simp; done) | (simp; omega))) | ((with_reducible refine Below.trans ?_ (Below.mono (by with_reducible assumption) ?_)); rotate_left; focus (first | omega | (simp; done) | (simp; omega))))))); go_split_ands; clear hcc hff hbel)))
      (go_ret; refine ⟨?_, ?_⟩; (focus (exact rfl)); ((repeat' (first | with_reducible exact Below.refl _ _ | with_reducible assumption | ((with_reducible refine Below.drew ?_)) | ((with_reducible refine below_drewN ?_ _)) | ((with_reducible refine Below.alloc ?_ ?_ _); rotate_left; focus (first | omega | (simp; done) | (simp; omega))) | ((with_reducible refine Below.setCell ?_ ?_ _); rotate_left; focus (first | omega | (simp; done) | (simp; omega))) | ((with_reducible refine Below.trans ?_ (Below.mono (by with_reducible assumption) ?_)); rotate_left; focus (first | omega | (simp; done) | (simp; omega))))); done))
    · have d1 : decide (100 < (L.length : Int)) = false := by simp; omega
      have h2 : 200 < n := by rcases hc with h | h | h; (rw [hf] at h; cases h); omega; exact h
      have d2 : decide (200 < (n : Int)) = true := by simp; omega
      clear hc hR hw hf
      go_enter Try.func11, Try.ntmps11
      go_wp2_with (first
        | (go_at_call 27; ((with_reducible refine (KF.out).mono ?_); rintro e w1 ⟨rfl, hbel⟩; obtain ⟨hcc, hff⟩ := bcell hbel; have hsz := hbel.size; (try simp at hsz); have hF : w.heap.size ≤ w1.heap.size ∧ Below w.heap.size w w1 := (by ((repeat' apply And.intro) <;> first | (simp [go_sem, *]; done) | omega | (repeat' (first | with_reducible exact Below.refl _ _ | with_reducible assumption | ((with_reducible refine Below.drew ?_)) | ((with_reducible refine below_drewN ?_ _)) | ((with_reducible refine Below.alloc ?_ ?_ _); rotate_left; focus (first | omega | (simp; done) | (simp; omega))) | ((with_reducible refine Below.setCell ?_ ?_ _); rotate_left; focus (first | omega | (simp; done) | (simp; omega))) | ((with_reducible refine Below.trans ?_ (Below.mono (by with_reducible assumption) ?_)); rotate_left; focus (first | omega | (simp; done) | (simp; omega))))))); go_split_ands; clear hcc hff hbel))
        | (go_at_call 28; ((with_reducible refine (K1.out _).mono ?_); rintro e w5 ⟨rfl, hbel⟩; obtain ⟨hcc, hff⟩ := bcell hbel; have hsz := hbel.size; (try simp at hsz); have hF : Below w.heap.size w w5 := (by ((repeat' apply And.intro) <;> first | (simp [go_sem, *]; done) | omega | (repeat' (first | with_reducible exact Below.refl _ _ | with_reducible assumption | ((with_reducible refine Below.drew ?_)) | ((with_reducible refine below_drewN ?_ _)) | ((with_reducible refine Below.alloc ?_ ?_ _); rotate_left; focus (first | omega | (simp; done) | (simp; omega))) | ((with_reducible refine Below.setCell ?_ ?_ _); rotate_left; focus (first | omega | (simp; done) | (simp; omega))) | ((with_reducible refine Below.trans ?_ (Below.mono (by with_reducible assumption) ?_)); rotate_left; focus (first | omega | (simp; done) | (simp; omega))))))); go_split_ands; clear hcc hff hbel)))
      (go_ret; refine ⟨?_, ?_⟩; (focus (exact rfl)); ((repeat' (first | with_reducible exact Below.refl _ _ | with_reducible assumption | ((with_reducible refine Below.drew ?_)) | ((with_reducible refine below_drewN ?_ _)) | ((with_reducible refine Below.alloc ?_ ?_ _); rotate_left; focus (first | omega | (simp; done) | (simp; omega))) | ((with_reducible refine Below.setCell ?_ ?_ _); rotate_left; focus (first | omega | (simp; done) | (simp; omega))) | ((with_reducible refine Below.trans ?_ (Below.mono (by with_reducible assumption) ?_)); rotate_left; focus (first | omega | (simp; done) | (simp; omega))))); done))
  · rw [show fewb L = false by simpa using hf] at KF
    replace KF := Lib.hid KF
    clear hc hR hw hf
    go_enter Try.func11, Try.ntmps11
    go_wp2_with (first
      | (go_at_call 27; ((with_reducible refine (KF.out).mono ?_); rintro e w1 ⟨rfl, hbel⟩; obtain ⟨hcc, hff⟩ := bcell hbel; have hsz := hbel.size; (try simp at hsz); have hF : w.heap.size ≤ w1.heap.size ∧ Below w.heap.size w w1 := (by ((repeat' apply And.intro) <;> first | (simp [go_sem, *]; done) | omega | (repeat' (first | with_reducible exact Below.refl _ _ | with_reducible assumption | ((with_reducible refine Below.drew ?_)) | ((with_reducible refine below_drewN ?_ _)) | ((with_reducible refine Below.alloc ?_ ?_ _); rotate_left; focus (first | omega | (simp; done) | (simp; omega))) | ((with_reducible refine Below.setCell ?_ ?_ _); rotate_left; focus (first | omega | (simp; done) | (simp; omega))) | ((with_reducible refine Below.trans ?_ (Below.mono (by with_reducible assumption) ?_)); rotate_left; focus (first | omega | (simp; done) | (simp; omega))))))); go_split_ands; clear hcc hff hbel))
      | (go_at_call 28; ((with_reducible refine (K1.out _).mono ?_); rintro e w5 ⟨rfl, hbel⟩; obtain ⟨hcc, hff⟩ := bcell hbel; have hsz := hbel.size; (try simp at hsz); have hF : Below w.heap.size w w5 := (by ((repeat' apply And.intro) <;> first | (simp [go_sem, *]; done) | omega | (repeat' (first | with_reducible exact Below.refl _ _ | with_reducible assumption | ((with_reducible refine Below.drew ?_)) | ((with_reducible refine below_drewN ?_ _)) | ((with_reducible refine Below.alloc ?_ ?_ _); rotate_left; focus (first | omega | (simp; done) | (simp; omega))) | ((with_reducible refine Below.setCell ?_ ?_ _); rotate_left; focus (first | omega | (simp; done) | (simp; omega))) | ((with_reducible refine Below.trans ?_ (Below.mono (by with_reducible assumption) ?_)); rotate_left; focus (first | omega | (simp; done) | (simp; omega))))))); go_split_ands; clear hcc hff hbel)))
    (go_ret; refine ⟨?_, ?_⟩; (focus (exact rfl)); ((repeat' (first | with_reducible exact Below.refl _ _ | with_reducible assumption | ((with_reducible refine Below.drew ?_)) | ((with_reducible refine below_drewN ?_ _)) | ((with_reducible refine Below.alloc ?_ ?_ _); rotate_left; focus (first | omega | (simp; done) | (simp; omega))) | ((with_reducible refine Below.setCell ?_ ?_ _); rotate_left; focus (first | omega | (simp; done) | (simp; omega))) | ((with_reducible refine Below.trans ?_ (Below.mono (by with_reducible assumption) ?_)); rotate_left; focus (first | omega | (simp; done) | (simp; omega))))); done))
set_option maxHeartbeats 8000000 in
theorem lsent_ok (L : List Fm) (hw : ∀ k (h : k < L.length), L[k].wf) (hf : fewb L = true) (hL : L.length ≤ 100) (a a2 : Option Addr) (cap cap2 : Nat) (es : List Ev) (hes : ∀ k (h : k < es.length), es[k].wf) (hE : es.length ≤ 200) (w : World) (hR : RwV Fm.cells 2 w a L) (hV : EvsV w a2 es) : Calls Try.prog 11 #[.slice a L.length cap, .slice a2 es.length cap2] w fun e w' => e = .returned (.bool true) ∧ Below w.heap.size w w' := by
  have hsm := few_small hf
  have KF := few_c L hw a cap w hR
  rw [hf] at KF
  replace KF := Lib.hid KF
  have K1 := Lib.hid (fun z => one_c z)
  have KC := Lib.hid (fun w h1 h2 => csent_c L (by omega) (fun j h d hd => by have := hsm j h; rw [hd] at this; omega) a cap es hes (by omega) a2 cap2 w h1 h2)
  have KR := Lib.hid (fun w h => cref_c L (by omega) a cap w h)
  have KQ := Lib.hid (fun a cap w h1 h2 => rsent_c L (by omega) a cap es hes (by omega) a2 cap2 w h1 h2)
  have hsl := sentL_len L es
  obtain ⟨M, hM⟩ : ∃ M, sentL L es = M := ⟨_, rfl⟩
  rw [hM] at KC KQ hsl
  have KS := Lib.hid (fun a a2 cap cap2 w h1 h2 => csame_c M (by omega) a a2 cap cap2 w h1 h2)
  have d1 : decide (100 < (L.length : Int)) = false := by simp; omega
  have d2 : decide (200 < (es.length : Int)) = false := by simp; omega
  have HR := Lib.hid hR
  have HV := Lib.hid hV
  clear hR hV hw hf hes hsm hM
  go_enter Try.func11, Try.ntmps11
  go_wp2_with (first
    | (go_at_call 27; ((with_reducible refine KF.out.mono ?_); rintro ee w1 ⟨rfl, hb1⟩; (have HR1 := Lib.hid (HR.out.below hb1)); (have HV1 := Lib.hid (HV.out.below hb1)); (have s1 := hb1.size)))
    | (go_at_call 39; ((with_reducible refine (KC.out _ HR1.out HV1.out).mono ?_); rintro ee w2 ⟨v2, rfl, hO2, hb2⟩; obtain ⟨a3, c3, rfl, hr3, -⟩ := RwV.of_own fm_of hO2; (have H2 := Lib.hid hr3); (have HR2 := Lib.hid (HR1.out.below hb2)); (have HV2 := Lib.hid (HV1.out.below hb2)); (have s2 := hb2.size); clear hr3 hO2))
    | (go_at_call 31; ((with_reducible refine (KR.out _ HR2.out).mono ?_); rintro ee w3 ⟨v3, rfl, hO3, hb3⟩; obtain ⟨a4, c4, rfl, hr4, -⟩ := RwV.of_own fm_of hO3; (have H3 := Lib.hid hr4); (have H23 := Lib.hid (H2.out.below hb3)); (have HV3 := Lib.hid (HV2.out.below hb3)); (have s3 := hb3.size); clear hr4 hO3))
    | (go_at_call 40; ((with_reducible refine (KQ.out _ _ _ H3.out HV3.out).mono ?_); rintro ee w4 ⟨v4, rfl, hO4, hb4⟩; obtain ⟨a5, c5, rfl, hr5, -⟩ := RwV.of_own fm_of hO4; (have H4 := Lib.hid hr5); (have H24 := Lib.hid (H23.out.below hb4)); (have s4 := hb4.size); clear hr5 hO4))
    | (go_at_call 34; ((with_reducible refine (KS.out _ _ _ _ _ H24.out H4.out).mono ?_); rintro ee w9 ⟨rfl, hb9⟩; (have s9 := hb9.size)))
    | (go_at_call 28; ((with_reducible refine (K1.out _).mono ?_); rintro e w10 ⟨rfl, hbel⟩; obtain ⟨hcc, hff⟩ := bcell hbel; have hsz := hbel.size; (try simp at hsz); have hF : Below w.heap.size w w10 := (by ((repeat' apply And.intro) <;> first | (simp [go_sem, *]; done) | omega | (repeat' (first | with_reducible exact Below.refl _ _ | with_reducible assumption | ((with_reducible refine Below.drew ?_)) | ((with_reducible refine below_drewN ?_ _)) | ((with_reducible refine Below.alloc ?_ ?_ _); rotate_left; focus (first | omega | (simp; done) | (simp; omega))) | ((with_reducible refine Below.setCell ?_ ?_ _); rotate_left; focus (first | omega | (simp; done) | (simp; omega))) | ((with_reducible refine Below.trans ?_ (Below.mono (by with_reducible assumption) ?_)); rotate_left; focus (first | omega | (simp; done) | (simp; omega))))))); go_split_ands; clear hcc hff hbel)))
  (go_ret; refine ⟨?_, ?_⟩; (focus (exact rfl)); ((repeat' (first | with_reducible exact Below.refl _ _ | with_reducible assumption | ((with_reducible refine Below.drew ?_)) | ((with_reducible refine below_drewN ?_ _)) | ((with_reducible refine Below.alloc ?_ ?_ _); rotate_left; focus (first | omega | (simp; done) | (simp; omega))) | ((with_reducible refine Below.setCell ?_ ?_ _); rotate_left; focus (first | omega | (simp; done) | (simp; omega))) | ((with_reducible refine Below.trans ?_ (Below.mono (by with_reducible assumption) ?_)); rotate_left; focus (first | omega | (simp; done) | (simp; omega))))); done))
theorem captureSent_law (v v2 : Value) (w : World) (h : Op.FlatSlice w 2 [.int .u64, .str] v) (h2 : Op.FlatSlice w 12 [.int .i64, .bool, .bool, .int .u64, .int .u64, .int .i64, .int .u64, .int .i64, .int .u16, .int .u16, .int .u16, .int .u16] v2) : Calls Try.prog 11 #[v, v2] w fun e w' => e = .returned (.bool true) ∧ Below w.heap.size w w' := by
  obtain ⟨a, L, cap, rfl, hR, hw⟩ := fms_of h
  obtain ⟨a2, es, cap2, rfl, hn, hm, hV, hes⟩ := evs_of h2
  unfold maxLen at hm
  by_cases hc : fewb L = false ∨ 100 < L.length ∨ 200 < es.length
  · exact lsent_skip L hw a a2 cap cap2 es.length w hR hc
  · exact lsent_ok L hw (by cases hq : fewb L with | true => rfl | false => exact absurd (.inl hq) hc) (by omega) a a2 cap cap2 es hes (by omega) w hR hV
end Go.Proofs.Ytnfhiagbbmaobaa
