/- CaptureEncodes. -/
import Derived.Test.YtnfhiagbbmaobaaCp14
import Derived.Test.YtnfhiagbbmaobaaCp7
import Derived.Test.YtnfhiagbbmaobaaCp8
namespace Go.Proofs.Ytnfhiagbbmaobaa
set_option linter.unusedVariables false
set_option linter.unusedSimpArgs false
set_option maxRecDepth 100000
open Go.RowKit Fg Reg
attribute [local irreducible] Reg.wE Reg2.wT Reg.wN World.ownsRow

def fewgo (n : Int) : List Fm → Bool
  | [] => decide (n ≤ 200000)
  | f :: l => if 20000 < f.d.size then false else fewgo (n + f.d.size) l
def fewb (L : List Fm) : Bool := if 1001 < L.length then false else fewgo 0 L
set_option maxHeartbeats 8000000 in
theorem few_c (L : List Fm) (hw : ∀ k (h : k < L.length), L[k].wf) (a : Option Addr) (cap : Nat) (w : World) (hR : RwV Fm.cells 2 w a L) : Calls Try.prog 27 #[.slice a L.length cap] w fun ee w' => ee = .returned (.bool (fewb L)) ∧ Below w.heap.size w w' := by
  unfold fewb
  by_cases h1 : 1001 < L.length
  · rw [if_pos h1]
    have d1 : decide (1001 < (L.length : Int)) = true := by simp; omega
    go_enter Try.func27, Try.ntmps27
    go_wp2
    (go_ret; refine ⟨?_, ?_⟩; (focus (exact rfl)); ((repeat' (first | with_reducible exact Below.refl _ _ | with_reducible assumption | ((with_reducible refine Below.drew ?_)) | ((with_reducible refine below_drewN ?_ _)) | ((with_reducible refine Below.alloc ?_ ?_ _); rotate_left; focus (first | omega | (simp; done) | (simp; omega))) | ((with_reducible refine Below.setCell ?_ ?_ _); rotate_left; focus (first | omega | (simp; done) | (simp; omega))) | ((with_reducible refine Below.trans ?_ (Below.mono (by with_reducible assumption) ?_)); rotate_left; focus (first | omega | (simp; done) | (simp; omega))))); done))
  rw [if_neg h1]
  have d1 : decide (1001 < (L.length : Int)) = false := by simp; omega
  have HR := Lib.hid hR
  obtain ⟨r0, hr0⟩ : ∃ r0, fewgo 0 L = r0 := ⟨_, rfl⟩
  rw [hr0]
  clear hR
  go_enter Try.func27, Try.ntmps27
  go_wp2_with fail
  go_loopw [3, 11] (fun nn ii wr => ∃ (k : Nat) (n : Int), k ≤ L.length ∧ ii = .int .i64 k ∧ nn = .int .i64 n ∧ 0 ≤ n ∧ n ≤ 20000 * k ∧ fewgo n (L.drop k) = r0 ∧ Below w.heap.size w wr) (fun _ ii _ => L.length - (intOf ii).toNat)
  case atStart => exact ⟨0, 0, Nat.zero_le _, rfl, rfl, by omega, by omega, hr0, Below.refl _ _⟩
  case round =>
    obtain ⟨k, n, hk, rfl, rfl, hn0, hn1, hc, hB⟩ := hrel
    clear hr0
    by_cases hlt : k < L.length
    · obtain ⟨b, o, ha, hb, q0, q1⟩ := fm_cells HR.out k hlt
      have c0 := (hB.cell (p := ⟨b, o + k * 2, none⟩) hb).trans q0
      have c1 := (hB.cell (p := ⟨b, o + k * 2 + 1, none⟩) hb).trans q1
      have hwf := (hw k hlt).2
      rw [drop_cons L k hlt] at hc
      unfold fewgo at hc
      obtain ⟨t, ht⟩ : ∃ t, L[k].t = t := ⟨_, rfl⟩
      obtain ⟨d, hd⟩ : ∃ d, L[k].d = d := ⟨_, rfl⟩
      rw [ht] at c0
      rw [hd] at c1 hwf hc
      have hsz := hB.size
      subst ha
      clear q0 q1 ht hd
      have hbr : b < wr.heap.size := by omega
      by_cases g : 20000 < d.size
      · rw [if_pos g] at hc
        have HC := Lib.hid hc
        have d2 : decide (20000 < (d.size : Int)) = true := by simp; omega
        clear hc
        go_wp2
        go_ret
        exact ⟨by rw [← HC.out]; rfl, by ((repeat' (first | with_reducible exact Below.refl _ _ | with_reducible assumption | ((with_reducible refine Below.drew ?_)) | ((with_reducible refine below_drewN ?_ _)) | ((with_reducible refine Below.alloc ?_ ?_ _); rotate_left; focus (first | omega | (simp; done) | (simp; omega))) | ((with_reducible refine Below.setCell ?_ ?_ _); rotate_left; focus (first | omega | (simp; done) | (simp; omega))) | ((with_reducible refine Below.trans ?_ (Below.mono (by with_reducible assumption) ?_)); rotate_left; focus (first | omega | (simp; done) | (simp; omega))))); done)⟩
      · rw [if_neg g] at hc
        have HC := Lib.hid hc
        have d2 : decide (20000 < (d.size : Int)) = false := by simp; omega
        clear hc
        go_wp2
        go_roundw
        case rel => exact ⟨k + 1, n + d.size, by omega, by go_num, by go_num, by omega, by omega, HC.out, by ((repeat' (first | with_reducible exact Below.refl _ _ | with_reducible assumption | ((with_reducible refine Below.drew ?_)) | ((with_reducible refine below_drewN ?_ _)) | ((with_reducible refine Below.alloc ?_ ?_ _); rotate_left; focus (first | omega | (simp; done) | (simp; omega))) | ((with_reducible refine Below.setCell ?_ ?_ _); rotate_left; focus (first | omega | (simp; done) | (simp; omega))) | ((with_reducible refine Below.trans ?_ (Below.mono (by with_reducible assumption) ?_)); rotate_left; focus (first | omega | (simp; done) | (simp; omega))))); done)⟩
        case measure => (simp [intOf]; try omega)
    · obtain rfl : k = L.length := by omega
      rw [List.drop_length] at hc
      have HC := Lib.hid hc
      clear hc
      go_wp2
      go_ret
      exact ⟨by rw [← HC.out]; rfl, hB⟩
theorem lenc46_not (v : Value) (w : World) (kf : Calls Try.prog 27 #[v] w fun ee w' => ee = .returned (.bool false) ∧ Below w.heap.size w w') : Calls Try.prog 8 #[v] w fun e w' => e = .returned (.bool true) ∧ Below w.heap.size w w' := by
  have KF := Lib.hid kf
  have K := Lib.hid (fun z => one_c z)
  clear kf
  go_enter Try.func8, Try.ntmps8
  go_wp2_with (first
    | (go_at_call 27; ((with_reducible refine (KF.out).mono ?_); rintro e w1 ⟨rfl, hbel⟩; obtain ⟨hcc, hff⟩ := bcell hbel; have hsz := hbel.size; (try simp at hsz); have hF : w.heap.size ≤ w1.heap.size ∧ Below w.heap.size w w1 := (by ((repeat' apply And.intro) <;> first | (simp [go_sem, *]; done) | omega | (repeat' (first | with_reducible exact Below.refl _ _ | with_reducible assumption | ((with_reducible refine Below.drew ?_)) | ((with_reducible refine below_drewN ?_ _)) | ((with_reducible refine Below.alloc ?_ ?_ _); rotate_left; focus (first | omega | (simp; done) | (simp; omega))) | ((with_reducible refine Below.setCell ?_ ?_ _); rotate_left; focus (first | omega | (simp; done) | (simp; omega))) | ((with_reducible refine Below.trans ?_ (Below.mono (by with_reducible assumption) ?_)); rotate_left; focus (first | omega | (simp; done) | (simp; omega))))))); go_split_ands; clear hcc hff hbel))
    | (go_at_call 28; ((with_reducible refine (K.out _).mono ?_); rintro e w2 ⟨rfl, hbel⟩; obtain ⟨hcc, hff⟩ := bcell hbel; have hsz := hbel.size; (try simp at hsz); have hF : Below w.heap.size w w2 := (by ((repeat' apply And.intro) <;> first | (simp [go_sem, *]; done) | omega | (repeat' (first | with_reducible exact Below.refl _ _ | with_reducible assumption | ((with_reducible refine Below.drew ?_)) | ((with_reducible refine below_drewN ?_ _)) | ((with_reducible refine Below.alloc ?_ ?_ _); rotate_left; focus (first | omega | (simp; done) | (simp; omega))) | ((with_reducible refine Below.setCell ?_ ?_ _); rotate_left; focus (first | omega | (simp; done) | (simp; omega))) | ((with_reducible refine Below.trans ?_ (Below.mono (by with_reducible assumption) ?_)); rotate_left; focus (first | omega | (simp; done) | (simp; omega))))))); go_split_ands; clear hcc hff hbel)))
  (go_ret; refine ⟨?_, ?_⟩; (focus (exact rfl)); ((repeat' (first | with_reducible exact Below.refl _ _ | with_reducible assumption | ((with_reducible refine Below.drew ?_)) | ((with_reducible refine below_drewN ?_ _)) | ((with_reducible refine Below.alloc ?_ ?_ _); rotate_left; focus (first | omega | (simp; done) | (simp; omega))) | ((with_reducible refine Below.setCell ?_ ?_ _); rotate_left; focus (first | omega | (simp; done) | (simp; omega))) | ((with_reducible refine Below.trans ?_ (Below.mono (by with_reducible assumption) ?_)); rotate_left; focus (first | omega | (simp; done) | (simp; omega))))); done))
theorem chk_val (L : List Fm) : chk L = 0 ∨ chk L = 2 ∨ chk L = 26 ∨ chk L = 27 := by
  unfold chk
  split
  · exact .inr (.inl rfl)
  · rcases chkf_cases 0 L with h | h | h <;> omega
theorem few_len {L : List Fm} (h : fewb L = true) : L.length ≤ 1001 := by
  unfold fewb at h
  split at h
  · cases h
  · omega
set_option maxHeartbeats 8000000 in
theorem lenc46_bad (L : List Fm) (hw : ∀ k (h : k < L.length), L[k].wf) (hf : fewb L = true) (hne : chk L ≠ 0) (a : Option Addr) (cap : Nat) (w : World) (hR : RwV Fm.cells 2 w a L) : Calls Try.prog 8 #[.slice a L.length cap] w fun e w' => e = .returned (.bool true) ∧ Below w.heap.size w w' := by
  have hL := few_len hf
  have hv := chk_val L
  have KF := few_c L hw a cap w hR
  rw [hf] at KF
  have KC := fun w h => cchk_c L hw (by omega) a cap w h
  have KW := fun a cap w h => cwr_c L hw (by omega) a cap w h
  have KE := fun w h => cenc_bad L (chk L) (by omega) a cap (fun _ _ => trivial) w h
  obtain ⟨e, he⟩ : ∃ e, chk L = e := ⟨_, rfl⟩
  rw [he] at KC KW KE hne
  have KR := Lib.hid (fun w h => cref_c L (by omega) a cap w h)
  have K1 := Lib.hid (fun z => one_c z)
  have d2 : (e == 0) = false := by simpa using hne
  have d3 : (e != 0) = true := by simpa using hne
  replace KF := Lib.hid KF
  replace KE := Lib.hid (fun w h => KE w (KC w h))
  replace KW := Lib.hid KW
  have HR := Lib.hid hR
  clear hR KC he hv hne hf
  go_enter Try.func8, Try.ntmps8
  go_wp2_with (first
    | (go_at_call 27; ((with_reducible refine KF.out.mono ?_); rintro ee w1 ⟨rfl, hb1⟩; (have HR1 := Lib.hid (HR.out.below hb1)); (have s1 := hb1.size)))
    | (go_at_call 29; ((with_reducible refine (KE.out _ HR1.out).mono ?_); rintro ee w2 ⟨rfl, hb2⟩; (have HR2 := Lib.hid (HR1.out.below hb2)); (have s2 := hb2.size)))
    | (go_at_call 31; ((with_reducible refine (KR.out _ HR2.out).mono ?_); rintro ee w3 ⟨v3, rfl, hO3, hb3⟩; obtain ⟨a3, c3, rfl, hr3, -⟩ := RwV.of_own fm_of hO3; (have H3 := Lib.hid hr3); (have s3 := hb3.size); clear hr3 hO3))
    | (go_at_call 30; ((with_reducible refine (KW.out _ _ _ H3.out).mono ?_); rintro ee w4 ⟨rfl, hb4⟩; (have s4 := hb4.size)))
    | (go_at_call 28; ((with_reducible refine (K1.out _).mono ?_); rintro e w5 ⟨rfl, hbel⟩; obtain ⟨hcc, hff⟩ := bcell hbel; have hsz := hbel.size; (try simp at hsz); have hF : Below w.heap.size w w5 := (by ((repeat' apply And.intro) <;> first | (simp [go_sem, *]; done) | omega | (repeat' (first | with_reducible exact Below.refl _ _ | with_reducible assumption | ((with_reducible refine Below.drew ?_)) | ((with_reducible refine below_drewN ?_ _)) | ((with_reducible refine Below.alloc ?_ ?_ _); rotate_left; focus (first | omega | (simp; done) | (simp; omega))) | ((with_reducible refine Below.setCell ?_ ?_ _); rotate_left; focus (first | omega | (simp; done) | (simp; omega))) | ((with_reducible refine Below.trans ?_ (Below.mono (by with_reducible assumption) ?_)); rotate_left; focus (first | omega | (simp; done) | (simp; omega))))))); go_split_ands; clear hcc hff hbel)))
  (go_ret; refine ⟨?_, ?_⟩; (focus (exact rfl)); ((repeat' (first | with_reducible exact Below.refl _ _ | with_reducible assumption | ((with_reducible refine Below.drew ?_)) | ((with_reducible refine below_drewN ?_ _)) | ((with_reducible refine Below.alloc ?_ ?_ _); rotate_left; focus (first | omega | (simp; done) | (simp; omega))) | ((with_reducible refine Below.setCell ?_ ?_ _); rotate_left; focus (first | omega | (simp; done) | (simp; omega))) | ((with_reducible refine Below.trans ?_ (Below.mono (by with_reducible assumption) ?_)); rotate_left; focus (first | omega | (simp; done) | (simp; omega))))); done))
theorem capS_size (L : List Fm) (h : chk L = 0) : (capS L).size ≤ 20000000 := by
  have hL : L.length ≤ 1000 ∧ chkf 0 L = 0 := by
    unfold chk at h
    split at h
    · omega
    · exact ⟨by omega, h⟩
  have hds := chkf_all hL.2
  have h2 := encl_len_le L (fun k h => (hds k h).1) L.length
  rw [List.take_length] at h2
  unfold capS
  rw [strOf_size, List.length_append]
  simp only [flog, List.length_cons, List.length_nil]
  omega
end Go.Proofs.Ytnfhiagbbmaobaa
