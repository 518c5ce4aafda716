/- capture.check and capture.Encode. -/
import Derived.Test.YtnfhiagbbmaobaaCp1
namespace Go.Proofs.Ytnfhiagbbmaobaa
set_option linter.unusedVariables false
set_option linter.unusedSimpArgs false
set_option maxRecDepth 100000
open Go.RowKit Fg Reg
attribute [local irreducible] Reg.wE Reg2.wT World.ownsRow

theorem drop_cons (L : List Fm) (k : Nat) (h : k < L.length) : L.drop k = L[k] :: L.drop (k + 1) := List.drop_eq_getElem_cons h
theorem fm_cells {w : World} {a : Option Addr} {L : List Fm} (h : RwV Fm.cells 2 w a L) (k : Nat) (hk : k < L.length) :
    ∃ b o, a = some ⟨b, o, none⟩ ∧ b < w.heap.size ∧ w.cell? ⟨b, o + k * 2, none⟩ = some (.int .u64 L[k].t) ∧ w.cell? ⟨b, o + k * 2 + 1, none⟩ = some (.string L[k].d) := by
  obtain ⟨b, o, e, h1, h2⟩ := h k hk
  exact ⟨b, o, e, h1, h2 0 _ rfl, h2 1 _ rfl⟩
set_option maxHeartbeats 4000000 in
theorem cchk_c (L : List Fm) (hw : ∀ k (h : k < L.length), L[k].wf) (hL : L.length ≤ 1000000) (a : Option Addr) (cap : Nat) (w : World) (hR : RwV Fm.cells 2 w a L) : Calls Try.prog 56 #[.slice a L.length cap] w fun ee w' => ee = .returned (.int .i64 (chk L)) ∧ Below w.heap.size w w' := by
  by_cases h1 : 1000 < L.length
  · have d1 : decide (1000 < (L.length : Int)) = true := by simp; omega
    unfold chk
    rw [if_pos h1]
    go_enter Try.func56, Try.ntmps56
    go_wp2
    (go_ret; refine ⟨?_, ?_⟩; (focus (exact rfl)); ((repeat' (first | with_reducible exact Below.refl _ _ | with_reducible assumption | ((with_reducible refine Below.drew ?_)) | ((with_reducible refine below_drewN ?_ _)) | ((with_reducible refine Below.alloc ?_ ?_ _); rotate_left; focus (first | omega | (simp; done) | (simp; omega))) | ((with_reducible refine Below.setCell ?_ ?_ _); rotate_left; focus (first | omega | (simp; done) | (simp; omega))) | ((with_reducible refine Below.trans ?_ (Below.mono (by with_reducible assumption) ?_)); rotate_left; focus (first | omega | (simp; done) | (simp; omega))))); done))
  have d1 : decide (1000 < (L.length : Int)) = false := by simp; omega
  unfold chk
  rw [if_neg h1]
  have KT := Lib.hid (fun (n : Int) (h : 1 ≤ n ∧ n ≤ 16384) z => (show Calls Try.prog 70 #[.int .i64 n] z fun ee w' => ee = .returned (.bool true) ∧ Below (z).heap.size z w' by
    have := smay_c n z
    rw [show (decide (1 ≤ n) && decide (n ≤ 16384)) = true by simp; omega] at this
    exact this))
  have KFl := Lib.hid (fun (n : Int) (h : n < 1 ∨ 16384 < n) z => (show Calls Try.prog 70 #[.int .i64 n] z fun ee w' => ee = .returned (.bool false) ∧ Below (z).heap.size z w' by
    have := smay_c n z
    rw [show (decide (1 ≤ n) && decide (n ≤ 16384)) = false by simp; omega] at this
    exact this))
  have HW := Lib.hid hw
  have HR := Lib.hid hR
  obtain ⟨e0, he0⟩ : ∃ e0, chkf 0 L = e0 := ⟨_, rfl⟩
  rw [he0]
  clear hw hR
  go_enter Try.func56, Try.ntmps56
  go_wp2_with fail
  go_loopw [3, 11] (fun la ii wr => ∃ (k : Nat) (x : Int), k ≤ L.length ∧ ii = .int .i64 k ∧ la = .int .u64 x ∧ 0 ≤ x ∧ x ≤ 18446744073709551615 ∧ chkf x (L.drop k) = e0 ∧ Below w.heap.size w wr) (fun _ ii _ => L.length - (intOf ii).toNat)
  case atStart => exact ⟨0, 0, Nat.zero_le _, rfl, rfl, by omega, by omega, he0, Below.refl _ _⟩
  case round =>
    obtain ⟨k, x, hk, rfl, rfl, hx0, hx1, hc, hB⟩ := hrel
    clear he0
    by_cases hlt : k < L.length
    · obtain ⟨b, o, ha, hb, q0, q1⟩ := fm_cells HR.out k hlt
      have hwf := HW.out k hlt
      rw [drop_cons L k hlt] at hc
      have c0 := (hB.cell (p := ⟨b, o + k * 2, none⟩) hb).trans q0
      have c1 := (hB.cell (p := ⟨b, o + k * 2 + 1, none⟩) hb).trans q1
      obtain ⟨⟨t0, t1⟩, hd⟩ := hwf
      unfold chkf at hc
      generalize L[k].t = t at *
      generalize L[k].d = d at *
      have hsz := hB.size
      subst ha
      clear q0 q1
      have hbr : b < wr.heap.size := by omega
      by_cases g1 : d.size < 1 ∨ 16384 < d.size
      · rw [if_pos g1] at hc
        have HC := Lib.hid hc
        have K := Lib.hid (KFl.out d.size (by omega))
        clear hc g1
        go_wp2_with (go_at_call 70; ((with_reducible refine (K.out _).mono ?_); rintro e w1 ⟨rfl, hbel⟩; obtain ⟨hcc, hff⟩ := bcell hbel; have hsz := hbel.size; (try simp at hsz); have hF : Below w.heap.size w w1 := (by ((repeat' apply And.intro) <;> first | (simp [go_sem, *]; done) | omega | (repeat' (first | with_reducible exact Below.refl _ _ | with_reducible assumption | ((with_reducible refine Below.drew ?_)) | ((with_reducible refine below_drewN ?_ _)) | ((with_reducible refine Below.alloc ?_ ?_ _); rotate_left; focus (first | omega | (simp; done) | (simp; omega))) | ((with_reducible refine Below.setCell ?_ ?_ _); rotate_left; focus (first | omega | (simp; done) | (simp; omega))) | ((with_reducible refine Below.trans ?_ (Below.mono (by with_reducible assumption) ?_)); rotate_left; focus (first | omega | (simp; done) | (simp; omega))))))); go_split_ands; clear hcc hff hbel))
        go_ret
        exact ⟨by rw [← HC.out]; rfl, by ((repeat' (first | with_reducible exact Below.refl _ _ | with_reducible assumption | ((with_reducible refine Below.drew ?_)) | ((with_reducible refine below_drewN ?_ _)) | ((with_reducible refine Below.alloc ?_ ?_ _); rotate_left; focus (first | omega | (simp; done) | (simp; omega))) | ((with_reducible refine Below.setCell ?_ ?_ _); rotate_left; focus (first | omega | (simp; done) | (simp; omega))) | ((with_reducible refine Below.trans ?_ (Below.mono (by with_reducible assumption) ?_)); rotate_left; focus (first | omega | (simp; done) | (simp; omega))))); done)⟩
      · rw [if_neg g1] at hc
        have K := Lib.hid (KT.out d.size (by omega))
        clear g1
        by_cases g2 : t < x ∨ 4611686018427387904 < t
        · rw [if_pos g2] at hc
          have HC := Lib.hid hc
          clear hc
          by_cases g3 : t < x
          · have d2 : decide (t < x) = true := by simpa using g3
            clear g2
            go_wp2_with (go_at_call 70; ((with_reducible refine (K.out _).mono ?_); rintro e w1 ⟨rfl, hbel⟩; obtain ⟨hcc, hff⟩ := bcell hbel; have hsz := hbel.size; (try simp at hsz); have hF : w1.cell? ⟨wr.heap.size, 0, none⟩ = some (.int .u64 t) ∧ wr.heap.size < w1.heap.size ∧ Below w.heap.size w w1 := (by ((repeat' apply And.intro) <;> first | (simp [go_sem, *]; done) | omega | (repeat' (first | with_reducible exact Below.refl _ _ | with_reducible assumption | ((with_reducible refine Below.drew ?_)) | ((with_reducible refine below_drewN ?_ _)) | ((with_reducible refine Below.alloc ?_ ?_ _); rotate_left; focus (first | omega | (simp; done) | (simp; omega))) | ((with_reducible refine Below.setCell ?_ ?_ _); rotate_left; focus (first | omega | (simp; done) | (simp; omega))) | ((with_reducible refine Below.trans ?_ (Below.mono (by with_reducible assumption) ?_)); rotate_left; focus (first | omega | (simp; done) | (simp; omega))))))); go_split_ands; clear hcc hff hbel))
            go_ret
            exact ⟨by rw [← HC.out]; rfl, by ((repeat' (first | with_reducible exact Below.refl _ _ | with_reducible assumption | ((with_reducible refine Below.drew ?_)) | ((with_reducible refine below_drewN ?_ _)) | ((with_reducible refine Below.alloc ?_ ?_ _); rotate_left; focus (first | omega | (simp; done) | (simp; omega))) | ((with_reducible refine Below.setCell ?_ ?_ _); rotate_left; focus (first | omega | (simp; done) | (simp; omega))) | ((with_reducible refine Below.trans ?_ (Below.mono (by with_reducible assumption) ?_)); rotate_left; focus (first | omega | (simp; done) | (simp; omega))))); done)⟩
          · have d2 : decide (t < x) = false := by simpa using g3
            have d3 : decide (4611686018427387904 < t) = true := by simp; omega
            clear g2
            go_wp2_with (go_at_call 70; ((with_reducible refine (K.out _).mono ?_); rintro e w1 ⟨rfl, hbel⟩; obtain ⟨hcc, hff⟩ := bcell hbel; have hsz := hbel.size; (try simp at hsz); have hF : w1.cell? ⟨wr.heap.size, 0, none⟩ = some (.int .u64 t) ∧ wr.heap.size < w1.heap.size ∧ Below w.heap.size w w1 := (by ((repeat' apply And.intro) <;> first | (simp [go_sem, *]; done) | omega | (repeat' (first | with_reducible exact Below.refl _ _ | with_reducible assumption | ((with_reducible refine Below.drew ?_)) | ((with_reducible refine below_drewN ?_ _)) | ((with_reducible refine Below.alloc ?_ ?_ _); rotate_left; focus (first | omega | (simp; done) | (simp; omega))) | ((with_reducible refine Below.setCell ?_ ?_ _); rotate_left; focus (first | omega | (simp; done) | (simp; omega))) | ((with_reducible refine Below.trans ?_ (Below.mono (by with_reducible assumption) ?_)); rotate_left; focus (first | omega | (simp; done) | (simp; omega))))))); go_split_ands; clear hcc hff hbel))
            go_ret
            exact ⟨by rw [← HC.out]; rfl, by ((repeat' (first | with_reducible exact Below.refl _ _ | with_reducible assumption | ((with_reducible refine Below.drew ?_)) | ((with_reducible refine below_drewN ?_ _)) | ((with_reducible refine Below.alloc ?_ ?_ _); rotate_left; focus (first | omega | (simp; done) | (simp; omega))) | ((with_reducible refine Below.setCell ?_ ?_ _); rotate_left; focus (first | omega | (simp; done) | (simp; omega))) | ((with_reducible refine Below.trans ?_ (Below.mono (by with_reducible assumption) ?_)); rotate_left; focus (first | omega | (simp; done) | (simp; omega))))); done)⟩
        · rw [if_neg g2] at hc
          have HC := Lib.hid hc
          clear hc
          have d2 : decide (t < x) = false := by simp; omega
          have d3 : decide (4611686018427387904 < t) = false := by simp; omega
          clear g2
          go_wp2_with (go_at_call 70; ((with_reducible refine (K.out _).mono ?_); rintro e w1 ⟨rfl, hbel⟩; obtain ⟨hcc, hff⟩ := bcell hbel; have hsz := hbel.size; (try simp at hsz); have hF : w1.cell? ⟨wr.heap.size, 0, none⟩ = some (.int .u64 t) ∧ wr.heap.size < w1.heap.size ∧ Below w.heap.size w w1 := (by ((repeat' apply And.intro) <;> first | (simp [go_sem, *]; done) | omega | (repeat' (first | with_reducible exact Below.refl _ _ | with_reducible assumption | ((with_reducible refine Below.drew ?_)) | ((with_reducible refine below_drewN ?_ _)) | ((with_reducible refine Below.alloc ?_ ?_ _); rotate_left; focus (first | omega | (simp; done) | (simp; omega))) | ((with_reducible refine Below.setCell ?_ ?_ _); rotate_left; focus (first | omega | (simp; done) | (simp; omega))) | ((with_reducible refine Below.trans ?_ (Below.mono (by with_reducible assumption) ?_)); rotate_left; focus (first | omega | (simp; done) | (simp; omega))))))); go_split_ands; clear hcc hff hbel))
          go_roundw
          case rel => exact ⟨k + 1, t, by omega, by go_num, rfl, t0, t1, HC.out, by ((repeat' (first | with_reducible exact Below.refl _ _ | with_reducible assumption | ((with_reducible refine Below.drew ?_)) | ((with_reducible refine below_drewN ?_ _)) | ((with_reducible refine Below.alloc ?_ ?_ _); rotate_left; focus (first | omega | (simp; done) | (simp; omega))) | ((with_reducible refine Below.setCell ?_ ?_ _); rotate_left; focus (first | omega | (simp; done) | (simp; omega))) | ((with_reducible refine Below.trans ?_ (Below.mono (by with_reducible assumption) ?_)); rotate_left; focus (first | omega | (simp; done) | (simp; omega))))); done)⟩
          case measure => simp [intOf]; omega
    · obtain rfl : k = L.length := by omega
      rw [List.drop_length] at hc
      have HC := Lib.hid hc
      clear hc
      go_wp2
      go_ret
      exact ⟨by rw [← HC.out]; rfl, hB⟩
end Go.Proofs.Ytnfhiagbbmaobaa
