/- The reference's Wrong and Encode (captures). -/
import Derived.Test.YtnfhiagbbmaobaaCp2
import Derived.Test.YtnfhiagbbmaobaaCp6
namespace Go.Proofs.Ytnfhiagbbmaobaa
set_option linter.unusedVariables false
set_option linter.unusedSimpArgs false
set_option maxRecDepth 100000
open Go.RowKit Fg Reg
attribute [local irreducible] Reg.wE Reg2.wT World.ownsRow

/-- The tick of the frame ahead of a place. -/
def lastT (L : List Fm) (k : Nat) : Int := if k = 0 then 0 else (L.getD (k - 1) ⟨0, ⟨#[]⟩⟩).t
theorem lastT_succ (L : List Fm) (k : Nat) (h : k < L.length) : lastT L (k + 1) = L[k].t := by
  unfold lastT
  rw [if_neg (by omega), Nat.add_sub_cancel, List.getD, List.getElem?_eq_getElem h]
  rfl
set_option maxHeartbeats 8000000 in
theorem cwr_c (L : List Fm) (hw : ∀ k (h : k < L.length), L[k].wf) (hL : L.length ≤ 1000000) (a : Option Addr) (cap : Nat) (w : World) (hR : RwV Fm.cells 2 w a L) : Calls Try.prog 30 #[.slice a L.length cap] w fun ee w' => ee = .returned (.int .i64 (chk L)) ∧ Below w.heap.size w w' := by
  by_cases h1 : 1000 < L.length
  · have d1 : decide (1000 < (L.length : Int)) = true := by simp <;> omega
    unfold chk
    rw [if_pos h1]
    go_enter Try.func30, Try.ntmps30
    go_wp2
    (go_ret; refine ⟨?_, ?_⟩; (focus (exact rfl)); ((repeat' (first | with_reducible exact Below.refl _ _ | with_reducible assumption | ((with_reducible refine Below.drew ?_)) | ((with_reducible refine below_drewN ?_ _)) | ((with_reducible refine Below.alloc ?_ ?_ _); rotate_left; focus (first | omega | (simp; done) | (simp; omega))) | ((with_reducible refine Below.setCell ?_ ?_ _); rotate_left; focus (first | omega | (simp; done) | (simp; omega))) | ((with_reducible refine Below.trans ?_ (Below.mono (by with_reducible assumption) ?_)); rotate_left; focus (first | omega | (simp; done) | (simp; omega))))); done))
  have d1 : decide (1000 < (L.length : Int)) = false := by simp; omega
  unfold chk
  rw [if_neg h1]
  have HW := Lib.hid hw
  have HR := Lib.hid hR
  obtain ⟨e0, he0⟩ : ∃ e0, chkf 0 L = e0 := ⟨_, rfl⟩
  rw [he0]
  clear hw hR
  go_enter Try.func30, Try.ntmps30
  go_wp2_with fail
  go_loopw [10] (fun ii wr => ∃ (k : Nat), k ≤ L.length ∧ ii = .int .i64 k ∧ chkf (lastT L k) (L.drop k) = e0 ∧ Below w.heap.size w wr) (fun ii _ => L.length - (intOf ii).toNat)
  case atStart => exact ⟨0, Nat.zero_le _, rfl, he0, Below.refl _ _⟩
  case round =>
    obtain ⟨k, hk, rfl, hc, hB⟩ := hrel
    clear he0
    by_cases hlt : k < L.length
    · obtain ⟨b, o, ha, hb, q0, q1⟩ := fm_cells HR.out k hlt
      have hwf := HW.out k hlt
      have hls := lastT_succ L k hlt
      rw [drop_cons L k hlt] at hc
      have c0 := (hB.cell (p := ⟨b, o + k * 2, none⟩) hb).trans q0
      have c1 := (hB.cell (p := ⟨b, o + k * 2 + 1, none⟩) hb).trans q1
      obtain ⟨⟨t0, t1⟩, hd⟩ := hwf
      unfold chkf at hc
      obtain ⟨t, hte⟩ : ∃ t, L[k].t = t := ⟨_, rfl⟩
      obtain ⟨d, hde⟩ : ∃ d, L[k].d = d := ⟨_, rfl⟩
      rw [hte] at t0 t1 hc c0 hls
      rw [hde] at hd hc c1
      have hsz := hB.size
      subst ha
      clear q0 q1
      have hbr : b < wr.heap.size := by omega
      have HLS := Lib.hid hls
      clear hls hte hde
      by_cases g1 : d.size < 1 ∨ 16384 < d.size
      · rw [if_pos g1] at hc
        have HC := Lib.hid hc
        clear hc
        by_cases g2 : d.size < 1
        · have d2 : decide ((d.size : Int) < 1) = true := by simp <;> omega
          clear g1
          go_wp2
          go_ret
          exact ⟨by rw [← HC.out]; rfl, by ((repeat' (first | with_reducible exact Below.refl _ _ | with_reducible assumption | ((with_reducible refine Below.drew ?_)) | ((with_reducible refine below_drewN ?_ _)) | ((with_reducible refine Below.alloc ?_ ?_ _); rotate_left; focus (first | omega | (simp; done) | (simp; omega))) | ((with_reducible refine Below.setCell ?_ ?_ _); rotate_left; focus (first | omega | (simp; done) | (simp; omega))) | ((with_reducible refine Below.trans ?_ (Below.mono (by with_reducible assumption) ?_)); rotate_left; focus (first | omega | (simp; done) | (simp; omega))))); done)⟩
        · have d2 : decide ((d.size : Int) < 1) = false := by simp; omega
          have d3 : decide (16384 < (d.size : Int)) = true := by simp <;> omega
          clear g1
          go_wp2
          go_ret
          exact ⟨by rw [← HC.out]; rfl, by ((repeat' (first | with_reducible exact Below.refl _ _ | with_reducible assumption | ((with_reducible refine Below.drew ?_)) | ((with_reducible refine below_drewN ?_ _)) | ((with_reducible refine Below.alloc ?_ ?_ _); rotate_left; focus (first | omega | (simp; done) | (simp; omega))) | ((with_reducible refine Below.setCell ?_ ?_ _); rotate_left; focus (first | omega | (simp; done) | (simp; omega))) | ((with_reducible refine Below.trans ?_ (Below.mono (by with_reducible assumption) ?_)); rotate_left; focus (first | omega | (simp; done) | (simp; omega))))); done)⟩
      · rw [if_neg g1] at hc
        have d2 : decide ((d.size : Int) < 1) = false := by simp; omega
        have d3 : decide (16384 < (d.size : Int)) = false := by simp; omega
        clear g1
        by_cases g4 : 4611686018427387904 < t
        · rw [if_pos (.inr g4)] at hc
          have HC := Lib.hid hc
          have d4 : decide (4611686018427387904 < t) = true := by simpa using g4
          clear hc g4
          go_wp2
          go_quiet (fail)
          go_wp2
          go_ret
          exact ⟨by rw [← HC.out]; rfl, by ((repeat' (first | with_reducible exact Below.refl _ _ | with_reducible assumption | ((with_reducible refine Below.drew ?_)) | ((with_reducible refine below_drewN ?_ _)) | ((with_reducible refine Below.alloc ?_ ?_ _); rotate_left; focus (first | omega | (simp; done) | (simp; omega))) | ((with_reducible refine Below.setCell ?_ ?_ _); rotate_left; focus (first | omega | (simp; done) | (simp; omega))) | ((with_reducible refine Below.trans ?_ (Below.mono (by with_reducible assumption) ?_)); rotate_left; focus (first | omega | (simp; done) | (simp; omega))))); done)⟩
        · have d4 : decide (4611686018427387904 < t) = false := by simpa using g4
          rcases k with _ | m
          · rw [show lastT L 0 = 0 from rfl, if_neg (by omega)] at hc
            simp only [Nat.zero_mul, Nat.add_zero] at c0 c1
            have HC := Lib.hid hc
            clear hc g4
            go_wp2
            go_quiet (fail)
            go_wp2
            go_roundw
            case rel => exact ⟨0 + 1, by omega, by go_num, by rw [HLS.out]; exact HC.out, by ((repeat' (first | with_reducible exact Below.refl _ _ | with_reducible assumption | ((with_reducible refine Below.drew ?_)) | ((with_reducible refine below_drewN ?_ _)) | ((with_reducible refine Below.alloc ?_ ?_ _); rotate_left; focus (first | omega | (simp; done) | (simp; omega))) | ((with_reducible refine Below.setCell ?_ ?_ _); rotate_left; focus (first | omega | (simp; done) | (simp; omega))) | ((with_reducible refine Below.trans ?_ (Below.mono (by with_reducible assumption) ?_)); rotate_left; focus (first | omega | (simp; done) | (simp; omega))))); done)⟩
            case measure => (simp [intOf]; try omega)
          · obtain ⟨b', o', ha', hb', y0, -⟩ := fm_cells HR.out m (by omega)
            obtain ⟨rfl, rfl⟩ : b = b' ∧ o = o' := by simpa using ha'
            have z0 := (hB.cell (p := ⟨b, o + m * 2, none⟩) hb').trans y0
            rw [lastT_succ L m (by omega)] at hc
            generalize L[m].t = y at *
            have hm0 : decide ((0 : Int) < (m : Int) + 1) = true := by simp <;> omega
            clear y0 ha' hb'
            by_cases g5 : t < y
            · rw [if_pos (.inl g5)] at hc
              have HC := Lib.hid hc
              have d5 : decide (t < y) = true := by simpa using g5
              clear hc g4
              go_wp2
              go_quiet (fail)
              go_wp2
              go_ret
              exact ⟨by rw [← HC.out]; rfl, by ((repeat' (first | with_reducible exact Below.refl _ _ | with_reducible assumption | ((with_reducible refine Below.drew ?_)) | ((with_reducible refine below_drewN ?_ _)) | ((with_reducible refine Below.alloc ?_ ?_ _); rotate_left; focus (first | omega | (simp; done) | (simp; omega))) | ((with_reducible refine Below.setCell ?_ ?_ _); rotate_left; focus (first | omega | (simp; done) | (simp; omega))) | ((with_reducible refine Below.trans ?_ (Below.mono (by with_reducible assumption) ?_)); rotate_left; focus (first | omega | (simp; done) | (simp; omega))))); done)⟩
            · rw [if_neg (by omega)] at hc
              have HC := Lib.hid hc
              have d5 : decide (t < y) = false := by simpa using g5
              clear hc g4
              go_wp2
              go_quiet (fail)
              go_wp2
              go_roundw
              case rel => exact ⟨m + 1 + 1, by omega, by go_num, by rw [HLS.out]; exact HC.out, by ((repeat' (first | with_reducible exact Below.refl _ _ | with_reducible assumption | ((with_reducible refine Below.drew ?_)) | ((with_reducible refine below_drewN ?_ _)) | ((with_reducible refine Below.alloc ?_ ?_ _); rotate_left; focus (first | omega | (simp; done) | (simp; omega))) | ((with_reducible refine Below.setCell ?_ ?_ _); rotate_left; focus (first | omega | (simp; done) | (simp; omega))) | ((with_reducible refine Below.trans ?_ (Below.mono (by with_reducible assumption) ?_)); rotate_left; focus (first | omega | (simp; done) | (simp; omega))))); done)⟩
              case measure => (simp [intOf]; try omega)
    · obtain rfl : k = L.length := by omega
      rw [List.drop_length] at hc
      have HC := Lib.hid hc
      clear hc
      go_wp2
      go_ret
      exact ⟨by rw [← HC.out]; rfl, hB⟩
end Go.Proofs.Ytnfhiagbbmaobaa
