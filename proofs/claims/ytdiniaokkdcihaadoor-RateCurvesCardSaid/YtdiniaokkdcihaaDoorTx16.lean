/- rate.RateText and rate.TimeText. -/
import Derived.Test.YtdiniaokkdcihaaDoorTx10
import Derived.Test.YtdiniaokkdcihaaDoorTx11
namespace Go.Proofs.YtdiniaokkdcihaaDoor
set_option linter.unusedVariables false
set_option linter.unusedSimpArgs false
set_option maxRecDepth 100000
open Go.RowKit Fg Reg
attribute [local irreducible] Reg.wE TB

def rtxt (v : Int) : List UInt8 := if rm v = true then rtx v else []
def ttxt (v : Int) : List UInt8 := if v ≤ 1000000000 then ttx v else []
theorem rtext_c (v : Int) (h0 : 0 ≤ v) (h1 : v < 18446744073709551616) (w : World) (hT : TB w) : Calls Tryd.prog 46 #[.int .u64 v] w fun ee w' => ee = .returned (.string ⟨(rtxt v).toArray⟩) ∧ Below w.heap.size w w' := by
  have km := fun w => rmy_c v w
  unfold rtxt
  have HT := Lib.hid hT
  clear hT
  cases hr : rm v with
  | false =>
    rw [if_neg (by simp)]
    rw [hr] at km
    have KM := Lib.hid km
    clear km hr
    go_enter Tryd.func46, Tryd.ntmps46
    go_wp2_with (go_at_call 85; ((with_reducible refine (KM.out _).mono ?_); rintro e w1 ⟨rfl, hbel⟩; obtain ⟨hcc, hff⟩ := bcell hbel; have hsz := hbel.size; (try simp at hsz); have hF : Below w.heap.size w w1 := (by ((repeat' apply And.intro) <;> first | (simp [go_sem, *]; done) | omega | (repeat' (first | with_reducible exact Below.refl _ _ | with_reducible assumption | ((with_reducible refine Below.drew ?_)) | ((with_reducible refine below_drewN ?_ _)) | ((with_reducible refine Below.alloc ?_ ?_ _); rotate_left; focus (first | omega | (simp; done) | (simp; omega))) | ((with_reducible refine Below.setCell ?_ ?_ _); rotate_left; focus (first | omega | (simp; done) | (simp; omega))) | ((with_reducible refine Below.trans ?_ (Below.mono (by with_reducible assumption) ?_)); rotate_left; focus (first | omega | (simp; done) | (simp; omega))))))); go_split_ands; clear hcc hff hbel))
    (go_ret; refine ⟨?_, ?_⟩; (focus (exact rfl)); ((repeat' (first | with_reducible exact Below.refl _ _ | with_reducible assumption | ((with_reducible refine Below.drew ?_)) | ((with_reducible refine below_drewN ?_ _)) | ((with_reducible refine Below.alloc ?_ ?_ _); rotate_left; focus (first | omega | (simp; done) | (simp; omega))) | ((with_reducible refine Below.setCell ?_ ?_ _); rotate_left; focus (first | omega | (simp; done) | (simp; omega))) | ((with_reducible refine Below.trans ?_ (Below.mono (by with_reducible assumption) ?_)); rotate_left; focus (first | omega | (simp; done) | (simp; omega))))); done))
  | true =>
    rw [if_pos rfl]
    rw [hr] at km
    have KM := Lib.hid km
    have KR := Lib.hid rates_c
    have KS := Lib.hid (sho_r v h0 h1)
    clear km hr
    go_enter Tryd.func46, Tryd.ntmps46
    go_wp2_with (first
      | (go_at_call 85; (with_reducible refine (KM.out _).mono ?_); rintro e w1 ⟨rfl, hb1⟩; have hs1 := hb1.size)
      | (go_at_call 81; (with_reducible refine (KR.out _).mono ?_); rintro e w2 ⟨rfl, hR, hb2⟩; have hs2 := hb2.size)
      | (go_at_call 86; (with_reducible refine (KS.out _ _ (TB.below (TB.below HT.out hb1 (Nat.le_refl _)) hb2 (Nat.le_refl _)) hR).mono ?_); rintro e w3 ⟨rfl, hb3⟩))
    go_ret
    exact ⟨rfl, (hb1.trans (hb2.mono hs1)).trans (hb3.mono (by omega))⟩
theorem ttext_c (v : Int) (h0 : 0 ≤ v) (h1 : v < 18446744073709551616) (w : World) (hT : TB w) : Calls Tryd.prog 47 #[.int .u64 v] w fun ee w' => ee = .returned (.string ⟨(ttxt v).toArray⟩) ∧ Below w.heap.size w w' := by
  unfold ttxt
  have HT := Lib.hid hT
  clear hT
  by_cases hr : v ≤ 1000000000
  · rw [if_pos hr]
    have d1 : decide ((1000000000 : Int) < v) = false := by simp; omega
    have KR := Lib.hid times_c
    have KS := Lib.hid (sho_t v h0 h1)
    go_enter Tryd.func47, Tryd.ntmps47
    go_wp2_with (first
      | (go_at_call 82; (with_reducible refine (KR.out _).mono ?_); rintro e w2 ⟨rfl, hR, hb2⟩; have hs2 := hb2.size)
      | (go_at_call 86; (with_reducible refine (KS.out _ _ (TB.below HT.out hb2 (Nat.le_refl _)) hR).mono ?_); rintro e w3 ⟨rfl, hb3⟩))
    go_ret
    exact ⟨rfl, hb2.trans (hb3.mono (by omega))⟩
  · rw [if_neg hr]
    have d1 : decide ((1000000000 : Int) < v) = true := by simp; omega
    go_enter Tryd.func47, Tryd.ntmps47
    go_wp2_with fail
    (go_ret; refine ⟨?_, ?_⟩; (focus (exact rfl)); ((repeat' (first | with_reducible exact Below.refl _ _ | with_reducible assumption | ((with_reducible refine Below.drew ?_)) | ((with_reducible refine below_drewN ?_ _)) | ((with_reducible refine Below.alloc ?_ ?_ _); rotate_left; focus (first | omega | (simp; done) | (simp; omega))) | ((with_reducible refine Below.setCell ?_ ?_ _); rotate_left; focus (first | omega | (simp; done) | (simp; omega))) | ((with_reducible refine Below.trans ?_ (Below.mono (by with_reducible assumption) ?_)); rotate_left; focus (first | omega | (simp; done) | (simp; omega))))); done))
end Go.Proofs.YtdiniaokkdcihaaDoor
