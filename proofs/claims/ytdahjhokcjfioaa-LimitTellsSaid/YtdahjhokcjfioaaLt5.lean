/- limit.Kept. -/
import Derived.Test.YtdahjhokcjfioaaLt4
namespace Go.Proofs.Ytdahjhokcjfioaa
set_option linter.unusedVariables false
set_option linter.unusedSimpArgs false
set_option maxRecDepth 100000
open Go.RowKit Fg Reg
attribute [local irreducible] Reg.wE Brk Nob Nof Ans

/-- What Kept answers. -/
def Kpt (c1 cd c2 lm : Int) (zs : List Int) (es : List Ev) (w : World) (ee : Ending) (w' : World) : Prop :=
  ∃ (p : Int) (no : Bool), ee = .returned (.bool (!no)) ∧ Ans c1 cd c2 lm zs es (spsrun zs es es.length).rows p no ∧ Below w.heap.size w w'
theorem kpt_mk {c1 cd c2 lm : Int} {zs : List Int} {es : List Ev} {w w' : World} {ee : Ending} {p : Int} {no : Bool} (h1 : ee = .returned (.bool (!no))) (h2 : Ans c1 cd c2 lm zs es (spsrun zs es es.length).rows p no) (h3 : Below w.heap.size w w') : Kpt c1 cd c2 lm zs es w ee w' := ⟨p, no, h1, h2, h3⟩
theorem brk_out {c1 cd c2 lm : Int} {zs : List Int} {es : List Ev} {w w' : World} {ee : Ending} (h : Brk c1 cd c2 lm zs es w ee w') : ∃ (p : Int) (no : Bool), ee = .returned (.tuple #[.int .i64 p, .bool no]) ∧ Ans c1 cd c2 lm zs es (spsrun zs es es.length).rows p no ∧ Below w.heap.size w w' := by
  unfold Brk at h
  exact h
attribute [local irreducible] Kpt
theorem kept_c (c1 cd c2 lm : Int) (h1 : In c1) (h2 : In cd) (h3 : In c2) (hl : -9223372036854775808 ≤ lm ∧ lm ≤ 9223372036854775807) (zs : List Int) (es : List Ev) (a a2 : Option Addr) (c c4 : Nat) (hn : es.length ≤ 100000) (hn2 : zs.length ≤ 100000) (hw : ∀ k (h : k < es.length), es[k].wf3) (w : World) (hE : EvsV w a es) (hZ : IntsV w a2 zs) :
    Calls Try.prog 65 #[.agg #[.int .u64 (c1), .int .u64 (cd), .int .u64 (c2)], .int .i64 lm, .slice a es.length c, .slice a2 zs.length c4] w fun ee w' => Kpt c1 cd c2 lm zs es w ee w' := by
  have HE := Lib.hid hE
  have HZ := Lib.hid hZ
  have K := Lib.hid (fun z he hz => brk_c c1 cd c2 lm h1 h2 h3 hl zs es a a2 c c4 hn hn2 hw z he hz)
  clear hE hZ h1 h2 h3 hl hw
  go_enter Try.func65, Try.ntmps65
  go_wp2_with (go_at_call 64; (with_reducible refine (K.out _ (HE.out.below ((by repeat' (first | with_reducible exact Below.refl _ _ | with_reducible assumption | ((with_reducible refine Below.drew ?_)) | ((with_reducible refine below_drewN ?_ _)) | ((with_reducible refine Below.alloc ?_ ?_ _); rotate_left; focus (first | omega | (simp; done) | (simp; omega))) | ((with_reducible refine Below.setCell ?_ ?_ _); rotate_left; focus (first | omega | (simp; done) | (simp; omega))) | ((with_reducible refine Below.trans ?_ (Below.mono (by with_reducible assumption) ?_)); rotate_left; focus (first | omega | (simp; done) | (simp; omega))))))) (HZ.out.below ((by repeat' (first | with_reducible exact Below.refl _ _ | with_reducible assumption | ((with_reducible refine Below.drew ?_)) | ((with_reducible refine below_drewN ?_ _)) | ((with_reducible refine Below.alloc ?_ ?_ _); rotate_left; focus (first | omega | (simp; done) | (simp; omega))) | ((with_reducible refine Below.setCell ?_ ?_ _); rotate_left; focus (first | omega | (simp; done) | (simp; omega))) | ((with_reducible refine Below.trans ?_ (Below.mono (by with_reducible assumption) ?_)); rotate_left; focus (first | omega | (simp; done) | (simp; omega)))))))).mono ?_); rintro ee w1 hk; obtain ⟨p, no, rfl, han, hbel⟩ := brk_out hk; have HA := Lib.hid han; clear hk han)
  go_ret
  exact kpt_mk rfl HA.out (by first | (with_reducible exact Below.trans (by ((repeat' (first | with_reducible exact Below.refl _ _ | with_reducible assumption | ((with_reducible refine Below.drew ?_)) | ((with_reducible refine below_drewN ?_ _)) | ((with_reducible refine Below.alloc ?_ ?_ _); rotate_left; focus (first | omega | (simp; done) | (simp; omega))) | ((with_reducible refine Below.setCell ?_ ?_ _); rotate_left; focus (first | omega | (simp; done) | (simp; omega))) | ((with_reducible refine Below.trans ?_ (Below.mono (by with_reducible assumption) ?_)); rotate_left; focus (first | omega | (simp; done) | (simp; omega))))); done)) (hbel.mono (by first | omega | (simp; omega) | simp))) | ((repeat' (first | with_reducible exact Below.refl _ _ | with_reducible assumption | ((with_reducible refine Below.drew ?_)) | ((with_reducible refine below_drewN ?_ _)) | ((with_reducible refine Below.alloc ?_ ?_ _); rotate_left; focus (first | omega | (simp; done) | (simp; omega))) | ((with_reducible refine Below.setCell ?_ ?_ _); rotate_left; focus (first | omega | (simp; done) | (simp; omega))) | ((with_reducible refine Below.trans ?_ (Below.mono (by with_reducible assumption) ?_)); rotate_left; focus (first | omega | (simp; done) | (simp; omega))))); done))
end Go.Proofs.Ytdahjhokcjfioaa
