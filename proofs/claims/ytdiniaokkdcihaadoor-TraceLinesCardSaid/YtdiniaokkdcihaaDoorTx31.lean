/- Sums over events: total, with each of its three closures. -/
import Derived.Test.YtdiniaokkdcihaaDoorEv1
namespace Go.Proofs.YtdiniaokkdcihaaDoor
set_option linter.unusedVariables false
set_option linter.unusedSimpArgs false
set_option maxRecDepth 100000
open Go.RowKit Fg Reg
attribute [local irreducible] Reg.wE

def pcam (fr tt : Int) (e : Ev) : Bool := e.inn && decide (fr ≤ e.tm) && decide (e.tm ≤ tt)
def pbeg (fr tt : Int) (e : Ev) : Bool := !e.inn && decide (fr ≤ e.tm) && decide (e.tm ≤ tt)
def psen (fr tt : Int) (e : Ev) : Bool := !e.inn && decide (fr < e.dn) && decide (e.dn ≤ tt)
def tadd (p : Ev → Bool) (zs : List Int) (s : Int) (e : Ev) : Int := if has zs e.cls && p e then IntKind.u64.wrap (s + IntKind.u64.wrap (if 0 > e.ln then 0 else e.ln)) else s
def tot (p : Ev → Bool) (zs : List Int) (es : List Ev) : Int := es.foldl (tadd p zs) 0
theorem tot_succ (p : Ev → Bool) (zs : List Int) (es : List Ev) (k : Nat) (h : k < es.length) : tot p zs (es.take (k + 1)) = tadd p zs (tot p zs (es.take k)) es[k] := by
  unfold tot
  rw [take_snoc'' es k h, List.foldl_append]; rfl
theorem mxi_c (a b : Int) (w : World) : (Builtin.max_ #[3, 3] 3 #[.int .i64 a, .int .i64 b]).run Tryd.prog w = .ok (.int .i64 (if b > a then b else a)) w := by
  simp [Builtin.max_, Builtin.max2]
theorem cam_c (e : Ev) (x y : Nat) (fr tt : Int) (w : World) (hx : w.cell? ⟨x, 0, none⟩ = some (.int .u64 fr)) (hxl : x < w.heap.size) (hy : w.cell? ⟨y, 0, none⟩ = some (.int .u64 tt)) (hyl : y < w.heap.size) :
    Calls Tryd.prog 61 #[.agg #[.int .i64 (e).op, .bool (e).inn, .bool (e).real, .int .u64 (e).tm, .int .u64 (e).dn, .int .i64 (e).cls, .int .u64 (e).id, .int .i64 (e).ln, .int .u16 (e).a, .int .u16 (e).b, .int .u16 (e).c, .int .u16 (e).d], .pointer (some ⟨x, 0, none⟩), .pointer (some ⟨y, 0, none⟩)] w fun ee w' => ee = .returned (.bool (pcam fr tt e)) ∧ Below w.heap.size w w' := by
  obtain ⟨op, inn, real, tm, dn, cls, id, ln, a, b, c, d⟩ := e
  unfold pcam
  dsimp only
  cases inn with
  | false =>
    simp only [Bool.not_true, Bool.false_and]
    go_enter Tryd.func61, Tryd.ntmps61
    go_wp2
    (go_ret; refine ⟨?_, ?_⟩; (focus (exact rfl)); ((repeat' (first | with_reducible exact Below.refl _ _ | with_reducible assumption | ((with_reducible refine Below.drew ?_)) | ((with_reducible refine below_drewN ?_ _)) | ((with_reducible refine Below.alloc ?_ ?_ _); rotate_left; focus (first | omega | (simp; done) | (simp; omega))) | ((with_reducible refine Below.setCell ?_ ?_ _); rotate_left; focus (first | omega | (simp; done) | (simp; omega))) | ((with_reducible refine Below.trans ?_ (Below.mono (by with_reducible assumption) ?_)); rotate_left; focus (first | omega | (simp; done) | (simp; omega))))); done))
  | true =>
    simp only [Bool.not_false, Bool.true_and]
    by_cases h : fr ≤ tm
    · have d1 : decide (fr ≤ tm) = true := by simpa using h
      rw [d1, Bool.true_and]
      obtain ⟨bb, hb⟩ : ∃ bb, decide (tm ≤ tt) = bb := ⟨_, rfl⟩
      rw [hb]
      clear h
      go_enter Tryd.func61, Tryd.ntmps61
      go_wp2
      (go_ret; refine ⟨?_, ?_⟩; (focus (exact rfl)); ((repeat' (first | with_reducible exact Below.refl _ _ | with_reducible assumption | ((with_reducible refine Below.drew ?_)) | ((with_reducible refine below_drewN ?_ _)) | ((with_reducible refine Below.alloc ?_ ?_ _); rotate_left; focus (first | omega | (simp; done) | (simp; omega))) | ((with_reducible refine Below.setCell ?_ ?_ _); rotate_left; focus (first | omega | (simp; done) | (simp; omega))) | ((with_reducible refine Below.trans ?_ (Below.mono (by with_reducible assumption) ?_)); rotate_left; focus (first | omega | (simp; done) | (simp; omega))))); done))
    · have d1 : decide (fr ≤ tm) = false := by simpa using h
      rw [d1, Bool.false_and]
      clear h
      go_enter Tryd.func61, Tryd.ntmps61
      go_wp2
      (go_ret; refine ⟨?_, ?_⟩; (focus (exact rfl)); ((repeat' (first | with_reducible exact Below.refl _ _ | with_reducible assumption | ((with_reducible refine Below.drew ?_)) | ((with_reducible refine below_drewN ?_ _)) | ((with_reducible refine Below.alloc ?_ ?_ _); rotate_left; focus (first | omega | (simp; done) | (simp; omega))) | ((with_reducible refine Below.setCell ?_ ?_ _); rotate_left; focus (first | omega | (simp; done) | (simp; omega))) | ((with_reducible refine Below.trans ?_ (Below.mono (by with_reducible assumption) ?_)); rotate_left; focus (first | omega | (simp; done) | (simp; omega))))); done))
theorem beg_c (e : Ev) (x y : Nat) (fr tt : Int) (w : World) (hx : w.cell? ⟨x, 0, none⟩ = some (.int .u64 fr)) (hxl : x < w.heap.size) (hy : w.cell? ⟨y, 0, none⟩ = some (.int .u64 tt)) (hyl : y < w.heap.size) :
    Calls Tryd.prog 63 #[.agg #[.int .i64 (e).op, .bool (e).inn, .bool (e).real, .int .u64 (e).tm, .int .u64 (e).dn, .int .i64 (e).cls, .int .u64 (e).id, .int .i64 (e).ln, .int .u16 (e).a, .int .u16 (e).b, .int .u16 (e).c, .int .u16 (e).d], .pointer (some ⟨x, 0, none⟩), .pointer (some ⟨y, 0, none⟩)] w fun ee w' => ee = .returned (.bool (pbeg fr tt e)) ∧ Below w.heap.size w w' := by
  obtain ⟨op, inn, real, tm, dn, cls, id, ln, a, b, c, d⟩ := e
  unfold pbeg
  dsimp only
  cases inn with
  | true =>
    simp only [Bool.not_true, Bool.false_and]
    go_enter Tryd.func63, Tryd.ntmps63
    go_wp2
    (go_ret; refine ⟨?_, ?_⟩; (focus (exact rfl)); ((repeat' (first | with_reducible exact Below.refl _ _ | with_reducible assumption | ((with_reducible refine Below.drew ?_)) | ((with_reducible refine below_drewN ?_ _)) | ((with_reducible refine Below.alloc ?_ ?_ _); rotate_left; focus (first | omega | (simp; done) | (simp; omega))) | ((with_reducible refine Below.setCell ?_ ?_ _); rotate_left; focus (first | omega | (simp; done) | (simp; omega))) | ((with_reducible refine Below.trans ?_ (Below.mono (by with_reducible assumption) ?_)); rotate_left; focus (first | omega | (simp; done) | (simp; omega))))); done))
  | false =>
    simp only [Bool.not_false, Bool.true_and]
    by_cases h : fr ≤ tm
    · have d1 : decide (fr ≤ tm) = true := by simpa using h
      rw [d1, Bool.true_and]
      obtain ⟨bb, hb⟩ : ∃ bb, decide (tm ≤ tt) = bb := ⟨_, rfl⟩
      rw [hb]
      clear h
      go_enter Tryd.func63, Tryd.ntmps63
      go_wp2
      (go_ret; refine ⟨?_, ?_⟩; (focus (exact rfl)); ((repeat' (first | with_reducible exact Below.refl _ _ | with_reducible assumption | ((with_reducible refine Below.drew ?_)) | ((with_reducible refine below_drewN ?_ _)) | ((with_reducible refine Below.alloc ?_ ?_ _); rotate_left; focus (first | omega | (simp; done) | (simp; omega))) | ((with_reducible refine Below.setCell ?_ ?_ _); rotate_left; focus (first | omega | (simp; done) | (simp; omega))) | ((with_reducible refine Below.trans ?_ (Below.mono (by with_reducible assumption) ?_)); rotate_left; focus (first | omega | (simp; done) | (simp; omega))))); done))
    · have d1 : decide (fr ≤ tm) = false := by simpa using h
      rw [d1, Bool.false_and]
      clear h
      go_enter Tryd.func63, Tryd.ntmps63
      go_wp2
      (go_ret; refine ⟨?_, ?_⟩; (focus (exact rfl)); ((repeat' (first | with_reducible exact Below.refl _ _ | with_reducible assumption | ((with_reducible refine Below.drew ?_)) | ((with_reducible refine below_drewN ?_ _)) | ((with_reducible refine Below.alloc ?_ ?_ _); rotate_left; focus (first | omega | (simp; done) | (simp; omega))) | ((with_reducible refine Below.setCell ?_ ?_ _); rotate_left; focus (first | omega | (simp; done) | (simp; omega))) | ((with_reducible refine Below.trans ?_ (Below.mono (by with_reducible assumption) ?_)); rotate_left; focus (first | omega | (simp; done) | (simp; omega))))); done))
theorem sen_c (e : Ev) (x y : Nat) (fr tt : Int) (w : World) (hx : w.cell? ⟨x, 0, none⟩ = some (.int .u64 fr)) (hxl : x < w.heap.size) (hy : w.cell? ⟨y, 0, none⟩ = some (.int .u64 tt)) (hyl : y < w.heap.size) :
    Calls Tryd.prog 64 #[.agg #[.int .i64 (e).op, .bool (e).inn, .bool (e).real, .int .u64 (e).tm, .int .u64 (e).dn, .int .i64 (e).cls, .int .u64 (e).id, .int .i64 (e).ln, .int .u16 (e).a, .int .u16 (e).b, .int .u16 (e).c, .int .u16 (e).d], .pointer (some ⟨x, 0, none⟩), .pointer (some ⟨y, 0, none⟩)] w fun ee w' => ee = .returned (.bool (psen fr tt e)) ∧ Below w.heap.size w w' := by
  obtain ⟨op, inn, real, tm, dn, cls, id, ln, a, b, c, d⟩ := e
  unfold psen
  dsimp only
  cases inn with
  | true =>
    simp only [Bool.not_true, Bool.false_and]
    go_enter Tryd.func64, Tryd.ntmps64
    go_wp2
    (go_ret; refine ⟨?_, ?_⟩; (focus (exact rfl)); ((repeat' (first | with_reducible exact Below.refl _ _ | with_reducible assumption | ((with_reducible refine Below.drew ?_)) | ((with_reducible refine below_drewN ?_ _)) | ((with_reducible refine Below.alloc ?_ ?_ _); rotate_left; focus (first | omega | (simp; done) | (simp; omega))) | ((with_reducible refine Below.setCell ?_ ?_ _); rotate_left; focus (first | omega | (simp; done) | (simp; omega))) | ((with_reducible refine Below.trans ?_ (Below.mono (by with_reducible assumption) ?_)); rotate_left; focus (first | omega | (simp; done) | (simp; omega))))); done))
  | false =>
    simp only [Bool.not_false, Bool.true_and]
    by_cases h : fr < dn
    · have d1 : decide (fr < dn) = true := by simpa using h
      rw [d1, Bool.true_and]
      obtain ⟨bb, hb⟩ : ∃ bb, decide (dn ≤ tt) = bb := ⟨_, rfl⟩
      rw [hb]
      clear h
      go_enter Tryd.func64, Tryd.ntmps64
      go_wp2
      (go_ret; refine ⟨?_, ?_⟩; (focus (exact rfl)); ((repeat' (first | with_reducible exact Below.refl _ _ | with_reducible assumption | ((with_reducible refine Below.drew ?_)) | ((with_reducible refine below_drewN ?_ _)) | ((with_reducible refine Below.alloc ?_ ?_ _); rotate_left; focus (first | omega | (simp; done) | (simp; omega))) | ((with_reducible refine Below.setCell ?_ ?_ _); rotate_left; focus (first | omega | (simp; done) | (simp; omega))) | ((with_reducible refine Below.trans ?_ (Below.mono (by with_reducible assumption) ?_)); rotate_left; focus (first | omega | (simp; done) | (simp; omega))))); done))
    · have d1 : decide (fr < dn) = false := by simpa using h
      rw [d1, Bool.false_and]
      clear h
      go_enter Tryd.func64, Tryd.ntmps64
      go_wp2
      (go_ret; refine ⟨?_, ?_⟩; (focus (exact rfl)); ((repeat' (first | with_reducible exact Below.refl _ _ | with_reducible assumption | ((with_reducible refine Below.drew ?_)) | ((with_reducible refine below_drewN ?_ _)) | ((with_reducible refine Below.alloc ?_ ?_ _); rotate_left; focus (first | omega | (simp; done) | (simp; omega))) | ((with_reducible refine Below.setCell ?_ ?_ _); rotate_left; focus (first | omega | (simp; done) | (simp; omega))) | ((with_reducible refine Below.trans ?_ (Below.mono (by with_reducible assumption) ?_)); rotate_left; focus (first | omega | (simp; done) | (simp; omega))))); done))
end Go.Proofs.YtdiniaokkdcihaaDoor
