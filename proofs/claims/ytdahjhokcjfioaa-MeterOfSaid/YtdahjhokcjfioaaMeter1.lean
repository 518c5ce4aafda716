import Derived.Test.YtdahjhokcjfioaaBaseA
import Derived.Test.YtdahjhokcjfioaaMathMeter
import Derived.ScopeJumps
import Derived.WalkMore
namespace Go.Proofs.Ytdahjhokcjfioaa
set_option linter.unusedVariables false
set_option linter.unusedSimpArgs false
set_option maxRecDepth 100000
open Go.RowKit Fg Reg

theorem Only.drewN {S : Nat → Prop} {a w : World} (h : Only S a w) (n : Nat) : Only S a (w.drewN n) := ⟨h.os, h.tape, h.output, h.size, h.block⟩
/-- A meter, in memory. -/
def MT (z : World) (x : Nat) (W s a n b : Int) : Prop := z.cell? ⟨x, 0, none⟩ = some (.int .u64 (W)) ∧ z.cell? ⟨x, 1, none⟩ = some (.int .i64 (s)) ∧ z.cell? ⟨x, 2, none⟩ = some (.int .u64 (a)) ∧ z.cell? ⟨x, 3, none⟩ = some (.int .u64 (n)) ∧ z.cell? ⟨x, 4, none⟩ = some (.int .u64 (b)) ∧ z.frozen? ⟨x, 0, none⟩ = false ∧ z.frozen? ⟨x, 1, none⟩ = false ∧ z.frozen? ⟨x, 2, none⟩ = false ∧ z.frozen? ⟨x, 3, none⟩ = false ∧ z.frozen? ⟨x, 4, none⟩ = false ∧ x < z.heap.size
theorem MT.size {z : World} {x : Nat} {W s a n b : Int} (h : MT z x W s a n b) : x < z.heap.size := h.2.2.2.2.2.2.2.2.2.2
theorem MT.keep {S : Nat → Prop} {w w' : World} {x : Nat} {W s a n b : Int} (h : MT w x W s a n b) (ho : Only S w w') (hs : ¬ S x) : MT w' x W s a n b := by
  obtain ⟨h0, h1, h2, h3, h4, f0, f1, f2, f3, f4, hx⟩ := h
  exact ⟨(ho.cell hx hs).trans h0, (ho.cell hx hs).trans h1, (ho.cell hx hs).trans h2, (ho.cell hx hs).trans h3, (ho.cell hx hs).trans h4,
    (ho.frozen hx hs).trans f0, (ho.frozen hx hs).trans f1, (ho.frozen hx hs).trans f2, (ho.frozen hx hs).trans f3, (ho.frozen hx hs).trans f4, Nat.lt_of_lt_of_le hx ho.size⟩
theorem MT.below {w w' : World} {x : Nat} {W s a n b : Int} (h : MT w x W s a n b) (hb : Below w.heap.size w w') : MT w' x W s a n b :=
  h.keep (Only.of_below (S := fun _ => False) hb) (fun h => h)

theorem mnew_ok (W s : Int) (h1 : 1 ≤ W) (h2 : W ≤ 4294967296) (h3 : 0 ≤ s) (h4 : s ≤ 8) (w : World) : Calls Try.prog 122 #[.int .u64 W, .int .i64 s] w fun e w' => e = .returned (.tuple #[.pointer (some ⟨w.heap.size, 0, none⟩), .int .i64 0]) ∧ MT w' w.heap.size W s 0 0 0 ∧ Below w.heap.size w w' := by
  go_enter Try.func122, Try.ntmps122
  go_wp2
  go_ret2
  refine ⟨rfl, ?_, (by repeat' (first | with_reducible exact Below.refl _ _ | with_reducible assumption | ((with_reducible refine Below.drew ?_)) | ((with_reducible refine below_drewN ?_ _)) | ((with_reducible refine Below.alloc ?_ ?_ _); rotate_left; focus (first | omega | (simp; done) | (simp; omega))) | ((with_reducible refine Below.setCell ?_ ?_ _); rotate_left; focus (first | omega | (simp; done) | (simp; omega))) | ((with_reducible refine Below.trans ?_ (Below.mono (by with_reducible assumption) ?_)); rotate_left; focus (first | omega | (simp; done) | (simp; omega))) | with_reducible exact Only.refl _ _ | (with_reducible refine Only.drew ?_) | (with_reducible refine Only.setOne ?_ _ _ _) | (with_reducible refine Only.alloc ?_ _) | (with_reducible refine Only.drewN ?_ _) | (with_reducible refine Only.of_below ?_) ))⟩
  unfold MT
  ((repeat' apply And.intro) <;> first | (simp [go_sem, *]; done) | omega | (repeat' (first | with_reducible exact Below.refl _ _ | with_reducible assumption | ((with_reducible refine Below.drew ?_)) | ((with_reducible refine below_drewN ?_ _)) | ((with_reducible refine Below.alloc ?_ ?_ _); rotate_left; focus (first | omega | (simp; done) | (simp; omega))) | ((with_reducible refine Below.setCell ?_ ?_ _); rotate_left; focus (first | omega | (simp; done) | (simp; omega))) | ((with_reducible refine Below.trans ?_ (Below.mono (by with_reducible assumption) ?_)); rotate_left; focus (first | omega | (simp; done) | (simp; omega))) | with_reducible exact Only.refl _ _ | (with_reducible refine Only.drew ?_) | (with_reducible refine Only.setOne ?_ _ _ _) | (with_reducible refine Only.alloc ?_ _) | (with_reducible refine Only.drewN ?_ _) | (with_reducible refine Only.of_below ?_) )))
theorem made_nil (w : World) : Calls Try.prog 163 #[.pointer none] w fun ee w' => ee = .returned (.bool false) ∧ Below w.heap.size w w' := by
  go_enter Try.func163, Try.ntmps163
  go_wp2
  (go_ret; refine ⟨?_, ?_⟩; (focus (exact rfl)); ((repeat' (first | with_reducible exact Below.refl _ _ | with_reducible assumption | ((with_reducible refine Below.drew ?_)) | ((with_reducible refine below_drewN ?_ _)) | ((with_reducible refine Below.alloc ?_ ?_ _); rotate_left; focus (first | omega | (simp; done) | (simp; omega))) | ((with_reducible refine Below.setCell ?_ ?_ _); rotate_left; focus (first | omega | (simp; done) | (simp; omega))) | ((with_reducible refine Below.trans ?_ (Below.mono (by with_reducible assumption) ?_)); rotate_left; focus (first | omega | (simp; done) | (simp; omega))) | with_reducible exact Only.refl _ _ | (with_reducible refine Only.drew ?_) | (with_reducible refine Only.setOne ?_ _ _ _) | (with_reducible refine Only.alloc ?_ _) | (with_reducible refine Only.drewN ?_ _) | (with_reducible refine Only.of_below ?_) )); done))
theorem made_c (x : Nat) (W s a n b : Int) (w : World) (hL : MT w x W s a n b) (h1 : 0 < W) : Calls Try.prog 163 #[.pointer (some ⟨x, 0, none⟩)] w fun ee w' => ee = .returned (.bool true) ∧ Below w.heap.size w w' := by
  unfold MT at hL
  go_split_ands
  go_enter Try.func163, Try.ntmps163
  go_wp2
  (go_ret; refine ⟨?_, ?_⟩; (focus (exact rfl)); ((repeat' (first | with_reducible exact Below.refl _ _ | with_reducible assumption | ((with_reducible refine Below.drew ?_)) | ((with_reducible refine below_drewN ?_ _)) | ((with_reducible refine Below.alloc ?_ ?_ _); rotate_left; focus (first | omega | (simp; done) | (simp; omega))) | ((with_reducible refine Below.setCell ?_ ?_ _); rotate_left; focus (first | omega | (simp; done) | (simp; omega))) | ((with_reducible refine Below.trans ?_ (Below.mono (by with_reducible assumption) ?_)); rotate_left; focus (first | omega | (simp; done) | (simp; omega))) | with_reducible exact Only.refl _ _ | (with_reducible refine Only.drew ?_) | (with_reducible refine Only.setOne ?_ _ _ _) | (with_reducible refine Only.alloc ?_ _) | (with_reducible refine Only.drewN ?_ _) | (with_reducible refine Only.of_below ?_) )); done))
/-- May a tick come? -/
def mayb (W n t : Int) : Bool := decide (t ≤ 4611686018427387904 ∧ n ≤ t / W)
theorem may_no (x : Nat) (W s a n b t : Int) (w : World) (hL : MT w x W s a n b) (c2 : 4611686018427387904 < t) : Calls Try.prog 164 #[.pointer (some ⟨x, 0, none⟩), .int .u64 t] w fun ee w' => ee = .returned (.bool false) ∧ Below w.heap.size w w' := by
  unfold MT at hL
  go_split_ands
  have c3 : decide (t ≤ 4611686018427387904) = false := by simpa using c2
  clear c2
  go_enter Try.func164, Try.ntmps164
  go_wp2
  go_quiet (fail)
  go_wp2
  (go_ret; refine ⟨?_, ?_⟩; (focus (exact rfl)); ((repeat' (first | with_reducible exact Below.refl _ _ | with_reducible assumption | ((with_reducible refine Below.drew ?_)) | ((with_reducible refine below_drewN ?_ _)) | ((with_reducible refine Below.alloc ?_ ?_ _); rotate_left; focus (first | omega | (simp; done) | (simp; omega))) | ((with_reducible refine Below.setCell ?_ ?_ _); rotate_left; focus (first | omega | (simp; done) | (simp; omega))) | ((with_reducible refine Below.trans ?_ (Below.mono (by with_reducible assumption) ?_)); rotate_left; focus (first | omega | (simp; done) | (simp; omega))) | with_reducible exact Only.refl _ _ | (with_reducible refine Only.drew ?_) | (with_reducible refine Only.setOne ?_ _ _ _) | (with_reducible refine Only.alloc ?_ _) | (with_reducible refine Only.drewN ?_ _) | (with_reducible refine Only.of_below ?_) )); done))
theorem may_yes (x : Nat) (W s a n b t : Int) (w : World) (hL : MT w x W s a n b) (h1 : 0 < W) (ht : 0 ≤ t) (c : t ≤ 4611686018427387904) : Calls Try.prog 164 #[.pointer (some ⟨x, 0, none⟩), .int .u64 t] w fun ee w' => ee = .returned (.bool (decide (n ≤ t / W))) ∧ Below w.heap.size w w' := by
  unfold MT at hL
  go_split_ands
  have hW : ¬ W = 0 := by omega
  go_enter Try.func164, Try.ntmps164
  go_wp2
  go_quiet (fail)
  go_wp2
  (go_ret; refine ⟨?_, ?_⟩; (focus (exact rfl)); ((repeat' (first | with_reducible exact Below.refl _ _ | with_reducible assumption | ((with_reducible refine Below.drew ?_)) | ((with_reducible refine below_drewN ?_ _)) | ((with_reducible refine Below.alloc ?_ ?_ _); rotate_left; focus (first | omega | (simp; done) | (simp; omega))) | ((with_reducible refine Below.setCell ?_ ?_ _); rotate_left; focus (first | omega | (simp; done) | (simp; omega))) | ((with_reducible refine Below.trans ?_ (Below.mono (by with_reducible assumption) ?_)); rotate_left; focus (first | omega | (simp; done) | (simp; omega))) | with_reducible exact Only.refl _ _ | (with_reducible refine Only.drew ?_) | (with_reducible refine Only.setOne ?_ _ _ _) | (with_reducible refine Only.alloc ?_ _) | (with_reducible refine Only.drewN ?_ _) | (with_reducible refine Only.of_below ?_) )); done))
theorem may_c (x : Nat) (W s a n b t : Int) (w : World) (hL : MT w x W s a n b) (h1 : 0 < W) (ht : 0 ≤ t) : Calls Try.prog 164 #[.pointer (some ⟨x, 0, none⟩), .int .u64 t] w fun ee w' => ee = .returned (.bool (mayb W n t)) ∧ Below w.heap.size w w' := by
  by_cases c : t ≤ 4611686018427387904
  · rw [show mayb W n t = decide (n ≤ t / W) by unfold mayb; simp [c]]
    exact may_yes x W s a n b t w hL h1 ht c
  · rw [show mayb W n t = false by unfold mayb; simp [c]]
    exact may_no x W s a n b t w hL (by omega)
end Go.Proofs.Ytdahjhokcjfioaa
