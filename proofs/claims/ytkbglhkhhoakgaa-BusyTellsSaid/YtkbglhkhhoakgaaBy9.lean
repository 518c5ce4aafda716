/- busy.Late. -/
import Derived.Test.YtkbglhkhhoakgaaBy6
import Derived.Test.YtkbglhkhhoakgaaBy7
namespace Go.Proofs.Ytkbglhkhhoakgaa
set_option linter.unusedVariables false
set_option linter.unusedSimpArgs false
set_option maxRecDepth 100000
open Go.RowKit Fg Reg
attribute [local irreducible] Reg.wE Reg.wN

set_option maxHeartbeats 4000000 in
theorem late_c (x : Nat) (v : Value) (s : Bz) (e : Ev) (w : World) (hS : SN w x v s) : Calls Try.prog 66 #[.pointer (some ⟨x, 0, none⟩), .agg #[.int .i64 (e).op, .bool (e).inn, .bool (e).real, .int .u64 (e).tm, .int .u64 (e).dn, .int .i64 (e).cls, .int .u64 (e).id, .int .i64 (e).ln, .int .u16 (e).a, .int .u16 (e).b, .int .u16 (e).c, .int .u16 (e).d]] w fun ee w' => ee = .returned (.bool (blate s e)) ∧ Below w.heap.size w w' := by
  obtain ⟨⟨_, a1, a2, a3, _, _, _, _, hx⟩, _⟩ := hS
  have hbl : blate s e = (!e.inn && decide (0 < s.wk) && decide (s.un < e.tm) && decide (s.si < e.tm)) := rfl
  rw [hbl]
  generalize s.un = un at a1
  generalize s.wk = wk at a2
  generalize s.si = si at a3
  generalize e.inn = inn
  generalize e.tm = tm
  have e1 : ¬ x = w.heap.size := by omega
  have e2 : ¬ w.heap.size = x := by omega
  cases inn with
  | true =>
    rw [show (!true && decide (0 < wk) && decide (un < tm) && decide (si < tm)) = false by simp]
    clear hbl
    go_enter Try.func66, Try.ntmps66
    go_wp2
    obtain ⟨Cl, hCl⟩ : ∃ Cl : List Value → World → Prop, Cl = ((fun ps wz => (wz.cell? ⟨x, 1, none⟩ = some (.int .u64 un) ∧ wz.cell? ⟨x, 2, none⟩ = some (.int .i64 wk) ∧ wz.cell? ⟨x, 3, none⟩ = some (.int .u64 si) ∧ x < wz.heap.size) ∧ (wz.cell? ⟨w.heap.size, 1, none⟩ = some (.bool true) ∧ wz.cell? ⟨w.heap.size, 3, none⟩ = some (.int .u64 tm) ∧ w.heap.size < wz.heap.size) ∧ Below w.heap.size w wz)) := ⟨_, rfl⟩; have HCl := Lib.hid hCl; clear hCl; refine wp_region_eff [] Cl (by kernel_rfl) (by kernel_rfl) (by rw [HCl.out]; (try simp only [List.nil_append, List.cons_append]); (try dsimp only); ((repeat' apply And.intro) <;> first | (simp [go_sem, *]; done) | omega | (repeat' (first | with_reducible exact Below.refl _ _ | with_reducible assumption | ((with_reducible refine Below.drew ?_)) | ((with_reducible refine below_drewN ?_ _)) | ((with_reducible refine Below.alloc ?_ ?_ _); rotate_left; focus (first | omega | (simp; done) | (simp; omega))) | ((with_reducible refine Below.setCell ?_ ?_ _); rotate_left; focus (first | omega | (simp; done) | (simp; omega))) | ((with_reducible refine Below.trans ?_ (Below.mono (by with_reducible assumption) ?_)); rotate_left; focus (first | omega | (simp; done) | (simp; omega))))))) ?_; (repeat (first | (refine wE_skip (by rfl) ?_; simp only [Act.put, Nat.reduceAdd, List.setIfInBounds_toArray, List.set_cons_zero, List.set_cons_succ, List.nil_append, List.cons_append]) | (refine wE_open (by rfl) (by rfl) ?_; apply Exists.intro; refine ⟨fun vs wq hw => ?_, ?_⟩; (focus (rw [HCl.out] at hw; (try simp only [List.nil_append, List.cons_append] at hw); (try dsimp only at hw); go_split_ands; go_simp <;> first | with_reducible exact (rfl : Value.bool false = _) | with_reducible exact (rfl : Value.bool true = _) | ((try go_bits) <;> exact rfl))); simp only [Act.put, Nat.reduceAdd, List.setIfInBounds_toArray, List.set_cons_zero, List.set_cons_succ, List.nil_append, List.cons_append]) | (refine wE_seal (by rfl) (by rfl) (by kernel_rfl) ?_; apply Exists.intro; refine ⟨fun wq hw => ?_, ?_⟩; (focus (rw [HCl.out] at hw; (try simp only [List.nil_append, List.cons_append] at hw); (try dsimp only at hw); go_split_ands; go_simp <;> (try go_bits) <;> exact rfl)); simp only [Act.put, Nat.reduceAdd, List.setIfInBounds_toArray, List.set_cons_zero, List.set_cons_succ, List.nil_append, List.cons_append]) | (refine wE_seal (by rfl) (by rfl) (by kernel_rfl) ?_; apply Exists.intro; refine ⟨fun wq hw => ?_, ?_⟩; (focus (rw [HCl.out] at hw; (try simp only [List.nil_append, List.cons_append] at hw); (try dsimp only at hw); go_split_ands; go_simp; fail)); simp only [Act.put, Nat.reduceAdd, List.setIfInBounds_toArray, List.set_cons_zero, List.set_cons_succ, List.nil_append, List.cons_append]) | (refine wE_eff (by rfl) (by rfl) (fun wq hw => ?_) (fun u hu => ?_); (focus (rw [HCl.out] at hw; (try simp only [List.nil_append, List.cons_append] at hw); (try dsimp only at hw); go_split_ands; go_simp; rw [HCl.out]; (try simp only [List.nil_append, List.cons_append]); (try dsimp only); skip; ((repeat' apply And.intro) <;> first | (simp [go_sem, *]; done) | omega | (repeat' (first | with_reducible exact Below.refl _ _ | with_reducible assumption | ((with_reducible refine Below.drew ?_)) | ((with_reducible refine below_drewN ?_ _)) | ((with_reducible refine Below.alloc ?_ ?_ _); rotate_left; focus (first | omega | (simp; done) | (simp; omega))) | ((with_reducible refine Below.setCell ?_ ?_ _); rotate_left; focus (first | omega | (simp; done) | (simp; omega))) | ((with_reducible refine Below.trans ?_ (Below.mono (by with_reducible assumption) ?_)); rotate_left; focus (first | omega | (simp; done) | (simp; omega)))))))); clear hu; simp only [Act.put, Nat.reduceAdd, List.setIfInBounds_toArray, List.set_cons_zero, List.set_cons_succ, List.nil_append, List.cons_append]))); refine wE_nil ?_; intro w' hw; rw [HCl.out] at hw; (try simp only [List.nil_append, List.cons_append] at hw); (try dsimp only at hw); clear HCl; go_split_ands; go_wp2
    (go_ret; refine ⟨?_, ?_⟩; (focus (exact rfl)); ((repeat' (first | with_reducible exact Below.refl _ _ | with_reducible assumption | ((with_reducible refine Below.drew ?_)) | ((with_reducible refine below_drewN ?_ _)) | ((with_reducible refine Below.alloc ?_ ?_ _); rotate_left; focus (first | omega | (simp; done) | (simp; omega))) | ((with_reducible refine Below.setCell ?_ ?_ _); rotate_left; focus (first | omega | (simp; done) | (simp; omega))) | ((with_reducible refine Below.trans ?_ (Below.mono (by with_reducible assumption) ?_)); rotate_left; focus (first | omega | (simp; done) | (simp; omega))))); done))
  | false =>
    clear hbl
    by_cases h0 : wk = 0
    · have d0 : decide (0 < (wk : Int)) = false := by simp; omega
      have d9 : decide (0 < wk) = false := by simp; omega
      rw [show (!false && decide (0 < wk) && decide (un < tm) && decide (si < tm)) = false by rw [d9]; simp]
      go_enter Try.func66, Try.ntmps66
      go_wp2
      obtain ⟨Cl, hCl⟩ : ∃ Cl : List Value → World → Prop, Cl = ((fun ps wz => (wz.cell? ⟨x, 1, none⟩ = some (.int .u64 un) ∧ wz.cell? ⟨x, 2, none⟩ = some (.int .i64 wk) ∧ wz.cell? ⟨x, 3, none⟩ = some (.int .u64 si) ∧ x < wz.heap.size) ∧ (wz.cell? ⟨w.heap.size, 1, none⟩ = some (.bool false) ∧ wz.cell? ⟨w.heap.size, 3, none⟩ = some (.int .u64 tm) ∧ w.heap.size < wz.heap.size) ∧ Below w.heap.size w wz)) := ⟨_, rfl⟩; have HCl := Lib.hid hCl; clear hCl; refine wp_region_eff [] Cl (by kernel_rfl) (by kernel_rfl) (by rw [HCl.out]; (try simp only [List.nil_append, List.cons_append]); (try dsimp only); ((repeat' apply And.intro) <;> first | (simp [go_sem, *]; done) | omega | (repeat' (first | with_reducible exact Below.refl _ _ | with_reducible assumption | ((with_reducible refine Below.drew ?_)) | ((with_reducible refine below_drewN ?_ _)) | ((with_reducible refine Below.alloc ?_ ?_ _); rotate_left; focus (first | omega | (simp; done) | (simp; omega))) | ((with_reducible refine Below.setCell ?_ ?_ _); rotate_left; focus (first | omega | (simp; done) | (simp; omega))) | ((with_reducible refine Below.trans ?_ (Below.mono (by with_reducible assumption) ?_)); rotate_left; focus (first | omega | (simp; done) | (simp; omega))))))) ?_; (repeat (first | (refine wE_skip (by rfl) ?_; simp only [Act.put, Nat.reduceAdd, List.setIfInBounds_toArray, List.set_cons_zero, List.set_cons_succ, List.nil_append, List.cons_append]) | (refine wE_open (by rfl) (by rfl) ?_; apply Exists.intro; refine ⟨fun vs wq hw => ?_, ?_⟩; (focus (rw [HCl.out] at hw; (try simp only [List.nil_append, List.cons_append] at hw); (try dsimp only at hw); go_split_ands; go_simp <;> first | with_reducible exact (rfl : Value.bool false = _) | with_reducible exact (rfl : Value.bool true = _) | ((try go_bits) <;> exact rfl))); simp only [Act.put, Nat.reduceAdd, List.setIfInBounds_toArray, List.set_cons_zero, List.set_cons_succ, List.nil_append, List.cons_append]) | (refine wE_seal (by rfl) (by rfl) (by kernel_rfl) ?_; apply Exists.intro; refine ⟨fun wq hw => ?_, ?_⟩; (focus (rw [HCl.out] at hw; (try simp only [List.nil_append, List.cons_append] at hw); (try dsimp only at hw); go_split_ands; go_simp <;> (try go_bits) <;> exact rfl)); simp only [Act.put, Nat.reduceAdd, List.setIfInBounds_toArray, List.set_cons_zero, List.set_cons_succ, List.nil_append, List.cons_append]) | (refine wE_seal (by rfl) (by rfl) (by kernel_rfl) ?_; apply Exists.intro; refine ⟨fun wq hw => ?_, ?_⟩; (focus (rw [HCl.out] at hw; (try simp only [List.nil_append, List.cons_append] at hw); (try dsimp only at hw); go_split_ands; go_simp; fail)); simp only [Act.put, Nat.reduceAdd, List.setIfInBounds_toArray, List.set_cons_zero, List.set_cons_succ, List.nil_append, List.cons_append]) | (refine wE_eff (by rfl) (by rfl) (fun wq hw => ?_) (fun u hu => ?_); (focus (rw [HCl.out] at hw; (try simp only [List.nil_append, List.cons_append] at hw); (try dsimp only at hw); go_split_ands; go_simp; rw [HCl.out]; (try simp only [List.nil_append, List.cons_append]); (try dsimp only); skip; ((repeat' apply And.intro) <;> first | (simp [go_sem, *]; done) | omega | (repeat' (first | with_reducible exact Below.refl _ _ | with_reducible assumption | ((with_reducible refine Below.drew ?_)) | ((with_reducible refine below_drewN ?_ _)) | ((with_reducible refine Below.alloc ?_ ?_ _); rotate_left; focus (first | omega | (simp; done) | (simp; omega))) | ((with_reducible refine Below.setCell ?_ ?_ _); rotate_left; focus (first | omega | (simp; done) | (simp; omega))) | ((with_reducible refine Below.trans ?_ (Below.mono (by with_reducible assumption) ?_)); rotate_left; focus (first | omega | (simp; done) | (simp; omega)))))))); clear hu; simp only [Act.put, Nat.reduceAdd, List.setIfInBounds_toArray, List.set_cons_zero, List.set_cons_succ, List.nil_append, List.cons_append]))); refine wE_nil ?_; intro w' hw; rw [HCl.out] at hw; (try simp only [List.nil_append, List.cons_append] at hw); (try dsimp only at hw); clear HCl; go_split_ands; go_wp2
      (go_ret; refine ⟨?_, ?_⟩; (focus (exact rfl)); ((repeat' (first | with_reducible exact Below.refl _ _ | with_reducible assumption | ((with_reducible refine Below.drew ?_)) | ((with_reducible refine below_drewN ?_ _)) | ((with_reducible refine Below.alloc ?_ ?_ _); rotate_left; focus (first | omega | (simp; done) | (simp; omega))) | ((with_reducible refine Below.setCell ?_ ?_ _); rotate_left; focus (first | omega | (simp; done) | (simp; omega))) | ((with_reducible refine Below.trans ?_ (Below.mono (by with_reducible assumption) ?_)); rotate_left; focus (first | omega | (simp; done) | (simp; omega))))); done))
    · have d0 : decide (0 < (wk : Int)) = true := by simp; omega
      have d9 : decide (0 < wk) = true := by simp; omega
      by_cases h1 : un < tm
      · have d1 : decide (un < tm) = true := by simpa using h1
        rw [show (!false && decide (0 < wk) && decide (un < tm) && decide (si < tm)) = decide (si < tm) by rw [d9, d1]; simp]
        go_enter Try.func66, Try.ntmps66
        go_wp2
        obtain ⟨Cl, hCl⟩ : ∃ Cl : List Value → World → Prop, Cl = ((fun ps wz => (wz.cell? ⟨x, 1, none⟩ = some (.int .u64 un) ∧ wz.cell? ⟨x, 2, none⟩ = some (.int .i64 wk) ∧ wz.cell? ⟨x, 3, none⟩ = some (.int .u64 si) ∧ x < wz.heap.size) ∧ (wz.cell? ⟨w.heap.size, 1, none⟩ = some (.bool false) ∧ wz.cell? ⟨w.heap.size, 3, none⟩ = some (.int .u64 tm) ∧ w.heap.size < wz.heap.size) ∧ Below w.heap.size w wz)) := ⟨_, rfl⟩; have HCl := Lib.hid hCl; clear hCl; refine wp_region_eff [] Cl (by kernel_rfl) (by kernel_rfl) (by rw [HCl.out]; (try simp only [List.nil_append, List.cons_append]); (try dsimp only); ((repeat' apply And.intro) <;> first | (simp [go_sem, *]; done) | omega | (repeat' (first | with_reducible exact Below.refl _ _ | with_reducible assumption | ((with_reducible refine Below.drew ?_)) | ((with_reducible refine below_drewN ?_ _)) | ((with_reducible refine Below.alloc ?_ ?_ _); rotate_left; focus (first | omega | (simp; done) | (simp; omega))) | ((with_reducible refine Below.setCell ?_ ?_ _); rotate_left; focus (first | omega | (simp; done) | (simp; omega))) | ((with_reducible refine Below.trans ?_ (Below.mono (by with_reducible assumption) ?_)); rotate_left; focus (first | omega | (simp; done) | (simp; omega))))))) ?_; (repeat (first | (refine wE_skip (by rfl) ?_; simp only [Act.put, Nat.reduceAdd, List.setIfInBounds_toArray, List.set_cons_zero, List.set_cons_succ, List.nil_append, List.cons_append]) | (refine wE_open (by rfl) (by rfl) ?_; apply Exists.intro; refine ⟨fun vs wq hw => ?_, ?_⟩; (focus (rw [HCl.out] at hw; (try simp only [List.nil_append, List.cons_append] at hw); (try dsimp only at hw); go_split_ands; go_simp <;> first | with_reducible exact (rfl : Value.bool false = _) | with_reducible exact (rfl : Value.bool true = _) | ((try go_bits) <;> exact rfl))); simp only [Act.put, Nat.reduceAdd, List.setIfInBounds_toArray, List.set_cons_zero, List.set_cons_succ, List.nil_append, List.cons_append]) | (refine wE_seal (by rfl) (by rfl) (by kernel_rfl) ?_; apply Exists.intro; refine ⟨fun wq hw => ?_, ?_⟩; (focus (rw [HCl.out] at hw; (try simp only [List.nil_append, List.cons_append] at hw); (try dsimp only at hw); go_split_ands; go_simp <;> (try go_bits) <;> exact rfl)); simp only [Act.put, Nat.reduceAdd, List.setIfInBounds_toArray, List.set_cons_zero, List.set_cons_succ, List.nil_append, List.cons_append]) | (refine wE_seal (by rfl) (by rfl) (by kernel_rfl) ?_; apply Exists.intro; refine ⟨fun wq hw => ?_, ?_⟩; (focus (rw [HCl.out] at hw; (try simp only [List.nil_append, List.cons_append] at hw); (try dsimp only at hw); go_split_ands; go_simp; fail)); simp only [Act.put, Nat.reduceAdd, List.setIfInBounds_toArray, List.set_cons_zero, List.set_cons_succ, List.nil_append, List.cons_append]) | (refine wE_eff (by rfl) (by rfl) (fun wq hw => ?_) (fun u hu => ?_); (focus (rw [HCl.out] at hw; (try simp only [List.nil_append, List.cons_append] at hw); (try dsimp only at hw); go_split_ands; go_simp; rw [HCl.out]; (try simp only [List.nil_append, List.cons_append]); (try dsimp only); skip; ((repeat' apply And.intro) <;> first | (simp [go_sem, *]; done) | omega | (repeat' (first | with_reducible exact Below.refl _ _ | with_reducible assumption | ((with_reducible refine Below.drew ?_)) | ((with_reducible refine below_drewN ?_ _)) | ((with_reducible refine Below.alloc ?_ ?_ _); rotate_left; focus (first | omega | (simp; done) | (simp; omega))) | ((with_reducible refine Below.setCell ?_ ?_ _); rotate_left; focus (first | omega | (simp; done) | (simp; omega))) | ((with_reducible refine Below.trans ?_ (Below.mono (by with_reducible assumption) ?_)); rotate_left; focus (first | omega | (simp; done) | (simp; omega)))))))); clear hu; simp only [Act.put, Nat.reduceAdd, List.setIfInBounds_toArray, List.set_cons_zero, List.set_cons_succ, List.nil_append, List.cons_append]))); refine wE_nil ?_; intro w' hw; rw [HCl.out] at hw; (try simp only [List.nil_append, List.cons_append] at hw); (try dsimp only at hw); clear HCl; go_split_ands; go_wp2
        (go_ret; refine ⟨?_, ?_⟩; (focus (exact rfl)); ((repeat' (first | with_reducible exact Below.refl _ _ | with_reducible assumption | ((with_reducible refine Below.drew ?_)) | ((with_reducible refine below_drewN ?_ _)) | ((with_reducible refine Below.alloc ?_ ?_ _); rotate_left; focus (first | omega | (simp; done) | (simp; omega))) | ((with_reducible refine Below.setCell ?_ ?_ _); rotate_left; focus (first | omega | (simp; done) | (simp; omega))) | ((with_reducible refine Below.trans ?_ (Below.mono (by with_reducible assumption) ?_)); rotate_left; focus (first | omega | (simp; done) | (simp; omega))))); done))
      · have d1 : decide (un < tm) = false := by simpa using h1
        rw [show (!false && decide (0 < wk) && decide (un < tm) && decide (si < tm)) = false by rw [d9, d1]; simp]
        go_enter Try.func66, Try.ntmps66
        go_wp2
        obtain ⟨Cl, hCl⟩ : ∃ Cl : List Value → World → Prop, Cl = ((fun ps wz => (wz.cell? ⟨x, 1, none⟩ = some (.int .u64 un) ∧ wz.cell? ⟨x, 2, none⟩ = some (.int .i64 wk) ∧ wz.cell? ⟨x, 3, none⟩ = some (.int .u64 si) ∧ x < wz.heap.size) ∧ (wz.cell? ⟨w.heap.size, 1, none⟩ = some (.bool false) ∧ wz.cell? ⟨w.heap.size, 3, none⟩ = some (.int .u64 tm) ∧ w.heap.size < wz.heap.size) ∧ Below w.heap.size w wz)) := ⟨_, rfl⟩; have HCl := Lib.hid hCl; clear hCl; refine wp_region_eff [] Cl (by kernel_rfl) (by kernel_rfl) (by rw [HCl.out]; (try simp only [List.nil_append, List.cons_append]); (try dsimp only); ((repeat' apply And.intro) <;> first | (simp [go_sem, *]; done) | omega | (repeat' (first | with_reducible exact Below.refl _ _ | with_reducible assumption | ((with_reducible refine Below.drew ?_)) | ((with_reducible refine below_drewN ?_ _)) | ((with_reducible refine Below.alloc ?_ ?_ _); rotate_left; focus (first | omega | (simp; done) | (simp; omega))) | ((with_reducible refine Below.setCell ?_ ?_ _); rotate_left; focus (first | omega | (simp; done) | (simp; omega))) | ((with_reducible refine Below.trans ?_ (Below.mono (by with_reducible assumption) ?_)); rotate_left; focus (first | omega | (simp; done) | (simp; omega))))))) ?_; (repeat (first | (refine wE_skip (by rfl) ?_; simp only [Act.put, Nat.reduceAdd, List.setIfInBounds_toArray, List.set_cons_zero, List.set_cons_succ, List.nil_append, List.cons_append]) | (refine wE_open (by rfl) (by rfl) ?_; apply Exists.intro; refine ⟨fun vs wq hw => ?_, ?_⟩; (focus (rw [HCl.out] at hw; (try simp only [List.nil_append, List.cons_append] at hw); (try dsimp only at hw); go_split_ands; go_simp <;> first | with_reducible exact (rfl : Value.bool false = _) | with_reducible exact (rfl : Value.bool true = _) | ((try go_bits) <;> exact rfl))); simp only [Act.put, Nat.reduceAdd, List.setIfInBounds_toArray, List.set_cons_zero, List.set_cons_succ, List.nil_append, List.cons_append]) | (refine wE_seal (by rfl) (by rfl) (by kernel_rfl) ?_; apply Exists.intro; refine ⟨fun wq hw => ?_, ?_⟩; (focus (rw [HCl.out] at hw; (try simp only [List.nil_append, List.cons_append] at hw); (try dsimp only at hw); go_split_ands; go_simp <;> (try go_bits) <;> exact rfl)); simp only [Act.put, Nat.reduceAdd, List.setIfInBounds_toArray, List.set_cons_zero, List.set_cons_succ, List.nil_append, List.cons_append]) | (refine wE_seal (by rfl) (by rfl) (by kernel_rfl) ?_; apply Exists.intro; refine ⟨fun wq hw => ?_, ?_⟩; (focus (rw [HCl.out] at hw; (try simp only [List.nil_append, List.cons_append] at hw); (try dsimp only at hw); go_split_ands; go_simp; fail)); simp only [Act.put, Nat.reduceAdd, List.setIfInBounds_toArray, List.set_cons_zero, List.set_cons_succ, List.nil_append, List.cons_append]) | (refine wE_eff (by rfl) (by rfl) (fun wq hw => ?_) (fun u hu => ?_); (focus (rw [HCl.out] at hw; (try simp only [List.nil_append, List.cons_append] at hw); (try dsimp only at hw); go_split_ands; go_simp; rw [HCl.out]; (try simp only [List.nil_append, List.cons_append]); (try dsimp only); skip; ((repeat' apply And.intro) <;> first | (simp [go_sem, *]; done) | omega | (repeat' (first | with_reducible exact Below.refl _ _ | with_reducible assumption | ((with_reducible refine Below.drew ?_)) | ((with_reducible refine below_drewN ?_ _)) | ((with_reducible refine Below.alloc ?_ ?_ _); rotate_left; focus (first | omega | (simp; done) | (simp; omega))) | ((with_reducible refine Below.setCell ?_ ?_ _); rotate_left; focus (first | omega | (simp; done) | (simp; omega))) | ((with_reducible refine Below.trans ?_ (Below.mono (by with_reducible assumption) ?_)); rotate_left; focus (first | omega | (simp; done) | (simp; omega)))))))); clear hu; simp only [Act.put, Nat.reduceAdd, List.setIfInBounds_toArray, List.set_cons_zero, List.set_cons_succ, List.nil_append, List.cons_append]))); refine wE_nil ?_; intro w' hw; rw [HCl.out] at hw; (try simp only [List.nil_append, List.cons_append] at hw); (try dsimp only at hw); clear HCl; go_split_ands; go_wp2
        (go_ret; refine ⟨?_, ?_⟩; (focus (exact rfl)); ((repeat' (first | with_reducible exact Below.refl _ _ | with_reducible assumption | ((with_reducible refine Below.drew ?_)) | ((with_reducible refine below_drewN ?_ _)) | ((with_reducible refine Below.alloc ?_ ?_ _); rotate_left; focus (first | omega | (simp; done) | (simp; omega))) | ((with_reducible refine Below.setCell ?_ ?_ _); rotate_left; focus (first | omega | (simp; done) | (simp; omega))) | ((with_reducible refine Below.trans ?_ (Below.mono (by with_reducible assumption) ?_)); rotate_left; focus (first | omega | (simp; done) | (simp; omega))))); done))
/-- Which pick is the first late one. -/
def LATE (es : List Ev) (i : Int) (b : Bool) : Prop :=
  (b = true ∧ ∃ k, ∃ h : k < es.length, i = k ∧ blate (brun es k) es[k] = true ∧ ∀ j (h : j < es.length), j < k → blate (brun es j) es[j] = false) ∨
  (b = false ∧ i = 0 ∧ ∀ j (h : j < es.length), blate (brun es j) es[j] = false)
set_option maxHeartbeats 8000000 in
theorem first_c (es : List Ev) (a : Option Addr) (c x : Nat) (v : Value) (hn : es.length ≤ 100000) (w : World) (hE : EvsV w a es) (hEx : ∀ k (h : k < es.length), ∀ b o, a = some ⟨b, o, none⟩ → b < x) (hS : SN w x v (brun es 0)) :
    Calls Try.prog 65 #[.slice a es.length c, Value.func (.func 66) #[.pointer (some ⟨x, 0, none⟩)] #[], Value.func (.func 67) #[.pointer (some ⟨x, 0, none⟩)] #[]] w fun ee w' => (∃ i b, ee = .returned (.tuple #[.int .i64 i, .bool b]) ∧ LATE es i b) ∧ Below x w w' := by
  have HE := Lib.hid hE
  have HX := Lib.hid hEx
  have HS := Lib.hid (brun_succ es)
  have HP := Lib.hid (brun_le es)
  have EI := Lib.hid ev_info
  have HS0 := Lib.hid hS
  have hxw : x < w.heap.size := hS.xc.2.2.2.2.2.2.2.2
  clear hE hS hEx
  go_enter Try.func65, Try.ntmps65
  go_wp2_with fail
  go_loopw [12] (fun i wr => ∃ (k : Nat) (v : Value), k ≤ es.length ∧ i = .int .i64 k ∧ SN wr x v (brun es k) ∧ (∀ j (h : j < es.length), j < k → blate (brun es j) es[j] = false) ∧ Below x w wr) (fun i _ => es.length - (intOf i).toNat)
  case atStart => exact ⟨0, _, Nat.zero_le _, rfl, HS0.out, fun j h hj => absurd hj (Nat.not_lt_zero _), Below.refl _ _⟩
  case round =>
    obtain ⟨k, v, hk, rfl, hS, hno, hB⟩ := hrel
    have hsz := hB.size
    by_cases hlt : k < es.length
    · obtain ⟨b, o, rfl, hb0, hr0⟩ := HE.out k hlt
      have hbx := HX.out k hlt b o rfl
      have hb : b < wr.heap.size := by omega
      have hr : wr.rangeAt b (o + k * 12) es[k].cells := fun j u hu => (hB.cell (p := ⟨b, o + k * 12 + j, none⟩) hbx).trans (hr0 j u hu)
      clear hr0
      have hs := HS.out k hlt
      have hp := HP.out k
      have hl : blate (brun es k) es[k] = blate (brun es k) es[k] := rfl
      have HNO := Lib.hid hno
      have hstep : blate (brun es k) es[k] = false → ∀ j (h : j < es.length), j < k + 1 → blate (brun es j) es[j] = false := fun hf j h hj => by
        by_cases e : j < k
        · exact hno j h e
        · obtain rfl : j = k := by omega
          exact hf
      have hyes : blate (brun es k) es[k] = true → LATE es k true := fun ht => .inl ⟨rfl, k, hlt, rfl, ht, hno⟩
      have HY := Lib.hid hyes
      have HST := Lib.hid hstep
      clear hl hno hstep hyes
      generalize es[k] = e at hs hr HY HST
      have HN := Lib.hid hs
      have KF := Lib.hid (fun z hz => late_c x v (brun es k) e z hz)
      have KL := Lib.hid (fun z hz => learn_c x v (brun es k) e z hz (by omega) (by omega))
      have HSb := hS.below (Below.alloc (Below.refl _ _) (Nat.le_refl _) (Obj.cells #[.int .i64 (e).op, .bool (e).inn, .bool (e).real, .int .u64 (e).tm, .int .u64 (e).dn, .int .i64 (e).cls, .int .u64 (e).id, .int .i64 (e).ln, .int .u16 (e).a, .int .u16 (e).b, .int .u16 (e).c, .int .u16 (e).d] 73))
      have hx2 := hS.xc.2.2.2.2.2.2.2.2
      clear hs hp hS
      cases hbt : blate (brun es k) e with
      | true =>
        rw [hbt] at KF
        have HY2 := Lib.hid (HY.out hbt)
        go_wp2_with (first
          | (refine wpList_load_mid rfl 73 _ rfl b (o + k * 12) rfl _ _ hr Try.underlying73 rfl EI.out ?_)
          | (refine wpList_store_new rfl 73 _ _ rfl _ #[.int .i64 (e).op, .bool (e).inn, .bool (e).real, .int .u64 (e).tm, .int .u64 (e).dn, .int .i64 (e).cls, .int .u64 (e).id, .int .i64 (e).ln, .int .u16 (e).a, .int .u16 (e).b, .int .u16 (e).c, .int .u16 (e).d] rfl rfl EI.out rfl (all_oneCell_toArray e.one) ?_)
          | (go_at_call 66; (with_reducible refine (KF.out _ HSb).mono ?_); rintro e1 w1 ⟨rfl, hb1⟩))
        go_ret2
        exact ⟨⟨_, _, rfl, HY2.out⟩, (hB.alloc (by omega) _).trans (hb1.mono (by simp; omega))⟩
      | false =>
        rw [hbt] at KF
        have HT2 := Lib.hid (HST.out hbt)
        go_wp2_with (first
          | (refine wpList_load_mid rfl 73 _ rfl b (o + k * 12) rfl _ _ hr Try.underlying73 rfl EI.out ?_)
          | (refine wpList_store_new rfl 73 _ _ rfl _ #[.int .i64 (e).op, .bool (e).inn, .bool (e).real, .int .u64 (e).tm, .int .u64 (e).dn, .int .i64 (e).cls, .int .u64 (e).id, .int .i64 (e).ln, .int .u16 (e).a, .int .u16 (e).b, .int .u16 (e).c, .int .u16 (e).d] rfl rfl EI.out rfl (all_oneCell_toArray e.one) ?_)
          | (go_at_call 66; (with_reducible refine (KF.out _ HSb).mono ?_); rintro e1 w1 ⟨rfl, hb1⟩; replace HSb := HSb.below hb1; (obtain ⟨hcc, hff⟩ := bcell hb1); (have hsz1 := hb1.size); (try simp at hsz1); have hF : w1.cell? ⟨wr.heap.size, 0, none⟩ = some (.int .i64 e.op) ∧ w1.cell? ⟨wr.heap.size, 1, none⟩ = some (.bool e.inn) ∧ w1.cell? ⟨wr.heap.size, 2, none⟩ = some (.bool e.real) ∧ w1.cell? ⟨wr.heap.size, 3, none⟩ = some (.int .u64 e.tm) ∧ w1.cell? ⟨wr.heap.size, 4, none⟩ = some (.int .u64 e.dn) ∧ w1.cell? ⟨wr.heap.size, 5, none⟩ = some (.int .i64 e.cls) ∧ w1.cell? ⟨wr.heap.size, 6, none⟩ = some (.int .u64 e.id) ∧ w1.cell? ⟨wr.heap.size, 7, none⟩ = some (.int .i64 e.ln) ∧ w1.cell? ⟨wr.heap.size, 8, none⟩ = some (.int .u16 e.a) ∧ w1.cell? ⟨wr.heap.size, 9, none⟩ = some (.int .u16 e.b) ∧ w1.cell? ⟨wr.heap.size, 10, none⟩ = some (.int .u16 e.c) ∧ w1.cell? ⟨wr.heap.size, 11, none⟩ = some (.int .u16 e.d) ∧ wr.heap.size < w1.heap.size := (by ((repeat' apply And.intro) <;> first | (simp [go_sem, *]; done) | omega | (repeat' (first | with_reducible exact Below.refl _ _ | with_reducible assumption | ((with_reducible refine Below.drew ?_)) | ((with_reducible refine below_drewN ?_ _)) | ((with_reducible refine Below.alloc ?_ ?_ _); rotate_left; focus (first | omega | (simp; done) | (simp; omega))) | ((with_reducible refine Below.setCell ?_ ?_ _); rotate_left; focus (first | omega | (simp; done) | (simp; omega))) | ((with_reducible refine Below.trans ?_ (Below.mono (by with_reducible assumption) ?_)); rotate_left; focus (first | omega | (simp; done) | (simp; omega))))))); go_split_ands; (have hB1 := (hB.alloc (by omega) (Obj.cells #[.int .i64 (e).op, .bool (e).inn, .bool (e).real, .int .u64 (e).tm, .int .u64 (e).dn, .int .i64 (e).cls, .int .u64 (e).id, .int .i64 (e).ln, .int .u16 (e).a, .int .u16 (e).b, .int .u16 (e).c, .int .u16 (e).d] 73)).trans (hb1.mono (by simp; omega))); clear hcc hff hb1)
          | (go_at_call 67; (with_reducible refine (KL.out _ HSb).mono ?_); rintro e1 w2 ⟨rfl, ⟨v1, hS1⟩, hb2⟩))
        go_roundw
        case rel => exact ⟨k + 1, v1, by omega, by go_num, by rw [HN.out]; exact hS1, HT2.out, hB1.trans hb2⟩
        case measure => simp [intOf]; omega
    · obtain rfl : k = es.length := by omega
      have HNO := Lib.hid hno
      clear hlt HE HS HP HX hno
      go_wp2
      go_ret2
      exact ⟨⟨_, _, rfl, .inr ⟨rfl, rfl, fun j h => HNO.out j h h⟩⟩, hB⟩
set_option maxHeartbeats 4000000 in
theorem blt_c (es : List Ev) (a : Option Addr) (c : Nat) (hn : es.length ≤ 100000) (w : World) (hE : EvsV w a es) :
    Calls Try.prog 43 #[.slice a es.length c] w fun ee w' => (∃ i b, ee = .returned (.tuple #[.int .i64 i, .bool b]) ∧ LATE es i b) ∧ Below w.heap.size w w' := by
  have hEx : ∀ k (h : k < es.length), ∀ b o, a = some ⟨b, o, none⟩ → b < w.heap.size := fun k h b o e => by
    obtain ⟨b', o', e', hb, _⟩ := hE k h
    rw [e'] at e
    cases e
    exact hb
  have KF := Lib.hid (fun z hz v hS => first_c es a c w.heap.size v hn z hz hEx hS)
  have HE := Lib.hid (fun ob => hE.below (Below.alloc (Below.refl _ _) (Nat.le_refl _) ob))
  have HS : RowKit.Hid (SN (w.alloc (Obj.cells #[.slice none 0 0, .int .u64 0, .int .i64 0, .int .u64 0] 121)) w.heap.size (.slice none 0 0) (brun es 0)) := Lib.hid ⟨by show _ ∧ _; simp [brun, go_sem], World.ownsRow_nil _ _ _ _⟩
  clear hE hEx
  go_enter Try.func43, Try.ntmps43
  go_wp2_with (go_at_call 65; (with_reducible refine (KF.out _ (HE.out _) _ HS.out).mono ?_); rintro e1 w1 ⟨⟨i, bb, rfl, hL⟩, hb1⟩; have HL := Lib.hid hL; clear hL)
  go_ret2
  exact ⟨⟨_, _, rfl, HL.out⟩, (Below.alloc (Below.refl _ _) (Nat.le_refl _) _).trans hb1⟩
end Go.Proofs.Ytkbglhkhhoakgaa
