/- conform's small parts: lets, bytesOf, drained. -/
import Derived.Test.YtdahjhokcjfioaaEv3
import Derived.Test.YtdahjhokcjfioaaWideA
namespace Go.Proofs.Ytdahjhokcjfioaa
set_option linter.unusedVariables false
set_option linter.unusedSimpArgs false
set_option maxRecDepth 100000
open Go.RowKit Fg Reg
attribute [local irreducible] Reg.wE

def cb (e : Ev) : Int := if 0 > e.ln then 0 else e.ln
def cp (c : Int) (e : Ev) : Bool := e.inn && (e.cls == c)
theorem cb_bd (e : Ev) (h : e.wf3) : 0 ≤ cb e ∧ cb e ≤ 9223372036854775807 := by
  have := h.ln1
  unfold cb; split <;> omega
theorem mxi2_c (a b : Int) (w : World) : (Builtin.max_ #[3, 3] 3 #[.int .i64 a, .int .i64 b]).run Try.prog w = .ok (.int .i64 (if b > a then b else a)) w := by
  simp [Builtin.max_, Builtin.max2]
theorem mxu2_c (a b : Int) (w : World) : (Builtin.max_ #[28, 28] 28 #[.int .u64 a, .int .u64 b]).run Try.prog w = .ok (.int .u64 (if b > a then b else a)) w := by
  simp [Builtin.max_, Builtin.max2]
theorem lets_c (e : Ev) (cx : Nat) (c : Int) (w : World) (hx : w.cell? ⟨cx, 0, none⟩ = some (.int .i64 c)) (hxl : cx < w.heap.size) : Calls Try.prog 132 #[.agg #[.int .i64 (e).op, .bool (e).inn, .bool (e).real, .int .u64 (e).tm, .int .u64 (e).dn, .int .i64 (e).cls, .int .u64 (e).id, .int .i64 (e).ln, .int .u16 (e).a, .int .u16 (e).b, .int .u16 (e).c, .int .u16 (e).d], .pointer (some ⟨cx, 0, none⟩)] w fun ee w' => ee = .returned (.bool (cp c e)) ∧ Below w.heap.size w w' := by
  obtain ⟨op, inn, real, tm, dn, cls, id, ln, ha, hb, hc, hd⟩ := e
  unfold cp
  dsimp only
  cases inn with
  | false =>
    simp only [Bool.false_and]
    go_enter Try.func132, Try.ntmps132
    go_wp2
    (go_ret; refine ⟨?_, ?_⟩; (focus (exact rfl)); ((repeat' (first | with_reducible exact Below.refl _ _ | with_reducible assumption | ((with_reducible refine Below.drew ?_)) | ((with_reducible refine below_drewN ?_ _)) | ((with_reducible refine Below.alloc ?_ ?_ _); rotate_left; focus (first | omega | (simp; done) | (simp; omega))) | ((with_reducible refine Below.setCell ?_ ?_ _); rotate_left; focus (first | omega | (simp; done) | (simp; omega))) | ((with_reducible refine Below.trans ?_ (Below.mono (by with_reducible assumption) ?_)); rotate_left; focus (first | omega | (simp; done) | (simp; omega))))); done))
  | true =>
    simp only [Bool.true_and]
    go_enter Try.func132, Try.ntmps132
    go_wp2
    (go_ret; refine ⟨?_, ?_⟩; (focus (exact rfl)); ((repeat' (first | with_reducible exact Below.refl _ _ | with_reducible assumption | ((with_reducible refine Below.drew ?_)) | ((with_reducible refine below_drewN ?_ _)) | ((with_reducible refine Below.alloc ?_ ?_ _); rotate_left; focus (first | omega | (simp; done) | (simp; omega))) | ((with_reducible refine Below.setCell ?_ ?_ _); rotate_left; focus (first | omega | (simp; done) | (simp; omega))) | ((with_reducible refine Below.trans ?_ (Below.mono (by with_reducible assumption) ?_)); rotate_left; focus (first | omega | (simp; done) | (simp; omega))))); done))
theorem bytesOf_c (e : Ev) (hw : e.wf3) (w : World) : Calls Try.prog 138 #[.agg #[.int .i64 (e).op, .bool (e).inn, .bool (e).real, .int .u64 (e).tm, .int .u64 (e).dn, .int .i64 (e).cls, .int .u64 (e).id, .int .i64 (e).ln, .int .u16 (e).a, .int .u16 (e).b, .int .u16 (e).c, .int .u16 (e).d]] w fun ee w' => ee = .returned (.int .u64 (cb e)) ∧ Below w.heap.size w w' := by
  have hbd := cb_bd e hw
  have hmx := mxi2_c e.ln 0
  unfold cb at hbd ⊢
  obtain ⟨M, hM⟩ : ∃ M, (if 0 > e.ln then 0 else e.ln) = M := ⟨_, rfl⟩
  rw [hM] at hmx hbd ⊢
  obtain ⟨op, inn, real, tm, dn, cls, id, ln, ha, hb, hc, hd⟩ := e
  dsimp only at hmx
  clear hM hw
  obtain ⟨h0, h1⟩ := hbd
  have W : IntKind.u64.wrap M = M := by rw [wrap_u64]; omega
  go_enter Try.func138, Try.ntmps138
  go_wp2
  (go_ret; refine ⟨?_, ?_⟩; (focus (exact rfl)); ((repeat' (first | with_reducible exact Below.refl _ _ | with_reducible assumption | ((with_reducible refine Below.drew ?_)) | ((with_reducible refine below_drewN ?_ _)) | ((with_reducible refine Below.alloc ?_ ?_ _); rotate_left; focus (first | omega | (simp; done) | (simp; omega))) | ((with_reducible refine Below.setCell ?_ ?_ _); rotate_left; focus (first | omega | (simp; done) | (simp; omega))) | ((with_reducible refine Below.trans ?_ (Below.mono (by with_reducible assumption) ?_)); rotate_left; focus (first | omega | (simp; done) | (simp; omega))))); done))
theorem drained_core (lv p q x y : Int) (fl : Bool) (k1 : ∀ w, Calls Try.prog 169 #[.int .u64 lv] w fun ee w' => ee = .returned (.agg #[.int .u64 0, .int .u64 lv]) ∧ Below w.heap.size w w') (k2 : ∀ w, Calls Try.prog 168 #[.agg #[.int .u64 0, .int .u64 lv], .agg #[.int .u64 p, .int .u64 q]] w fun ee w' => ee = .returned (.tuple #[.agg #[.int .u64 x, .int .u64 y], .bool fl]) ∧ Below w.heap.size w w') (w : World) :
    Calls Try.prog 136 #[.int .u64 lv, .agg #[.int .u64 p, .int .u64 q]] w fun ee w' => ee = .returned (.int .u64 (if fl = true then 0 else y)) ∧ Below w.heap.size w w' := by
  have K1 := Lib.hid k1
  have K2 := Lib.hid k2
  clear k1 k2
  cases fl
  all_goals
    go_enter Try.func136, Try.ntmps136
    go_wp2
    obtain ⟨Cl, hCl⟩ : ∃ Cl : List Value → World → Prop, Cl = (((fun ps w' => ((w'.cell? ⟨w.heap.size, 0, none⟩ = some (.int .u64 (p)) ∧ w'.cell? ⟨w.heap.size, 1, none⟩ = some (.int .u64 (q)) ∧ w.heap.size < w'.heap.size) ∧ Below w.heap.size w w') ∧ (match ps with | [] => True | [pz] => ∃ b, pz = Value.pointer (some ⟨b, 0, none⟩) ∧ w.heap.size < b ∧ (w'.cell? ⟨b, 0, none⟩ = some (.int .u64 (0)) ∧ w'.cell? ⟨b, 1, none⟩ = some (.int .u64 (0)) ∧ w'.frozen? ⟨b, 0, none⟩ = false ∧ w'.frozen? ⟨b, 1, none⟩ = false ∧ b < w'.heap.size) | (pz :: _ :: _) => ∃ b, pz = Value.pointer (some ⟨b, 0, none⟩) ∧ w.heap.size < b ∧ (w'.cell? ⟨b, 0, none⟩ = some (.int .u64 (x)) ∧ w'.cell? ⟨b, 1, none⟩ = some (.int .u64 (y)) ∧ w'.frozen? ⟨b, 0, none⟩ = false ∧ w'.frozen? ⟨b, 1, none⟩ = false ∧ b < w'.heap.size))))) := ⟨_, rfl⟩; have HCl := Lib.hid hCl; clear hCl; refine wp_region_eff [7, 8] Cl (by kernel_rfl) (by kernel_rfl) (by rw [HCl.out]; (try simp only [List.nil_append, List.cons_append]); (try dsimp only); ((repeat' apply And.intro) <;> first | (simp [go_sem, *]; done) | omega | (repeat' (first | with_reducible exact Below.refl _ _ | with_reducible assumption | ((with_reducible refine Below.drew ?_)) | ((with_reducible refine below_drewN ?_ _)) | ((with_reducible refine Below.alloc ?_ ?_ _); rotate_left; focus (first | omega | (simp; done) | (simp; omega))) | ((with_reducible refine Below.setCell ?_ ?_ _); rotate_left; focus (first | omega | (simp; done) | (simp; omega))) | ((with_reducible refine Below.trans ?_ (Below.mono (by with_reducible assumption) ?_)); rotate_left; focus (first | omega | (simp; done) | (simp; omega))))))) ?_
    (repeat (first | (refine wE_skip (by rfl) ?_; simp only [Act.put, Nat.reduceAdd, List.setIfInBounds_toArray, List.set_cons_zero, List.set_cons_succ, List.nil_append, List.cons_append]) | (refine wE_open (by rfl) (by rfl) ?_; apply Exists.intro; refine ⟨fun vs wq hw => ?_, ?_⟩; (focus (rw [HCl.out] at hw; (try simp only [List.nil_append, List.cons_append] at hw); (try dsimp only at hw); go_split_ands; go_simp <;> first | with_reducible exact (rfl : Value.bool false = _) | with_reducible exact (rfl : Value.bool true = _) | ((try go_bits) <;> exact rfl))); simp only [Act.put, Nat.reduceAdd, List.setIfInBounds_toArray, List.set_cons_zero, List.set_cons_succ, List.nil_append, List.cons_append]) | (refine wE_open (by rfl) (by rfl) ?_; apply Exists.intro; refine ⟨fun vs wq hw => ?_, ?_⟩; (focus (rw [HCl.out] at hw; (try simp only [List.nil_append, List.cons_append] at hw); (try dsimp only at hw); obtain ⟨hw1, hw2⟩ := hw; go_split_ands; go_simp; (first | (go_at_call 169; ((with_reducible refine (K1.out _).mono ?_); rintro e w' ⟨rfl, hbel⟩; obtain ⟨hcc, hff⟩ := bcell hbel; have hsz := hbel.size; (try simp at hsz); refine ⟨rfl, ?_⟩; rw [HCl.out]; (try simp only [List.nil_append, List.cons_append]); (try dsimp only); refine ⟨(by ((repeat' apply And.intro) <;> first | (simp [go_sem, *]; done) | omega | (repeat' (first | with_reducible exact Below.refl _ _ | with_reducible assumption | ((with_reducible refine Below.drew ?_)) | ((with_reducible refine below_drewN ?_ _)) | ((with_reducible refine Below.alloc ?_ ?_ _); rotate_left; focus (first | omega | (simp; done) | (simp; omega))) | ((with_reducible refine Below.setCell ?_ ?_ _); rotate_left; focus (first | omega | (simp; done) | (simp; omega))) | ((with_reducible refine Below.trans ?_ (Below.mono (by with_reducible assumption) ?_)); rotate_left; focus (first | omega | (simp; done) | (simp; omega))))))), ?_⟩; (rcases vs with _ | ⟨p1, _ | ⟨p2, vs⟩⟩ <;> first | exact trivial | (obtain ⟨bq, hbe, hlb, hz⟩ := hw2; exact ⟨bq, hbe, hlb, (by ((repeat' apply And.intro) <;> first | (simp [go_sem, *]; done) | omega | (repeat' (first | with_reducible exact Below.refl _ _ | with_reducible assumption | ((with_reducible refine Below.drew ?_)) | ((with_reducible refine below_drewN ?_ _)) | ((with_reducible refine Below.alloc ?_ ?_ _); rotate_left; focus (first | omega | (simp; done) | (simp; omega))) | ((with_reducible refine Below.setCell ?_ ?_ _); rotate_left; focus (first | omega | (simp; done) | (simp; omega))) | ((with_reducible refine Below.trans ?_ (Below.mono (by with_reducible assumption) ?_)); rotate_left; focus (first | omega | (simp; done) | (simp; omega)))))))⟩)))) | (go_at_call 168; ((with_reducible refine (K2.out _).mono ?_); rintro e w' ⟨rfl, hbel⟩; obtain ⟨hcc, hff⟩ := bcell hbel; have hsz := hbel.size; (try simp at hsz); refine ⟨rfl, ?_⟩; rw [HCl.out]; (try simp only [List.nil_append, List.cons_append]); (try dsimp only); refine ⟨(by ((repeat' apply And.intro) <;> first | (simp [go_sem, *]; done) | omega | (repeat' (first | with_reducible exact Below.refl _ _ | with_reducible assumption | ((with_reducible refine Below.drew ?_)) | ((with_reducible refine below_drewN ?_ _)) | ((with_reducible refine Below.alloc ?_ ?_ _); rotate_left; focus (first | omega | (simp; done) | (simp; omega))) | ((with_reducible refine Below.setCell ?_ ?_ _); rotate_left; focus (first | omega | (simp; done) | (simp; omega))) | ((with_reducible refine Below.trans ?_ (Below.mono (by with_reducible assumption) ?_)); rotate_left; focus (first | omega | (simp; done) | (simp; omega))))))), ?_⟩; (rcases vs with _ | ⟨p1, _ | ⟨p2, vs⟩⟩ <;> first | exact trivial | (obtain ⟨bq, hbe, hlb, hz⟩ := hw2; exact ⟨bq, hbe, hlb, (by ((repeat' apply And.intro) <;> first | (simp [go_sem, *]; done) | omega | (repeat' (first | with_reducible exact Below.refl _ _ | with_reducible assumption | ((with_reducible refine Below.drew ?_)) | ((with_reducible refine below_drewN ?_ _)) | ((with_reducible refine Below.alloc ?_ ?_ _); rotate_left; focus (first | omega | (simp; done) | (simp; omega))) | ((with_reducible refine Below.setCell ?_ ?_ _); rotate_left; focus (first | omega | (simp; done) | (simp; omega))) | ((with_reducible refine Below.trans ?_ (Below.mono (by with_reducible assumption) ?_)); rotate_left; focus (first | omega | (simp; done) | (simp; omega)))))))⟩))))))); simp only [Act.put, Nat.reduceAdd, List.setIfInBounds_toArray, List.set_cons_zero, List.set_cons_succ, List.nil_append, List.cons_append])))
    refine wE_eff (by rfl) (by rfl) (fun wq hw => ?_) (fun u hu => ?_); (focus (rw [HCl.out] at hw; (try simp only [List.nil_append, List.cons_append] at hw); (try dsimp only at hw); go_split_ands; go_simp; rw [HCl.out]; (try simp only [List.nil_append, List.cons_append]); (try dsimp only); refine ⟨?_, wq.heap.size, rfl, ?_⟩ <;> ((repeat' apply And.intro) <;> first | (simp [go_sem, *]; done) | omega | (repeat' (first | with_reducible exact Below.refl _ _ | with_reducible assumption | ((with_reducible refine Below.drew ?_)) | ((with_reducible refine below_drewN ?_ _)) | ((with_reducible refine Below.alloc ?_ ?_ _); rotate_left; focus (first | omega | (simp; done) | (simp; omega))) | ((with_reducible refine Below.setCell ?_ ?_ _); rotate_left; focus (first | omega | (simp; done) | (simp; omega))) | ((with_reducible refine Below.trans ?_ (Below.mono (by with_reducible assumption) ?_)); rotate_left; focus (first | omega | (simp; done) | (simp; omega)))))))); obtain ⟨wz, hz⟩ := hu; rw [HCl.out] at hz; (try simp only [List.nil_append, List.cons_append] at hz); (try dsimp only at hz); obtain ⟨hz0, bN, rfl, hz2, hz1⟩ := hz; clear hz1 hz2 hz0 wz; simp only [Act.put, Nat.reduceAdd, List.setIfInBounds_toArray, List.set_cons_zero, List.set_cons_succ, List.nil_append, List.cons_append]
    refine wE_eff (by rfl) (by rfl) (fun wq hw => ?_) (fun u hu => ?_); (focus (rw [HCl.out] at hw; (try simp only [List.nil_append, List.cons_append] at hw); (try dsimp only at hw); obtain ⟨hw1, bq, hbe, hlb, hw2⟩ := hw; obtain rfl : bN = bq := (by simpa using hbe); clear hbe; go_split_ands; go_simp; rw [HCl.out]; (try simp only [List.nil_append, List.cons_append]); (try dsimp only); refine ⟨?_, bN, rfl, ?_⟩ <;> ((repeat' apply And.intro) <;> first | (simp [go_sem, *]; done) | omega | (repeat' (first | with_reducible exact Below.refl _ _ | with_reducible assumption | ((with_reducible refine Below.drew ?_)) | ((with_reducible refine below_drewN ?_ _)) | ((with_reducible refine Below.alloc ?_ ?_ _); rotate_left; focus (first | omega | (simp; done) | (simp; omega))) | ((with_reducible refine Below.setCell ?_ ?_ _); rotate_left; focus (first | omega | (simp; done) | (simp; omega))) | ((with_reducible refine Below.trans ?_ (Below.mono (by with_reducible assumption) ?_)); rotate_left; focus (first | omega | (simp; done) | (simp; omega)))))))); clear hu; simp only [Act.put, Nat.reduceAdd, List.setIfInBounds_toArray, List.set_cons_zero, List.set_cons_succ, List.nil_append, List.cons_append]
    repeat (first | (refine wE_skip (by rfl) ?_; simp only [Act.put, Nat.reduceAdd, List.setIfInBounds_toArray, List.set_cons_zero, List.set_cons_succ, List.nil_append, List.cons_append]) | (refine wE_open (by rfl) (by rfl) ?_; apply Exists.intro; refine ⟨fun vs wq hw => ?_, ?_⟩; (focus (rw [HCl.out] at hw; (try simp only [List.nil_append, List.cons_append] at hw); (try dsimp only at hw); go_split_ands; go_simp <;> first | with_reducible exact (rfl : Value.bool false = _) | with_reducible exact (rfl : Value.bool true = _) | ((try go_bits) <;> exact rfl))); simp only [Act.put, Nat.reduceAdd, List.setIfInBounds_toArray, List.set_cons_zero, List.set_cons_succ, List.nil_append, List.cons_append]))
    refine wE_nil ?_; intro w' hw; rw [HCl.out] at hw; (try simp only [List.nil_append, List.cons_append] at hw); (try dsimp only at hw); clear HCl; obtain ⟨hw1, bq, hbe, hlb, hw2⟩ := hw; obtain rfl : bN = bq := (by simpa using hbe); clear hbe; go_split_ands
    go_wp2
    (go_ret; refine ⟨?_, ?_⟩; (focus (exact rfl)); ((repeat' (first | with_reducible exact Below.refl _ _ | with_reducible assumption | ((with_reducible refine Below.drew ?_)) | ((with_reducible refine below_drewN ?_ _)) | ((with_reducible refine Below.alloc ?_ ?_ _); rotate_left; focus (first | omega | (simp; done) | (simp; omega))) | ((with_reducible refine Below.setCell ?_ ?_ _); rotate_left; focus (first | omega | (simp; done) | (simp; omega))) | ((with_reducible refine Below.trans ?_ (Below.mono (by with_reducible assumption) ?_)); rotate_left; focus (first | omega | (simp; done) | (simp; omega))))); done))
theorem drained_c (lv X : Int) (h : 0 ≤ lv ∧ lv ≤ 18446744073709551615) (hX : Wd X) (w : World) : Calls Try.prog 136 #[.int .u64 lv, .agg #[.int .u64 (hi X), .int .u64 (lo X)]] w fun ee w' => ee = .returned (.int .u64 (if lv < X then 0 else lv - X)) ∧ Below w.heap.size w w' := by
  have i0 : In 0 := by unfold In; omega
  have i1 : In (hi X) := by unfold In hi; omega
  have i2 : In (lo X) := by unfold In lo; omega
  have e0 : val 0 lv = lv := by unfold val; omega
  have e1 : val (hi X) (lo X) = X := by unfold Wd at hX; unfold val hi lo; omega
  have k2 := fun w => sub_c 0 lv (hi X) (lo X) i0 h i1 i2 w
  simp only [e0, e1] at k2
  have := drained_core lv (hi X) (lo X) _ _ _ (of_c lv) k2 w
  have e2 : (if (decide (cmp lv X < 0)) = true then 0 else lo (lv - X)) = (if lv < X then 0 else lv - X) := by
    by_cases hl : lv < X
    · have : cmp lv X = -1 := by unfold cmp; rw [if_neg (by omega), if_pos hl]
      rw [this, if_pos hl]; rfl
    · have : ¬ cmp lv X < 0 := by unfold cmp; split; omega; omega
      rw [if_neg hl, if_neg (by simpa using this)]
      unfold lo; unfold Wd at hX; omega
  rw [e2] at this
  exact this
end Go.Proofs.Ytdahjhokcjfioaa
