import Derived.Test.YtdahjhokcjfioaaMeter2
namespace Go.Proofs.Ytdahjhokcjfioaa
set_option linter.unusedVariables false
set_option linter.unusedSimpArgs false
set_option maxRecDepth 100000
open Go.RowKit Fg Reg

theorem bone_r {x : Nat} {W w1 : World} (hb : Only (fun k => k = x) W w1) : (∀ b o, b < W.heap.size → b ≠ x → w1.cell? ⟨b, o, none⟩ = W.cell? ⟨b, o, none⟩) := (bone hb).1
theorem add_nil (t m : Int) (w : World) : Calls Try.prog 123 #[.pointer none, .int .u64 t, .int .i64 m] w fun ee w' => ee = .returned (.int .i64 7) ∧ Below w.heap.size w w' := by
  have K1 := Lib.hid made_nil
  go_enter Try.func123, Try.ntmps123
  go_wp2_with (go_at_call 163; ((with_reducible refine (K1.out _).mono ?_); rintro e w1 ⟨rfl, hbel⟩; obtain ⟨hcc, hff⟩ := bcell hbel; have hsz := hbel.size; (try simp at hsz); have hF : Below w.heap.size w w1 := (by ((repeat' apply And.intro) <;> first | (simp [go_sem, *]; done) | omega | (repeat' (first | with_reducible exact Below.refl _ _ | with_reducible assumption | ((with_reducible refine Below.drew ?_)) | ((with_reducible refine below_drewN ?_ _)) | ((with_reducible refine Below.alloc ?_ ?_ _); rotate_left; focus (first | omega | (simp; done) | (simp; omega))) | ((with_reducible refine Below.setCell ?_ ?_ _); rotate_left; focus (first | omega | (simp; done) | (simp; omega))) | ((with_reducible refine Below.trans ?_ (Below.mono (by with_reducible assumption) ?_)); rotate_left; focus (first | omega | (simp; done) | (simp; omega))) | with_reducible exact Only.refl _ _ | (with_reducible refine Only.drew ?_) | (with_reducible refine Only.setOne ?_ _ _ _) | (with_reducible refine Only.alloc ?_ _) | (with_reducible refine Only.drewN ?_ _) | (with_reducible refine Only.of_below ?_) )))); go_split_ands; clear hcc hff hbel))
  (go_ret; refine ⟨?_, ?_⟩; (focus (exact rfl)); ((repeat' (first | with_reducible exact Below.refl _ _ | with_reducible assumption | ((with_reducible refine Below.drew ?_)) | ((with_reducible refine below_drewN ?_ _)) | ((with_reducible refine Below.alloc ?_ ?_ _); rotate_left; focus (first | omega | (simp; done) | (simp; omega))) | ((with_reducible refine Below.setCell ?_ ?_ _); rotate_left; focus (first | omega | (simp; done) | (simp; omega))) | ((with_reducible refine Below.trans ?_ (Below.mono (by with_reducible assumption) ?_)); rotate_left; focus (first | omega | (simp; done) | (simp; omega))) | with_reducible exact Only.refl _ _ | (with_reducible refine Only.drew ?_) | (with_reducible refine Only.setOne ?_ _ _ _) | (with_reducible refine Only.alloc ?_ _) | (with_reducible refine Only.drewN ?_ _) | (with_reducible refine Only.of_below ?_) )); done))
theorem add_len (x : Nat) (W s a n b t m : Int) (w : World) (hL : MT w x W s a n b) (h1 : 0 < W) (hm : m < 0) : Calls Try.prog 123 #[.pointer (some ⟨x, 0, none⟩), .int .u64 t, .int .i64 m] w fun ee w' => ee = .returned (.int .i64 26) ∧ Below w.heap.size w w' := by
  have K1 := Lib.hid (made_c x W s a n b w hL h1)
  go_enter Try.func123, Try.ntmps123
  go_wp2_with (go_at_call 163; ((with_reducible refine (K1.out).mono ?_); rintro e w1 ⟨rfl, hbel⟩; obtain ⟨hcc, hff⟩ := bcell hbel; have hsz := hbel.size; (try simp at hsz); have hF : Below w.heap.size w w1 := (by ((repeat' apply And.intro) <;> first | (simp [go_sem, *]; done) | omega | (repeat' (first | with_reducible exact Below.refl _ _ | with_reducible assumption | ((with_reducible refine Below.drew ?_)) | ((with_reducible refine below_drewN ?_ _)) | ((with_reducible refine Below.alloc ?_ ?_ _); rotate_left; focus (first | omega | (simp; done) | (simp; omega))) | ((with_reducible refine Below.setCell ?_ ?_ _); rotate_left; focus (first | omega | (simp; done) | (simp; omega))) | ((with_reducible refine Below.trans ?_ (Below.mono (by with_reducible assumption) ?_)); rotate_left; focus (first | omega | (simp; done) | (simp; omega))) | with_reducible exact Only.refl _ _ | (with_reducible refine Only.drew ?_) | (with_reducible refine Only.setOne ?_ _ _ _) | (with_reducible refine Only.alloc ?_ _) | (with_reducible refine Only.drewN ?_ _) | (with_reducible refine Only.of_below ?_) )))); go_split_ands; clear hcc hff hbel))
  (go_ret; refine ⟨?_, ?_⟩; (focus (exact rfl)); ((repeat' (first | with_reducible exact Below.refl _ _ | with_reducible assumption | ((with_reducible refine Below.drew ?_)) | ((with_reducible refine below_drewN ?_ _)) | ((with_reducible refine Below.alloc ?_ ?_ _); rotate_left; focus (first | omega | (simp; done) | (simp; omega))) | ((with_reducible refine Below.setCell ?_ ?_ _); rotate_left; focus (first | omega | (simp; done) | (simp; omega))) | ((with_reducible refine Below.trans ?_ (Below.mono (by with_reducible assumption) ?_)); rotate_left; focus (first | omega | (simp; done) | (simp; omega))) | with_reducible exact Only.refl _ _ | (with_reducible refine Only.drew ?_) | (with_reducible refine Only.setOne ?_ _ _ _) | (with_reducible refine Only.alloc ?_ _) | (with_reducible refine Only.drewN ?_ _) | (with_reducible refine Only.of_below ?_) )); done))
theorem add_clock (x : Nat) (W s a n b t m : Int) (w : World) (hL : MT w x W s a n b) (h1 : 0 < W) (hm : 0 ≤ m) (ht : 0 ≤ t) (h2 : mayb W n t = false) : Calls Try.prog 123 #[.pointer (some ⟨x, 0, none⟩), .int .u64 t, .int .i64 m] w fun ee w' => ee = .returned (.int .i64 27) ∧ Below w.heap.size w w' := by
  have k2 := fun z hz => may_c x W s a n b t z hz h1 ht
  rw [h2] at k2
  have K1 := Lib.hid (made_c x W s a n b w hL h1)
  have K2 := Lib.hid k2
  have HL := Lib.hid hL
  clear k2 hL h2
  go_enter Try.func123, Try.ntmps123
  go_wp2_with (first | (go_at_call 163; ((with_reducible refine (K1.out).mono ?_); rintro e w1 ⟨rfl, hb1⟩)) | (go_at_call 164; ((with_reducible refine (K2.out _ (HL.out.below hb1)).mono ?_); rintro e w2 ⟨rfl, hb2⟩)))
  go_ret
  exact ⟨rfl, hb1.trans (hb2.mono hb1.size)⟩
theorem avg_nil (t : Int) (w : World) : Calls Try.prog 124 #[.pointer none, .int .u64 t] w fun ee w' => ee = .returned (.tuple #[.int .u64 (0), .int .i64 (7)]) ∧ Below w.heap.size w w' := by
  have K1 := Lib.hid made_nil
  go_enter Try.func124, Try.ntmps124
  go_wp2_with (go_at_call 163; ((with_reducible refine (K1.out _).mono ?_); rintro e w1 ⟨rfl, hbel⟩; obtain ⟨hcc, hff⟩ := bcell hbel; have hsz := hbel.size; (try simp at hsz); have hF : Below w.heap.size w w1 := (by ((repeat' apply And.intro) <;> first | (simp [go_sem, *]; done) | omega | (repeat' (first | with_reducible exact Below.refl _ _ | with_reducible assumption | ((with_reducible refine Below.drew ?_)) | ((with_reducible refine below_drewN ?_ _)) | ((with_reducible refine Below.alloc ?_ ?_ _); rotate_left; focus (first | omega | (simp; done) | (simp; omega))) | ((with_reducible refine Below.setCell ?_ ?_ _); rotate_left; focus (first | omega | (simp; done) | (simp; omega))) | ((with_reducible refine Below.trans ?_ (Below.mono (by with_reducible assumption) ?_)); rotate_left; focus (first | omega | (simp; done) | (simp; omega))) | with_reducible exact Only.refl _ _ | (with_reducible refine Only.drew ?_) | (with_reducible refine Only.setOne ?_ _ _ _) | (with_reducible refine Only.alloc ?_ _) | (with_reducible refine Only.drewN ?_ _) | (with_reducible refine Only.of_below ?_) )))); go_split_ands; clear hcc hff hbel))
  (go_ret2; refine ⟨?_, ?_⟩; (focus (exact rfl)); ((repeat' (first | with_reducible exact Below.refl _ _ | with_reducible assumption | ((with_reducible refine Below.drew ?_)) | ((with_reducible refine below_drewN ?_ _)) | ((with_reducible refine Below.alloc ?_ ?_ _); rotate_left; focus (first | omega | (simp; done) | (simp; omega))) | ((with_reducible refine Below.setCell ?_ ?_ _); rotate_left; focus (first | omega | (simp; done) | (simp; omega))) | ((with_reducible refine Below.trans ?_ (Below.mono (by with_reducible assumption) ?_)); rotate_left; focus (first | omega | (simp; done) | (simp; omega))) | with_reducible exact Only.refl _ _ | (with_reducible refine Only.drew ?_) | (with_reducible refine Only.setOne ?_ _ _ _) | (with_reducible refine Only.alloc ?_ _) | (with_reducible refine Only.drewN ?_ _) | (with_reducible refine Only.of_below ?_) )); done))
theorem avg_clock (x : Nat) (W s a n b t : Int) (w : World) (hL : MT w x W s a n b) (h1 : 0 < W) (ht : 0 ≤ t) (h2 : mayb W n t = false) : Calls Try.prog 124 #[.pointer (some ⟨x, 0, none⟩), .int .u64 t] w fun ee w' => ee = .returned (.tuple #[.int .u64 (0), .int .i64 (27)]) ∧ Below w.heap.size w w' := by
  have k2 := fun z hz => may_c x W s a n b t z hz h1 ht
  rw [h2] at k2
  have K1 := Lib.hid (made_c x W s a n b w hL h1)
  have K2 := Lib.hid k2
  have HL := Lib.hid hL
  clear k2 hL h2
  go_enter Try.func124, Try.ntmps124
  go_wp2_with (first | (go_at_call 163; ((with_reducible refine (K1.out).mono ?_); rintro e w1 ⟨rfl, hb1⟩)) | (go_at_call 164; ((with_reducible refine (K2.out _ (HL.out.below hb1)).mono ?_); rintro e w2 ⟨rfl, hb2⟩)))
  go_ret2
  exact ⟨rfl, hb1.trans (hb2.mono hb1.size)⟩

theorem mayb_spec {W n t : Int} (h : mayb W n t = true) : t ≤ 4611686018427387904 ∧ n ≤ t / W := by
  unfold mayb at h; simpa using h
theorem avg_ok (x : Nat) (W a n b t : Int) (s : Nat) (w : World) (hL : MT w x W s a n b) (h1 : 0 < W) (hs : s ≤ 8) (ha : 0 ≤ a ∧ a ≤ 72057594037927936) (hb : 0 ≤ b ∧ b ≤ 1099511627776) (hn : 0 ≤ n) (ht : 0 ≤ t) (h2 : mayb W n t = true) :
    Calls Try.prog 124 #[.pointer (some ⟨x, 0, none⟩), .int .u64 t] w fun e w' => e = .returned (.tuple #[.int .u64 ((mrun (2 ^ s) (t / W - n).toNat a b)), .int .i64 (0)]) ∧ MT w' x W s (mrun (2 ^ s) (t / W - n).toNat a b) (t / W) (mby (t / W - n).toNat b) ∧ Only (fun k => k = x) w w' := by
  obtain ⟨m1, m2⟩ := mayb_spec h2
  have m3 : t / W ≤ t := Int.ediv_le_self _ ht
  have k2 := fun z hz => may_c x W s a n b t z hz h1 ht
  rw [h2] at k2
  have k3 := fun z hz => till_c x W a n b (t / W) s hs ha hb hn m2 (by omega) z hz
  have hW : ¬ W = 0 := by omega
  have hd : 0 ≤ t / W := by omega
  generalize (t / W - n).toNat = kk at *
  generalize hA : mrun (2 ^ s) kk a b = A at *
  generalize hB : mby kk b = B at *
  have K1 := Lib.hid (made_c x W s a n b w hL h1)
  have K2 := Lib.hid k2
  have K3 := Lib.hid k3
  have HL := Lib.hid hL
  clear k2 k3 hL h2 hA hB m3 m2 ha hb
  go_enter Try.func124, Try.ntmps124
  go_wp2_with (first
    | (go_at_call 163; ((with_reducible refine (K1.out).mono ?_); rintro e w1 ⟨rfl, hb1⟩))
    | (go_at_call 164; ((with_reducible refine (K2.out _ (HL.out.below hb1)).mono ?_); rintro e w2 ⟨rfl, hb2⟩; have HM := Lib.hid ((HL.out.below hb1).below hb2); have hM := HM.out; unfold MT at hM; go_split_ands))
    | (go_at_call 165; ((with_reducible refine (K3.out _ HM.out).mono ?_); rintro e w3 ⟨rfl, hT, hO⟩; have HT := Lib.hid hT; have HO := Lib.hid hO; clear hO; unfold MT at hT; go_split_ands)))
  go_ret2
  exact ⟨rfl, HT.out, ((Only.of_below hb1).trans (Only.of_below hb2)).trans HO.out⟩

/-- Bytes that come in a window, till it is full. -/
def madd (b m : Int) : Int := if b + m ≤ 1099511627776 then b + m else 1099511627776
theorem madd_bd {b m : Int} (h0 : 0 ≤ b) (h1 : b ≤ 1099511627776) (h2 : 0 ≤ m) : 0 ≤ madd b m ∧ madd b m ≤ 1099511627776 := by
  unfold madd; split <;> omega
theorem run_min2 {a b : Int} (w : World) : (Builtin.min_ #[28, 28] 28 #[.int .u64 a, .int .u64 b]).run Try.prog w = .ok (.int .u64 (if b < a then b else a)) w := by
  simp [Builtin.min_, Builtin.min2]
set_option maxHeartbeats 1000000 in
theorem add_ok (x : Nat) (W a n b t m : Int) (s : Nat) (w : World) (hL : MT w x W s a n b) (h1 : 0 < W) (hs : s ≤ 8) (ha : 0 ≤ a ∧ a ≤ 72057594037927936) (hb : 0 ≤ b ∧ b ≤ 1099511627776) (hn : 0 ≤ n) (ht : 0 ≤ t) (hm : 0 ≤ m) (hm2 : m ≤ 9223372036854775807) (h2 : mayb W n t = true) :
    Calls Try.prog 123 #[.pointer (some ⟨x, 0, none⟩), .int .u64 t, .int .i64 m] w fun e w' => e = .returned (.int .i64 0) ∧ MT w' x W s (mrun (2 ^ s) (t / W - n).toNat a b) (t / W) (madd (mby (t / W - n).toNat b) m) ∧ Only (fun k => k = x) w w' := by
  obtain ⟨m1, m2⟩ := mayb_spec h2
  have m3 : t / W ≤ t := Int.ediv_le_self _ ht
  have k2 := fun z hz => may_c x W s a n b t z hz h1 ht
  rw [h2] at k2
  have k3 := fun z hz => till_c x W a n b (t / W) s hs ha hb hn m2 (by omega) z hz
  have hW : ¬ W = 0 := by omega
  have hd : 0 ≤ t / W := by omega
  have bB := mby_bd hb.1 (t / W - n).toNat
  generalize (t / W - n).toNat = kk at *
  generalize hA : mrun (2 ^ s) kk a b = A at *
  generalize hB : mby kk b = B at *
  have hmin := run_min2 (a := m) (b := 1099511627776 - B)
  have he : madd B m = B + (if 1099511627776 - B < m then 1099511627776 - B else m) := by unfold madd; split <;> split <;> omega
  have hq : 0 ≤ (if 1099511627776 - B < m then 1099511627776 - B else m) ∧ (if 1099511627776 - B < m then 1099511627776 - B else m) ≤ 1099511627776 - B := by split <;> omega
  rw [he]
  generalize (if 1099511627776 - B < m then 1099511627776 - B else m) = Q at *
  obtain ⟨q1, q2⟩ := hq
  obtain ⟨b1, b2⟩ := bB
  have b3 : B ≤ 1099511627776 := by omega
  have K1 := Lib.hid (made_c x W s a n b w hL h1)
  have K2 := Lib.hid k2
  have K3 := Lib.hid k3
  have HL := Lib.hid hL
  clear k2 k3 hL h2 hA hB m3 m2 ha hb he
  go_enter Try.func123, Try.ntmps123
  go_wp2_with (first
    | (go_at_call 163; ((with_reducible refine (K1.out).mono ?_); rintro e w1 ⟨rfl, hb1⟩))
    | (go_at_call 164; ((with_reducible refine (K2.out _ (HL.out.below hb1)).mono ?_); rintro e w2 ⟨rfl, hb2⟩; have HM := Lib.hid ((HL.out.below hb1).below hb2); have hM := HM.out; unfold MT at hM; go_split_ands))
    | (go_at_call 165; ((with_reducible refine (K3.out _ HM.out).mono ?_); rintro e w3 ⟨rfl, hT, hO⟩; have HO := Lib.hid (((Only.of_below hb1).trans (Only.of_below hb2)).trans hO); clear hO HM HL; unfold MT at hT; go_split_ands)))
  obtain ⟨Cl, hCl⟩ : ∃ Cl : List Value → World → Prop, Cl = ((fun ps wz => (match ps with | [] => (wz.cell? ⟨x, 0, none⟩ = some (.int .u64 (W)) ∧ wz.cell? ⟨x, 1, none⟩ = some (.int .i64 (s)) ∧ wz.cell? ⟨x, 2, none⟩ = some (.int .u64 (A)) ∧ wz.cell? ⟨x, 3, none⟩ = some (.int .u64 (t / W)) ∧ wz.cell? ⟨x, 4, none⟩ = some (.int .u64 (B)) ∧ wz.frozen? ⟨x, 0, none⟩ = false ∧ wz.frozen? ⟨x, 1, none⟩ = false ∧ wz.frozen? ⟨x, 2, none⟩ = false ∧ wz.frozen? ⟨x, 3, none⟩ = false ∧ wz.frozen? ⟨x, 4, none⟩ = false ∧ x < wz.heap.size) | _ => (wz.cell? ⟨x, 0, none⟩ = some (.int .u64 (W)) ∧ wz.cell? ⟨x, 1, none⟩ = some (.int .i64 (s)) ∧ wz.cell? ⟨x, 2, none⟩ = some (.int .u64 (A)) ∧ wz.cell? ⟨x, 3, none⟩ = some (.int .u64 (t / W)) ∧ wz.cell? ⟨x, 4, none⟩ = some (.int .u64 (B + Q)) ∧ wz.frozen? ⟨x, 0, none⟩ = false ∧ wz.frozen? ⟨x, 1, none⟩ = false ∧ wz.frozen? ⟨x, 2, none⟩ = false ∧ wz.frozen? ⟨x, 3, none⟩ = false ∧ wz.frozen? ⟨x, 4, none⟩ = false ∧ x < wz.heap.size)) ∧ Only (fun k => k = x) w3 wz)) := ⟨_, rfl⟩; have HCl := Lib.hid hCl; clear hCl; refine wp_region_eff [15] Cl (by kernel_rfl) (by kernel_rfl) (by rw [HCl.out]; (try simp only [List.nil_append, List.cons_append]); (try dsimp only); ((repeat' apply And.intro) <;> first | (simp [go_sem, *]; done) | omega | (repeat' (first | with_reducible exact Below.refl _ _ | with_reducible assumption | ((with_reducible refine Below.drew ?_)) | ((with_reducible refine below_drewN ?_ _)) | ((with_reducible refine Below.alloc ?_ ?_ _); rotate_left; focus (first | omega | (simp; done) | (simp; omega))) | ((with_reducible refine Below.setCell ?_ ?_ _); rotate_left; focus (first | omega | (simp; done) | (simp; omega))) | ((with_reducible refine Below.trans ?_ (Below.mono (by with_reducible assumption) ?_)); rotate_left; focus (first | omega | (simp; done) | (simp; omega))) | with_reducible exact Only.refl _ _ | (with_reducible refine Only.drew ?_) | (with_reducible refine Only.setOne ?_ _ _ _) | (with_reducible refine Only.alloc ?_ _) | (with_reducible refine Only.drewN ?_ _) | (with_reducible refine Only.of_below ?_) )))) ?_
  (repeat (first | (refine wE_skip (by rfl) ?_; simp only [Act.put, Nat.reduceAdd, List.setIfInBounds_toArray, List.set_cons_zero, List.set_cons_succ, List.nil_append, List.cons_append]) | (refine wE_open (by rfl) (by rfl) ?_; apply Exists.intro; refine ⟨fun vs wq hw => ?_, ?_⟩; (focus (rw [HCl.out] at hw; (try simp only [List.nil_append, List.cons_append] at hw); (try dsimp only at hw); go_split_ands; go_simp <;> first | with_reducible exact (rfl : Value.bool false = _) | with_reducible exact (rfl : Value.bool true = _) | ((try go_bits) <;> exact rfl))); simp only [Act.put, Nat.reduceAdd, List.setIfInBounds_toArray, List.set_cons_zero, List.set_cons_succ, List.nil_append, List.cons_append]) | (refine wE_seal (by rfl) (by rfl) (by kernel_rfl) ?_; apply Exists.intro; refine ⟨fun wq hw => ?_, ?_⟩; (focus (rw [HCl.out] at hw; (try simp only [List.nil_append, List.cons_append] at hw); (try dsimp only at hw); go_split_ands; go_simp <;> (try go_bits) <;> exact rfl)); simp only [Act.put, Nat.reduceAdd, List.setIfInBounds_toArray, List.set_cons_zero, List.set_cons_succ, List.nil_append, List.cons_append]) | (refine wE_seal (by rfl) (by rfl) (by kernel_rfl) ?_; apply Exists.intro; refine ⟨fun wq hw => ?_, ?_⟩; (focus (rw [HCl.out] at hw; (try simp only [List.nil_append, List.cons_append] at hw); (try dsimp only at hw); go_split_ands; go_simp; fail)); simp only [Act.put, Nat.reduceAdd, List.setIfInBounds_toArray, List.set_cons_zero, List.set_cons_succ, List.nil_append, List.cons_append]) | (refine wE_eff (by rfl) (by rfl) (fun wq hw => ?_) (fun u hu => ?_); (focus (rw [HCl.out] at hw; (try simp only [List.nil_append, List.cons_append] at hw); (try dsimp only at hw); go_split_ands; go_simp; rw [HCl.out]; (try simp only [List.nil_append, List.cons_append]); (try dsimp only); skip; ((repeat' apply And.intro) <;> first | (simp [go_sem, *]; done) | omega | (repeat' (first | with_reducible exact Below.refl _ _ | with_reducible assumption | ((with_reducible refine Below.drew ?_)) | ((with_reducible refine below_drewN ?_ _)) | ((with_reducible refine Below.alloc ?_ ?_ _); rotate_left; focus (first | omega | (simp; done) | (simp; omega))) | ((with_reducible refine Below.setCell ?_ ?_ _); rotate_left; focus (first | omega | (simp; done) | (simp; omega))) | ((with_reducible refine Below.trans ?_ (Below.mono (by with_reducible assumption) ?_)); rotate_left; focus (first | omega | (simp; done) | (simp; omega))) | with_reducible exact Only.refl _ _ | (with_reducible refine Only.drew ?_) | (with_reducible refine Only.setOne ?_ _ _ _) | (with_reducible refine Only.alloc ?_ _) | (with_reducible refine Only.drewN ?_ _) | (with_reducible refine Only.of_below ?_) ))))); clear hu; simp only [Act.put, Nat.reduceAdd, List.setIfInBounds_toArray, List.set_cons_zero, List.set_cons_succ, List.nil_append, List.cons_append])))
  refine wE_nil ?_; intro w' hw; rw [HCl.out] at hw; (try simp only [List.nil_append, List.cons_append] at hw); (try dsimp only at hw); clear HCl
  go_split_ands
  go_wp2
  go_ret
  refine ⟨rfl, ?_, HO.out.trans (by assumption)⟩
  unfold MT
  ((repeat' apply And.intro) <;> first | (simp [go_sem, *]; done) | omega | (repeat' (first | with_reducible exact Below.refl _ _ | with_reducible assumption | ((with_reducible refine Below.drew ?_)) | ((with_reducible refine below_drewN ?_ _)) | ((with_reducible refine Below.alloc ?_ ?_ _); rotate_left; focus (first | omega | (simp; done) | (simp; omega))) | ((with_reducible refine Below.setCell ?_ ?_ _); rotate_left; focus (first | omega | (simp; done) | (simp; omega))) | ((with_reducible refine Below.trans ?_ (Below.mono (by with_reducible assumption) ?_)); rotate_left; focus (first | omega | (simp; done) | (simp; omega))) | with_reducible exact Only.refl _ _ | (with_reducible refine Only.drew ?_) | (with_reducible refine Only.setOne ?_ _ _ _) | (with_reducible refine Only.alloc ?_ _) | (with_reducible refine Only.drewN ?_ _) | (with_reducible refine Only.of_below ?_) )))
end Go.Proofs.Ytdahjhokcjfioaa
