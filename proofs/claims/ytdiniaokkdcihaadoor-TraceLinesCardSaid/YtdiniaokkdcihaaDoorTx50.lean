/- TraceLines. -/
import Derived.Test.YtdiniaokkdcihaaDoorTx49
import Derived.Test.YtdiniaokkdcihaaDoorTx48
import Derived.Test.YtdiniaokkdcihaaDoorTx42
import Derived.Test.YtdiniaokkdcihaaDoorRefA
namespace Go.Proofs.YtdiniaokkdcihaaDoor
set_option linter.unusedVariables false
set_option linter.unusedSimpArgs false
set_option maxRecDepth 100000
open Go.RowKit Fg Reg
attribute [local irreducible] Reg.wE

theorem back_outR (op tm dn cls id ln a b c d : Int) (hop : 0 ≤ op ∧ op < 9223372036854775808) (htm : 0 ≤ tm ∧ tm < 18446744073709551616) (hdn : 0 ≤ dn ∧ dn < 18446744073709551616) (hcls : 0 ≤ cls ∧ cls < 9223372036854775808) (hid : 0 ≤ id ∧ id < 18446744073709551616) (hln : 0 ≤ ln ∧ ln < 9223372036854775808)
    (ha : 0 ≤ a ∧ a < 65536) (hb : 0 ≤ b ∧ b < 65536) (hc : 0 ≤ c ∧ c < 65536) (hd : 0 ≤ d ∧ d < 65536) (w : World) :
    Calls Tryd.prog 24 #[.string (joinB [dig op, [114, 101, 97, 108], dig tm, dig dn, dig cls, dig id, dig ln, dig a, dig b, dig c, dig d])] w fun ee w' => ee = .returned (.tuple #[.agg #[.int .i64 ((⟨op, false, true, tm, dn, cls, id, ln, a, b, c, d⟩ : Ev)).op, .bool ((⟨op, false, true, tm, dn, cls, id, ln, a, b, c, d⟩ : Ev)).inn, .bool ((⟨op, false, true, tm, dn, cls, id, ln, a, b, c, d⟩ : Ev)).real, .int .u64 ((⟨op, false, true, tm, dn, cls, id, ln, a, b, c, d⟩ : Ev)).tm, .int .u64 ((⟨op, false, true, tm, dn, cls, id, ln, a, b, c, d⟩ : Ev)).dn, .int .i64 ((⟨op, false, true, tm, dn, cls, id, ln, a, b, c, d⟩ : Ev)).cls, .int .u64 ((⟨op, false, true, tm, dn, cls, id, ln, a, b, c, d⟩ : Ev)).id, .int .i64 ((⟨op, false, true, tm, dn, cls, id, ln, a, b, c, d⟩ : Ev)).ln, .int .u16 ((⟨op, false, true, tm, dn, cls, id, ln, a, b, c, d⟩ : Ev)).a, .int .u16 ((⟨op, false, true, tm, dn, cls, id, ln, a, b, c, d⟩ : Ev)).b, .int .u16 ((⟨op, false, true, tm, dn, cls, id, ln, a, b, c, d⟩ : Ev)).c, .int .u16 ((⟨op, false, true, tm, dn, cls, id, ln, a, b, c, d⟩ : Ev)).d], .int .i64 (0)]) ∧ Below w.heap.size w w' := by
  have l0 := dig_short9 op (by omega) (by omega)
  have l1 := dig_short9 tm (by omega) (by omega)
  have l9 := dig_short9 dn (by omega) (by omega)
  have l2 := dig_short9 cls (by omega) (by omega)
  have l3 := dig_short9 id (by omega) (by omega)
  have l4 := dig_short9 ln (by omega) (by omega)
  have l5 := dig_short9 a (by omega) (by omega)
  have l6 := dig_short9 b (by omega) (by omega)
  have l7 := dig_short9 c (by omega) (by omega)
  have l8 := dig_short9 d (by omega) (by omega)
  have hS : (joinB [dig op, [114, 101, 97, 108], dig tm, dig dn, dig cls, dig id, dig ln, dig a, dig b, dig c, dig d]).size ≤ 300 := by
    have := join_len300 [dig op, [114, 101, 97, 108], dig tm, dig dn, dig cls, dig id, dig ln, dig a, dig b, dig c, dig d] (by simp) (fun x hx => by
      simp only [List.mem_cons, List.not_mem_nil, or_false] at hx
      rcases hx with rfl | rfl | rfl | rfl | rfl | rfl | rfl | rfl | rfl | rfl | rfl <;> first | assumption | simp)
    unfold joinB
    show (Lib.join _ _).toArray.size ≤ 300
    rw [List.size_toArray]; exact this
  have hcut : cutL 32 (joinB [dig op, [114, 101, 97, 108], dig tm, dig dn, dig cls, dig id, dig ln, dig a, dig b, dig c, dig d]).data.toList = [dig op, [114, 101, 97, 108], dig tm, dig dn, dig cls, dig id, dig ln, dig a, dig b, dig c, dig d] := by
    unfold joinB
    exact cut_join _ _ (fun x hx => by
      simp only [List.mem_cons, List.not_mem_nil, or_false] at hx
      rcases hx with rfl | rfl | rfl | rfl | rfl | rfl | rfl | rfl | rfl | rfl | rfl <;> first | exact dig_no _ | decide)
  have hsh : shp [dig op, [114, 101, 97, 108], dig tm, dig dn, dig cls, dig id, dig ln, dig a, dig b, dig c, dig d] = true := by
    unfold shp
    simp [dig_ne]
  have h := parse_out _ hS [114, 101, 97, 108] (dig op) (dig tm) (dig dn) (dig cls) (dig id) (dig ln) (dig a) (dig b) (dig c) (dig d) true (by decide) (by decide) hcut hsh (fun x hx => by
    simp only [List.mem_cons, List.not_mem_nil, or_false] at hx
    rcases hx with rfl | rfl | rfl | rfl | rfl | rfl | rfl | rfl | rfl | rfl <;> omega) w
  have e0 := ne_dig op 9223372036854775807 (by omega) (by omega) (by omega)
  have e1 := ne_dig tm 18446744073709551615 (by omega) (by omega) (by omega)
  have e9 := ne_dig dn 18446744073709551615 (by omega) (by omega) (by omega)
  have e2 := ne_dig cls 9223372036854775807 (by omega) (by omega) (by omega)
  have e3 := ne_dig id 18446744073709551615 (by omega) (by omega) (by omega)
  have e4 := ne_dig ln 9223372036854775807 (by omega) (by omega) (by omega)
  have e5 := ne_dig a 65535 (by omega) (by omega) (by omega)
  have e6 := ne_dig b 65535 (by omega) (by omega) (by omega)
  have e7 := ne_dig c 65535 (by omega) (by omega) (by omega)
  have e8 := ne_dig d 65535 (by omega) (by omega) (by omega)
  simp only [e0.1, e0.2, e1.1, e1.2, e2.1, e2.2, e3.1, e3.2, e4.1, e4.2, e5.1, e5.2, e6.1, e6.2, e7.1, e7.2, e8.1, e8.2, e9.1, e9.2, if_true] at h
  exact h
theorem back_outS (op tm dn cls id ln a b c d : Int) (hop : 0 ≤ op ∧ op < 9223372036854775808) (htm : 0 ≤ tm ∧ tm < 18446744073709551616) (hdn : 0 ≤ dn ∧ dn < 18446744073709551616) (hcls : 0 ≤ cls ∧ cls < 9223372036854775808) (hid : 0 ≤ id ∧ id < 18446744073709551616) (hln : 0 ≤ ln ∧ ln < 9223372036854775808)
    (ha : 0 ≤ a ∧ a < 65536) (hb : 0 ≤ b ∧ b < 65536) (hc : 0 ≤ c ∧ c < 65536) (hd : 0 ≤ d ∧ d < 65536) (w : World) :
    Calls Tryd.prog 24 #[.string (joinB [dig op, [115, 104, 97, 114, 101], dig tm, dig dn, dig cls, dig id, dig ln, dig a, dig b, dig c, dig d])] w fun ee w' => ee = .returned (.tuple #[.agg #[.int .i64 ((⟨op, false, false, tm, dn, cls, id, ln, a, b, c, d⟩ : Ev)).op, .bool ((⟨op, false, false, tm, dn, cls, id, ln, a, b, c, d⟩ : Ev)).inn, .bool ((⟨op, false, false, tm, dn, cls, id, ln, a, b, c, d⟩ : Ev)).real, .int .u64 ((⟨op, false, false, tm, dn, cls, id, ln, a, b, c, d⟩ : Ev)).tm, .int .u64 ((⟨op, false, false, tm, dn, cls, id, ln, a, b, c, d⟩ : Ev)).dn, .int .i64 ((⟨op, false, false, tm, dn, cls, id, ln, a, b, c, d⟩ : Ev)).cls, .int .u64 ((⟨op, false, false, tm, dn, cls, id, ln, a, b, c, d⟩ : Ev)).id, .int .i64 ((⟨op, false, false, tm, dn, cls, id, ln, a, b, c, d⟩ : Ev)).ln, .int .u16 ((⟨op, false, false, tm, dn, cls, id, ln, a, b, c, d⟩ : Ev)).a, .int .u16 ((⟨op, false, false, tm, dn, cls, id, ln, a, b, c, d⟩ : Ev)).b, .int .u16 ((⟨op, false, false, tm, dn, cls, id, ln, a, b, c, d⟩ : Ev)).c, .int .u16 ((⟨op, false, false, tm, dn, cls, id, ln, a, b, c, d⟩ : Ev)).d], .int .i64 (0)]) ∧ Below w.heap.size w w' := by
  have l0 := dig_short9 op (by omega) (by omega)
  have l1 := dig_short9 tm (by omega) (by omega)
  have l9 := dig_short9 dn (by omega) (by omega)
  have l2 := dig_short9 cls (by omega) (by omega)
  have l3 := dig_short9 id (by omega) (by omega)
  have l4 := dig_short9 ln (by omega) (by omega)
  have l5 := dig_short9 a (by omega) (by omega)
  have l6 := dig_short9 b (by omega) (by omega)
  have l7 := dig_short9 c (by omega) (by omega)
  have l8 := dig_short9 d (by omega) (by omega)
  have hS : (joinB [dig op, [115, 104, 97, 114, 101], dig tm, dig dn, dig cls, dig id, dig ln, dig a, dig b, dig c, dig d]).size ≤ 300 := by
    have := join_len300 [dig op, [115, 104, 97, 114, 101], dig tm, dig dn, dig cls, dig id, dig ln, dig a, dig b, dig c, dig d] (by simp) (fun x hx => by
      simp only [List.mem_cons, List.not_mem_nil, or_false] at hx
      rcases hx with rfl | rfl | rfl | rfl | rfl | rfl | rfl | rfl | rfl | rfl | rfl <;> first | assumption | simp)
    unfold joinB
    show (Lib.join _ _).toArray.size ≤ 300
    rw [List.size_toArray]; exact this
  have hcut : cutL 32 (joinB [dig op, [115, 104, 97, 114, 101], dig tm, dig dn, dig cls, dig id, dig ln, dig a, dig b, dig c, dig d]).data.toList = [dig op, [115, 104, 97, 114, 101], dig tm, dig dn, dig cls, dig id, dig ln, dig a, dig b, dig c, dig d] := by
    unfold joinB
    exact cut_join _ _ (fun x hx => by
      simp only [List.mem_cons, List.not_mem_nil, or_false] at hx
      rcases hx with rfl | rfl | rfl | rfl | rfl | rfl | rfl | rfl | rfl | rfl | rfl <;> first | exact dig_no _ | decide)
  have hsh : shp [dig op, [115, 104, 97, 114, 101], dig tm, dig dn, dig cls, dig id, dig ln, dig a, dig b, dig c, dig d] = true := by
    unfold shp
    simp [dig_ne]
  have h := parse_out _ hS [115, 104, 97, 114, 101] (dig op) (dig tm) (dig dn) (dig cls) (dig id) (dig ln) (dig a) (dig b) (dig c) (dig d) false (by decide) (by decide) hcut hsh (fun x hx => by
    simp only [List.mem_cons, List.not_mem_nil, or_false] at hx
    rcases hx with rfl | rfl | rfl | rfl | rfl | rfl | rfl | rfl | rfl | rfl <;> omega) w
  have e0 := ne_dig op 9223372036854775807 (by omega) (by omega) (by omega)
  have e1 := ne_dig tm 18446744073709551615 (by omega) (by omega) (by omega)
  have e9 := ne_dig dn 18446744073709551615 (by omega) (by omega) (by omega)
  have e2 := ne_dig cls 9223372036854775807 (by omega) (by omega) (by omega)
  have e3 := ne_dig id 18446744073709551615 (by omega) (by omega) (by omega)
  have e4 := ne_dig ln 9223372036854775807 (by omega) (by omega) (by omega)
  have e5 := ne_dig a 65535 (by omega) (by omega) (by omega)
  have e6 := ne_dig b 65535 (by omega) (by omega) (by omega)
  have e7 := ne_dig c 65535 (by omega) (by omega) (by omega)
  have e8 := ne_dig d 65535 (by omega) (by omega) (by omega)
  simp only [e0.1, e0.2, e1.1, e1.2, e2.1, e2.2, e3.1, e3.2, e4.1, e4.2, e5.1, e5.2, e6.1, e6.2, e7.1, e7.2, e8.1, e8.2, e9.1, e9.2, if_true] at h
  exact h
theorem eq_hd (a b c d : Int) (z : World) : (Op.equalIn 9998 34 (.agg #[.int .u16 a, .int .u16 b, .int .u16 c, .int .u16 d]) (.agg #[.int .u16 a, .int .u16 b, .int .u16 c, .int .u16 d])).run Tryd.prog z = .ok true z := by
  have hz : ∀ w, (sizeOf 32).run Tryd.prog w = .ok 1 w := fun w => by kernel_rfl
  have ha : ∀ w, (isAgg 32).run Tryd.prog w = .ok false w := fun w => by kernel_rfl
  have h := run_equalIn_arr4 9996 34 32 .u16 Tryd.underlying34 Tryd.underlying32 hz (fun cs i v w h => by unfold part; simp only [Sem.run_bind, ha, Result.andThen_ok, Bool.false_eq_true, if_false, h]; rfl) a b c d a b c d z
  rw [beq_self_eq_true] at h
  exact h
theorem back_c (e : Ev) (hr : e.inr) (hm : lmay e = true) (w : World) : Calls Tryd.prog 24 #[.string (joinB (wordsOf e))] w fun ee w' => ee = .returned (.tuple #[.agg #[.int .i64 (e).op, .bool (e).inn, .bool (e).real, .int .u64 (e).tm, .int .u64 (e).dn, .int .i64 (e).cls, .int .u64 (e).id, .int .i64 (e).ln, .int .u16 (e).a, .int .u16 (e).b, .int .u16 (e).c, .int .u16 (e).d], .int .i64 (0)]) ∧ Below w.heap.size w w' := by
  obtain ⟨op, inn, real, tm, dn, cls, id, ln, a, b, c, d⟩ := e
  obtain ⟨h0, h1, h2, h3, h4, h5, h6, h7, h8, h9⟩ := hr
  dsimp only at h0 h1 h2 h3 h4 h5 h6 h7 h8 h9
  unfold lmay at hm
  simp only [Bool.and_eq_true, Bool.or_eq_true, decide_eq_true_eq, Bool.not_eq_true', beq_iff_eq] at hm
  obtain ⟨⟨⟨m0, m1⟩, m2⟩, m3⟩ := hm
  cases inn with
  | true =>
    rcases m3 with m3 | ⟨m3, m4⟩
    · cases m3
    · subst m3; subst m4
      exact back_in op tm cls id ln a b c d ⟨m0, h0.2⟩ h1 ⟨m1, h3.2⟩ h4 ⟨m2, h5.2⟩ h6 h7 h8 h9 w
  | false =>
    cases real with
    | true => exact back_outR op tm dn cls id ln a b c d ⟨m0, h0.2⟩ h1 h2 ⟨m1, h3.2⟩ h4 ⟨m2, h5.2⟩ h6 h7 h8 h9 w
    | false => exact back_outS op tm dn cls id ln a b c d ⟨m0, h0.2⟩ h1 h2 ⟨m1, h3.2⟩ h4 ⟨m2, h5.2⟩ h6 h7 h8 h9 w
set_option maxHeartbeats 4000000 in
theorem traceLines_bad (e : Ev) (hr : e.inr) (hm : lmay e = false) (w : World) (hT : TB w) : Calls Tryd.prog 5 #[.agg #[.int .i64 (e).op, .bool (e).inn, .bool (e).real, .int .u64 (e).tm, .int .u64 (e).dn, .int .i64 (e).cls, .int .u64 (e).id, .int .i64 (e).ln, .int .u16 (e).a, .int .u16 (e).b, .int .u16 (e).c, .int .u16 (e).d]] w fun e w' => e = .returned (.bool true) ∧ Below w.heap.size w w' := by
  have KS := Lib.hid (fun z (hz : Below w.heap.size w z) => seven_c z (TB.below hT hz (Nat.le_refl _)))
  have k1 := fun z (hz : Below w.heap.size w z) => line_c e hr z (TB.below hT hz (Nat.le_refl _))
  have k2 := fun z => rmay_c e z
  rw [hm] at k2
  rw [show lineS e = ⟨#[]⟩ by unfold lineS; rw [hm]; rfl, show lineE e = 4 by unfold lineE; rw [hm]; rfl] at k1
  obtain ⟨op, inn, real, tm, dn, cls, id, ln, a, b, c, d⟩ := e
  dsimp only at k1 k2 ⊢
  have K1 := Lib.hid k1
  have K2 := Lib.hid k2
  clear k1 k2 hm hr hT
  go_enter Tryd.func5, Tryd.ntmps5
  go_wp2_with (first | (go_at_call 22; ((with_reducible refine (K1.out _ (by repeat' (first | with_reducible exact Below.refl _ _ | with_reducible assumption | ((with_reducible refine Below.drew ?_)) | ((with_reducible refine below_drewN ?_ _)) | ((with_reducible refine Below.alloc ?_ ?_ _); rotate_left; focus (first | omega | (simp; done) | (simp; omega))) | ((with_reducible refine Below.setCell ?_ ?_ _); rotate_left; focus (first | omega | (simp; done) | (simp; omega))) | ((with_reducible refine Below.trans ?_ (Below.mono (by with_reducible assumption) ?_)); rotate_left; focus (first | omega | (simp; done) | (simp; omega)))))).mono ?_); rintro e x1 ⟨rfl, hbel⟩; obtain ⟨hcc, hff⟩ := bcell hbel; have hsz := hbel.size; (try simp at hsz); have hF : (x1.cell? ⟨w.heap.size, 0, none⟩ = some (.int .i64 op) ∧ x1.cell? ⟨w.heap.size, 1, none⟩ = some (.bool inn) ∧ x1.cell? ⟨w.heap.size, 2, none⟩ = some (.bool real) ∧ x1.cell? ⟨w.heap.size, 3, none⟩ = some (.int .u64 tm) ∧ x1.cell? ⟨w.heap.size, 4, none⟩ = some (.int .u64 dn) ∧ x1.cell? ⟨w.heap.size, 5, none⟩ = some (.int .i64 cls) ∧ x1.cell? ⟨w.heap.size, 6, none⟩ = some (.int .u64 id) ∧ x1.cell? ⟨w.heap.size, 7, none⟩ = some (.int .i64 ln) ∧ x1.cell? ⟨w.heap.size, 8, none⟩ = some (.int .u16 a) ∧ x1.cell? ⟨w.heap.size, 9, none⟩ = some (.int .u16 b) ∧ x1.cell? ⟨w.heap.size, 10, none⟩ = some (.int .u16 c) ∧ x1.cell? ⟨w.heap.size, 11, none⟩ = some (.int .u16 d)) ∧ w.heap.size < x1.heap.size ∧ Below w.heap.size w x1 := (by ((repeat' apply And.intro) <;> first | (simp [go_sem, *]; done) | omega | (repeat' (first | with_reducible exact Below.refl _ _ | with_reducible assumption | ((with_reducible refine Below.drew ?_)) | ((with_reducible refine below_drewN ?_ _)) | ((with_reducible refine Below.alloc ?_ ?_ _); rotate_left; focus (first | omega | (simp; done) | (simp; omega))) | ((with_reducible refine Below.setCell ?_ ?_ _); rotate_left; focus (first | omega | (simp; done) | (simp; omega))) | ((with_reducible refine Below.trans ?_ (Below.mono (by with_reducible assumption) ?_)); rotate_left; focus (first | omega | (simp; done) | (simp; omega))))))); go_split_ands; clear hcc hff hbel)) | (go_at_call 23; ((with_reducible refine (K2.out _).mono ?_); rintro e x2 ⟨rfl, hbel⟩; obtain ⟨hcc, hff⟩ := bcell hbel; have hsz := hbel.size; (try simp at hsz); have hF : w.heap.size < x2.heap.size ∧ Below w.heap.size w x2 := (by ((repeat' apply And.intro) <;> first | (simp [go_sem, *]; done) | omega | (repeat' (first | with_reducible exact Below.refl _ _ | with_reducible assumption | ((with_reducible refine Below.drew ?_)) | ((with_reducible refine below_drewN ?_ _)) | ((with_reducible refine Below.alloc ?_ ?_ _); rotate_left; focus (first | omega | (simp; done) | (simp; omega))) | ((with_reducible refine Below.setCell ?_ ?_ _); rotate_left; focus (first | omega | (simp; done) | (simp; omega))) | ((with_reducible refine Below.trans ?_ (Below.mono (by with_reducible assumption) ?_)); rotate_left; focus (first | omega | (simp; done) | (simp; omega))))))); go_split_ands; clear hcc hff hbel)) | (go_at_call 17; ((with_reducible refine (KS.out _ (by repeat' (first | with_reducible exact Below.refl _ _ | with_reducible assumption | ((with_reducible refine Below.drew ?_)) | ((with_reducible refine below_drewN ?_ _)) | ((with_reducible refine Below.alloc ?_ ?_ _); rotate_left; focus (first | omega | (simp; done) | (simp; omega))) | ((with_reducible refine Below.setCell ?_ ?_ _); rotate_left; focus (first | omega | (simp; done) | (simp; omega))) | ((with_reducible refine Below.trans ?_ (Below.mono (by with_reducible assumption) ?_)); rotate_left; focus (first | omega | (simp; done) | (simp; omega)))))).mono ?_); rintro e x3 ⟨rfl, hbel⟩; obtain ⟨hcc, hff⟩ := bcell hbel; have hsz := hbel.size; (try simp at hsz); have hF : Below w.heap.size w x3 := (by ((repeat' apply And.intro) <;> first | (simp [go_sem, *]; done) | omega | (repeat' (first | with_reducible exact Below.refl _ _ | with_reducible assumption | ((with_reducible refine Below.drew ?_)) | ((with_reducible refine below_drewN ?_ _)) | ((with_reducible refine Below.alloc ?_ ?_ _); rotate_left; focus (first | omega | (simp; done) | (simp; omega))) | ((with_reducible refine Below.setCell ?_ ?_ _); rotate_left; focus (first | omega | (simp; done) | (simp; omega))) | ((with_reducible refine Below.trans ?_ (Below.mono (by with_reducible assumption) ?_)); rotate_left; focus (first | omega | (simp; done) | (simp; omega))))))); go_split_ands; clear hcc hff hbel)))
  (go_ret; refine ⟨?_, ?_⟩; (focus (exact rfl)); ((repeat' (first | with_reducible exact Below.refl _ _ | with_reducible assumption | ((with_reducible refine Below.drew ?_)) | ((with_reducible refine below_drewN ?_ _)) | ((with_reducible refine Below.alloc ?_ ?_ _); rotate_left; focus (first | omega | (simp; done) | (simp; omega))) | ((with_reducible refine Below.setCell ?_ ?_ _); rotate_left; focus (first | omega | (simp; done) | (simp; omega))) | ((with_reducible refine Below.trans ?_ (Below.mono (by with_reducible assumption) ?_)); rotate_left; focus (first | omega | (simp; done) | (simp; omega))))); done))
set_option maxHeartbeats 4000000 in
theorem traceLines_ok (e : Ev) (hr : e.inr) (hm : lmay e = true) (w : World) (hT : TB w) : Calls Tryd.prog 5 #[.agg #[.int .i64 (e).op, .bool (e).inn, .bool (e).real, .int .u64 (e).tm, .int .u64 (e).dn, .int .i64 (e).cls, .int .u64 (e).id, .int .i64 (e).ln, .int .u16 (e).a, .int .u16 (e).b, .int .u16 (e).c, .int .u16 (e).d]] w fun e w' => e = .returned (.bool true) ∧ Below w.heap.size w w' := by
  have KS := Lib.hid (fun z (hz : Below w.heap.size w z) => seven_c z (TB.below hT hz (Nat.le_refl _)))
  have k1 := fun z (hz : Below w.heap.size w z) => line_c e hr z (TB.below hT hz (Nat.le_refl _))
  have k2 := fun z => rmay_c e z
  have k3 := fun z => back_c e hr hm z
  have k4 := fun z => rline_c e hr hm z
  rw [hm] at k2
  rw [show lineS e = joinB (wordsOf e) by unfold lineS; rw [hm]; rfl, show lineE e = 0 by unfold lineE; rw [hm]; rfl] at k1
  obtain ⟨T, hTT⟩ : ∃ T, joinB (wordsOf e) = T := ⟨_, rfl⟩
  rw [hTT] at k1
  simp only [hTT] at k3 k4
  obtain ⟨op, inn, real, tm, dn, cls, id, ln, a, b, c, d⟩ := e
  dsimp only at k1 k2 k3 k4 ⊢
  have K1 := Lib.hid k1
  have K2 := Lib.hid k2
  have K3 := Lib.hid k3
  have K4 := Lib.hid k4
  clear k1 k2 k3 k4 hm hr hT hTT
  have EQH := fun z => eq_hd a b c d z
  go_enter Tryd.func5, Tryd.ntmps5
  go_wp2_with (first | (go_at_call 22; ((with_reducible refine (K1.out _ (by repeat' (first | with_reducible exact Below.refl _ _ | with_reducible assumption | ((with_reducible refine Below.drew ?_)) | ((with_reducible refine below_drewN ?_ _)) | ((with_reducible refine Below.alloc ?_ ?_ _); rotate_left; focus (first | omega | (simp; done) | (simp; omega))) | ((with_reducible refine Below.setCell ?_ ?_ _); rotate_left; focus (first | omega | (simp; done) | (simp; omega))) | ((with_reducible refine Below.trans ?_ (Below.mono (by with_reducible assumption) ?_)); rotate_left; focus (first | omega | (simp; done) | (simp; omega)))))).mono ?_); rintro e x1 ⟨rfl, hbel⟩; obtain ⟨hcc, hff⟩ := bcell hbel; have hsz := hbel.size; (try simp at hsz); have hF : (x1.cell? ⟨w.heap.size, 0, none⟩ = some (.int .i64 op) ∧ x1.cell? ⟨w.heap.size, 1, none⟩ = some (.bool inn) ∧ x1.cell? ⟨w.heap.size, 2, none⟩ = some (.bool real) ∧ x1.cell? ⟨w.heap.size, 3, none⟩ = some (.int .u64 tm) ∧ x1.cell? ⟨w.heap.size, 4, none⟩ = some (.int .u64 dn) ∧ x1.cell? ⟨w.heap.size, 5, none⟩ = some (.int .i64 cls) ∧ x1.cell? ⟨w.heap.size, 6, none⟩ = some (.int .u64 id) ∧ x1.cell? ⟨w.heap.size, 7, none⟩ = some (.int .i64 ln) ∧ x1.cell? ⟨w.heap.size, 8, none⟩ = some (.int .u16 a) ∧ x1.cell? ⟨w.heap.size, 9, none⟩ = some (.int .u16 b) ∧ x1.cell? ⟨w.heap.size, 10, none⟩ = some (.int .u16 c) ∧ x1.cell? ⟨w.heap.size, 11, none⟩ = some (.int .u16 d)) ∧ w.heap.size < x1.heap.size ∧ Below w.heap.size w x1 := (by ((repeat' apply And.intro) <;> first | (simp [go_sem, *]; done) | omega | (repeat' (first | with_reducible exact Below.refl _ _ | with_reducible assumption | ((with_reducible refine Below.drew ?_)) | ((with_reducible refine below_drewN ?_ _)) | ((with_reducible refine Below.alloc ?_ ?_ _); rotate_left; focus (first | omega | (simp; done) | (simp; omega))) | ((with_reducible refine Below.setCell ?_ ?_ _); rotate_left; focus (first | omega | (simp; done) | (simp; omega))) | ((with_reducible refine Below.trans ?_ (Below.mono (by with_reducible assumption) ?_)); rotate_left; focus (first | omega | (simp; done) | (simp; omega))))))); go_split_ands; clear hcc hff hbel)) | (go_at_call 23; ((with_reducible refine (K2.out _).mono ?_); rintro e x2 ⟨rfl, hbel⟩; obtain ⟨hcc, hff⟩ := bcell hbel; have hsz := hbel.size; (try simp at hsz); have hF : (x2.cell? ⟨w.heap.size, 0, none⟩ = some (.int .i64 op) ∧ x2.cell? ⟨w.heap.size, 1, none⟩ = some (.bool inn) ∧ x2.cell? ⟨w.heap.size, 2, none⟩ = some (.bool real) ∧ x2.cell? ⟨w.heap.size, 3, none⟩ = some (.int .u64 tm) ∧ x2.cell? ⟨w.heap.size, 4, none⟩ = some (.int .u64 dn) ∧ x2.cell? ⟨w.heap.size, 5, none⟩ = some (.int .i64 cls) ∧ x2.cell? ⟨w.heap.size, 6, none⟩ = some (.int .u64 id) ∧ x2.cell? ⟨w.heap.size, 7, none⟩ = some (.int .i64 ln) ∧ x2.cell? ⟨w.heap.size, 8, none⟩ = some (.int .u16 a) ∧ x2.cell? ⟨w.heap.size, 9, none⟩ = some (.int .u16 b) ∧ x2.cell? ⟨w.heap.size, 10, none⟩ = some (.int .u16 c) ∧ x2.cell? ⟨w.heap.size, 11, none⟩ = some (.int .u16 d)) ∧ w.heap.size < x2.heap.size ∧ Below w.heap.size w x2 := (by ((repeat' apply And.intro) <;> first | (simp [go_sem, *]; done) | omega | (repeat' (first | with_reducible exact Below.refl _ _ | with_reducible assumption | ((with_reducible refine Below.drew ?_)) | ((with_reducible refine below_drewN ?_ _)) | ((with_reducible refine Below.alloc ?_ ?_ _); rotate_left; focus (first | omega | (simp; done) | (simp; omega))) | ((with_reducible refine Below.setCell ?_ ?_ _); rotate_left; focus (first | omega | (simp; done) | (simp; omega))) | ((with_reducible refine Below.trans ?_ (Below.mono (by with_reducible assumption) ?_)); rotate_left; focus (first | omega | (simp; done) | (simp; omega))))))); go_split_ands; clear hcc hff hbel)) | (go_at_call 24; ((with_reducible refine (K3.out _).mono ?_); rintro e x3 ⟨rfl, hbel⟩; obtain ⟨hcc, hff⟩ := bcell hbel; have hsz := hbel.size; (try simp at hsz); have hF : (x3.cell? ⟨w.heap.size, 0, none⟩ = some (.int .i64 op) ∧ x3.cell? ⟨w.heap.size, 1, none⟩ = some (.bool inn) ∧ x3.cell? ⟨w.heap.size, 2, none⟩ = some (.bool real) ∧ x3.cell? ⟨w.heap.size, 3, none⟩ = some (.int .u64 tm) ∧ x3.cell? ⟨w.heap.size, 4, none⟩ = some (.int .u64 dn) ∧ x3.cell? ⟨w.heap.size, 5, none⟩ = some (.int .i64 cls) ∧ x3.cell? ⟨w.heap.size, 6, none⟩ = some (.int .u64 id) ∧ x3.cell? ⟨w.heap.size, 7, none⟩ = some (.int .i64 ln) ∧ x3.cell? ⟨w.heap.size, 8, none⟩ = some (.int .u16 a) ∧ x3.cell? ⟨w.heap.size, 9, none⟩ = some (.int .u16 b) ∧ x3.cell? ⟨w.heap.size, 10, none⟩ = some (.int .u16 c) ∧ x3.cell? ⟨w.heap.size, 11, none⟩ = some (.int .u16 d)) ∧ w.heap.size < x3.heap.size ∧ Below w.heap.size w x3 := (by ((repeat' apply And.intro) <;> first | (simp [go_sem, *]; done) | omega | (repeat' (first | with_reducible exact Below.refl _ _ | with_reducible assumption | ((with_reducible refine Below.drew ?_)) | ((with_reducible refine below_drewN ?_ _)) | ((with_reducible refine Below.alloc ?_ ?_ _); rotate_left; focus (first | omega | (simp; done) | (simp; omega))) | ((with_reducible refine Below.setCell ?_ ?_ _); rotate_left; focus (first | omega | (simp; done) | (simp; omega))) | ((with_reducible refine Below.trans ?_ (Below.mono (by with_reducible assumption) ?_)); rotate_left; focus (first | omega | (simp; done) | (simp; omega))))))); go_split_ands; clear hcc hff hbel)) | (go_at_call 25; ((with_reducible refine (K4.out _).mono ?_); rintro e x4 ⟨rfl, hbel⟩; obtain ⟨hcc, hff⟩ := bcell hbel; have hsz := hbel.size; (try simp at hsz); have hF : (x4.cell? ⟨w.heap.size, 0, none⟩ = some (.int .i64 op) ∧ x4.cell? ⟨w.heap.size, 1, none⟩ = some (.bool inn) ∧ x4.cell? ⟨w.heap.size, 2, none⟩ = some (.bool real) ∧ x4.cell? ⟨w.heap.size, 3, none⟩ = some (.int .u64 tm) ∧ x4.cell? ⟨w.heap.size, 4, none⟩ = some (.int .u64 dn) ∧ x4.cell? ⟨w.heap.size, 5, none⟩ = some (.int .i64 cls) ∧ x4.cell? ⟨w.heap.size, 6, none⟩ = some (.int .u64 id) ∧ x4.cell? ⟨w.heap.size, 7, none⟩ = some (.int .i64 ln) ∧ x4.cell? ⟨w.heap.size, 8, none⟩ = some (.int .u16 a) ∧ x4.cell? ⟨w.heap.size, 9, none⟩ = some (.int .u16 b) ∧ x4.cell? ⟨w.heap.size, 10, none⟩ = some (.int .u16 c) ∧ x4.cell? ⟨w.heap.size, 11, none⟩ = some (.int .u16 d)) ∧ (x4.cell? ⟨x3.heap.size, 0, none⟩ = some (.int .i64 op) ∧ x4.cell? ⟨x3.heap.size, 1, none⟩ = some (.bool inn) ∧ x4.cell? ⟨x3.heap.size, 2, none⟩ = some (.bool real) ∧ x4.cell? ⟨x3.heap.size, 3, none⟩ = some (.int .u64 tm) ∧ x4.cell? ⟨x3.heap.size, 4, none⟩ = some (.int .u64 dn) ∧ x4.cell? ⟨x3.heap.size, 5, none⟩ = some (.int .i64 cls) ∧ x4.cell? ⟨x3.heap.size, 6, none⟩ = some (.int .u64 id) ∧ x4.cell? ⟨x3.heap.size, 7, none⟩ = some (.int .i64 ln) ∧ x4.cell? ⟨x3.heap.size, 8, none⟩ = some (.int .u16 a) ∧ x4.cell? ⟨x3.heap.size, 9, none⟩ = some (.int .u16 b) ∧ x4.cell? ⟨x3.heap.size, 10, none⟩ = some (.int .u16 c) ∧ x4.cell? ⟨x3.heap.size, 11, none⟩ = some (.int .u16 d)) ∧ Below w.heap.size w x4 := (by ((repeat' apply And.intro) <;> first | (simp [go_sem, *]; done) | omega | (repeat' (first | with_reducible exact Below.refl _ _ | with_reducible assumption | ((with_reducible refine Below.drew ?_)) | ((with_reducible refine below_drewN ?_ _)) | ((with_reducible refine Below.alloc ?_ ?_ _); rotate_left; focus (first | omega | (simp; done) | (simp; omega))) | ((with_reducible refine Below.setCell ?_ ?_ _); rotate_left; focus (first | omega | (simp; done) | (simp; omega))) | ((with_reducible refine Below.trans ?_ (Below.mono (by with_reducible assumption) ?_)); rotate_left; focus (first | omega | (simp; done) | (simp; omega))))))); go_split_ands; clear hcc hff hbel)) | (go_at_call 17; ((with_reducible refine (KS.out _ (by repeat' (first | with_reducible exact Below.refl _ _ | with_reducible assumption | ((with_reducible refine Below.drew ?_)) | ((with_reducible refine below_drewN ?_ _)) | ((with_reducible refine Below.alloc ?_ ?_ _); rotate_left; focus (first | omega | (simp; done) | (simp; omega))) | ((with_reducible refine Below.setCell ?_ ?_ _); rotate_left; focus (first | omega | (simp; done) | (simp; omega))) | ((with_reducible refine Below.trans ?_ (Below.mono (by with_reducible assumption) ?_)); rotate_left; focus (first | omega | (simp; done) | (simp; omega)))))).mono ?_); rintro e x5 ⟨rfl, hbel⟩; obtain ⟨hcc, hff⟩ := bcell hbel; have hsz := hbel.size; (try simp at hsz); have hF : Below w.heap.size w x5 := (by ((repeat' apply And.intro) <;> first | (simp [go_sem, *]; done) | omega | (repeat' (first | with_reducible exact Below.refl _ _ | with_reducible assumption | ((with_reducible refine Below.drew ?_)) | ((with_reducible refine below_drewN ?_ _)) | ((with_reducible refine Below.alloc ?_ ?_ _); rotate_left; focus (first | omega | (simp; done) | (simp; omega))) | ((with_reducible refine Below.setCell ?_ ?_ _); rotate_left; focus (first | omega | (simp; done) | (simp; omega))) | ((with_reducible refine Below.trans ?_ (Below.mono (by with_reducible assumption) ?_)); rotate_left; focus (first | omega | (simp; done) | (simp; omega))))))); go_split_ands; clear hcc hff hbel)))
  (go_ret; refine ⟨?_, ?_⟩; (focus (exact rfl)); ((repeat' (first | with_reducible exact Below.refl _ _ | with_reducible assumption | ((with_reducible refine Below.drew ?_)) | ((with_reducible refine below_drewN ?_ _)) | ((with_reducible refine Below.alloc ?_ ?_ _); rotate_left; focus (first | omega | (simp; done) | (simp; omega))) | ((with_reducible refine Below.setCell ?_ ?_ _); rotate_left; focus (first | omega | (simp; done) | (simp; omega))) | ((with_reducible refine Below.trans ?_ (Below.mono (by with_reducible assumption) ?_)); rotate_left; focus (first | omega | (simp; done) | (simp; omega))))); done))
theorem traceLines_law (op : Int) (inn real : Bool) (tm dn cls id ln a b c d : Int) (w0 : (Lit.int .i64 op).wf = true) (w3 : (Lit.int .u64 tm).wf = true) (w4 : (Lit.int .u64 dn).wf = true) (w5 : (Lit.int .i64 cls).wf = true) (w6 : (Lit.int .u64 id).wf = true) (w7 : (Lit.int .i64 ln).wf = true)
    (w8 : (Lit.int .u16 a).wf = true) (w9 : (Lit.int .u16 b).wf = true) (w10 : (Lit.int .u16 c).wf = true) (w11 : (Lit.int .u16 d).wf = true) {w : World} (hT : TB w) :
    Calls Tryd.prog 5 #[.agg #[.int .i64 ((⟨op, inn, real, tm, dn, cls, id, ln, a, b, c, d⟩ : Ev)).op, .bool ((⟨op, inn, real, tm, dn, cls, id, ln, a, b, c, d⟩ : Ev)).inn, .bool ((⟨op, inn, real, tm, dn, cls, id, ln, a, b, c, d⟩ : Ev)).real, .int .u64 ((⟨op, inn, real, tm, dn, cls, id, ln, a, b, c, d⟩ : Ev)).tm, .int .u64 ((⟨op, inn, real, tm, dn, cls, id, ln, a, b, c, d⟩ : Ev)).dn, .int .i64 ((⟨op, inn, real, tm, dn, cls, id, ln, a, b, c, d⟩ : Ev)).cls, .int .u64 ((⟨op, inn, real, tm, dn, cls, id, ln, a, b, c, d⟩ : Ev)).id, .int .i64 ((⟨op, inn, real, tm, dn, cls, id, ln, a, b, c, d⟩ : Ev)).ln, .int .u16 ((⟨op, inn, real, tm, dn, cls, id, ln, a, b, c, d⟩ : Ev)).a, .int .u16 ((⟨op, inn, real, tm, dn, cls, id, ln, a, b, c, d⟩ : Ev)).b, .int .u16 ((⟨op, inn, real, tm, dn, cls, id, ln, a, b, c, d⟩ : Ev)).c, .int .u16 ((⟨op, inn, real, tm, dn, cls, id, ln, a, b, c, d⟩ : Ev)).d]] w fun e w' => e = .returned (.bool true) ∧ Below w.heap.size w w' := by
  have hr : (⟨op, inn, real, tm, dn, cls, id, ln, a, b, c, d⟩ : Ev).inr := by
    have b0 := bounds_i64 w0
    have b3 := bounds_u64 w3
    have b4 := bounds_u64 w4
    have b5 := bounds_i64 w5
    have b6 := bounds_u64 w6
    have b7 := bounds_i64 w7
    have b8 := bounds_u16 w8
    have b9 := bounds_u16 w9
    have b10 := bounds_u16 w10
    have b11 := bounds_u16 w11
    constructor <;> dsimp only <;> omega
  cases hm : lmay (⟨op, inn, real, tm, dn, cls, id, ln, a, b, c, d⟩ : Ev) with
  | false => exact traceLines_bad _ hr hm w hT
  | true => exact traceLines_ok _ hr hm w hT
end Go.Proofs.YtdiniaokkdcihaaDoor
