/- The reference's Line. -/
import Derived.Test.YtdiniaokkdcihaaDoorTx46
import Derived.Test.YtdiniaokkdcihaaDoorTx4
namespace Go.Proofs.YtdiniaokkdcihaaDoor
set_option linter.unusedVariables false
set_option linter.unusedSimpArgs false
set_option maxRecDepth 100000
open Go.RowKit Fg Reg
attribute [local irreducible] Reg.wE

theorem sst {X Y : ByteArray} {x y : List UInt8} (hX : X = (⟨(x).toArray⟩ : ByteArray)) (hY : Y = (⟨(y).toArray⟩ : ByteArray)) (h : x.length + y.length ≤ 1000) : ∃ T : ByteArray, T = (⟨(x ++ y).toArray⟩ : ByteArray) ∧ ∀ w, (Op.stringOp .add X Y).run Tryd.prog w = .ok (.string T) w := by
  subst hX; subst hY
  exact ⟨_, rfl, fun w => sadd x y h w⟩
def CE (w : World) (L : List Value) (z : World) : Prop := (∀ j, j < 12 → z.cell? ⟨w.heap.size, j, none⟩ = some (L.getD j undef)) ∧ w.heap.size < z.heap.size ∧ Below w.heap.size w z
theorem ce_next {w z z' : World} {L : List Value} (h : CE w L z) (hb : Below z.heap.size z z') : CE w L z' :=
  ⟨fun j hj => (hb.cell (p := ⟨w.heap.size, j, none⟩) h.2.1).trans (h.1 j hj), Nat.lt_of_lt_of_le h.2.1 hb.size, h.2.2.trans (hb.mono (Nat.le_of_lt h.2.1))⟩
theorem ce_new (w : World) (cs : List Value) (t : TypeId) (hl : cs.length = 12) : CE w cs (w.alloc (.cells cs.toArray t)) := by
  refine ⟨fun j hj => ?_, by simp, (Below.refl _ _).alloc (Nat.le_refl _) _⟩
  rw [cell_of_row _ w.heap.size j _ _ _ (heap_alloc_last w _)]
  have : cs.toArray[j]? = cs[j]? := by simp
  rw [this, List.getD_eq_getElem?_getD, List.getElem?_eq_getElem (by omega)]; rfl
theorem dig_short (v : Int) (h0 : 0 ≤ v) (h1 : v < 18446744073709551616) : (dig v).length ≤ 20 := dec_short v h0 h1
set_option maxHeartbeats 8000000 in
theorem rline_in (op tm  cls id ln a b c d : Int) (hop : 0 ≤ op ∧ op < 9223372036854775808) (htm : 0 ≤ tm ∧ tm < 18446744073709551616)  (hcls : 0 ≤ cls ∧ cls < 9223372036854775808) (hid : 0 ≤ id ∧ id < 18446744073709551616) (hln : 0 ≤ ln ∧ ln < 9223372036854775808)
    (ha : 0 ≤ a ∧ a < 65536) (hb : 0 ≤ b ∧ b < 65536) (hc : 0 ≤ c ∧ c < 65536) (hd : 0 ≤ d ∧ d < 65536) (w : World) :
    Calls Tryd.prog 25 #[.agg #[.int .i64 ((⟨op, true, false, tm, 0, cls, id, ln, a, b, c, d⟩ : Ev)).op, .bool ((⟨op, true, false, tm, 0, cls, id, ln, a, b, c, d⟩ : Ev)).inn, .bool ((⟨op, true, false, tm, 0, cls, id, ln, a, b, c, d⟩ : Ev)).real, .int .u64 ((⟨op, true, false, tm, 0, cls, id, ln, a, b, c, d⟩ : Ev)).tm, .int .u64 ((⟨op, true, false, tm, 0, cls, id, ln, a, b, c, d⟩ : Ev)).dn, .int .i64 ((⟨op, true, false, tm, 0, cls, id, ln, a, b, c, d⟩ : Ev)).cls, .int .u64 ((⟨op, true, false, tm, 0, cls, id, ln, a, b, c, d⟩ : Ev)).id, .int .i64 ((⟨op, true, false, tm, 0, cls, id, ln, a, b, c, d⟩ : Ev)).ln, .int .u16 ((⟨op, true, false, tm, 0, cls, id, ln, a, b, c, d⟩ : Ev)).a, .int .u16 ((⟨op, true, false, tm, 0, cls, id, ln, a, b, c, d⟩ : Ev)).b, .int .u16 ((⟨op, true, false, tm, 0, cls, id, ln, a, b, c, d⟩ : Ev)).c, .int .u16 ((⟨op, true, false, tm, 0, cls, id, ln, a, b, c, d⟩ : Ev)).d]] w fun ee w' => ee = .returned (.string (joinB (wordsOf (⟨op, true, false, tm, 0, cls, id, ln, a, b, c, d⟩ : Ev)))) ∧ Below w.heap.size w w' := by
  obtain ⟨R, hR⟩ : ∃ R, joinB (wordsOf (⟨op, true, false, tm, 0, cls, id, ln, a, b, c, d⟩ : Ev)) = R := ⟨_, rfl⟩
  rw [hR]
  have W1 : IntKind.u64.wrap op = op := by rw [wrap_u64]; omega
  have W2 : IntKind.u64.wrap cls = cls := by rw [wrap_u64]; omega
  have W3 : IntKind.u64.wrap ln = ln := by rw [wrap_u64]; omega
  have W4 : IntKind.u64.wrap a = a := by rw [wrap_u64]; omega
  have W5 : IntKind.u64.wrap b = b := by rw [wrap_u64]; omega
  have W6 : IntKind.u64.wrap c = c := by rw [wrap_u64]; omega
  have W7 : IntKind.u64.wrap d = d := by rw [wrap_u64]; omega
  have IA : ∀ z, (Instr.index 34 (.agg #[.int .u16 a, .int .u16 b, .int .u16 c, .int .u16 d]) (.int .i64 0)).run Tryd.prog z = .ok (.int .u16 a) z := fun z => by kernel_rfl
  have IB : ∀ z, (Instr.index 34 (.agg #[.int .u16 a, .int .u16 b, .int .u16 c, .int .u16 d]) (.int .i64 1)).run Tryd.prog z = .ok (.int .u16 b) z := fun z => by kernel_rfl
  have IC : ∀ z, (Instr.index 34 (.agg #[.int .u16 a, .int .u16 b, .int .u16 c, .int .u16 d]) (.int .i64 2)).run Tryd.prog z = .ok (.int .u16 c) z := fun z => by kernel_rfl
  have ID : ∀ z, (Instr.index 34 (.agg #[.int .u16 a, .int .u16 b, .int .u16 c, .int .u16 d]) (.int .i64 3)).run Tryd.prog z = .ok (.int .u16 d) z := fun z => by kernel_rfl
  obtain ⟨D, hD⟩ : ∃ D : Int → ByteArray, ∀ v, D v = (⟨(dig v).toArray⟩ : ByteArray) := ⟨fun v => (⟨(dig v).toArray⟩ : ByteArray), fun _ => rfl⟩
  have K := Lib.hid (fun (v : Int) (h0 : 0 ≤ v) (h1 : v < 18446744073709551616) (z : World) => show Calls Tryd.prog 31 #[.int .u64 v] z fun ee w' => ee = .returned (.string (D v)) ∧ Below z.heap.size z w' from (hD v).symm ▸ rtens_c v h0 h1 z)
  have n_op := dig_short op (by omega) (by omega)
  have n_tm := dig_short tm (by omega) (by omega)
  have n_cls := dig_short cls (by omega) (by omega)
  have n_id := dig_short id (by omega) (by omega)
  have n_ln := dig_short ln (by omega) (by omega)
  have n_a := dig_short a (by omega) (by omega)
  have n_b := dig_short b (by omega) (by omega)
  have n_c := dig_short c (by omega) (by omega)
  have n_d := dig_short d (by omega) (by omega)
  obtain ⟨T0, e0, q0⟩ := sst (X := (D op)) (Y := ⟨#[32, 105, 110, 32]⟩) (x := dig op) (y := [32, 105, 110, 32]) (hD op) rfl (by simp only [List.length_append, List.length_cons, List.length_nil]; omega)
  obtain ⟨T1, e1, q1⟩ := sst (X := T0) (Y := D tm) (x := (dig op ++ [32, 105, 110, 32])) (y := dig tm) e0 (hD tm) (by simp only [List.length_append, List.length_cons, List.length_nil]; omega)
  obtain ⟨T2, e2, q2⟩ := sst (X := T1) (Y := ⟨#[32]⟩) (x := ((dig op ++ [32, 105, 110, 32]) ++ dig tm)) (y := [32]) e1 rfl (by simp only [List.length_append, List.length_cons, List.length_nil]; omega)
  obtain ⟨T3, e3, q3⟩ := sst (X := T2) (Y := D cls) (x := (((dig op ++ [32, 105, 110, 32]) ++ dig tm) ++ [32])) (y := dig cls) e2 (hD cls) (by simp only [List.length_append, List.length_cons, List.length_nil]; omega)
  obtain ⟨T4, e4, q4⟩ := sst (X := T3) (Y := ⟨#[32]⟩) (x := ((((dig op ++ [32, 105, 110, 32]) ++ dig tm) ++ [32]) ++ dig cls)) (y := [32]) e3 rfl (by simp only [List.length_append, List.length_cons, List.length_nil]; omega)
  obtain ⟨T5, e5, q5⟩ := sst (X := T4) (Y := D id) (x := (((((dig op ++ [32, 105, 110, 32]) ++ dig tm) ++ [32]) ++ dig cls) ++ [32])) (y := dig id) e4 (hD id) (by simp only [List.length_append, List.length_cons, List.length_nil]; omega)
  obtain ⟨T6, e6, q6⟩ := sst (X := T5) (Y := ⟨#[32]⟩) (x := ((((((dig op ++ [32, 105, 110, 32]) ++ dig tm) ++ [32]) ++ dig cls) ++ [32]) ++ dig id)) (y := [32]) e5 rfl (by simp only [List.length_append, List.length_cons, List.length_nil]; omega)
  obtain ⟨T7, e7, q7⟩ := sst (X := T6) (Y := D ln) (x := (((((((dig op ++ [32, 105, 110, 32]) ++ dig tm) ++ [32]) ++ dig cls) ++ [32]) ++ dig id) ++ [32])) (y := dig ln) e6 (hD ln) (by simp only [List.length_append, List.length_cons, List.length_nil]; omega)
  obtain ⟨T8, e8, q8⟩ := sst (X := T7) (Y := ⟨#[32]⟩) (x := ((((((((dig op ++ [32, 105, 110, 32]) ++ dig tm) ++ [32]) ++ dig cls) ++ [32]) ++ dig id) ++ [32]) ++ dig ln)) (y := [32]) e7 rfl (by simp only [List.length_append, List.length_cons, List.length_nil]; omega)
  obtain ⟨T9, e9, q9⟩ := sst (X := T8) (Y := D a) (x := (((((((((dig op ++ [32, 105, 110, 32]) ++ dig tm) ++ [32]) ++ dig cls) ++ [32]) ++ dig id) ++ [32]) ++ dig ln) ++ [32])) (y := dig a) e8 (hD a) (by simp only [List.length_append, List.length_cons, List.length_nil]; omega)
  obtain ⟨T10, e10, q10⟩ := sst (X := T9) (Y := ⟨#[32]⟩) (x := ((((((((((dig op ++ [32, 105, 110, 32]) ++ dig tm) ++ [32]) ++ dig cls) ++ [32]) ++ dig id) ++ [32]) ++ dig ln) ++ [32]) ++ dig a)) (y := [32]) e9 rfl (by simp only [List.length_append, List.length_cons, List.length_nil]; omega)
  obtain ⟨T11, e11, q11⟩ := sst (X := T10) (Y := D b) (x := (((((((((((dig op ++ [32, 105, 110, 32]) ++ dig tm) ++ [32]) ++ dig cls) ++ [32]) ++ dig id) ++ [32]) ++ dig ln) ++ [32]) ++ dig a) ++ [32])) (y := dig b) e10 (hD b) (by simp only [List.length_append, List.length_cons, List.length_nil]; omega)
  obtain ⟨T12, e12, q12⟩ := sst (X := T11) (Y := ⟨#[32]⟩) (x := ((((((((((((dig op ++ [32, 105, 110, 32]) ++ dig tm) ++ [32]) ++ dig cls) ++ [32]) ++ dig id) ++ [32]) ++ dig ln) ++ [32]) ++ dig a) ++ [32]) ++ dig b)) (y := [32]) e11 rfl (by simp only [List.length_append, List.length_cons, List.length_nil]; omega)
  obtain ⟨T13, e13, q13⟩ := sst (X := T12) (Y := D c) (x := (((((((((((((dig op ++ [32, 105, 110, 32]) ++ dig tm) ++ [32]) ++ dig cls) ++ [32]) ++ dig id) ++ [32]) ++ dig ln) ++ [32]) ++ dig a) ++ [32]) ++ dig b) ++ [32])) (y := dig c) e12 (hD c) (by simp only [List.length_append, List.length_cons, List.length_nil]; omega)
  obtain ⟨T14, e14, q14⟩ := sst (X := T13) (Y := ⟨#[32]⟩) (x := ((((((((((((((dig op ++ [32, 105, 110, 32]) ++ dig tm) ++ [32]) ++ dig cls) ++ [32]) ++ dig id) ++ [32]) ++ dig ln) ++ [32]) ++ dig a) ++ [32]) ++ dig b) ++ [32]) ++ dig c)) (y := [32]) e13 rfl (by simp only [List.length_append, List.length_cons, List.length_nil]; omega)
  obtain ⟨T15, e15, q15⟩ := sst (X := T14) (Y := D d) (x := (((((((((((((((dig op ++ [32, 105, 110, 32]) ++ dig tm) ++ [32]) ++ dig cls) ++ [32]) ++ dig id) ++ [32]) ++ dig ln) ++ [32]) ++ dig a) ++ [32]) ++ dig b) ++ [32]) ++ dig c) ++ [32])) (y := dig d) e14 (hD d) (by simp only [List.length_append, List.length_cons, List.length_nil]; omega)
  have HR := Lib.hid (show T15 = R from by
    rw [← hR, e15]
    unfold joinB wordsOf kindL
    simp [Lib.join, List.intercalate])
  clear hR hD e0 e1 e2 e3 e4 e5 e6 e7 e8 e9 e10 e11 e12 e13 e14 e15
  have HC0 := Lib.hid (ce_new w ([.int .i64 op, .bool true, .bool false, .int .u64 tm, .int .u64 0, .int .i64 cls, .int .u64 id, .int .i64 ln, .int .u16 a, .int .u16 b, .int .u16 c, .int .u16 d] : List Value) 38 rfl)
  go_enter Tryd.func25, Tryd.ntmps25
  go_wp2_with (go_at_call 31; (with_reducible refine (K.out _ (by omega) (by omega) _).mono ?_); rintro ee z1 ⟨rfl, hb1⟩; have hC := ce_next (L := ([.int .i64 op, .bool true, .bool false, .int .u64 tm, .int .u64 0, .int .i64 cls, .int .u64 id, .int .i64 ln, .int .u16 a, .int .u16 b, .int .u16 c, .int .u16 d] : List Value)) (by first | exact hC | exact HC0.out) hb1; have hc := hC.1; have hlz := hC.2.1; clear hb1)
  have hCC := hC
  clear hC hc hlz
  obtain ⟨Cl, hCl⟩ : ∃ Cl : List Value → World → Prop, Cl = (fun ps wz => (∀ j, j < 12 → wz.cell? ⟨w.heap.size, j, none⟩ = some (([.int .i64 op, .bool true, .bool false, .int .u64 tm, .int .u64 0, .int .i64 cls, .int .u64 id, .int .i64 ln, .int .u16 a, .int .u16 b, .int .u16 c, .int .u16 d] : List Value).getD j undef)) ∧ w.heap.size < wz.heap.size ∧ Below w.heap.size w wz) := ⟨_, rfl⟩
  have HCl := Lib.hid hCl
  clear hCl
  refine wp_region_eff [] Cl (by kernel_rfl) (by kernel_rfl) ?_ ?_
  · rw [HCl.out]
    dsimp only
    exact ce_next hCC (Below.refl _ _).drew
  (repeat (first | (refine wE_skip (by rfl) ?_; simp only [Act.put, Nat.reduceAdd, List.setIfInBounds_toArray, List.set_cons_zero, List.set_cons_succ, List.nil_append, List.cons_append]) | (refine wE_open (by rfl) (by rfl) ?_; apply Exists.intro; refine ⟨fun vs wq hw => ?_, ?_⟩; (focus (rw [HCl.out] at hw; (try simp only [List.nil_append, List.cons_append] at hw); (try dsimp only at hw); go_split_ands; go_simp <;> first | with_reducible exact (rfl : Value.bool false = _) | with_reducible exact (rfl : Value.bool true = _) | ((try go_bits) <;> exact rfl))); simp only [Act.put, Nat.reduceAdd, List.setIfInBounds_toArray, List.set_cons_zero, List.set_cons_succ, List.nil_append, List.cons_append]) | (refine wE_seal (by rfl) (by rfl) (by kernel_rfl) ?_; apply Exists.intro; refine ⟨fun wq hw => ?_, ?_⟩; (focus (rw [HCl.out] at hw; (try simp only [List.nil_append, List.cons_append] at hw); (try dsimp only at hw); go_split_ands; go_simp <;> (try go_bits) <;> exact rfl)); simp only [Act.put, Nat.reduceAdd, List.setIfInBounds_toArray, List.set_cons_zero, List.set_cons_succ, List.nil_append, List.cons_append]) | (refine wE_seal (by rfl) (by rfl) (by kernel_rfl) ?_; apply Exists.intro; refine ⟨fun wq hw => ?_, ?_⟩; (focus (rw [HCl.out] at hw; (try simp only [List.nil_append, List.cons_append] at hw); (try dsimp only at hw); go_split_ands; go_simp; (go_at_call 31; (with_reducible refine (K.out _ (by omega) (by omega) _).mono ?_); rintro e w' ⟨rfl, hbel⟩; refine ⟨rfl, ?_⟩; rw [HCl.out]; (try simp only [List.nil_append, List.cons_append]); (try dsimp only); exact ce_next (L := ([.int .i64 op, .bool true, .bool false, .int .u64 tm, .int .u64 0, .int .i64 cls, .int .u64 id, .int .i64 ln, .int .u16 a, .int .u16 b, .int .u16 c, .int .u16 d] : List Value)) ⟨by assumption, by assumption, by assumption⟩ hbel))); simp only [Act.put, Nat.reduceAdd, List.setIfInBounds_toArray, List.set_cons_zero, List.set_cons_succ, List.nil_append, List.cons_append]) | (refine wE_eff (by rfl) (by rfl) (fun wq hw => ?_) (fun u hu => ?_); (focus (rw [HCl.out] at hw; (try simp only [List.nil_append, List.cons_append] at hw); (try dsimp only at hw); go_split_ands; go_simp; rw [HCl.out]; (try simp only [List.nil_append, List.cons_append]); (try dsimp only); skip; ((repeat' apply And.intro) <;> first | (simp [go_sem, *]; done) | omega | (repeat' (first | with_reducible exact Below.refl _ _ | with_reducible assumption | ((with_reducible refine Below.drew ?_)) | ((with_reducible refine below_drewN ?_ _)) | ((with_reducible refine Below.alloc ?_ ?_ _); rotate_left; focus (first | omega | (simp; done) | (simp; omega))) | ((with_reducible refine Below.setCell ?_ ?_ _); rotate_left; focus (first | omega | (simp; done) | (simp; omega))) | ((with_reducible refine Below.trans ?_ (Below.mono (by with_reducible assumption) ?_)); rotate_left; focus (first | omega | (simp; done) | (simp; omega)))))))); clear hu; simp only [Act.put, Nat.reduceAdd, List.setIfInBounds_toArray, List.set_cons_zero, List.set_cons_succ, List.nil_append, List.cons_append])))
  refine wE_nil ?_
  intro w3 hw
  rw [HCl.out] at hw; (try simp only [List.nil_append, List.cons_append] at hw); (try dsimp only at hw)
  clear HCl
  have hc := hw.1
  have hB3 := hw.2.2
  clear hw hCC
  go_wp2
  go_loopw [3, 56] (fun t i wr => ∃ (j : Int) (T : ByteArray), ((j = 0 ∧ T = T7) ∨ (j = 1 ∧ T = T9) ∨ (j = 2 ∧ T = T11) ∨ (j = 3 ∧ T = T13) ∨ (j = 4 ∧ T = T15)) ∧ i = .int .i64 j ∧ t = .string T ∧ Below w.heap.size w wr) (fun _ i _ => 4 - (intOf i).toNat)
  case atStart => exact ⟨0, _, .inl ⟨rfl, rfl⟩, rfl, rfl, hB3⟩
  case round =>
    clear hc
    obtain ⟨j, T, hj, rfl, rfl, hB⟩ := hrel
    have hBs := hB.size
    rcases hj with ⟨rfl, rfl⟩ | ⟨rfl, rfl⟩ | ⟨rfl, rfl⟩ | ⟨rfl, rfl⟩ | ⟨rfl, rfl⟩
    · go_wp2_with (go_at_call 31; (with_reducible refine (K.out _ (by omega) (by omega) _).mono ?_); rintro ee z1 ⟨rfl, hb1⟩; have hB1 : Below w.heap.size w z1 := hB.trans (hb1.mono hBs); clear hb1)
      go_roundw
      case rel => exact ⟨1, _, .inr <| .inl ⟨rfl, rfl⟩, rfl, rfl, hB1⟩
      case measure => simp [intOf]
    · go_wp2_with (go_at_call 31; (with_reducible refine (K.out _ (by omega) (by omega) _).mono ?_); rintro ee z1 ⟨rfl, hb1⟩; have hB1 : Below w.heap.size w z1 := hB.trans (hb1.mono hBs); clear hb1)
      go_roundw
      case rel => exact ⟨2, _, .inr <| .inr <| .inl ⟨rfl, rfl⟩, rfl, rfl, hB1⟩
      case measure => simp [intOf]
    · go_wp2_with (go_at_call 31; (with_reducible refine (K.out _ (by omega) (by omega) _).mono ?_); rintro ee z1 ⟨rfl, hb1⟩; have hB1 : Below w.heap.size w z1 := hB.trans (hb1.mono hBs); clear hb1)
      go_roundw
      case rel => exact ⟨3, _, .inr <| .inr <| .inr <| .inl ⟨rfl, rfl⟩, rfl, rfl, hB1⟩
      case measure => simp [intOf]
    · go_wp2_with (go_at_call 31; (with_reducible refine (K.out _ (by omega) (by omega) _).mono ?_); rintro ee z1 ⟨rfl, hb1⟩; have hB1 : Below w.heap.size w z1 := hB.trans (hb1.mono hBs); clear hb1)
      go_roundw
      case rel => exact ⟨4, _, .inr <| .inr <| .inr <| .inr <| ⟨rfl, rfl⟩, rfl, rfl, hB1⟩
      case measure => simp [intOf]
    · go_wp2
      go_ret
      exact ⟨by rw [← HR.out]; rfl, hB⟩
end Go.Proofs.YtdiniaokkdcihaaDoor
