/- Wrong. -/
import Derived.Test.YtlenmhbhakeonaaAu11
namespace Go.Proofs.Ytlenmhbhakeonaa
set_option linter.unusedVariables false
set_option linter.unusedSimpArgs false
set_option maxRecDepth 100000
open Go.RowKit Fg Reg
attribute [local irreducible] Reg.wE QR

set_option maxHeartbeats 8000000 in
theorem wro_S_5 (T lm : Int) (e p : Ev) (eb eo n i j cap : Nat) (w : World) (heb : eb < w.heap.size) (hin : i < n) (hcap : n ≤ cap) (hcm : cap ≤ maxLen) (hij : j + 1 = i) (hp : ∀ z, Below w.heap.size w z → z.rangeAt eb (eo + j * 12) p.cells) (hr : ∀ z, Below w.heap.size w z → z.rangeAt eb (eo + i * 12) e.cells) (f0 : decide (e.op < p.op) = false) (f1 : decide (e.op < 0) = false) (f2 : decide (e.cls < 1) = false) (f3 : decide (e.tm < p.tm) = false) (f4 : decide (4611686018427387904 < e.tm) = false) (f5 : decide (e.ln < 1) = false) (f6 : decide (lm < e.ln) = false) (f7 : e.inn = false)
    (WL : List Pk) (m : Nat) (hm : WL.length = m) (kw : ∀ z, Below w.heap.size w z → Calls Try.prog 50 #[.slice (some ⟨eb, eo, none⟩) i cap, .int .i64 e.cls] z fun e w' => (∃ ao c, e = .returned (.slice ao m c) ∧ RwV Pk.cells 6 w' ao WL) ∧ Below z.heap.size z w') (hm0 : m = 0) :
    Calls Try.prog 47 #[.agg #[.int .i64 T, .int .i64 lm], .slice (some ⟨eb, eo, none⟩) n cap, .int .i64 (i : Int)] w fun ee w' => ee = .returned (.int .i64 6) ∧ Below w.heap.size w w' := by
  have EI := Lib.hid ev_info
  have HR := Lib.hid hr
  have HP := Lib.hid hp
  have W1 : IntKind.i64.wrap ((i : Int) - 1) = (j : Int) := by rw [IntKind.wrap_i64]; have : n ≤ 9223372036854775807 := Nat.le_trans hcap (Nat.le_trans hcm (by decide)); omega
  have D0 : decide ((0 : Int) < (i : Int)) = true := decide_eq_true (by omega)
  have D0b : decide (0 < i) = true := decide_eq_true (by omega)
  have hjn : j < n := by omega
  have hic : i ≤ cap := by omega
  have hic2 : (i : Int) ≤ (cap : Int) := by omega
  clear hp hij
  have KW := Lib.hid kw
  clear kw
  subst hm0
  clear hm
  clear hr
  go_enter Try.func47, Try.ntmps47
  go_wp2_with (first | (refine wpList_load_mid rfl 96 _ rfl eb (eo + i * 12) rfl _ _ (HR.out _ (by (repeat' (first | assumption | exact Below.refl _ _ | refine Below.setCell ?_ (by first | (simp; done) | omega | (simp; omega)) _ | refine Below.alloc ?_ (by first | (simp; done) | omega | (simp; omega)) _ | refine Below.drew ?_ | refine below_drewN ?_ _)))) Try.underlying96 rfl EI.out ?_) | (refine wpList_store_new rfl 96 _ _ rfl _ #[.int .i64 (e).op, .bool (e).inn, .bool (e).real, .int .u64 (e).tm, .int .u64 (e).dn, .int .i64 (e).cls, .int .u64 (e).id, .int .i64 (e).ln, .int .u16 (e).a, .int .u16 (e).b, .int .u16 (e).c, .int .u16 (e).d] (Eq.trans (b := Value.pointer (some ⟨w.heap.size + 1, 0, none⟩)) rfl (by simp [go_sem])) rfl EI.out rfl (all_oneCell_toArray e.one) ?_) | (refine wpList_load_mid rfl 96 _ rfl eb (eo + j * 12) rfl _ _ (HP.out _ (by (repeat' (first | assumption | exact Below.refl _ _ | refine Below.setCell ?_ (by first | (simp; done) | omega | (simp; omega)) _ | refine Below.alloc ?_ (by first | (simp; done) | omega | (simp; omega)) _ | refine Below.drew ?_ | refine below_drewN ?_ _)))) Try.underlying96 rfl EI.out ?_) | (refine wpList_store_new rfl 96 _ _ rfl _ #[.int .i64 (p).op, .bool (p).inn, .bool (p).real, .int .u64 (p).tm, .int .u64 (p).dn, .int .i64 (p).cls, .int .u64 (p).id, .int .i64 (p).ln, .int .u16 (p).a, .int .u16 (p).b, .int .u16 (p).c, .int .u16 (p).d] (Eq.trans (b := Value.pointer (some ⟨w.heap.size + 2, 0, none⟩)) rfl (by simp [go_sem])) rfl EI.out rfl (all_oneCell_toArray p.one) ?_) | go_guarded)
  obtain ⟨Cl, hCl⟩ : ∃ Cl : List (Nat × Value) → World → Prop, Cl = ((fun ps wz => (wz.cell? ⟨w.heap.size + 1, 3, none⟩ = some (.int .u64 e.tm) ∧ wz.cell? ⟨w.heap.size + 1, 4, none⟩ = some (.int .u64 e.dn) ∧ wz.cell? ⟨w.heap.size + 1, 5, none⟩ = some (.int .i64 e.cls) ∧ wz.cell? ⟨w.heap.size + 1, 6, none⟩ = some (.int .u64 e.id) ∧ wz.cell? ⟨w.heap.size + 1, 7, none⟩ = some (.int .i64 e.ln) ∧ wz.cell? ⟨w.heap.size + 1, 8, none⟩ = some (.int .u16 e.a) ∧ wz.cell? ⟨w.heap.size + 1, 9, none⟩ = some (.int .u16 e.b) ∧ wz.cell? ⟨w.heap.size + 1, 10, none⟩ = some (.int .u16 e.c) ∧ wz.cell? ⟨w.heap.size + 1, 11, none⟩ = some (.int .u16 e.d) ∧ wz.cell? ⟨w.heap.size, 0, none⟩ = some (.int .i64 T) ∧ wz.cell? ⟨w.heap.size, 1, none⟩ = some (.int .i64 lm) ∧ w.heap.size + 2 < wz.heap.size ∧ Below w.heap.size w wz) ∧ (match ps with | [] => True | (_, v) :: _ => ∃ aw cw, v = .slice aw 0 cw ∧ RwV Pk.cells 6 wz aw WL))) := ⟨_, rfl⟩; have HCl := Lib.hid hCl; clear hCl; refine Reg2.wp_region_lineS [(0, false), (1, false), (2, false), (3, false), (4, false), (5, false), (6, false)] [5] Cl (by kernel_rfl) (by kernel_rfl) (by kernel_rfl) (by rw [HCl.out]; (try simp only [List.nil_append, List.cons_append]); (try dsimp only); exact ⟨by ((repeat' apply And.intro) <;> first | (simp [go_sem, *]; done) | omega | (repeat' (first | with_reducible exact Below.refl _ _ | with_reducible assumption | ((with_reducible refine Below.drew ?_)) | ((with_reducible refine below_drewN ?_ _)) | ((with_reducible refine Below.alloc ?_ ?_ _); rotate_left; focus (first | omega | (simp; done) | (simp; omega))) | ((with_reducible refine Below.setCell ?_ ?_ _); rotate_left; focus (first | omega | (simp; done) | (simp; omega))) | ((with_reducible refine Below.trans ?_ (Below.mono (by with_reducible assumption) ?_)); rotate_left; focus (first | omega | (simp; done) | (simp; omega)))))), trivial⟩) ?_
  (repeat (first | (refine Reg2.wS_skip (by (simp only [List.getElem?_toArray, List.getElem?_cons_succ, List.getElem?_cons_zero]) <;> rfl) (by rfl) ?_; simp only [Act.put, Nat.reduceAdd, List.setIfInBounds_toArray, List.set_cons_zero, List.set_cons_succ, List.nil_append, List.cons_append]) | (refine Reg2.wS_open (by (simp only [List.getElem?_toArray, List.getElem?_cons_succ, List.getElem?_cons_zero]) <;> rfl) (by rfl) (by rfl) ?_; apply Exists.intro; refine ⟨fun vs wq hw => ?_, ?_⟩; (focus (rw [HCl.out] at hw; (try simp only [List.nil_append, List.cons_append] at hw); (try dsimp only at hw); go_split_ands; go_simp <;> first | with_reducible exact (rfl : Value.bool false = _) | with_reducible exact (rfl : Value.bool true = _) | ((try go_bits) <;> exact rfl))); simp only [Act.put, Nat.reduceAdd, List.setIfInBounds_toArray, List.set_cons_zero, List.set_cons_succ, List.nil_append, List.cons_append])))
  refine Reg2.wS_eff (by (simp only [List.getElem?_toArray, List.getElem?_cons_succ, List.getElem?_cons_zero]) <;> rfl) (by rfl) (by rfl) (fun wq hw => ?_) (fun u9 hu => ?_)
  focus
    rw [HCl.out] at hw; (try simp only [List.nil_append, List.cons_append] at hw); (try dsimp only at hw)
    obtain ⟨⟨y3, y4, y5, y6, y7, y8, y9, y10, y11, x0, x1, hs9, hb9⟩, -⟩ := hw
    go_simp
    go_at_call 50
    (with_reducible refine (KW.out _ hb9).mono ?_)
    rintro e' w' ⟨⟨aw, cw, rfl, hrw⟩, hbel⟩
    refine ⟨_, rfl, ?_⟩
    rw [HCl.out]; (try simp only [List.nil_append, List.cons_append]); (try dsimp only)
    exact ⟨CZ.below (show CZ w wq e T lm from ⟨y3, y4, y5, y6, y7, y8, y9, y10, y11, x0, x1, hs9, hb9⟩) hbel, aw, cw, rfl, hrw⟩
  (obtain ⟨wz, hz⟩ := hu; rw [HCl.out] at hz; (try simp only [List.nil_append, List.cons_append] at hz); (try dsimp only at hz))
  obtain ⟨-, aw, cw, rfl, -⟩ := hz
  clear wz
  simp only [Act.put, Nat.reduceAdd, List.setIfInBounds_toArray, List.set_cons_zero, List.set_cons_succ, List.nil_append, List.cons_append]
  (repeat (first | (refine Reg2.wS_skip (by (simp only [List.getElem?_toArray, List.getElem?_cons_succ, List.getElem?_cons_zero]) <;> rfl) (by rfl) ?_; simp only [Act.put, Nat.reduceAdd, List.setIfInBounds_toArray, List.set_cons_zero, List.set_cons_succ, List.nil_append, List.cons_append]) | (refine Reg2.wS_open (by (simp only [List.getElem?_toArray, List.getElem?_cons_succ, List.getElem?_cons_zero]) <;> rfl) (by rfl) (by rfl) ?_; apply Exists.intro; refine ⟨fun vs wq hw => ?_, ?_⟩; (focus (rw [HCl.out] at hw; (try simp only [List.nil_append, List.cons_append] at hw); (try dsimp only at hw); go_split_ands; go_simp <;> first | with_reducible exact (rfl : Value.bool false = _) | with_reducible exact (rfl : Value.bool true = _) | ((try go_bits) <;> exact rfl))); simp only [Act.put, Nat.reduceAdd, List.setIfInBounds_toArray, List.set_cons_zero, List.set_cons_succ, List.nil_append, List.cons_append])))
  refine Reg2.wS_nil ?_; intro w' hw; rw [HCl.out] at hw; (try simp only [List.nil_append, List.cons_append] at hw); (try dsimp only at hw); clear HCl
  rename World => w9
  obtain ⟨⟨y3, y4, y5, y6, y7, y8, y9, y10, y11, x0, x1, hs9, hb9⟩, aw', cw', hv', hrw⟩ := hw
  injection hv' with hv1 hv2 hv3
  subst hv1 hv3
  clear hv2
  go_wp2
  go_ret; first | exact ⟨rfl, hb9⟩ | exact ⟨rfl, by (repeat' (first | assumption | exact Below.refl _ _ | refine Below.setCell ?_ (by first | (simp; done) | omega | (simp; omega)) _ | refine Below.alloc ?_ (by first | (simp; done) | omega | (simp; omega)) _ | refine Below.drew ?_ | refine below_drewN ?_ _))⟩
set_option maxHeartbeats 8000000 in
theorem wro_S_6 (T lm : Int) (e p : Ev) (eb eo n i j cap : Nat) (w : World) (heb : eb < w.heap.size) (hin : i < n) (hcap : n ≤ cap) (hcm : cap ≤ maxLen) (hij : j + 1 = i) (hp : ∀ z, Below w.heap.size w z → z.rangeAt eb (eo + j * 12) p.cells) (hr : ∀ z, Below w.heap.size w z → z.rangeAt eb (eo + i * 12) e.cells) (f0 : decide (e.op < p.op) = false) (f1 : decide (e.op < 0) = false) (f2 : decide (e.cls < 1) = false) (f3 : decide (e.tm < p.tm) = false) (f4 : decide (4611686018427387904 < e.tm) = false) (f5 : decide (e.ln < 1) = false) (f6 : decide (lm < e.ln) = false) (f7 : e.inn = false)
    (WL : List Pk) (m : Nat) (hm : WL.length = m) (kw : ∀ z, Below w.heap.size w z → Calls Try.prog 50 #[.slice (some ⟨eb, eo, none⟩) i cap, .int .i64 e.cls] z fun e w' => (∃ ao c, e = .returned (.slice ao m c) ∧ RwV Pk.cells 6 w' ao WL) ∧ Below z.heap.size z w') (hm0 : 0 < m) (P : Pk) (hP : WL.head? = some P) (hPe : P ≠ e.pk) :
    Calls Try.prog 47 #[.agg #[.int .i64 T, .int .i64 lm], .slice (some ⟨eb, eo, none⟩) n cap, .int .i64 (i : Int)] w fun ee w' => ee = .returned (.int .i64 8) ∧ Below w.heap.size w w' := by
  have EI := Lib.hid ev_info
  have HR := Lib.hid hr
  have HP := Lib.hid hp
  have W1 : IntKind.i64.wrap ((i : Int) - 1) = (j : Int) := by rw [IntKind.wrap_i64]; have : n ≤ 9223372036854775807 := Nat.le_trans hcap (Nat.le_trans hcm (by decide)); omega
  have D0 : decide ((0 : Int) < (i : Int)) = true := decide_eq_true (by omega)
  have D0b : decide (0 < i) = true := decide_eq_true (by omega)
  have hjn : j < n := by omega
  have hic : i ≤ cap := by omega
  have hic2 : (i : Int) ≤ (cap : Int) := by omega
  clear hp hij
  have KW := Lib.hid kw
  clear kw
  have hml : (0 : Int) < (m : Int) := by omega
  have M0 : decide ((m : Int) = 0) = false := decide_eq_false (by omega)
  have M1 : ((m : Int) == 0) = false := by simp; omega
  have M2 : (m == 0) = false := by simp; omega
  have HM0 := Lib.hid hm
  have HPh := Lib.hid hP
  clear hP
  clear hm
  have HEQ := eq_pk P e.pk
  rw [decide_eq_false hPe] at HEQ
  unfold Ev.pk at HEQ
  dsimp only at HEQ
  have HPE := Lib.hid hPe
  clear hPe
  clear hr
  go_enter Try.func47, Try.ntmps47
  go_wp2_with (first | (refine wpList_load_mid rfl 96 _ rfl eb (eo + i * 12) rfl _ _ (HR.out _ (by (repeat' (first | assumption | exact Below.refl _ _ | refine Below.setCell ?_ (by first | (simp; done) | omega | (simp; omega)) _ | refine Below.alloc ?_ (by first | (simp; done) | omega | (simp; omega)) _ | refine Below.drew ?_ | refine below_drewN ?_ _)))) Try.underlying96 rfl EI.out ?_) | (refine wpList_store_new rfl 96 _ _ rfl _ #[.int .i64 (e).op, .bool (e).inn, .bool (e).real, .int .u64 (e).tm, .int .u64 (e).dn, .int .i64 (e).cls, .int .u64 (e).id, .int .i64 (e).ln, .int .u16 (e).a, .int .u16 (e).b, .int .u16 (e).c, .int .u16 (e).d] (Eq.trans (b := Value.pointer (some ⟨w.heap.size + 1, 0, none⟩)) rfl (by simp [go_sem])) rfl EI.out rfl (all_oneCell_toArray e.one) ?_) | (refine wpList_load_mid rfl 96 _ rfl eb (eo + j * 12) rfl _ _ (HP.out _ (by (repeat' (first | assumption | exact Below.refl _ _ | refine Below.setCell ?_ (by first | (simp; done) | omega | (simp; omega)) _ | refine Below.alloc ?_ (by first | (simp; done) | omega | (simp; omega)) _ | refine Below.drew ?_ | refine below_drewN ?_ _)))) Try.underlying96 rfl EI.out ?_) | (refine wpList_store_new rfl 96 _ _ rfl _ #[.int .i64 (p).op, .bool (p).inn, .bool (p).real, .int .u64 (p).tm, .int .u64 (p).dn, .int .i64 (p).cls, .int .u64 (p).id, .int .i64 (p).ln, .int .u16 (p).a, .int .u16 (p).b, .int .u16 (p).c, .int .u16 (p).d] (Eq.trans (b := Value.pointer (some ⟨w.heap.size + 2, 0, none⟩)) rfl (by simp [go_sem])) rfl EI.out rfl (all_oneCell_toArray p.one) ?_) | go_guarded)
  obtain ⟨Cl, hCl⟩ : ∃ Cl : List (Nat × Value) → World → Prop, Cl = ((fun ps wz => (wz.cell? ⟨w.heap.size + 1, 3, none⟩ = some (.int .u64 e.tm) ∧ wz.cell? ⟨w.heap.size + 1, 4, none⟩ = some (.int .u64 e.dn) ∧ wz.cell? ⟨w.heap.size + 1, 5, none⟩ = some (.int .i64 e.cls) ∧ wz.cell? ⟨w.heap.size + 1, 6, none⟩ = some (.int .u64 e.id) ∧ wz.cell? ⟨w.heap.size + 1, 7, none⟩ = some (.int .i64 e.ln) ∧ wz.cell? ⟨w.heap.size + 1, 8, none⟩ = some (.int .u16 e.a) ∧ wz.cell? ⟨w.heap.size + 1, 9, none⟩ = some (.int .u16 e.b) ∧ wz.cell? ⟨w.heap.size + 1, 10, none⟩ = some (.int .u16 e.c) ∧ wz.cell? ⟨w.heap.size + 1, 11, none⟩ = some (.int .u16 e.d) ∧ wz.cell? ⟨w.heap.size, 0, none⟩ = some (.int .i64 T) ∧ wz.cell? ⟨w.heap.size, 1, none⟩ = some (.int .i64 lm) ∧ w.heap.size + 2 < wz.heap.size ∧ Below w.heap.size w wz) ∧ (match ps with | [] => True | (_, v) :: _ => ∃ aw cw, v = .slice aw m cw ∧ RwV Pk.cells 6 wz aw WL))) := ⟨_, rfl⟩; have HCl := Lib.hid hCl; clear hCl; refine Reg2.wp_region_lineS [(0, false), (1, false), (2, false), (3, false), (4, false), (5, false), (6, false)] [5] Cl (by kernel_rfl) (by kernel_rfl) (by kernel_rfl) (by rw [HCl.out]; (try simp only [List.nil_append, List.cons_append]); (try dsimp only); exact ⟨by ((repeat' apply And.intro) <;> first | (simp [go_sem, *]; done) | omega | (repeat' (first | with_reducible exact Below.refl _ _ | with_reducible assumption | ((with_reducible refine Below.drew ?_)) | ((with_reducible refine below_drewN ?_ _)) | ((with_reducible refine Below.alloc ?_ ?_ _); rotate_left; focus (first | omega | (simp; done) | (simp; omega))) | ((with_reducible refine Below.setCell ?_ ?_ _); rotate_left; focus (first | omega | (simp; done) | (simp; omega))) | ((with_reducible refine Below.trans ?_ (Below.mono (by with_reducible assumption) ?_)); rotate_left; focus (first | omega | (simp; done) | (simp; omega)))))), trivial⟩) ?_
  (repeat (first | (refine Reg2.wS_skip (by (simp only [List.getElem?_toArray, List.getElem?_cons_succ, List.getElem?_cons_zero]) <;> rfl) (by rfl) ?_; simp only [Act.put, Nat.reduceAdd, List.setIfInBounds_toArray, List.set_cons_zero, List.set_cons_succ, List.nil_append, List.cons_append]) | (refine Reg2.wS_open (by (simp only [List.getElem?_toArray, List.getElem?_cons_succ, List.getElem?_cons_zero]) <;> rfl) (by rfl) (by rfl) ?_; apply Exists.intro; refine ⟨fun vs wq hw => ?_, ?_⟩; (focus (rw [HCl.out] at hw; (try simp only [List.nil_append, List.cons_append] at hw); (try dsimp only at hw); go_split_ands; go_simp <;> first | with_reducible exact (rfl : Value.bool false = _) | with_reducible exact (rfl : Value.bool true = _) | ((try go_bits) <;> exact rfl))); simp only [Act.put, Nat.reduceAdd, List.setIfInBounds_toArray, List.set_cons_zero, List.set_cons_succ, List.nil_append, List.cons_append])))
  refine Reg2.wS_eff (by (simp only [List.getElem?_toArray, List.getElem?_cons_succ, List.getElem?_cons_zero]) <;> rfl) (by rfl) (by rfl) (fun wq hw => ?_) (fun u9 hu => ?_)
  focus
    rw [HCl.out] at hw; (try simp only [List.nil_append, List.cons_append] at hw); (try dsimp only at hw)
    obtain ⟨⟨y3, y4, y5, y6, y7, y8, y9, y10, y11, x0, x1, hs9, hb9⟩, -⟩ := hw
    go_simp
    go_at_call 50
    (with_reducible refine (KW.out _ hb9).mono ?_)
    rintro e' w' ⟨⟨aw, cw, rfl, hrw⟩, hbel⟩
    refine ⟨_, rfl, ?_⟩
    rw [HCl.out]; (try simp only [List.nil_append, List.cons_append]); (try dsimp only)
    exact ⟨CZ.below (show CZ w wq e T lm from ⟨y3, y4, y5, y6, y7, y8, y9, y10, y11, x0, x1, hs9, hb9⟩) hbel, aw, cw, rfl, hrw⟩
  (obtain ⟨wz, hz⟩ := hu; rw [HCl.out] at hz; (try simp only [List.nil_append, List.cons_append] at hz); (try dsimp only at hz))
  obtain ⟨-, aw, cw, rfl, -⟩ := hz
  clear wz
  simp only [Act.put, Nat.reduceAdd, List.setIfInBounds_toArray, List.set_cons_zero, List.set_cons_succ, List.nil_append, List.cons_append]
  (repeat (first | (refine Reg2.wS_skip (by (simp only [List.getElem?_toArray, List.getElem?_cons_succ, List.getElem?_cons_zero]) <;> rfl) (by rfl) ?_; simp only [Act.put, Nat.reduceAdd, List.setIfInBounds_toArray, List.set_cons_zero, List.set_cons_succ, List.nil_append, List.cons_append]) | (refine Reg2.wS_open (by (simp only [List.getElem?_toArray, List.getElem?_cons_succ, List.getElem?_cons_zero]) <;> rfl) (by rfl) (by rfl) ?_; apply Exists.intro; refine ⟨fun vs wq hw => ?_, ?_⟩; (focus (rw [HCl.out] at hw; (try simp only [List.nil_append, List.cons_append] at hw); (try dsimp only at hw); go_split_ands; go_simp <;> first | with_reducible exact (rfl : Value.bool false = _) | with_reducible exact (rfl : Value.bool true = _) | ((try go_bits) <;> exact rfl))); simp only [Act.put, Nat.reduceAdd, List.setIfInBounds_toArray, List.set_cons_zero, List.set_cons_succ, List.nil_append, List.cons_append])))
  refine Reg2.wS_nil ?_; intro w' hw; rw [HCl.out] at hw; (try simp only [List.nil_append, List.cons_append] at hw); (try dsimp only at hw); clear HCl
  rename World => w9
  obtain ⟨⟨y3, y4, y5, y6, y7, y8, y9, y10, y11, x0, x1, hs9, hb9⟩, aw', cw', hv', hrw⟩ := hw
  injection hv' with hv1 hv2 hv3
  subst hv1 hv3
  clear hv2
  have hl0 : 0 < WL.length := by rw [HM0.out]; exact hm0
  obtain ⟨bq, oq, Q, hadq, hQ, q0, q1, q2, q3, q4, q5, ql⟩ := pkR_cells hrw hl0
  have hQP : Q = P := by
    have h := HPh.out
    rw [List.head?_eq_getElem?, List.getElem?_eq_getElem hl0] at h
    injection h with h
    rw [hQ, h]
  rw [Nat.zero_mul, Nat.add_zero] at q0 q1 q2 q3 q4 q5
  subst hadq hQP
  clear hQ hrw
  go_wp2
  go_quiet (fail)
  go_wp2
  go_ret; first | exact ⟨rfl, hb9⟩ | exact ⟨rfl, by (repeat' (first | assumption | exact Below.refl _ _ | refine Below.setCell ?_ (by first | (simp; done) | omega | (simp; omega)) _ | refine Below.alloc ?_ (by first | (simp; done) | omega | (simp; omega)) _ | refine Below.drew ?_ | refine below_drewN ?_ _))⟩
set_option maxHeartbeats 8000000 in
theorem wro_S_7 (T lm : Int) (e p : Ev) (eb eo n i j cap : Nat) (w : World) (heb : eb < w.heap.size) (hin : i < n) (hcap : n ≤ cap) (hcm : cap ≤ maxLen) (hij : j + 1 = i) (hp : ∀ z, Below w.heap.size w z → z.rangeAt eb (eo + j * 12) p.cells) (hr : ∀ z, Below w.heap.size w z → z.rangeAt eb (eo + i * 12) e.cells) (D : Int) (f0 : decide (e.op < p.op) = false) (f1 : decide (e.op < 0) = false) (f2 : decide (e.cls < 1) = false) (f3 : decide (e.tm < p.tm) = false) (f4 : decide (4611686018427387904 < e.tm) = false) (f5 : decide (e.ln < 1) = false) (f6 : decide (lm < e.ln) = false) (f7 : e.inn = false) (f8 : decide (e.tm < D) = true)
    (WL : List Pk) (m : Nat) (hm : WL.length = m) (kw : ∀ z, Below w.heap.size w z → Calls Try.prog 50 #[.slice (some ⟨eb, eo, none⟩) i cap, .int .i64 e.cls] z fun e w' => (∃ ao c, e = .returned (.slice ao m c) ∧ RwV Pk.cells 6 w' ao WL) ∧ Below z.heap.size z w') (hm0 : 0 < m) (P : Pk) (hP : WL.head? = some P) (hPe : P = e.pk) (kd : ∀ z, Below w.heap.size w z → Calls Try.prog 83 #[.slice (some ⟨eb, eo, none⟩) i cap] z fun ee w' => ee = .returned (.int .u64 D) ∧ Below z.heap.size z w') :
    Calls Try.prog 47 #[.agg #[.int .i64 T, .int .i64 lm], .slice (some ⟨eb, eo, none⟩) n cap, .int .i64 (i : Int)] w fun ee w' => ee = .returned (.int .i64 24) ∧ Below w.heap.size w w' := by
  have EI := Lib.hid ev_info
  have HR := Lib.hid hr
  have HP := Lib.hid hp
  have W1 : IntKind.i64.wrap ((i : Int) - 1) = (j : Int) := by rw [IntKind.wrap_i64]; have : n ≤ 9223372036854775807 := Nat.le_trans hcap (Nat.le_trans hcm (by decide)); omega
  have D0 : decide ((0 : Int) < (i : Int)) = true := decide_eq_true (by omega)
  have D0b : decide (0 < i) = true := decide_eq_true (by omega)
  have hjn : j < n := by omega
  have hic : i ≤ cap := by omega
  have hic2 : (i : Int) ≤ (cap : Int) := by omega
  clear hp hij
  have KW := Lib.hid kw
  clear kw
  have hml : (0 : Int) < (m : Int) := by omega
  have M0 : decide ((m : Int) = 0) = false := decide_eq_false (by omega)
  have M1 : ((m : Int) == 0) = false := by simp; omega
  have M2 : (m == 0) = false := by simp; omega
  have HM0 := Lib.hid hm
  have HPh := Lib.hid hP
  clear hP
  clear hm
  have KD := Lib.hid kd
  clear kd
  have HEQ := eq_pk P e.pk
  rw [decide_eq_true hPe] at HEQ
  unfold Ev.pk at HEQ
  dsimp only at HEQ
  have HPE := Lib.hid hPe
  clear hPe
  clear hr
  go_enter Try.func47, Try.ntmps47
  go_wp2_with (first | (refine wpList_load_mid rfl 96 _ rfl eb (eo + i * 12) rfl _ _ (HR.out _ (by (repeat' (first | assumption | exact Below.refl _ _ | refine Below.setCell ?_ (by first | (simp; done) | omega | (simp; omega)) _ | refine Below.alloc ?_ (by first | (simp; done) | omega | (simp; omega)) _ | refine Below.drew ?_ | refine below_drewN ?_ _)))) Try.underlying96 rfl EI.out ?_) | (refine wpList_store_new rfl 96 _ _ rfl _ #[.int .i64 (e).op, .bool (e).inn, .bool (e).real, .int .u64 (e).tm, .int .u64 (e).dn, .int .i64 (e).cls, .int .u64 (e).id, .int .i64 (e).ln, .int .u16 (e).a, .int .u16 (e).b, .int .u16 (e).c, .int .u16 (e).d] (Eq.trans (b := Value.pointer (some ⟨w.heap.size + 1, 0, none⟩)) rfl (by simp [go_sem])) rfl EI.out rfl (all_oneCell_toArray e.one) ?_) | (refine wpList_load_mid rfl 96 _ rfl eb (eo + j * 12) rfl _ _ (HP.out _ (by (repeat' (first | assumption | exact Below.refl _ _ | refine Below.setCell ?_ (by first | (simp; done) | omega | (simp; omega)) _ | refine Below.alloc ?_ (by first | (simp; done) | omega | (simp; omega)) _ | refine Below.drew ?_ | refine below_drewN ?_ _)))) Try.underlying96 rfl EI.out ?_) | (refine wpList_store_new rfl 96 _ _ rfl _ #[.int .i64 (p).op, .bool (p).inn, .bool (p).real, .int .u64 (p).tm, .int .u64 (p).dn, .int .i64 (p).cls, .int .u64 (p).id, .int .i64 (p).ln, .int .u16 (p).a, .int .u16 (p).b, .int .u16 (p).c, .int .u16 (p).d] (Eq.trans (b := Value.pointer (some ⟨w.heap.size + 2, 0, none⟩)) rfl (by simp [go_sem])) rfl EI.out rfl (all_oneCell_toArray p.one) ?_) | go_guarded)
  obtain ⟨Cl, hCl⟩ : ∃ Cl : List (Nat × Value) → World → Prop, Cl = ((fun ps wz => (wz.cell? ⟨w.heap.size + 1, 3, none⟩ = some (.int .u64 e.tm) ∧ wz.cell? ⟨w.heap.size + 1, 4, none⟩ = some (.int .u64 e.dn) ∧ wz.cell? ⟨w.heap.size + 1, 5, none⟩ = some (.int .i64 e.cls) ∧ wz.cell? ⟨w.heap.size + 1, 6, none⟩ = some (.int .u64 e.id) ∧ wz.cell? ⟨w.heap.size + 1, 7, none⟩ = some (.int .i64 e.ln) ∧ wz.cell? ⟨w.heap.size + 1, 8, none⟩ = some (.int .u16 e.a) ∧ wz.cell? ⟨w.heap.size + 1, 9, none⟩ = some (.int .u16 e.b) ∧ wz.cell? ⟨w.heap.size + 1, 10, none⟩ = some (.int .u16 e.c) ∧ wz.cell? ⟨w.heap.size + 1, 11, none⟩ = some (.int .u16 e.d) ∧ wz.cell? ⟨w.heap.size, 0, none⟩ = some (.int .i64 T) ∧ wz.cell? ⟨w.heap.size, 1, none⟩ = some (.int .i64 lm) ∧ w.heap.size + 2 < wz.heap.size ∧ Below w.heap.size w wz) ∧ (match ps with | [] => True | (_, v) :: _ => ∃ aw cw, v = .slice aw m cw ∧ RwV Pk.cells 6 wz aw WL))) := ⟨_, rfl⟩; have HCl := Lib.hid hCl; clear hCl; refine Reg2.wp_region_lineS [(0, false), (1, false), (2, false), (3, false), (4, false), (5, false), (6, false)] [5] Cl (by kernel_rfl) (by kernel_rfl) (by kernel_rfl) (by rw [HCl.out]; (try simp only [List.nil_append, List.cons_append]); (try dsimp only); exact ⟨by ((repeat' apply And.intro) <;> first | (simp [go_sem, *]; done) | omega | (repeat' (first | with_reducible exact Below.refl _ _ | with_reducible assumption | ((with_reducible refine Below.drew ?_)) | ((with_reducible refine below_drewN ?_ _)) | ((with_reducible refine Below.alloc ?_ ?_ _); rotate_left; focus (first | omega | (simp; done) | (simp; omega))) | ((with_reducible refine Below.setCell ?_ ?_ _); rotate_left; focus (first | omega | (simp; done) | (simp; omega))) | ((with_reducible refine Below.trans ?_ (Below.mono (by with_reducible assumption) ?_)); rotate_left; focus (first | omega | (simp; done) | (simp; omega)))))), trivial⟩) ?_
  (repeat (first | (refine Reg2.wS_skip (by (simp only [List.getElem?_toArray, List.getElem?_cons_succ, List.getElem?_cons_zero]) <;> rfl) (by rfl) ?_; simp only [Act.put, Nat.reduceAdd, List.setIfInBounds_toArray, List.set_cons_zero, List.set_cons_succ, List.nil_append, List.cons_append]) | (refine Reg2.wS_open (by (simp only [List.getElem?_toArray, List.getElem?_cons_succ, List.getElem?_cons_zero]) <;> rfl) (by rfl) (by rfl) ?_; apply Exists.intro; refine ⟨fun vs wq hw => ?_, ?_⟩; (focus (rw [HCl.out] at hw; (try simp only [List.nil_append, List.cons_append] at hw); (try dsimp only at hw); go_split_ands; go_simp <;> first | with_reducible exact (rfl : Value.bool false = _) | with_reducible exact (rfl : Value.bool true = _) | ((try go_bits) <;> exact rfl))); simp only [Act.put, Nat.reduceAdd, List.setIfInBounds_toArray, List.set_cons_zero, List.set_cons_succ, List.nil_append, List.cons_append])))
  refine Reg2.wS_eff (by (simp only [List.getElem?_toArray, List.getElem?_cons_succ, List.getElem?_cons_zero]) <;> rfl) (by rfl) (by rfl) (fun wq hw => ?_) (fun u9 hu => ?_)
  focus
    rw [HCl.out] at hw; (try simp only [List.nil_append, List.cons_append] at hw); (try dsimp only at hw)
    obtain ⟨⟨y3, y4, y5, y6, y7, y8, y9, y10, y11, x0, x1, hs9, hb9⟩, -⟩ := hw
    go_simp
    go_at_call 50
    (with_reducible refine (KW.out _ hb9).mono ?_)
    rintro e' w' ⟨⟨aw, cw, rfl, hrw⟩, hbel⟩
    refine ⟨_, rfl, ?_⟩
    rw [HCl.out]; (try simp only [List.nil_append, List.cons_append]); (try dsimp only)
    exact ⟨CZ.below (show CZ w wq e T lm from ⟨y3, y4, y5, y6, y7, y8, y9, y10, y11, x0, x1, hs9, hb9⟩) hbel, aw, cw, rfl, hrw⟩
  (obtain ⟨wz, hz⟩ := hu; rw [HCl.out] at hz; (try simp only [List.nil_append, List.cons_append] at hz); (try dsimp only at hz))
  obtain ⟨-, aw, cw, rfl, -⟩ := hz
  clear wz
  simp only [Act.put, Nat.reduceAdd, List.setIfInBounds_toArray, List.set_cons_zero, List.set_cons_succ, List.nil_append, List.cons_append]
  (repeat (first | (refine Reg2.wS_skip (by (simp only [List.getElem?_toArray, List.getElem?_cons_succ, List.getElem?_cons_zero]) <;> rfl) (by rfl) ?_; simp only [Act.put, Nat.reduceAdd, List.setIfInBounds_toArray, List.set_cons_zero, List.set_cons_succ, List.nil_append, List.cons_append]) | (refine Reg2.wS_open (by (simp only [List.getElem?_toArray, List.getElem?_cons_succ, List.getElem?_cons_zero]) <;> rfl) (by rfl) (by rfl) ?_; apply Exists.intro; refine ⟨fun vs wq hw => ?_, ?_⟩; (focus (rw [HCl.out] at hw; (try simp only [List.nil_append, List.cons_append] at hw); (try dsimp only at hw); go_split_ands; go_simp <;> first | with_reducible exact (rfl : Value.bool false = _) | with_reducible exact (rfl : Value.bool true = _) | ((try go_bits) <;> exact rfl))); simp only [Act.put, Nat.reduceAdd, List.setIfInBounds_toArray, List.set_cons_zero, List.set_cons_succ, List.nil_append, List.cons_append])))
  refine Reg2.wS_nil ?_; intro w' hw; rw [HCl.out] at hw; (try simp only [List.nil_append, List.cons_append] at hw); (try dsimp only at hw); clear HCl
  rename World => w9
  obtain ⟨⟨y3, y4, y5, y6, y7, y8, y9, y10, y11, x0, x1, hs9, hb9⟩, aw', cw', hv', hrw⟩ := hw
  injection hv' with hv1 hv2 hv3
  subst hv1 hv3
  clear hv2
  have hl0 : 0 < WL.length := by rw [HM0.out]; exact hm0
  obtain ⟨bq, oq, Q, hadq, hQ, q0, q1, q2, q3, q4, q5, ql⟩ := pkR_cells hrw hl0
  have hQP : Q = P := by
    have h := HPh.out
    rw [List.head?_eq_getElem?, List.getElem?_eq_getElem hl0] at h
    injection h with h
    rw [hQ, h]
  rw [Nat.zero_mul, Nat.add_zero] at q0 q1 q2 q3 q4 q5
  subst hadq hQP
  clear hQ hrw
  go_wp2
  go_quiet (fail)
  go_wp2
  obtain ⟨Cl, hCl⟩ : ∃ Cl : List Value → World → Prop, Cl = ((fun ps wz => (wz.cell? ⟨w.heap.size + 1, 3, none⟩ = some (.int .u64 e.tm) ∧ wz.cell? ⟨w.heap.size + 1, 4, none⟩ = some (.int .u64 e.dn) ∧ wz.cell? ⟨w.heap.size + 1, 5, none⟩ = some (.int .i64 e.cls) ∧ wz.cell? ⟨w.heap.size + 1, 6, none⟩ = some (.int .u64 e.id) ∧ wz.cell? ⟨w.heap.size + 1, 7, none⟩ = some (.int .i64 e.ln) ∧ wz.cell? ⟨w.heap.size + 1, 8, none⟩ = some (.int .u16 e.a) ∧ wz.cell? ⟨w.heap.size + 1, 9, none⟩ = some (.int .u16 e.b) ∧ wz.cell? ⟨w.heap.size + 1, 10, none⟩ = some (.int .u16 e.c) ∧ wz.cell? ⟨w.heap.size + 1, 11, none⟩ = some (.int .u16 e.d) ∧ wz.cell? ⟨w.heap.size, 0, none⟩ = some (.int .i64 T) ∧ wz.cell? ⟨w.heap.size, 1, none⟩ = some (.int .i64 lm) ∧ w.heap.size + 2 < wz.heap.size ∧ Below w.heap.size w wz))) := ⟨_, rfl⟩; have HCl := Lib.hid hCl; clear hCl; refine wp_region_eff [] Cl (by kernel_rfl) (by kernel_rfl) (by rw [HCl.out]; (try simp only [List.nil_append, List.cons_append]); (try dsimp only); exact ⟨y3, y4, y5, y6, y7, y8, y9, y10, y11, x0, x1, hs9, by (repeat' (first | assumption | exact Below.refl _ _ | refine Below.setCell ?_ (by first | (simp; done) | omega | (simp; omega)) _ | refine Below.alloc ?_ (by first | (simp; done) | omega | (simp; omega)) _ | refine Below.drew ?_ | refine below_drewN ?_ _))⟩) ?_
  (repeat (first | (refine wE_skip (by rfl) ?_; simp only [Act.put, Nat.reduceAdd, List.setIfInBounds_toArray, List.set_cons_zero, List.set_cons_succ, List.nil_append, List.cons_append]) | (refine wE_open (by rfl) (by rfl) ?_; apply Exists.intro; refine ⟨fun vs wq hw => ?_, ?_⟩; (focus (rw [HCl.out] at hw; (try simp only [List.nil_append, List.cons_append] at hw); (try dsimp only at hw); go_split_ands; go_simp <;> first | with_reducible exact (rfl : Value.bool false = _) | with_reducible exact (rfl : Value.bool true = _) | ((try go_bits) <;> exact rfl))); simp only [Act.put, Nat.reduceAdd, List.setIfInBounds_toArray, List.set_cons_zero, List.set_cons_succ, List.nil_append, List.cons_append]) | (refine wE_open (by rfl) (by rfl) ?_; apply Exists.intro; refine ⟨fun vs wq hw => ?_, ?_⟩; (focus (rw [HCl.out] at hw; (try simp only [List.nil_append, List.cons_append] at hw); (try dsimp only at hw); have hCZ : CZ w wq e T lm := hw; obtain ⟨_, _, _, _, _, _, _, _, _, _, _, hs8, hb8⟩ := hw; go_simp; go_at_call 83; (with_reducible refine (KD.out _ hb8).mono ?_); rintro e' w' ⟨rfl, hbel⟩; refine ⟨rfl, ?_⟩; rw [HCl.out]; (try simp only [List.nil_append, List.cons_append]); (try dsimp only); exact hCZ.below hbel)); simp only [Act.put, Nat.reduceAdd, List.setIfInBounds_toArray, List.set_cons_zero, List.set_cons_succ, List.nil_append, List.cons_append])))
  clear y3 y4 y5 y6 y7 y8 y9 y10 y11 x0 x1 hs9 hb9
  refine wE_nil ?_; intro w' hw; rw [HCl.out] at hw; (try simp only [List.nil_append, List.cons_append] at hw); (try dsimp only at hw); clear HCl
  obtain ⟨y3, y4, y5, y6, y7, y8, y9, y10, y11, x0, x1, hs9, hb9⟩ := hw
  go_wp2
  go_ret; first | exact ⟨rfl, hb9⟩ | exact ⟨rfl, by (repeat' (first | assumption | exact Below.refl _ _ | refine Below.setCell ?_ (by first | (simp; done) | omega | (simp; omega)) _ | refine Below.alloc ?_ (by first | (simp; done) | omega | (simp; omega)) _ | refine Below.drew ?_ | refine below_drewN ?_ _))⟩
set_option maxHeartbeats 8000000 in
theorem wro_S_8 (T lm : Int) (e p : Ev) (eb eo n i j cap : Nat) (w : World) (heb : eb < w.heap.size) (hin : i < n) (hcap : n ≤ cap) (hcm : cap ≤ maxLen) (hij : j + 1 = i) (hp : ∀ z, Below w.heap.size w z → z.rangeAt eb (eo + j * 12) p.cells) (hr : ∀ z, Below w.heap.size w z → z.rangeAt eb (eo + i * 12) e.cells) (D : Int) (f0 : decide (e.op < p.op) = false) (f1 : decide (e.op < 0) = false) (f2 : decide (e.cls < 1) = false) (f3 : decide (e.tm < p.tm) = false) (f4 : decide (4611686018427387904 < e.tm) = false) (f5 : decide (e.ln < 1) = false) (f6 : decide (lm < e.ln) = false) (f7 : e.inn = false) (f8 : decide (e.tm < D) = false) (f9 : (e.dn != IntKind.u64.wrap (e.tm + e.ln * T)) = true)
    (WL : List Pk) (m : Nat) (hm : WL.length = m) (kw : ∀ z, Below w.heap.size w z → Calls Try.prog 50 #[.slice (some ⟨eb, eo, none⟩) i cap, .int .i64 e.cls] z fun e w' => (∃ ao c, e = .returned (.slice ao m c) ∧ RwV Pk.cells 6 w' ao WL) ∧ Below z.heap.size z w') (hm0 : 0 < m) (P : Pk) (hP : WL.head? = some P) (hPe : P = e.pk) (kd : ∀ z, Below w.heap.size w z → Calls Try.prog 83 #[.slice (some ⟨eb, eo, none⟩) i cap] z fun ee w' => ee = .returned (.int .u64 D) ∧ Below z.heap.size z w') (kt : ∀ z, Calls Try.prog 84 #[.int .i64 T, .int .i64 e.ln] z fun ee w' => ee = .returned (.int .u64 (e.ln * T)) ∧ Below z.heap.size z w') :
    Calls Try.prog 47 #[.agg #[.int .i64 T, .int .i64 lm], .slice (some ⟨eb, eo, none⟩) n cap, .int .i64 (i : Int)] w fun ee w' => ee = .returned (.int .i64 20) ∧ Below w.heap.size w w' := by
  have EI := Lib.hid ev_info
  have HR := Lib.hid hr
  have HP := Lib.hid hp
  have W1 : IntKind.i64.wrap ((i : Int) - 1) = (j : Int) := by rw [IntKind.wrap_i64]; have : n ≤ 9223372036854775807 := Nat.le_trans hcap (Nat.le_trans hcm (by decide)); omega
  have D0 : decide ((0 : Int) < (i : Int)) = true := decide_eq_true (by omega)
  have D0b : decide (0 < i) = true := decide_eq_true (by omega)
  have hjn : j < n := by omega
  have hic : i ≤ cap := by omega
  have hic2 : (i : Int) ≤ (cap : Int) := by omega
  clear hp hij
  have KW := Lib.hid kw
  clear kw
  have hml : (0 : Int) < (m : Int) := by omega
  have M0 : decide ((m : Int) = 0) = false := decide_eq_false (by omega)
  have M1 : ((m : Int) == 0) = false := by simp; omega
  have M2 : (m == 0) = false := by simp; omega
  have HM0 := Lib.hid hm
  have HPh := Lib.hid hP
  clear hP
  clear hm
  have KD := Lib.hid kd
  clear kd
  have KT := Lib.hid kt
  clear kt
  have HEQ := eq_pk P e.pk
  rw [decide_eq_true hPe] at HEQ
  unfold Ev.pk at HEQ
  dsimp only at HEQ
  have HPE := Lib.hid hPe
  clear hPe
  clear hr
  go_enter Try.func47, Try.ntmps47
  go_wp2_with (first | (refine wpList_load_mid rfl 96 _ rfl eb (eo + i * 12) rfl _ _ (HR.out _ (by (repeat' (first | assumption | exact Below.refl _ _ | refine Below.setCell ?_ (by first | (simp; done) | omega | (simp; omega)) _ | refine Below.alloc ?_ (by first | (simp; done) | omega | (simp; omega)) _ | refine Below.drew ?_ | refine below_drewN ?_ _)))) Try.underlying96 rfl EI.out ?_) | (refine wpList_store_new rfl 96 _ _ rfl _ #[.int .i64 (e).op, .bool (e).inn, .bool (e).real, .int .u64 (e).tm, .int .u64 (e).dn, .int .i64 (e).cls, .int .u64 (e).id, .int .i64 (e).ln, .int .u16 (e).a, .int .u16 (e).b, .int .u16 (e).c, .int .u16 (e).d] (Eq.trans (b := Value.pointer (some ⟨w.heap.size + 1, 0, none⟩)) rfl (by simp [go_sem])) rfl EI.out rfl (all_oneCell_toArray e.one) ?_) | (refine wpList_load_mid rfl 96 _ rfl eb (eo + j * 12) rfl _ _ (HP.out _ (by (repeat' (first | assumption | exact Below.refl _ _ | refine Below.setCell ?_ (by first | (simp; done) | omega | (simp; omega)) _ | refine Below.alloc ?_ (by first | (simp; done) | omega | (simp; omega)) _ | refine Below.drew ?_ | refine below_drewN ?_ _)))) Try.underlying96 rfl EI.out ?_) | (refine wpList_store_new rfl 96 _ _ rfl _ #[.int .i64 (p).op, .bool (p).inn, .bool (p).real, .int .u64 (p).tm, .int .u64 (p).dn, .int .i64 (p).cls, .int .u64 (p).id, .int .i64 (p).ln, .int .u16 (p).a, .int .u16 (p).b, .int .u16 (p).c, .int .u16 (p).d] (Eq.trans (b := Value.pointer (some ⟨w.heap.size + 2, 0, none⟩)) rfl (by simp [go_sem])) rfl EI.out rfl (all_oneCell_toArray p.one) ?_) | go_guarded)
  obtain ⟨Cl, hCl⟩ : ∃ Cl : List (Nat × Value) → World → Prop, Cl = ((fun ps wz => (wz.cell? ⟨w.heap.size + 1, 3, none⟩ = some (.int .u64 e.tm) ∧ wz.cell? ⟨w.heap.size + 1, 4, none⟩ = some (.int .u64 e.dn) ∧ wz.cell? ⟨w.heap.size + 1, 5, none⟩ = some (.int .i64 e.cls) ∧ wz.cell? ⟨w.heap.size + 1, 6, none⟩ = some (.int .u64 e.id) ∧ wz.cell? ⟨w.heap.size + 1, 7, none⟩ = some (.int .i64 e.ln) ∧ wz.cell? ⟨w.heap.size + 1, 8, none⟩ = some (.int .u16 e.a) ∧ wz.cell? ⟨w.heap.size + 1, 9, none⟩ = some (.int .u16 e.b) ∧ wz.cell? ⟨w.heap.size + 1, 10, none⟩ = some (.int .u16 e.c) ∧ wz.cell? ⟨w.heap.size + 1, 11, none⟩ = some (.int .u16 e.d) ∧ wz.cell? ⟨w.heap.size, 0, none⟩ = some (.int .i64 T) ∧ wz.cell? ⟨w.heap.size, 1, none⟩ = some (.int .i64 lm) ∧ w.heap.size + 2 < wz.heap.size ∧ Below w.heap.size w wz) ∧ (match ps with | [] => True | (_, v) :: _ => ∃ aw cw, v = .slice aw m cw ∧ RwV Pk.cells 6 wz aw WL))) := ⟨_, rfl⟩; have HCl := Lib.hid hCl; clear hCl; refine Reg2.wp_region_lineS [(0, false), (1, false), (2, false), (3, false), (4, false), (5, false), (6, false)] [5] Cl (by kernel_rfl) (by kernel_rfl) (by kernel_rfl) (by rw [HCl.out]; (try simp only [List.nil_append, List.cons_append]); (try dsimp only); exact ⟨by ((repeat' apply And.intro) <;> first | (simp [go_sem, *]; done) | omega | (repeat' (first | with_reducible exact Below.refl _ _ | with_reducible assumption | ((with_reducible refine Below.drew ?_)) | ((with_reducible refine below_drewN ?_ _)) | ((with_reducible refine Below.alloc ?_ ?_ _); rotate_left; focus (first | omega | (simp; done) | (simp; omega))) | ((with_reducible refine Below.setCell ?_ ?_ _); rotate_left; focus (first | omega | (simp; done) | (simp; omega))) | ((with_reducible refine Below.trans ?_ (Below.mono (by with_reducible assumption) ?_)); rotate_left; focus (first | omega | (simp; done) | (simp; omega)))))), trivial⟩) ?_
  (repeat (first | (refine Reg2.wS_skip (by (simp only [List.getElem?_toArray, List.getElem?_cons_succ, List.getElem?_cons_zero]) <;> rfl) (by rfl) ?_; simp only [Act.put, Nat.reduceAdd, List.setIfInBounds_toArray, List.set_cons_zero, List.set_cons_succ, List.nil_append, List.cons_append]) | (refine Reg2.wS_open (by (simp only [List.getElem?_toArray, List.getElem?_cons_succ, List.getElem?_cons_zero]) <;> rfl) (by rfl) (by rfl) ?_; apply Exists.intro; refine ⟨fun vs wq hw => ?_, ?_⟩; (focus (rw [HCl.out] at hw; (try simp only [List.nil_append, List.cons_append] at hw); (try dsimp only at hw); go_split_ands; go_simp <;> first | with_reducible exact (rfl : Value.bool false = _) | with_reducible exact (rfl : Value.bool true = _) | ((try go_bits) <;> exact rfl))); simp only [Act.put, Nat.reduceAdd, List.setIfInBounds_toArray, List.set_cons_zero, List.set_cons_succ, List.nil_append, List.cons_append])))
  refine Reg2.wS_eff (by (simp only [List.getElem?_toArray, List.getElem?_cons_succ, List.getElem?_cons_zero]) <;> rfl) (by rfl) (by rfl) (fun wq hw => ?_) (fun u9 hu => ?_)
  focus
    rw [HCl.out] at hw; (try simp only [List.nil_append, List.cons_append] at hw); (try dsimp only at hw)
    obtain ⟨⟨y3, y4, y5, y6, y7, y8, y9, y10, y11, x0, x1, hs9, hb9⟩, -⟩ := hw
    go_simp
    go_at_call 50
    (with_reducible refine (KW.out _ hb9).mono ?_)
    rintro e' w' ⟨⟨aw, cw, rfl, hrw⟩, hbel⟩
    refine ⟨_, rfl, ?_⟩
    rw [HCl.out]; (try simp only [List.nil_append, List.cons_append]); (try dsimp only)
    exact ⟨CZ.below (show CZ w wq e T lm from ⟨y3, y4, y5, y6, y7, y8, y9, y10, y11, x0, x1, hs9, hb9⟩) hbel, aw, cw, rfl, hrw⟩
  (obtain ⟨wz, hz⟩ := hu; rw [HCl.out] at hz; (try simp only [List.nil_append, List.cons_append] at hz); (try dsimp only at hz))
  obtain ⟨-, aw, cw, rfl, -⟩ := hz
  clear wz
  simp only [Act.put, Nat.reduceAdd, List.setIfInBounds_toArray, List.set_cons_zero, List.set_cons_succ, List.nil_append, List.cons_append]
  (repeat (first | (refine Reg2.wS_skip (by (simp only [List.getElem?_toArray, List.getElem?_cons_succ, List.getElem?_cons_zero]) <;> rfl) (by rfl) ?_; simp only [Act.put, Nat.reduceAdd, List.setIfInBounds_toArray, List.set_cons_zero, List.set_cons_succ, List.nil_append, List.cons_append]) | (refine Reg2.wS_open (by (simp only [List.getElem?_toArray, List.getElem?_cons_succ, List.getElem?_cons_zero]) <;> rfl) (by rfl) (by rfl) ?_; apply Exists.intro; refine ⟨fun vs wq hw => ?_, ?_⟩; (focus (rw [HCl.out] at hw; (try simp only [List.nil_append, List.cons_append] at hw); (try dsimp only at hw); go_split_ands; go_simp <;> first | with_reducible exact (rfl : Value.bool false = _) | with_reducible exact (rfl : Value.bool true = _) | ((try go_bits) <;> exact rfl))); simp only [Act.put, Nat.reduceAdd, List.setIfInBounds_toArray, List.set_cons_zero, List.set_cons_succ, List.nil_append, List.cons_append])))
  refine Reg2.wS_nil ?_; intro w' hw; rw [HCl.out] at hw; (try simp only [List.nil_append, List.cons_append] at hw); (try dsimp only at hw); clear HCl
  rename World => w9
  obtain ⟨⟨y3, y4, y5, y6, y7, y8, y9, y10, y11, x0, x1, hs9, hb9⟩, aw', cw', hv', hrw⟩ := hw
  injection hv' with hv1 hv2 hv3
  subst hv1 hv3
  clear hv2
  have hl0 : 0 < WL.length := by rw [HM0.out]; exact hm0
  obtain ⟨bq, oq, Q, hadq, hQ, q0, q1, q2, q3, q4, q5, ql⟩ := pkR_cells hrw hl0
  have hQP : Q = P := by
    have h := HPh.out
    rw [List.head?_eq_getElem?, List.getElem?_eq_getElem hl0] at h
    injection h with h
    rw [hQ, h]
  rw [Nat.zero_mul, Nat.add_zero] at q0 q1 q2 q3 q4 q5
  subst hadq hQP
  clear hQ hrw
  go_wp2
  go_quiet (fail)
  go_wp2
  obtain ⟨Cl, hCl⟩ : ∃ Cl : List Value → World → Prop, Cl = ((fun ps wz => (wz.cell? ⟨w.heap.size + 1, 3, none⟩ = some (.int .u64 e.tm) ∧ wz.cell? ⟨w.heap.size + 1, 4, none⟩ = some (.int .u64 e.dn) ∧ wz.cell? ⟨w.heap.size + 1, 5, none⟩ = some (.int .i64 e.cls) ∧ wz.cell? ⟨w.heap.size + 1, 6, none⟩ = some (.int .u64 e.id) ∧ wz.cell? ⟨w.heap.size + 1, 7, none⟩ = some (.int .i64 e.ln) ∧ wz.cell? ⟨w.heap.size + 1, 8, none⟩ = some (.int .u16 e.a) ∧ wz.cell? ⟨w.heap.size + 1, 9, none⟩ = some (.int .u16 e.b) ∧ wz.cell? ⟨w.heap.size + 1, 10, none⟩ = some (.int .u16 e.c) ∧ wz.cell? ⟨w.heap.size + 1, 11, none⟩ = some (.int .u16 e.d) ∧ wz.cell? ⟨w.heap.size, 0, none⟩ = some (.int .i64 T) ∧ wz.cell? ⟨w.heap.size, 1, none⟩ = some (.int .i64 lm) ∧ w.heap.size + 2 < wz.heap.size ∧ Below w.heap.size w wz))) := ⟨_, rfl⟩; have HCl := Lib.hid hCl; clear hCl; refine wp_region_eff [] Cl (by kernel_rfl) (by kernel_rfl) (by rw [HCl.out]; (try simp only [List.nil_append, List.cons_append]); (try dsimp only); exact ⟨y3, y4, y5, y6, y7, y8, y9, y10, y11, x0, x1, hs9, by (repeat' (first | assumption | exact Below.refl _ _ | refine Below.setCell ?_ (by first | (simp; done) | omega | (simp; omega)) _ | refine Below.alloc ?_ (by first | (simp; done) | omega | (simp; omega)) _ | refine Below.drew ?_ | refine below_drewN ?_ _))⟩) ?_
  (repeat (first | (refine wE_skip (by rfl) ?_; simp only [Act.put, Nat.reduceAdd, List.setIfInBounds_toArray, List.set_cons_zero, List.set_cons_succ, List.nil_append, List.cons_append]) | (refine wE_open (by rfl) (by rfl) ?_; apply Exists.intro; refine ⟨fun vs wq hw => ?_, ?_⟩; (focus (rw [HCl.out] at hw; (try simp only [List.nil_append, List.cons_append] at hw); (try dsimp only at hw); go_split_ands; go_simp <;> first | with_reducible exact (rfl : Value.bool false = _) | with_reducible exact (rfl : Value.bool true = _) | ((try go_bits) <;> exact rfl))); simp only [Act.put, Nat.reduceAdd, List.setIfInBounds_toArray, List.set_cons_zero, List.set_cons_succ, List.nil_append, List.cons_append]) | (refine wE_open (by rfl) (by rfl) ?_; apply Exists.intro; refine ⟨fun vs wq hw => ?_, ?_⟩; (focus (rw [HCl.out] at hw; (try simp only [List.nil_append, List.cons_append] at hw); (try dsimp only at hw); have hCZ : CZ w wq e T lm := hw; obtain ⟨_, _, _, _, _, _, _, _, _, _, _, hs8, hb8⟩ := hw; go_simp; go_at_call 83; (with_reducible refine (KD.out _ hb8).mono ?_); rintro e' w' ⟨rfl, hbel⟩; refine ⟨rfl, ?_⟩; rw [HCl.out]; (try simp only [List.nil_append, List.cons_append]); (try dsimp only); exact hCZ.below hbel)); simp only [Act.put, Nat.reduceAdd, List.setIfInBounds_toArray, List.set_cons_zero, List.set_cons_succ, List.nil_append, List.cons_append])))
  clear y3 y4 y5 y6 y7 y8 y9 y10 y11 x0 x1 hs9 hb9
  refine wE_nil ?_; intro w' hw; rw [HCl.out] at hw; (try simp only [List.nil_append, List.cons_append] at hw); (try dsimp only at hw); clear HCl
  obtain ⟨y3, y4, y5, y6, y7, y8, y9, y10, y11, x0, x1, hs9, hb9⟩ := hw
  go_wp2
  obtain ⟨Cl, hCl⟩ : ∃ Cl : List Value → World → Prop, Cl = ((fun ps wz => (wz.cell? ⟨w.heap.size + 1, 3, none⟩ = some (.int .u64 e.tm) ∧ wz.cell? ⟨w.heap.size + 1, 4, none⟩ = some (.int .u64 e.dn) ∧ wz.cell? ⟨w.heap.size + 1, 5, none⟩ = some (.int .i64 e.cls) ∧ wz.cell? ⟨w.heap.size + 1, 6, none⟩ = some (.int .u64 e.id) ∧ wz.cell? ⟨w.heap.size + 1, 7, none⟩ = some (.int .i64 e.ln) ∧ wz.cell? ⟨w.heap.size + 1, 8, none⟩ = some (.int .u16 e.a) ∧ wz.cell? ⟨w.heap.size + 1, 9, none⟩ = some (.int .u16 e.b) ∧ wz.cell? ⟨w.heap.size + 1, 10, none⟩ = some (.int .u16 e.c) ∧ wz.cell? ⟨w.heap.size + 1, 11, none⟩ = some (.int .u16 e.d) ∧ wz.cell? ⟨w.heap.size, 0, none⟩ = some (.int .i64 T) ∧ wz.cell? ⟨w.heap.size, 1, none⟩ = some (.int .i64 lm) ∧ w.heap.size + 2 < wz.heap.size ∧ Below w.heap.size w wz))) := ⟨_, rfl⟩; have HCl := Lib.hid hCl; clear hCl; refine wp_region_eff [] Cl (by kernel_rfl) (by kernel_rfl) (by rw [HCl.out]; (try simp only [List.nil_append, List.cons_append]); (try dsimp only); exact ⟨y3, y4, y5, y6, y7, y8, y9, y10, y11, x0, x1, hs9, by (repeat' (first | assumption | exact Below.refl _ _ | refine Below.setCell ?_ (by first | (simp; done) | omega | (simp; omega)) _ | refine Below.alloc ?_ (by first | (simp; done) | omega | (simp; omega)) _ | refine Below.drew ?_ | refine below_drewN ?_ _))⟩) ?_
  (repeat (first | (refine wE_skip (by rfl) ?_; simp only [Act.put, Nat.reduceAdd, List.setIfInBounds_toArray, List.set_cons_zero, List.set_cons_succ, List.nil_append, List.cons_append]) | (refine wE_open (by rfl) (by rfl) ?_; apply Exists.intro; refine ⟨fun vs wq hw => ?_, ?_⟩; (focus (rw [HCl.out] at hw; (try simp only [List.nil_append, List.cons_append] at hw); (try dsimp only at hw); go_split_ands; go_simp <;> first | with_reducible exact (rfl : Value.bool false = _) | with_reducible exact (rfl : Value.bool true = _) | ((try go_bits) <;> exact rfl))); simp only [Act.put, Nat.reduceAdd, List.setIfInBounds_toArray, List.set_cons_zero, List.set_cons_succ, List.nil_append, List.cons_append]) | (refine wE_open (by rfl) (by rfl) ?_; apply Exists.intro; refine ⟨fun vs wq hw => ?_, ?_⟩; (focus (rw [HCl.out] at hw; (try simp only [List.nil_append, List.cons_append] at hw); (try dsimp only at hw); have hCZ : CZ w wq e T lm := hw; clear hw; go_simp; go_at_call 84; (with_reducible refine (KT.out _).mono ?_); rintro e' w' ⟨rfl, hbel⟩; refine ⟨rfl, ?_⟩; rw [HCl.out]; (try simp only [List.nil_append, List.cons_append]); (try dsimp only); exact hCZ.below hbel)); simp only [Act.put, Nat.reduceAdd, List.setIfInBounds_toArray, List.set_cons_zero, List.set_cons_succ, List.nil_append, List.cons_append])))
  clear y3 y4 y5 y6 y7 y8 y9 y10 y11 x0 x1 hs9 hb9
  refine wE_nil ?_; intro w' hw; rw [HCl.out] at hw; (try simp only [List.nil_append, List.cons_append] at hw); (try dsimp only at hw); clear HCl
  obtain ⟨y3, y4, y5, y6, y7, y8, y9, y10, y11, x0, x1, hs9, hb9⟩ := hw
  go_wp2
  go_ret; first | exact ⟨rfl, hb9⟩ | exact ⟨rfl, by (repeat' (first | assumption | exact Below.refl _ _ | refine Below.setCell ?_ (by first | (simp; done) | omega | (simp; omega)) _ | refine Below.alloc ?_ (by first | (simp; done) | omega | (simp; omega)) _ | refine Below.drew ?_ | refine below_drewN ?_ _))⟩
set_option maxHeartbeats 8000000 in
theorem wro_S_0o (T lm : Int) (e p : Ev) (eb eo n i j cap : Nat) (w : World) (heb : eb < w.heap.size) (hin : i < n) (hcap : n ≤ cap) (hcm : cap ≤ maxLen) (hij : j + 1 = i) (hp : ∀ z, Below w.heap.size w z → z.rangeAt eb (eo + j * 12) p.cells) (hr : ∀ z, Below w.heap.size w z → z.rangeAt eb (eo + i * 12) e.cells) (D : Int) (f0 : decide (e.op < p.op) = false) (f1 : decide (e.op < 0) = false) (f2 : decide (e.cls < 1) = false) (f3 : decide (e.tm < p.tm) = false) (f4 : decide (4611686018427387904 < e.tm) = false) (f5 : decide (e.ln < 1) = false) (f6 : decide (lm < e.ln) = false) (f7 : e.inn = false) (f8 : decide (e.tm < D) = false) (f9 : (e.dn != IntKind.u64.wrap (e.tm + e.ln * T)) = false)
    (WL : List Pk) (m : Nat) (hm : WL.length = m) (kw : ∀ z, Below w.heap.size w z → Calls Try.prog 50 #[.slice (some ⟨eb, eo, none⟩) i cap, .int .i64 e.cls] z fun e w' => (∃ ao c, e = .returned (.slice ao m c) ∧ RwV Pk.cells 6 w' ao WL) ∧ Below z.heap.size z w') (hm0 : 0 < m) (P : Pk) (hP : WL.head? = some P) (hPe : P = e.pk) (kd : ∀ z, Below w.heap.size w z → Calls Try.prog 83 #[.slice (some ⟨eb, eo, none⟩) i cap] z fun ee w' => ee = .returned (.int .u64 D) ∧ Below z.heap.size z w') (kt : ∀ z, Calls Try.prog 84 #[.int .i64 T, .int .i64 e.ln] z fun ee w' => ee = .returned (.int .u64 (e.ln * T)) ∧ Below z.heap.size z w') :
    Calls Try.prog 47 #[.agg #[.int .i64 T, .int .i64 lm], .slice (some ⟨eb, eo, none⟩) n cap, .int .i64 (i : Int)] w fun ee w' => ee = .returned (.int .i64 0) ∧ Below w.heap.size w w' := by
  have EI := Lib.hid ev_info
  have HR := Lib.hid hr
  have HP := Lib.hid hp
  have W1 : IntKind.i64.wrap ((i : Int) - 1) = (j : Int) := by rw [IntKind.wrap_i64]; have : n ≤ 9223372036854775807 := Nat.le_trans hcap (Nat.le_trans hcm (by decide)); omega
  have D0 : decide ((0 : Int) < (i : Int)) = true := decide_eq_true (by omega)
  have D0b : decide (0 < i) = true := decide_eq_true (by omega)
  have hjn : j < n := by omega
  have hic : i ≤ cap := by omega
  have hic2 : (i : Int) ≤ (cap : Int) := by omega
  clear hp hij
  have KW := Lib.hid kw
  clear kw
  have hml : (0 : Int) < (m : Int) := by omega
  have M0 : decide ((m : Int) = 0) = false := decide_eq_false (by omega)
  have M1 : ((m : Int) == 0) = false := by simp; omega
  have M2 : (m == 0) = false := by simp; omega
  have HM0 := Lib.hid hm
  have HPh := Lib.hid hP
  clear hP
  clear hm
  have KD := Lib.hid kd
  clear kd
  have KT := Lib.hid kt
  clear kt
  have HEQ := eq_pk P e.pk
  rw [decide_eq_true hPe] at HEQ
  unfold Ev.pk at HEQ
  dsimp only at HEQ
  have HPE := Lib.hid hPe
  clear hPe
  clear hr
  go_enter Try.func47, Try.ntmps47
  go_wp2_with (first | (refine wpList_load_mid rfl 96 _ rfl eb (eo + i * 12) rfl _ _ (HR.out _ (by (repeat' (first | assumption | exact Below.refl _ _ | refine Below.setCell ?_ (by first | (simp; done) | omega | (simp; omega)) _ | refine Below.alloc ?_ (by first | (simp; done) | omega | (simp; omega)) _ | refine Below.drew ?_ | refine below_drewN ?_ _)))) Try.underlying96 rfl EI.out ?_) | (refine wpList_store_new rfl 96 _ _ rfl _ #[.int .i64 (e).op, .bool (e).inn, .bool (e).real, .int .u64 (e).tm, .int .u64 (e).dn, .int .i64 (e).cls, .int .u64 (e).id, .int .i64 (e).ln, .int .u16 (e).a, .int .u16 (e).b, .int .u16 (e).c, .int .u16 (e).d] (Eq.trans (b := Value.pointer (some ⟨w.heap.size + 1, 0, none⟩)) rfl (by simp [go_sem])) rfl EI.out rfl (all_oneCell_toArray e.one) ?_) | (refine wpList_load_mid rfl 96 _ rfl eb (eo + j * 12) rfl _ _ (HP.out _ (by (repeat' (first | assumption | exact Below.refl _ _ | refine Below.setCell ?_ (by first | (simp; done) | omega | (simp; omega)) _ | refine Below.alloc ?_ (by first | (simp; done) | omega | (simp; omega)) _ | refine Below.drew ?_ | refine below_drewN ?_ _)))) Try.underlying96 rfl EI.out ?_) | (refine wpList_store_new rfl 96 _ _ rfl _ #[.int .i64 (p).op, .bool (p).inn, .bool (p).real, .int .u64 (p).tm, .int .u64 (p).dn, .int .i64 (p).cls, .int .u64 (p).id, .int .i64 (p).ln, .int .u16 (p).a, .int .u16 (p).b, .int .u16 (p).c, .int .u16 (p).d] (Eq.trans (b := Value.pointer (some ⟨w.heap.size + 2, 0, none⟩)) rfl (by simp [go_sem])) rfl EI.out rfl (all_oneCell_toArray p.one) ?_) | go_guarded)
  obtain ⟨Cl, hCl⟩ : ∃ Cl : List (Nat × Value) → World → Prop, Cl = ((fun ps wz => (wz.cell? ⟨w.heap.size + 1, 3, none⟩ = some (.int .u64 e.tm) ∧ wz.cell? ⟨w.heap.size + 1, 4, none⟩ = some (.int .u64 e.dn) ∧ wz.cell? ⟨w.heap.size + 1, 5, none⟩ = some (.int .i64 e.cls) ∧ wz.cell? ⟨w.heap.size + 1, 6, none⟩ = some (.int .u64 e.id) ∧ wz.cell? ⟨w.heap.size + 1, 7, none⟩ = some (.int .i64 e.ln) ∧ wz.cell? ⟨w.heap.size + 1, 8, none⟩ = some (.int .u16 e.a) ∧ wz.cell? ⟨w.heap.size + 1, 9, none⟩ = some (.int .u16 e.b) ∧ wz.cell? ⟨w.heap.size + 1, 10, none⟩ = some (.int .u16 e.c) ∧ wz.cell? ⟨w.heap.size + 1, 11, none⟩ = some (.int .u16 e.d) ∧ wz.cell? ⟨w.heap.size, 0, none⟩ = some (.int .i64 T) ∧ wz.cell? ⟨w.heap.size, 1, none⟩ = some (.int .i64 lm) ∧ w.heap.size + 2 < wz.heap.size ∧ Below w.heap.size w wz) ∧ (match ps with | [] => True | (_, v) :: _ => ∃ aw cw, v = .slice aw m cw ∧ RwV Pk.cells 6 wz aw WL))) := ⟨_, rfl⟩; have HCl := Lib.hid hCl; clear hCl; refine Reg2.wp_region_lineS [(0, false), (1, false), (2, false), (3, false), (4, false), (5, false), (6, false)] [5] Cl (by kernel_rfl) (by kernel_rfl) (by kernel_rfl) (by rw [HCl.out]; (try simp only [List.nil_append, List.cons_append]); (try dsimp only); exact ⟨by ((repeat' apply And.intro) <;> first | (simp [go_sem, *]; done) | omega | (repeat' (first | with_reducible exact Below.refl _ _ | with_reducible assumption | ((with_reducible refine Below.drew ?_)) | ((with_reducible refine below_drewN ?_ _)) | ((with_reducible refine Below.alloc ?_ ?_ _); rotate_left; focus (first | omega | (simp; done) | (simp; omega))) | ((with_reducible refine Below.setCell ?_ ?_ _); rotate_left; focus (first | omega | (simp; done) | (simp; omega))) | ((with_reducible refine Below.trans ?_ (Below.mono (by with_reducible assumption) ?_)); rotate_left; focus (first | omega | (simp; done) | (simp; omega)))))), trivial⟩) ?_
  (repeat (first | (refine Reg2.wS_skip (by (simp only [List.getElem?_toArray, List.getElem?_cons_succ, List.getElem?_cons_zero]) <;> rfl) (by rfl) ?_; simp only [Act.put, Nat.reduceAdd, List.setIfInBounds_toArray, List.set_cons_zero, List.set_cons_succ, List.nil_append, List.cons_append]) | (refine Reg2.wS_open (by (simp only [List.getElem?_toArray, List.getElem?_cons_succ, List.getElem?_cons_zero]) <;> rfl) (by rfl) (by rfl) ?_; apply Exists.intro; refine ⟨fun vs wq hw => ?_, ?_⟩; (focus (rw [HCl.out] at hw; (try simp only [List.nil_append, List.cons_append] at hw); (try dsimp only at hw); go_split_ands; go_simp <;> first | with_reducible exact (rfl : Value.bool false = _) | with_reducible exact (rfl : Value.bool true = _) | ((try go_bits) <;> exact rfl))); simp only [Act.put, Nat.reduceAdd, List.setIfInBounds_toArray, List.set_cons_zero, List.set_cons_succ, List.nil_append, List.cons_append])))
  refine Reg2.wS_eff (by (simp only [List.getElem?_toArray, List.getElem?_cons_succ, List.getElem?_cons_zero]) <;> rfl) (by rfl) (by rfl) (fun wq hw => ?_) (fun u9 hu => ?_)
  focus
    rw [HCl.out] at hw; (try simp only [List.nil_append, List.cons_append] at hw); (try dsimp only at hw)
    obtain ⟨⟨y3, y4, y5, y6, y7, y8, y9, y10, y11, x0, x1, hs9, hb9⟩, -⟩ := hw
    go_simp
    go_at_call 50
    (with_reducible refine (KW.out _ hb9).mono ?_)
    rintro e' w' ⟨⟨aw, cw, rfl, hrw⟩, hbel⟩
    refine ⟨_, rfl, ?_⟩
    rw [HCl.out]; (try simp only [List.nil_append, List.cons_append]); (try dsimp only)
    exact ⟨CZ.below (show CZ w wq e T lm from ⟨y3, y4, y5, y6, y7, y8, y9, y10, y11, x0, x1, hs9, hb9⟩) hbel, aw, cw, rfl, hrw⟩
  (obtain ⟨wz, hz⟩ := hu; rw [HCl.out] at hz; (try simp only [List.nil_append, List.cons_append] at hz); (try dsimp only at hz))
  obtain ⟨-, aw, cw, rfl, -⟩ := hz
  clear wz
  simp only [Act.put, Nat.reduceAdd, List.setIfInBounds_toArray, List.set_cons_zero, List.set_cons_succ, List.nil_append, List.cons_append]
  (repeat (first | (refine Reg2.wS_skip (by (simp only [List.getElem?_toArray, List.getElem?_cons_succ, List.getElem?_cons_zero]) <;> rfl) (by rfl) ?_; simp only [Act.put, Nat.reduceAdd, List.setIfInBounds_toArray, List.set_cons_zero, List.set_cons_succ, List.nil_append, List.cons_append]) | (refine Reg2.wS_open (by (simp only [List.getElem?_toArray, List.getElem?_cons_succ, List.getElem?_cons_zero]) <;> rfl) (by rfl) (by rfl) ?_; apply Exists.intro; refine ⟨fun vs wq hw => ?_, ?_⟩; (focus (rw [HCl.out] at hw; (try simp only [List.nil_append, List.cons_append] at hw); (try dsimp only at hw); go_split_ands; go_simp <;> first | with_reducible exact (rfl : Value.bool false = _) | with_reducible exact (rfl : Value.bool true = _) | ((try go_bits) <;> exact rfl))); simp only [Act.put, Nat.reduceAdd, List.setIfInBounds_toArray, List.set_cons_zero, List.set_cons_succ, List.nil_append, List.cons_append])))
  refine Reg2.wS_nil ?_; intro w' hw; rw [HCl.out] at hw; (try simp only [List.nil_append, List.cons_append] at hw); (try dsimp only at hw); clear HCl
  rename World => w9
  obtain ⟨⟨y3, y4, y5, y6, y7, y8, y9, y10, y11, x0, x1, hs9, hb9⟩, aw', cw', hv', hrw⟩ := hw
  injection hv' with hv1 hv2 hv3
  subst hv1 hv3
  clear hv2
  have hl0 : 0 < WL.length := by rw [HM0.out]; exact hm0
  obtain ⟨bq, oq, Q, hadq, hQ, q0, q1, q2, q3, q4, q5, ql⟩ := pkR_cells hrw hl0
  have hQP : Q = P := by
    have h := HPh.out
    rw [List.head?_eq_getElem?, List.getElem?_eq_getElem hl0] at h
    injection h with h
    rw [hQ, h]
  rw [Nat.zero_mul, Nat.add_zero] at q0 q1 q2 q3 q4 q5
  subst hadq hQP
  clear hQ hrw
  go_wp2
  go_quiet (fail)
  go_wp2
  obtain ⟨Cl, hCl⟩ : ∃ Cl : List Value → World → Prop, Cl = ((fun ps wz => (wz.cell? ⟨w.heap.size + 1, 3, none⟩ = some (.int .u64 e.tm) ∧ wz.cell? ⟨w.heap.size + 1, 4, none⟩ = some (.int .u64 e.dn) ∧ wz.cell? ⟨w.heap.size + 1, 5, none⟩ = some (.int .i64 e.cls) ∧ wz.cell? ⟨w.heap.size + 1, 6, none⟩ = some (.int .u64 e.id) ∧ wz.cell? ⟨w.heap.size + 1, 7, none⟩ = some (.int .i64 e.ln) ∧ wz.cell? ⟨w.heap.size + 1, 8, none⟩ = some (.int .u16 e.a) ∧ wz.cell? ⟨w.heap.size + 1, 9, none⟩ = some (.int .u16 e.b) ∧ wz.cell? ⟨w.heap.size + 1, 10, none⟩ = some (.int .u16 e.c) ∧ wz.cell? ⟨w.heap.size + 1, 11, none⟩ = some (.int .u16 e.d) ∧ wz.cell? ⟨w.heap.size, 0, none⟩ = some (.int .i64 T) ∧ wz.cell? ⟨w.heap.size, 1, none⟩ = some (.int .i64 lm) ∧ w.heap.size + 2 < wz.heap.size ∧ Below w.heap.size w wz))) := ⟨_, rfl⟩; have HCl := Lib.hid hCl; clear hCl; refine wp_region_eff [] Cl (by kernel_rfl) (by kernel_rfl) (by rw [HCl.out]; (try simp only [List.nil_append, List.cons_append]); (try dsimp only); exact ⟨y3, y4, y5, y6, y7, y8, y9, y10, y11, x0, x1, hs9, by (repeat' (first | assumption | exact Below.refl _ _ | refine Below.setCell ?_ (by first | (simp; done) | omega | (simp; omega)) _ | refine Below.alloc ?_ (by first | (simp; done) | omega | (simp; omega)) _ | refine Below.drew ?_ | refine below_drewN ?_ _))⟩) ?_
  (repeat (first | (refine wE_skip (by rfl) ?_; simp only [Act.put, Nat.reduceAdd, List.setIfInBounds_toArray, List.set_cons_zero, List.set_cons_succ, List.nil_append, List.cons_append]) | (refine wE_open (by rfl) (by rfl) ?_; apply Exists.intro; refine ⟨fun vs wq hw => ?_, ?_⟩; (focus (rw [HCl.out] at hw; (try simp only [List.nil_append, List.cons_append] at hw); (try dsimp only at hw); go_split_ands; go_simp <;> first | with_reducible exact (rfl : Value.bool false = _) | with_reducible exact (rfl : Value.bool true = _) | ((try go_bits) <;> exact rfl))); simp only [Act.put, Nat.reduceAdd, List.setIfInBounds_toArray, List.set_cons_zero, List.set_cons_succ, List.nil_append, List.cons_append]) | (refine wE_open (by rfl) (by rfl) ?_; apply Exists.intro; refine ⟨fun vs wq hw => ?_, ?_⟩; (focus (rw [HCl.out] at hw; (try simp only [List.nil_append, List.cons_append] at hw); (try dsimp only at hw); have hCZ : CZ w wq e T lm := hw; obtain ⟨_, _, _, _, _, _, _, _, _, _, _, hs8, hb8⟩ := hw; go_simp; go_at_call 83; (with_reducible refine (KD.out _ hb8).mono ?_); rintro e' w' ⟨rfl, hbel⟩; refine ⟨rfl, ?_⟩; rw [HCl.out]; (try simp only [List.nil_append, List.cons_append]); (try dsimp only); exact hCZ.below hbel)); simp only [Act.put, Nat.reduceAdd, List.setIfInBounds_toArray, List.set_cons_zero, List.set_cons_succ, List.nil_append, List.cons_append])))
  clear y3 y4 y5 y6 y7 y8 y9 y10 y11 x0 x1 hs9 hb9
  refine wE_nil ?_; intro w' hw; rw [HCl.out] at hw; (try simp only [List.nil_append, List.cons_append] at hw); (try dsimp only at hw); clear HCl
  obtain ⟨y3, y4, y5, y6, y7, y8, y9, y10, y11, x0, x1, hs9, hb9⟩ := hw
  go_wp2
  obtain ⟨Cl, hCl⟩ : ∃ Cl : List Value → World → Prop, Cl = ((fun ps wz => (wz.cell? ⟨w.heap.size + 1, 3, none⟩ = some (.int .u64 e.tm) ∧ wz.cell? ⟨w.heap.size + 1, 4, none⟩ = some (.int .u64 e.dn) ∧ wz.cell? ⟨w.heap.size + 1, 5, none⟩ = some (.int .i64 e.cls) ∧ wz.cell? ⟨w.heap.size + 1, 6, none⟩ = some (.int .u64 e.id) ∧ wz.cell? ⟨w.heap.size + 1, 7, none⟩ = some (.int .i64 e.ln) ∧ wz.cell? ⟨w.heap.size + 1, 8, none⟩ = some (.int .u16 e.a) ∧ wz.cell? ⟨w.heap.size + 1, 9, none⟩ = some (.int .u16 e.b) ∧ wz.cell? ⟨w.heap.size + 1, 10, none⟩ = some (.int .u16 e.c) ∧ wz.cell? ⟨w.heap.size + 1, 11, none⟩ = some (.int .u16 e.d) ∧ wz.cell? ⟨w.heap.size, 0, none⟩ = some (.int .i64 T) ∧ wz.cell? ⟨w.heap.size, 1, none⟩ = some (.int .i64 lm) ∧ w.heap.size + 2 < wz.heap.size ∧ Below w.heap.size w wz))) := ⟨_, rfl⟩; have HCl := Lib.hid hCl; clear hCl; refine wp_region_eff [] Cl (by kernel_rfl) (by kernel_rfl) (by rw [HCl.out]; (try simp only [List.nil_append, List.cons_append]); (try dsimp only); exact ⟨y3, y4, y5, y6, y7, y8, y9, y10, y11, x0, x1, hs9, by (repeat' (first | assumption | exact Below.refl _ _ | refine Below.setCell ?_ (by first | (simp; done) | omega | (simp; omega)) _ | refine Below.alloc ?_ (by first | (simp; done) | omega | (simp; omega)) _ | refine Below.drew ?_ | refine below_drewN ?_ _))⟩) ?_
  (repeat (first | (refine wE_skip (by rfl) ?_; simp only [Act.put, Nat.reduceAdd, List.setIfInBounds_toArray, List.set_cons_zero, List.set_cons_succ, List.nil_append, List.cons_append]) | (refine wE_open (by rfl) (by rfl) ?_; apply Exists.intro; refine ⟨fun vs wq hw => ?_, ?_⟩; (focus (rw [HCl.out] at hw; (try simp only [List.nil_append, List.cons_append] at hw); (try dsimp only at hw); go_split_ands; go_simp <;> first | with_reducible exact (rfl : Value.bool false = _) | with_reducible exact (rfl : Value.bool true = _) | ((try go_bits) <;> exact rfl))); simp only [Act.put, Nat.reduceAdd, List.setIfInBounds_toArray, List.set_cons_zero, List.set_cons_succ, List.nil_append, List.cons_append]) | (refine wE_open (by rfl) (by rfl) ?_; apply Exists.intro; refine ⟨fun vs wq hw => ?_, ?_⟩; (focus (rw [HCl.out] at hw; (try simp only [List.nil_append, List.cons_append] at hw); (try dsimp only at hw); have hCZ : CZ w wq e T lm := hw; clear hw; go_simp; go_at_call 84; (with_reducible refine (KT.out _).mono ?_); rintro e' w' ⟨rfl, hbel⟩; refine ⟨rfl, ?_⟩; rw [HCl.out]; (try simp only [List.nil_append, List.cons_append]); (try dsimp only); exact hCZ.below hbel)); simp only [Act.put, Nat.reduceAdd, List.setIfInBounds_toArray, List.set_cons_zero, List.set_cons_succ, List.nil_append, List.cons_append])))
  clear y3 y4 y5 y6 y7 y8 y9 y10 y11 x0 x1 hs9 hb9
  refine wE_nil ?_; intro w' hw; rw [HCl.out] at hw; (try simp only [List.nil_append, List.cons_append] at hw); (try dsimp only at hw); clear HCl
  obtain ⟨y3, y4, y5, y6, y7, y8, y9, y10, y11, x0, x1, hs9, hb9⟩ := hw
  go_wp2
  go_ret; first | exact ⟨rfl, hb9⟩ | exact ⟨rfl, by (repeat' (first | assumption | exact Below.refl _ _ | refine Below.setCell ?_ (by first | (simp; done) | omega | (simp; omega)) _ | refine Below.alloc ?_ (by first | (simp; done) | omega | (simp; omega)) _ | refine Below.drew ?_ | refine below_drewN ?_ _))⟩
end Go.Proofs.Ytlenmhbhakeonaa
