/- AvlOrders: the first loop. -/
import Derived.Test.YtikmdkmejbcmmaaAv19
namespace Go.Proofs.Ytikmdkmejbcmmaa
set_option linter.unusedVariables false
set_option linter.unusedSimpArgs false
set_option maxRecDepth 100000
open Go.RowKit Fg Reg
attribute [local irreducible] Reg.wE NT

def itn (l : List It) (j : Nat) : It := l.getD j default
theorem it_cells {w : World} {ad : Option Addr} {l : List It} (h : RwV It.cells 4 w ad l) {i : Nat} (hi : i < l.length) : ∃ b o, ad = some ⟨b, o, none⟩ ∧ b < w.heap.size ∧ w.cell? ⟨b, o + i * 4, none⟩ = some (.int .u64 (itn l i).ka) ∧ w.cell? ⟨b, o + i * 4 + 1, none⟩ = some (.int .i64 (itn l i).ki) ∧ w.cell? ⟨b, o + i * 4 + 2, none⟩ = some (.int .u64 (itn l i).va) ∧ w.cell? ⟨b, o + i * 4 + 3, none⟩ = some (.int .i64 (itn l i).vi) := by
  obtain ⟨b, o, h1, h2, h3⟩ := h i hi
  have e : itn l i = l[i] := by unfold itn; rw [List.getD_eq_getElem?_getD, List.getElem?_eq_getElem hi]; rfl
  rw [e]
  exact ⟨b, o, h1, h2, h3 0 _ rfl, h3 1 _ rfl, h3 2 _ rfl, h3 3 _ rfl⟩
set_option maxHeartbeats 16000000 in
theorem orders_c (l : List Ac) (n : Nat) (hln : l.length = n) (ad : Option Addr) (cap : Nat) (tk : Int) (w : World) (hR : RwV Ac.cells 6 w ad l) (hn : n ≤ 80) :
    Calls Try.prog 4 #[.slice ad n cap, .int .u64 tk] w fun ee w' => ee = .returned (.bool true) ∧ Below w.heap.size w w' := by
  have HR := Lib.hid hR
  have HLN := Lib.hid hln
  have D1 : decide (80 < (n : Int)) = false := decide_eq_false (by omega)
  clear hR hln
  go_enter Try.func4, Try.ntmps4
  go_wp2_with (first | (go_at_call 13; (with_reducible refine (new_c w).mono ?_); rintro _ w1 ⟨a, ha, rfl, hT, hbel⟩; have HSA : Hid (ST w w1 a .nil) := Lib.hid ⟨hbel, hT, fun k hk => by rcases hk with rfl | hk; exact ha; simp [fp] at hk⟩; clear ha hT hbel) | (go_at_call 13; (with_reducible refine (new_c w1).mono ?_); rintro _ w2 ⟨b, hb, rfl, hT, hbel⟩; have HS0 : Hid (S2 w w2 a b .nil .nil) := Lib.hid ⟨HSA.out.step hbel, ⟨(HSA.out.step hbel).hb, hT, fun k hk => by rcases hk with rfl | hk; exact Nat.le_trans HSA.out.hb.size hb; simp [fp] at hk⟩, fun k hk hk2 => by rcases hk with rfl | hk; rcases hk2 with rfl | hk2; exact absurd (HSA.out.tr.lt) (by omega); simp [fp] at hk2; simp [fp] at hk⟩; clear hb hT hbel))
  go_loopg [34] n (fun k9 s34 wr => ∃ (i : Nat) (t u : Tr), s34 = .int .i64 i ∧ i ≤ n ∧ n - i ≤ k9 ∧ S2 w wr a b t u ∧ MB l (fun j => j < i) (tl t) ∧ MB l (fun j => n - i ≤ j ∧ j < n) (tl u) ∧ (tl t).length = i ∧ (tl u).length = i)
  case atStart => exact ⟨0, .nil, .nil, rfl, by omega, by omega, HS0.out, fun x => by simp [tl], fun x => ⟨fun h => by simp [tl] at h, fun ⟨j, hj, _⟩ => by omega⟩, rfl, rfl⟩
  case round =>
    obtain ⟨i, t, u, rfl, hi, hk, hS2, hM1, hM2, hL1, hL2⟩ := hrel
    have HS2 := Lib.hid hS2
    have HM1 := Lib.hid hM1
    have HM2 := Lib.hid hM2
    have HL1 := Lib.hid hL1
    have HL2 := Lib.hid hL2
    clear hS2 hM1 hM2 hL1 hL2
    by_cases hin : i < n
    · obtain ⟨bb, oo, had, hbb, e0, e1, e2, e3, e4, e5⟩ := ac_cells HR.out (i := i) (by rw [HLN.out]; exact hin)
      subst had
      obtain ⟨m, hm⟩ : ∃ m, n - 1 - i = m := ⟨_, rfl⟩
      obtain ⟨bb2, oo2, had2, -, f0, f1, f2, f3, f4, f5⟩ := ac_cells HR.out (i := m) (by rw [HLN.out]; omega)
      injection had2 with had2
      injection had2 with q1 q2
      subst q1 q2
      have hBw := HS2.out.s1.hb
      have hbr : bb < wr.heap.size := Nat.lt_of_lt_of_le hbb hBw.size
      have e0 := (hBw.cell hbb).trans e0
      have e1 := (hBw.cell hbb).trans e1
      have e2 := (hBw.cell hbb).trans e2
      have e3 := (hBw.cell hbb).trans e3
      have e4 := (hBw.cell hbb).trans e4
      have e5 := (hBw.cell hbb).trans e5
      have f0 := (hBw.cell hbb).trans f0
      have f1 := (hBw.cell hbb).trans f1
      have f2 := (hBw.cell hbb).trans f2
      have f3 := (hBw.cell hbb).trans f3
      have f4 := (hBw.cell hbb).trans f4
      have f5 := (hBw.cell hbb).trans f5
      have W1 : IntKind.i64.wrap ((n : Int) - 1) = ((n - 1 : Nat) : Int) := by rw [IntKind.wrap_i64]; omega
      have W2 : IntKind.i64.wrap (((n - 1 : Nat) : Int) - (i : Int)) = ((m : Nat) : Int) := by rw [IntKind.wrap_i64]; omega
      have W3 : IntKind.i64.wrap ((i : Int) + 1) = ((i + 1 : Nat) : Int) := by rw [IntKind.wrap_i64]; omega
      have hmn : m < n := by omega
      have HMI := Lib.hid hm
      clear hBw hm
      go_wp2
      obtain ⟨Cl, hCl⟩ : ∃ Cl : List (Nat × Value) → World → Prop, Cl = ((fun ps wz => (wz.cell? ⟨wr.heap.size, 1, none⟩ = some (.int .u64 ((nth l i)).ka) ∧ wz.cell? ⟨wr.heap.size, 3, none⟩ = some (.int .u64 ((nth l i)).va) ∧ wz.cell? ⟨wr.heap.size, 4, none⟩ = some (.int .i64 ((nth l i)).vi) ∧ wr.heap.size < wz.heap.size) ∧ (wz.cell? ⟨wr.heap.size + 1, 1, none⟩ = some (.int .u64 ((nth l m)).ka) ∧ wz.cell? ⟨wr.heap.size + 1, 3, none⟩ = some (.int .u64 ((nth l m)).va) ∧ wz.cell? ⟨wr.heap.size + 1, 4, none⟩ = some (.int .i64 ((nth l m)).vi) ∧ wr.heap.size + 1 < wz.heap.size) ∧ wr.heap.size + 1 < wz.heap.size ∧ (match ps with
          | [] => S2 w wz a b t u
          | [(_, k1)] => k1 = .agg #[.int .u64 (nth l i).ka, .int .i64 (i : Nat)] ∧ S2 w wz a b t u
          | [_, (_, v9)] => v9 = .int .i64 0 ∧ ∃ n2, tl (putT n2 (im l i) t) = insL (im l i) (tl t) ∧ S2 w wz a b (putT n2 (im l i) t) u
          | _ => True))) := ⟨_, rfl⟩; have HCl := Lib.hid hCl; clear hCl; refine Reg2.wp_region_lineS [(0, false), (1, false), (2, false), (3, false), (4, false), (6, false), (7, false), (5, false), (8, false), (9, false)] [5, 8] Cl (by kernel_rfl) (by kernel_rfl) (by kernel_rfl) (by rw [HCl.out]; (try simp only [List.nil_append, List.cons_append]); (try dsimp only); exact (⟨⟨by simp [go_sem], by simp [go_sem], by simp [go_sem], by simp [go_sem]; try omega⟩, ⟨by simp [go_sem], by simp [go_sem], by simp [go_sem], by simp [go_sem]; try omega⟩, by simp [go_sem]; try omega, HS2.out.step (by (repeat' (first | assumption | exact Below.refl _ _ | refine Below.setCell ?_ (by first | (simp; done) | omega | (simp; omega)) _ | refine Below.alloc ?_ (by first | (simp; done) | omega | (simp; omega)) _ | refine Below.drew ?_)))⟩)) ?_
      (repeat (first | (refine Reg2.wS_skip (by (simp only [List.getElem?_toArray, List.getElem?_cons_succ, List.getElem?_cons_zero]) <;> rfl) (by rfl) ?_; simp only [Act.put, Nat.reduceAdd, List.setIfInBounds_toArray, List.set_cons_zero, List.set_cons_succ, List.nil_append, List.cons_append]) | (refine Reg2.wS_open (by (simp only [List.getElem?_toArray, List.getElem?_cons_succ, List.getElem?_cons_zero]) <;> rfl) (by rfl) (by rfl) ?_; apply Exists.intro; refine ⟨fun vs wq hw => ?_, ?_⟩; (focus (rw [HCl.out] at hw; (try simp only [List.nil_append, List.cons_append] at hw); (try dsimp only at hw); go_split_ands; go_simp <;> first | with_reducible exact (rfl : Value.bool false = _) | with_reducible exact (rfl : Value.bool true = _) | ((try go_bits) <;> exact rfl))); simp only [Act.put, Nat.reduceAdd, List.setIfInBounds_toArray, List.set_cons_zero, List.set_cons_succ, List.nil_append, List.cons_append])))
      -- the key
      refine Reg2.wS_eff (by (simp only [List.getElem?_toArray, List.getElem?_cons_succ, List.getElem?_cons_zero]) <;> rfl) (by rfl) (by rfl) (fun wq hw => ?_) (fun u9 hu => ?_)
      focus
        rw [HCl.out] at hw; (try simp only [List.nil_append, List.cons_append] at hw); (try dsimp only at hw)
        obtain ⟨⟨i1, i3, i4, i5⟩, ⟨k1, k3, k4, k5⟩, h9, g3⟩ := hw
        go_simp
        go_at_call 22
        (with_reducible refine (key_c _ _ _).mono ?_)
        rintro e w' ⟨rfl, hbel⟩
        refine ⟨_, rfl, ?_⟩
        rw [HCl.out]; (try simp only [List.nil_append, List.cons_append]); (try dsimp only)
        exact ⟨⟨(hbel.cell i5).trans i1, (hbel.cell i5).trans i3, (hbel.cell i5).trans i4, Nat.lt_of_lt_of_le i5 hbel.size⟩, ⟨(hbel.cell k5).trans k1, (hbel.cell k5).trans k3, (hbel.cell k5).trans k4, Nat.lt_of_lt_of_le k5 hbel.size⟩, Nat.lt_of_lt_of_le h9 hbel.size, by first | rfl | trivial, g3.step hbel⟩
      obtain ⟨wz, hz⟩ := hu
      rw [HCl.out] at hz
      (try simp only [List.nil_append, List.cons_append] at hz)
      (try dsimp only at hz)
      obtain ⟨-, -, -, rfl, -⟩ := hz
      clear wz
      simp only [Act.put, Nat.reduceAdd, List.setIfInBounds_toArray, List.set_cons_zero, List.set_cons_succ, List.nil_append, List.cons_append]
      -- the item
      refine Reg2.wS_eff (by (simp only [List.getElem?_toArray, List.getElem?_cons_succ, List.getElem?_cons_zero]) <;> rfl) (by rfl) (by rfl) (fun wq hw => ?_) (fun u9 hu => ?_)
      focus
        rw [HCl.out] at hw; (try simp only [List.nil_append, List.cons_append] at hw); (try dsimp only at hw)
        obtain ⟨⟨i1, i3, i4, i5⟩, ⟨k1, k3, k4, k5⟩, h9, -, g3⟩ := hw
        go_simp
        go_at_call 18
        (with_reducible refine (insO_c l (fun j => j < i) i a t wq g3.s1.tr HM1.out (Nat.lt_irrefl i) (by rw [HL1.out]; omega)).mono ?_)
        rintro e w' ⟨nb9, hn9, rfl, hT9, hO9⟩
        refine ⟨_, rfl, ?_⟩
        rw [HCl.out]; (try simp only [List.nil_append, List.cons_append]); (try dsimp only)
        have hfr : ∀ j, wr.heap.size ≤ j → ¬ (j = a ∨ j ∈ fp t) := fun j hj h => by have := HS2.out.s1.lt j h; omega
        exact ⟨⟨(hO9.cell i5 (hfr _ (by omega))).trans i1, (hO9.cell i5 (hfr _ (by omega))).trans i3, (hO9.cell i5 (hfr _ (by omega))).trans i4, Nat.lt_of_lt_of_le i5 hO9.size⟩, ⟨(hO9.cell k5 (hfr _ (by omega))).trans k1, (hO9.cell k5 (hfr _ (by omega))).trans k3, (hO9.cell k5 (hfr _ (by omega))).trans k4, Nat.lt_of_lt_of_le k5 hO9.size⟩, Nat.lt_of_lt_of_le h9 hO9.size, by first | rfl | trivial, nb9, tl_put g3.s1.tr hn9, g3.ins1 hn9 hT9 hO9⟩
      obtain ⟨wz, hz⟩ := hu
      rw [HCl.out] at hz
      (try simp only [List.nil_append, List.cons_append] at hz)
      (try dsimp only at hz)
      obtain ⟨-, -, -, rfl, -⟩ := hz
      clear wz
      simp only [Act.put, Nat.reduceAdd, List.setIfInBounds_toArray, List.set_cons_zero, List.set_cons_succ, List.nil_append, List.cons_append]
      (repeat (first | (refine Reg2.wS_skip (by (simp only [List.getElem?_toArray, List.getElem?_cons_succ, List.getElem?_cons_zero]) <;> rfl) (by rfl) ?_; simp only [Act.put, Nat.reduceAdd, List.setIfInBounds_toArray, List.set_cons_zero, List.set_cons_succ, List.nil_append, List.cons_append]) | (refine Reg2.wS_open (by (simp only [List.getElem?_toArray, List.getElem?_cons_succ, List.getElem?_cons_zero]) <;> rfl) (by rfl) (by rfl) ?_; apply Exists.intro; refine ⟨fun vs wq hw => ?_, ?_⟩; (focus (rw [HCl.out] at hw; (try simp only [List.nil_append, List.cons_append] at hw); (try dsimp only at hw); go_split_ands; go_simp <;> first | with_reducible exact (rfl : Value.bool false = _) | with_reducible exact (rfl : Value.bool true = _) | ((try go_bits) <;> exact rfl))); simp only [Act.put, Nat.reduceAdd, List.setIfInBounds_toArray, List.set_cons_zero, List.set_cons_succ, List.nil_append, List.cons_append])))
      refine Reg2.wS_nil ?_; intro w' hw; rw [HCl.out] at hw; (try simp only [List.nil_append, List.cons_append] at hw); (try dsimp only at hw); clear HCl
      obtain ⟨-, ⟨j1, j3, j4, j5⟩, j9, -, n1, htl1, hs3⟩ := hw
      have HS3 := Lib.hid hs3
      have HTL1 := Lib.hid htl1
      clear hs3 htl1
      go_wp2
      obtain ⟨Cl, hCl⟩ : ∃ Cl : List (Nat × Value) → World → Prop, Cl = ((fun ps wz => (wz.cell? ⟨wr.heap.size + 1, 1, none⟩ = some (.int .u64 ((nth l m)).ka) ∧ wz.cell? ⟨wr.heap.size + 1, 3, none⟩ = some (.int .u64 ((nth l m)).va) ∧ wz.cell? ⟨wr.heap.size + 1, 4, none⟩ = some (.int .i64 ((nth l m)).vi) ∧ wr.heap.size + 1 < wz.heap.size) ∧  wr.heap.size + 1 < wz.heap.size ∧ (match ps with
          | [] => S2 w wz a b (putT n1 (im l i) t) u
          | [(_, k1)] => k1 = .agg #[.int .u64 (nth l m).ka, .int .i64 (m : Nat)] ∧ S2 w wz a b (putT n1 (im l i) t) u
          | [_, (_, v9)] => v9 = .int .i64 0 ∧ ∃ n2, tl (putT n2 (im l m) u) = insL (im l m) (tl u) ∧ S2 w wz a b (putT n1 (im l i) t) (putT n2 (im l m) u)
          | _ => True))) := ⟨_, rfl⟩; have HCl := Lib.hid hCl; clear hCl; refine Reg2.wp_region_lineS [(0, false), (1, false), (2, false), (3, false), (4, false), (5, false), (6, false), (7, false), (8, false), (10, false), (11, false), (9, false), (12, false), (13, false)] [9, 12] Cl (by kernel_rfl) (by kernel_rfl) (by kernel_rfl) (by rw [HCl.out]; (try simp only [List.nil_append, List.cons_append]); (try dsimp only); exact (⟨⟨by simpa [go_sem] using j1, by simpa [go_sem] using j3, by simpa [go_sem] using j4, by simpa [go_sem] using j5⟩, by simpa [go_sem] using j9, HS3.out.step (by (repeat' (first | assumption | exact Below.refl _ _ | refine Below.setCell ?_ (by first | (simp; done) | omega | (simp; omega)) _ | refine Below.alloc ?_ (by first | (simp; done) | omega | (simp; omega)) _ | refine Below.drew ?_)))⟩)) ?_
      (repeat (first | (refine Reg2.wS_skip (by (simp only [List.getElem?_toArray, List.getElem?_cons_succ, List.getElem?_cons_zero]) <;> rfl) (by rfl) ?_; simp only [Act.put, Nat.reduceAdd, List.setIfInBounds_toArray, List.set_cons_zero, List.set_cons_succ, List.nil_append, List.cons_append]) | (refine Reg2.wS_open (by (simp only [List.getElem?_toArray, List.getElem?_cons_succ, List.getElem?_cons_zero]) <;> rfl) (by rfl) (by rfl) ?_; apply Exists.intro; refine ⟨fun vs wq hw => ?_, ?_⟩; (focus (rw [HCl.out] at hw; (try simp only [List.nil_append, List.cons_append] at hw); (try dsimp only at hw); go_split_ands; go_simp <;> first | with_reducible exact (rfl : Value.bool false = _) | with_reducible exact (rfl : Value.bool true = _) | ((try go_bits) <;> exact rfl))); simp only [Act.put, Nat.reduceAdd, List.setIfInBounds_toArray, List.set_cons_zero, List.set_cons_succ, List.nil_append, List.cons_append])))
      -- the key
      refine Reg2.wS_eff (by (simp only [List.getElem?_toArray, List.getElem?_cons_succ, List.getElem?_cons_zero]) <;> rfl) (by rfl) (by rfl) (fun wq hw => ?_) (fun u9 hu => ?_)
      focus
        rw [HCl.out] at hw; (try simp only [List.nil_append, List.cons_append] at hw); (try dsimp only at hw)
        obtain ⟨⟨i1, i3, i4, i5⟩,  h9, g3⟩ := hw
        go_simp
        go_at_call 22
        (with_reducible refine (key_c _ _ _).mono ?_)
        rintro e w' ⟨rfl, hbel⟩
        refine ⟨_, rfl, ?_⟩
        rw [HCl.out]; (try simp only [List.nil_append, List.cons_append]); (try dsimp only)
        exact ⟨⟨(hbel.cell i5).trans i1, (hbel.cell i5).trans i3, (hbel.cell i5).trans i4, Nat.lt_of_lt_of_le i5 hbel.size⟩,  Nat.lt_of_lt_of_le h9 hbel.size, by first | rfl | trivial, g3.step hbel⟩
      obtain ⟨wz, hz⟩ := hu
      rw [HCl.out] at hz
      (try simp only [List.nil_append, List.cons_append] at hz)
      (try dsimp only at hz)
      obtain ⟨-,  -, rfl, -⟩ := hz
      clear wz
      simp only [Act.put, Nat.reduceAdd, List.setIfInBounds_toArray, List.set_cons_zero, List.set_cons_succ, List.nil_append, List.cons_append]
      -- the item
      refine Reg2.wS_eff (by (simp only [List.getElem?_toArray, List.getElem?_cons_succ, List.getElem?_cons_zero]) <;> rfl) (by rfl) (by rfl) (fun wq hw => ?_) (fun u9 hu => ?_)
      focus
        rw [HCl.out] at hw; (try simp only [List.nil_append, List.cons_append] at hw); (try dsimp only at hw)
        obtain ⟨⟨i1, i3, i4, i5⟩,  h9, -, g3⟩ := hw
        go_simp
        go_at_call 18
        (with_reducible refine (insO_c l (fun j => n - i ≤ j ∧ j < n) m b u wq g3.s2.tr HM2.out (fun h => by have := HMI.out; have h1 := h.1; omega) (by rw [HL2.out]; omega)).mono ?_)
        rintro e w' ⟨nb9, hn9, rfl, hT9, hO9⟩
        refine ⟨_, rfl, ?_⟩
        rw [HCl.out]; (try simp only [List.nil_append, List.cons_append]); (try dsimp only)
        have hfr : ∀ j, wr.heap.size ≤ j → ¬ (j = b ∨ j ∈ fp u) := fun j hj h => by have := HS2.out.s2.lt j h; omega
        exact ⟨⟨(hO9.cell i5 (hfr _ (by omega))).trans i1, (hO9.cell i5 (hfr _ (by omega))).trans i3, (hO9.cell i5 (hfr _ (by omega))).trans i4, Nat.lt_of_lt_of_le i5 hO9.size⟩,  Nat.lt_of_lt_of_le h9 hO9.size, by first | rfl | trivial, nb9, tl_put g3.s2.tr hn9, g3.ins2 hn9 hT9 hO9⟩
      obtain ⟨wz, hz⟩ := hu
      rw [HCl.out] at hz
      (try simp only [List.nil_append, List.cons_append] at hz)
      (try dsimp only at hz)
      obtain ⟨-,  -, rfl, -⟩ := hz
      clear wz
      simp only [Act.put, Nat.reduceAdd, List.setIfInBounds_toArray, List.set_cons_zero, List.set_cons_succ, List.nil_append, List.cons_append]
      (repeat (first | (refine Reg2.wS_skip (by (simp only [List.getElem?_toArray, List.getElem?_cons_succ, List.getElem?_cons_zero]) <;> rfl) (by rfl) ?_; simp only [Act.put, Nat.reduceAdd, List.setIfInBounds_toArray, List.set_cons_zero, List.set_cons_succ, List.nil_append, List.cons_append]) | (refine Reg2.wS_open (by (simp only [List.getElem?_toArray, List.getElem?_cons_succ, List.getElem?_cons_zero]) <;> rfl) (by rfl) (by rfl) ?_; apply Exists.intro; refine ⟨fun vs wq hw => ?_, ?_⟩; (focus (rw [HCl.out] at hw; (try simp only [List.nil_append, List.cons_append] at hw); (try dsimp only at hw); go_split_ands; go_simp <;> first | with_reducible exact (rfl : Value.bool false = _) | with_reducible exact (rfl : Value.bool true = _) | ((try go_bits) <;> exact rfl))); simp only [Act.put, Nat.reduceAdd, List.setIfInBounds_toArray, List.set_cons_zero, List.set_cons_succ, List.nil_append, List.cons_append])))
      refine Reg2.wS_nil ?_; intro w' hw; rw [HCl.out] at hw; (try simp only [List.nil_append, List.cons_append] at hw); (try dsimp only at hw); clear HCl
      obtain ⟨-, j10, -, n2, htl2, hs4⟩ := hw
      have HS4 := Lib.hid hs4
      have HTL2 := Lib.hid htl2
      clear hs4 htl2
      go_wp2
      go_roundg (n - (i + 1))
      case rel =>
        have hmi := HMI.out
        refine ⟨i + 1, putT n1 (im l i) t, putT n2 (im l m) u, by first | rfl | go_num | (congr 1; omega), by omega, Nat.le_refl _, by first | exact HS4.out | exact HS4.out.step (by (repeat' (first | assumption | exact Below.refl _ _ | refine Below.setCell ?_ (by first | (simp; done) | omega | (simp; omega)) _ | refine Below.alloc ?_ (by first | (simp; done) | omega | (simp; omega)) _ | refine Below.drew ?_))), ?_, ?_, ?_, ?_⟩
        · rw [HTL1.out]; exact HM1.out.ins fun j => by show (j < i + 1) ↔ (j = i ∨ j < i); omega
        · rw [HTL2.out]; exact HM2.out.ins fun j => by show (n - (i + 1) ≤ j ∧ j < n) ↔ (j = m ∨ (n - i ≤ j ∧ j < n)); omega
        · rw [HTL1.out, insL_len, HL1.out]
        · rw [HTL2.out, insL_len, HL2.out]
      case measure => omega
    · have hie : i = n := by omega
      subst hie
      have HMu : Hid (MB l (fun j => j < i ∧ (0 ≤ j ∨ (nth l j).kd ≠ 0)) (tl u)) := Lib.hid (HM2.out.congr fun j => by show (j < i ∧ (0 ≤ j ∨ (nth l j).kd ≠ 0)) ↔ (i - i ≤ j ∧ j < i); constructor <;> intro h <;> omega)
      have HMt : Hid (MB l (fun j => j < i ∧ (0 ≤ j ∨ (nth l j).kd ≠ 0)) (tl t)) := Lib.hid (HM1.out.congr fun j => by show (j < i ∧ (0 ≤ j ∨ (nth l j).kd ≠ 0)) ↔ j < i; constructor <;> intro h <;> omega)
      clear hk hi hin
      go_wp2
      go_loopg [78] i (fun k9 s78 wx => ∃ (i2 : Nat) (t2 u2 : Tr), s78 = .int .i64 i2 ∧ i2 ≤ i ∧ i - i2 ≤ k9 ∧ S2 w wx a b t2 u2 ∧ MB l (fun j => j < i ∧ (i2 ≤ j ∨ (nth l j).kd ≠ 0)) (tl t2) ∧ MB l (fun j => j < i ∧ (i2 ≤ j ∨ (nth l j).kd ≠ 0)) (tl u2) ∧ (tl t2).length ≤ i ∧ (tl u2).length ≤ i)
      case atStart => exact ⟨0, t, u, rfl, by omega, by omega, HS2.out, HMt.out, HMu.out, by rw [HL1.out]; exact Nat.le_refl _, by rw [HL2.out]; exact Nat.le_refl _⟩
      case round =>
        rename World => wx
        obtain ⟨i2, t2, u2, rfl, hi2, hk2, hS, hM1, hM2, hL1, hL2⟩ := hrel
        have HSR := Lib.hid hS
        have HN1 := Lib.hid hM1
        have HN2 := Lib.hid hM2
        have HK1 := Lib.hid hL1
        have HK2 := Lib.hid hL2
        clear hS hM1 hM2 hL1 hL2 HM1 HM2 HMt HMu HL1 HL2
        by_cases hin : i2 < i
        · obtain ⟨bb, oo, had, hbb, e0, e1, e2, e3, e4, e5⟩ := ac_cells HR.out (i := i2) (by rw [HLN.out]; exact hin)
          subst had
          have hBw := HSR.out.s1.hb
          have hbr : bb < wx.heap.size := Nat.lt_of_lt_of_le hbb hBw.size
          have e0 := (hBw.cell hbb).trans e0
          have e1 := (hBw.cell hbb).trans e1
          have e2 := (hBw.cell hbb).trans e2
          have e3 := (hBw.cell hbb).trans e3
          have e4 := (hBw.cell hbb).trans e4
          have e5 := (hBw.cell hbb).trans e5
          have W3 : IntKind.i64.wrap ((i2 : Int) + 1) = ((i2 + 1 : Nat) : Int) := by rw [IntKind.wrap_i64]; omega
          clear hBw
          by_cases hkd : (nth l i2).kd = 0
          · obtain ⟨y1, hf1⟩ := HN1.out.some (i := i2) ⟨hin, .inl (Nat.le_refl _)⟩
            obtain ⟨y2, hf2⟩ := HN2.out.some (i := i2) ⟨hin, .inl (Nat.le_refl _)⟩
            have HF1 := Lib.hid hf1
            have HF2 := Lib.hid hf2
            have HKD := Lib.hid hkd
            rw [hkd] at e0
            clear hf1 hf2 hkd
            go_wp2_with (first | go_guarded | (go_at_call 22; first | ((with_reducible refine (key_c _ _ w4).mono ?_); rintro _ w5 ⟨rfl, hbel⟩; (have HS5 := Lib.hid (HS4.out.step hbel)); (have x1 := (hbel.cell xl).trans x1); (have xl := Nat.lt_of_lt_of_le xl hbel.size); clear hbel) | ((with_reducible refine (key_c _ _ _).mono ?_); rintro _ w3 ⟨rfl, hbel⟩; (have HS3 : Hid (S2 w w3 a b t2 u2) := Lib.hid ((HSR.out.step (by (repeat' (first | assumption | exact Below.refl _ _ | refine Below.setCell ?_ (by first | (simp; done) | omega | (simp; omega)) _ | refine Below.alloc ?_ (by first | (simp; done) | omega | (simp; omega)) _ | refine Below.drew ?_)))).step hbel)); obtain ⟨hcc, hff⟩ := bcell hbel; have hsz := hbel.size; (try simp at hsz); (have x1 : w3.cell? ⟨wx.heap.size, 1, none⟩ = some (.int .u64 (nth l i2).ka) := by simp [go_sem, *]); (have xl : wx.heap.size < w3.heap.size := by omega); clear hcc hff hbel)) | (go_at_call 16; first | ((with_reducible refine (delO_c l i2 b u2 y2 w5 HS5.out.s2.tr HF2.out (by have := HK2.out; omega)).mono ?_); rintro _ w6 ⟨rfl, hT, hO⟩; (have HS6 := Lib.hid (HS5.out.del2 HF2.out hT hO)); clear hT hO) | ((with_reducible refine (delO_c l i2 a t2 y1 w3 HS3.out.s1.tr HF1.out (by have := HK1.out; omega)).mono ?_); rintro _ w4 ⟨rfl, hT, hO⟩; (have HS4 := Lib.hid (HS3.out.del1 HF1.out hT hO)); (have hni : ¬ (wx.heap.size = a ∨ wx.heap.size ∈ fp t2) := fun h => absurd (HSR.out.s1.lt _ h) (Nat.lt_irrefl _)); (have x1 := (hO.cell xl hni).trans x1); (have xl := Nat.lt_of_lt_of_le xl hO.size); clear hT hO hni)))
            go_roundg (i - (i2 + 1))
            case rel =>
              refine ⟨i2 + 1, cutT (im l i2) t2, cutT (im l i2) u2, by first | rfl | go_num | (congr 1; omega), by omega, Nat.le_refl _, by first | exact HS6.out | exact HS6.out.step (by (repeat' (first | assumption | exact Below.refl _ _ | refine Below.setCell ?_ (by first | (simp; done) | omega | (simp; omega)) _ | refine Below.alloc ?_ (by first | (simp; done) | omega | (simp; omega)) _ | refine Below.drew ?_))), ?_, ?_, ?_, ?_⟩
              · rw [tl_cut HSR.out.s1.tr HF1.out]
                refine HN1.out.rem fun j => ?_
                show (j < i ∧ (i2 + 1 ≤ j ∨ (nth l j).kd ≠ 0)) ↔ (j ≠ i2 ∧ j < i ∧ (i2 ≤ j ∨ (nth l j).kd ≠ 0))
                by_cases hj : j = i2
                · subst hj; have := HKD.out; constructor <;> intro h <;> omega
                · constructor <;> intro h <;> omega
              · rw [tl_cut HSR.out.s2.tr HF2.out]
                refine HN2.out.rem fun j => ?_
                show (j < i ∧ (i2 + 1 ≤ j ∨ (nth l j).kd ≠ 0)) ↔ (j ≠ i2 ∧ j < i ∧ (i2 ≤ j ∨ (nth l j).kd ≠ 0))
                by_cases hj : j = i2
                · subst hj; have := HKD.out; constructor <;> intro h <;> omega
                · constructor <;> intro h <;> omega
              · rw [tl_cut HSR.out.s1.tr HF1.out]; exact Nat.le_trans (List.length_filter_le _ _) HK1.out
              · rw [tl_cut HSR.out.s2.tr HF2.out]; exact Nat.le_trans (List.length_filter_le _ _) HK2.out
            case measure => omega
          · have HKD := Lib.hid hkd
            go_wp2_with go_guarded
            go_roundg (i - (i2 + 1))
            case rel =>
              have hcg : ∀ j, (j < i ∧ (i2 + 1 ≤ j ∨ (nth l j).kd ≠ 0)) ↔ (j < i ∧ (i2 ≤ j ∨ (nth l j).kd ≠ 0)) := fun j => by
                by_cases hj : j = i2
                · subst hj; have := HKD.out; constructor <;> intro h <;> omega
                · constructor <;> intro h <;> omega
              refine ⟨i2 + 1, t2, u2, by first | rfl | go_num | (congr 1; omega), by omega, Nat.le_refl _, HSR.out.step (by (repeat' (first | assumption | exact Below.refl _ _ | refine Below.setCell ?_ (by first | (simp; done) | omega | (simp; omega)) _ | refine Below.alloc ?_ (by first | (simp; done) | omega | (simp; omega)) _ | refine Below.drew ?_))), HN1.out.congr hcg, HN2.out.congr hcg, HK1.out, HK2.out⟩
            case measure => omega
        · have hie : i2 = i := by omega
          subst hie
          have hsame : tl u2 = tl t2 := ss_same _ _ HSR.out.s2.tr.ss HSR.out.s1.tr.ss fun x => by rw [HN1.out x, HN2.out x]
          obtain ⟨L, hL⟩ : ∃ L, tl t2 = L := ⟨_, rfl⟩
          rw [hL] at hsame
          have hlen : L.length ≤ 80 := by rw [← hL]; exact Nat.le_trans HK1.out (by omega)
          have kb1 := fun z hz => belm_c a t2 tk z hz
          have kb2 := fun z hz => belm_c b u2 tk z hz
          have kf1 := fun z hz => fstm_c a t2 tk z hz
          have kf2 := fun z hz => fstm_c b u2 tk z hz
          have ki1 := fun z hz => items_c a t2 z hz (by rw [hL]; omega)
          have ki2 := fun z hz => items_c b u2 z hz (by rw [hsame]; omega)
          simp only [hL] at kb1 kf1 ki1
          simp only [hsame] at kb2 kf2 ki2
          generalize fv (belL tk L) = X1 at *
          generalize (belL tk L).isSome = O1 at *
          generalize fv (fstL tk L) = X2 at *
          generalize (fstL tk L).isSome = O2 at *
          obtain ⟨N, hN⟩ : ∃ N, L.length = N := ⟨_, rfl⟩
          simp only [hN] at ki1 ki2
          rw [hN] at hlen
          have HLN2 := Lib.hid hN
          have KB1 := Lib.hid kb1
          have KB2 := Lib.hid kb2
          have KF1 := Lib.hid kf1
          have KF2 := Lib.hid kf2
          have KI1 := Lib.hid ki1
          have KI2 := Lib.hid ki2
          clear kb1 kb2 kf1 kf2 ki1 ki2 hL hsame hN hk2 hi2 hin HN1 HN2 HK1 HK2 HS2
          have HSX := HSR
          clear HSR
          go_wp2_with (first | (go_at_call 23; first | ((with_reducible refine (KB2.out _ (HS10.out.step (by (repeat' (first | assumption | exact Below.refl _ _ | refine Below.setCell ?_ (by first | (simp; done) | omega | (simp; omega)) _ | refine Below.alloc ?_ (by first | (simp; done) | omega | (simp; omega)) _ | refine Below.drew ?_)))).s2.tr).mono ?_); rintro _ w11 ⟨rfl, hbel⟩; (have HS11 := Lib.hid ((HS10.out.step (by (repeat' (first | assumption | exact Below.refl _ _ | refine Below.setCell ?_ (by first | (simp; done) | omega | (simp; omega)) _ | refine Below.alloc ?_ (by first | (simp; done) | omega | (simp; omega)) _ | refine Below.drew ?_)))).step hbel)); obtain ⟨hcc, hff⟩ := bcell hbel; have hsz := hbel.size; (try simp at hsz); have hF : (w11.cell? ⟨w10.heap.size, 0, none⟩ = some (.int .u64 (X1).ka) ∧ w11.cell? ⟨w10.heap.size, 1, none⟩ = some (.int .i64 (X1).ki) ∧ w11.cell? ⟨w10.heap.size, 2, none⟩ = some (.int .u64 (X1).va) ∧ w11.cell? ⟨w10.heap.size, 3, none⟩ = some (.int .i64 (X1).vi) ∧ w10.heap.size < w11.heap.size) := (by ((repeat' apply And.intro) <;> first | (simp [go_sem, *]; done) | omega | (repeat' (first | with_reducible exact Below.refl _ _ | with_reducible assumption | ((with_reducible refine Below.drew ?_)) | ((with_reducible refine below_drewN ?_ _)) | ((with_reducible refine Below.alloc ?_ ?_ _); rotate_left; focus (first | omega | (simp; done) | (simp; omega))) | ((with_reducible refine Below.setCell ?_ ?_ _); rotate_left; focus (first | omega | (simp; done) | (simp; omega))) | ((with_reducible refine Below.trans ?_ (Below.mono (by with_reducible assumption) ?_)); rotate_left; focus (first | omega | (simp; done) | (simp; omega))))))); go_split_ands; clear hcc hff hbel) | ((with_reducible refine (KB1.out _ (HSX.out.step (by (repeat' (first | assumption | exact Below.refl _ _ | refine Below.setCell ?_ (by first | (simp; done) | omega | (simp; omega)) _ | refine Below.alloc ?_ (by first | (simp; done) | omega | (simp; omega)) _ | refine Below.drew ?_)))).s1.tr).mono ?_); rintro _ w10 ⟨rfl, hbel⟩; (have HS10 := Lib.hid ((HSX.out.step (by (repeat' (first | assumption | exact Below.refl _ _ | refine Below.setCell ?_ (by first | (simp; done) | omega | (simp; omega)) _ | refine Below.alloc ?_ (by first | (simp; done) | omega | (simp; omega)) _ | refine Below.drew ?_)))).step hbel)); obtain ⟨hcc, hff⟩ := bcell hbel; have hsz := hbel.size; (try simp at hsz);  clear hcc hff hbel)) | (go_at_call 24; first | ((with_reducible refine (KF2.out _ (HS12.out.step (by (repeat' (first | assumption | exact Below.refl _ _ | refine Below.setCell ?_ (by first | (simp; done) | omega | (simp; omega)) _ | refine Below.alloc ?_ (by first | (simp; done) | omega | (simp; omega)) _ | refine Below.drew ?_)))).s2.tr).mono ?_); rintro _ w13 ⟨rfl, hbel⟩; (have HS13 := Lib.hid ((HS12.out.step (by (repeat' (first | assumption | exact Below.refl _ _ | refine Below.setCell ?_ (by first | (simp; done) | omega | (simp; omega)) _ | refine Below.alloc ?_ (by first | (simp; done) | omega | (simp; omega)) _ | refine Below.drew ?_)))).step hbel)); obtain ⟨hcc, hff⟩ := bcell hbel; have hsz := hbel.size; (try simp at hsz); have hF : (w13.cell? ⟨w10.heap.size, 0, none⟩ = some (.int .u64 (X1).ka) ∧ w13.cell? ⟨w10.heap.size, 1, none⟩ = some (.int .i64 (X1).ki) ∧ w13.cell? ⟨w10.heap.size, 2, none⟩ = some (.int .u64 (X1).va) ∧ w13.cell? ⟨w10.heap.size, 3, none⟩ = some (.int .i64 (X1).vi) ∧ w10.heap.size < w13.heap.size) ∧ (w13.cell? ⟨w11.heap.size, 0, none⟩ = some (.int .u64 (X1).ka) ∧ w13.cell? ⟨w11.heap.size, 1, none⟩ = some (.int .i64 (X1).ki) ∧ w13.cell? ⟨w11.heap.size, 2, none⟩ = some (.int .u64 (X1).va) ∧ w13.cell? ⟨w11.heap.size, 3, none⟩ = some (.int .i64 (X1).vi) ∧ w11.heap.size < w13.heap.size) ∧ (w13.cell? ⟨w12.heap.size, 0, none⟩ = some (.int .u64 (X2).ka) ∧ w13.cell? ⟨w12.heap.size, 1, none⟩ = some (.int .i64 (X2).ki) ∧ w13.cell? ⟨w12.heap.size, 2, none⟩ = some (.int .u64 (X2).va) ∧ w13.cell? ⟨w12.heap.size, 3, none⟩ = some (.int .i64 (X2).vi) ∧ w12.heap.size < w13.heap.size) := (by ((repeat' apply And.intro) <;> first | (simp [go_sem, *]; done) | omega | (repeat' (first | with_reducible exact Below.refl _ _ | with_reducible assumption | ((with_reducible refine Below.drew ?_)) | ((with_reducible refine below_drewN ?_ _)) | ((with_reducible refine Below.alloc ?_ ?_ _); rotate_left; focus (first | omega | (simp; done) | (simp; omega))) | ((with_reducible refine Below.setCell ?_ ?_ _); rotate_left; focus (first | omega | (simp; done) | (simp; omega))) | ((with_reducible refine Below.trans ?_ (Below.mono (by with_reducible assumption) ?_)); rotate_left; focus (first | omega | (simp; done) | (simp; omega))))))); go_split_ands; clear hcc hff hbel) | ((with_reducible refine (KF1.out _ (HS11.out.step (by (repeat' (first | assumption | exact Below.refl _ _ | refine Below.setCell ?_ (by first | (simp; done) | omega | (simp; omega)) _ | refine Below.alloc ?_ (by first | (simp; done) | omega | (simp; omega)) _ | refine Below.drew ?_)))).s1.tr).mono ?_); rintro _ w12 ⟨rfl, hbel⟩; (have HS12 := Lib.hid ((HS11.out.step (by (repeat' (first | assumption | exact Below.refl _ _ | refine Below.setCell ?_ (by first | (simp; done) | omega | (simp; omega)) _ | refine Below.alloc ?_ (by first | (simp; done) | omega | (simp; omega)) _ | refine Below.drew ?_)))).step hbel)); obtain ⟨hcc, hff⟩ := bcell hbel; have hsz := hbel.size; (try simp at hsz); have hF : (w12.cell? ⟨w10.heap.size, 0, none⟩ = some (.int .u64 (X1).ka) ∧ w12.cell? ⟨w10.heap.size, 1, none⟩ = some (.int .i64 (X1).ki) ∧ w12.cell? ⟨w10.heap.size, 2, none⟩ = some (.int .u64 (X1).va) ∧ w12.cell? ⟨w10.heap.size, 3, none⟩ = some (.int .i64 (X1).vi) ∧ w10.heap.size < w12.heap.size) ∧ (w12.cell? ⟨w11.heap.size, 0, none⟩ = some (.int .u64 (X1).ka) ∧ w12.cell? ⟨w11.heap.size, 1, none⟩ = some (.int .i64 (X1).ki) ∧ w12.cell? ⟨w11.heap.size, 2, none⟩ = some (.int .u64 (X1).va) ∧ w12.cell? ⟨w11.heap.size, 3, none⟩ = some (.int .i64 (X1).vi) ∧ w11.heap.size < w12.heap.size) := (by ((repeat' apply And.intro) <;> first | (simp [go_sem, *]; done) | omega | (repeat' (first | with_reducible exact Below.refl _ _ | with_reducible assumption | ((with_reducible refine Below.drew ?_)) | ((with_reducible refine below_drewN ?_ _)) | ((with_reducible refine Below.alloc ?_ ?_ _); rotate_left; focus (first | omega | (simp; done) | (simp; omega))) | ((with_reducible refine Below.setCell ?_ ?_ _); rotate_left; focus (first | omega | (simp; done) | (simp; omega))) | ((with_reducible refine Below.trans ?_ (Below.mono (by with_reducible assumption) ?_)); rotate_left; focus (first | omega | (simp; done) | (simp; omega))))))); go_split_ands; clear hcc hff hbel)) | (go_at_call 25; first | ((with_reducible refine (KI2.out _ (HS14.out.step (by (repeat' (first | assumption | exact Below.refl _ _ | refine Below.setCell ?_ (by first | (simp; done) | omega | (simp; omega)) _ | refine Below.alloc ?_ (by first | (simp; done) | omega | (simp; omega)) _ | refine Below.drew ?_)))).s2.tr).mono ?_); rintro _ w15 ⟨ao2, cp2, rfl, hr2, -, hbel⟩; have HR2 := Lib.hid hr2; have HR1 := Lib.hid (HR1.out.below hbel); clear hr2; (have HS15 := Lib.hid ((HS14.out.step (by (repeat' (first | assumption | exact Below.refl _ _ | refine Below.setCell ?_ (by first | (simp; done) | omega | (simp; omega)) _ | refine Below.alloc ?_ (by first | (simp; done) | omega | (simp; omega)) _ | refine Below.drew ?_)))).step hbel)); obtain ⟨hcc, hff⟩ := bcell hbel; have hsz := hbel.size; (try simp at hsz); have hF : (w15.cell? ⟨w10.heap.size, 0, none⟩ = some (.int .u64 (X1).ka) ∧ w15.cell? ⟨w10.heap.size, 1, none⟩ = some (.int .i64 (X1).ki) ∧ w15.cell? ⟨w10.heap.size, 2, none⟩ = some (.int .u64 (X1).va) ∧ w15.cell? ⟨w10.heap.size, 3, none⟩ = some (.int .i64 (X1).vi) ∧ w10.heap.size < w15.heap.size) ∧ (w15.cell? ⟨w11.heap.size, 0, none⟩ = some (.int .u64 (X1).ka) ∧ w15.cell? ⟨w11.heap.size, 1, none⟩ = some (.int .i64 (X1).ki) ∧ w15.cell? ⟨w11.heap.size, 2, none⟩ = some (.int .u64 (X1).va) ∧ w15.cell? ⟨w11.heap.size, 3, none⟩ = some (.int .i64 (X1).vi) ∧ w11.heap.size < w15.heap.size) ∧ (w15.cell? ⟨w12.heap.size, 0, none⟩ = some (.int .u64 (X2).ka) ∧ w15.cell? ⟨w12.heap.size, 1, none⟩ = some (.int .i64 (X2).ki) ∧ w15.cell? ⟨w12.heap.size, 2, none⟩ = some (.int .u64 (X2).va) ∧ w15.cell? ⟨w12.heap.size, 3, none⟩ = some (.int .i64 (X2).vi) ∧ w12.heap.size < w15.heap.size) ∧ (w15.cell? ⟨w13.heap.size, 0, none⟩ = some (.int .u64 (X2).ka) ∧ w15.cell? ⟨w13.heap.size, 1, none⟩ = some (.int .i64 (X2).ki) ∧ w15.cell? ⟨w13.heap.size, 2, none⟩ = some (.int .u64 (X2).va) ∧ w15.cell? ⟨w13.heap.size, 3, none⟩ = some (.int .i64 (X2).vi) ∧ w13.heap.size < w15.heap.size) := (by ((repeat' apply And.intro) <;> first | (simp [go_sem, *]; done) | omega | (repeat' (first | with_reducible exact Below.refl _ _ | with_reducible assumption | ((with_reducible refine Below.drew ?_)) | ((with_reducible refine below_drewN ?_ _)) | ((with_reducible refine Below.alloc ?_ ?_ _); rotate_left; focus (first | omega | (simp; done) | (simp; omega))) | ((with_reducible refine Below.setCell ?_ ?_ _); rotate_left; focus (first | omega | (simp; done) | (simp; omega))) | ((with_reducible refine Below.trans ?_ (Below.mono (by with_reducible assumption) ?_)); rotate_left; focus (first | omega | (simp; done) | (simp; omega))))))); go_split_ands; clear hcc hff hbel) | ((with_reducible refine (KI1.out _ (HS13.out.step (by (repeat' (first | assumption | exact Below.refl _ _ | refine Below.setCell ?_ (by first | (simp; done) | omega | (simp; omega)) _ | refine Below.alloc ?_ (by first | (simp; done) | omega | (simp; omega)) _ | refine Below.drew ?_)))).s1.tr).mono ?_); rintro _ w14 ⟨ao1, cp1, rfl, hr1, -, hbel⟩; have HR1 := Lib.hid hr1; clear hr1; (have HS14 := Lib.hid ((HS13.out.step (by (repeat' (first | assumption | exact Below.refl _ _ | refine Below.setCell ?_ (by first | (simp; done) | omega | (simp; omega)) _ | refine Below.alloc ?_ (by first | (simp; done) | omega | (simp; omega)) _ | refine Below.drew ?_)))).step hbel)); obtain ⟨hcc, hff⟩ := bcell hbel; have hsz := hbel.size; (try simp at hsz); have hF : (w14.cell? ⟨w10.heap.size, 0, none⟩ = some (.int .u64 (X1).ka) ∧ w14.cell? ⟨w10.heap.size, 1, none⟩ = some (.int .i64 (X1).ki) ∧ w14.cell? ⟨w10.heap.size, 2, none⟩ = some (.int .u64 (X1).va) ∧ w14.cell? ⟨w10.heap.size, 3, none⟩ = some (.int .i64 (X1).vi) ∧ w10.heap.size < w14.heap.size) ∧ (w14.cell? ⟨w11.heap.size, 0, none⟩ = some (.int .u64 (X1).ka) ∧ w14.cell? ⟨w11.heap.size, 1, none⟩ = some (.int .i64 (X1).ki) ∧ w14.cell? ⟨w11.heap.size, 2, none⟩ = some (.int .u64 (X1).va) ∧ w14.cell? ⟨w11.heap.size, 3, none⟩ = some (.int .i64 (X1).vi) ∧ w11.heap.size < w14.heap.size) ∧ (w14.cell? ⟨w12.heap.size, 0, none⟩ = some (.int .u64 (X2).ka) ∧ w14.cell? ⟨w12.heap.size, 1, none⟩ = some (.int .i64 (X2).ki) ∧ w14.cell? ⟨w12.heap.size, 2, none⟩ = some (.int .u64 (X2).va) ∧ w14.cell? ⟨w12.heap.size, 3, none⟩ = some (.int .i64 (X2).vi) ∧ w12.heap.size < w14.heap.size) ∧ (w14.cell? ⟨w13.heap.size, 0, none⟩ = some (.int .u64 (X2).ka) ∧ w14.cell? ⟨w13.heap.size, 1, none⟩ = some (.int .i64 (X2).ki) ∧ w14.cell? ⟨w13.heap.size, 2, none⟩ = some (.int .u64 (X2).va) ∧ w14.cell? ⟨w13.heap.size, 3, none⟩ = some (.int .i64 (X2).vi) ∧ w13.heap.size < w14.heap.size) := (by ((repeat' apply And.intro) <;> first | (simp [go_sem, *]; done) | omega | (repeat' (first | with_reducible exact Below.refl _ _ | with_reducible assumption | ((with_reducible refine Below.drew ?_)) | ((with_reducible refine below_drewN ?_ _)) | ((with_reducible refine Below.alloc ?_ ?_ _); rotate_left; focus (first | omega | (simp; done) | (simp; omega))) | ((with_reducible refine Below.setCell ?_ ?_ _); rotate_left; focus (first | omega | (simp; done) | (simp; omega))) | ((with_reducible refine Below.trans ?_ (Below.mono (by with_reducible assumption) ?_)); rotate_left; focus (first | omega | (simp; done) | (simp; omega))))))); go_split_ands; clear hcc hff hbel)))
          go_loopg [142] N (fun k9 s142 wy => ∃ (i3 : Nat), s142 = .int .i64 i3 ∧ i3 ≤ N ∧ N - i3 ≤ k9 ∧ Below w15.heap.size w15 wy)
          case atStart => exact ⟨0, rfl, by omega, by omega, Below.refl _ _⟩
          case round =>
            rename World => wy
            obtain ⟨i3, rfl, hi3, hk3, hBy⟩ := hrel
            have HBY := Lib.hid hBy
            have hszy := hBy.size
            by_cases hin : i3 < N
            · obtain ⟨pb, po, had1, hpb, p0, p1, p2, p3⟩ := it_cells (HR1.out.below HBY.out) (i := i3) (by rw [HLN2.out]; exact hin)
              obtain ⟨qb, qo, had2, hqb, q0, q1, q2, q3⟩ := it_cells (HR2.out.below HBY.out) (i := i3) (by rw [HLN2.out]; exact hin)
              subst had1
              subst had2
              have W4 : IntKind.i64.wrap ((i3 : Int) + 1) = ((i3 + 1 : Nat) : Int) := by rw [IntKind.wrap_i64]; omega
              obtain ⟨Y, hY⟩ : ∃ Y, itn L i3 = Y := ⟨_, rfl⟩
              rw [hY] at p0 p1 p2 p3 q0 q1 q2 q3
              clear hY
              go_wp2
              obtain ⟨Cl, hCl⟩ : ∃ Cl : List Value → World → Prop, Cl = ((fun ps wz => (wz.cell? ⟨qb, qo + i3 * 4, none⟩ = some (.int .u64 Y.ka) ∧ wz.cell? ⟨qb, qo + i3 * 4 + 1, none⟩ = some (.int .i64 Y.ki) ∧ wz.cell? ⟨qb, qo + i3 * 4 + 2, none⟩ = some (.int .u64 Y.va) ∧ wz.cell? ⟨qb, qo + i3 * 4 + 3, none⟩ = some (.int .i64 Y.vi)) ∧ (wz.cell? ⟨wy.heap.size, 0, none⟩ = some (.int .u64 (Y).ka) ∧ wz.cell? ⟨wy.heap.size, 1, none⟩ = some (.int .i64 (Y).ki) ∧ wz.cell? ⟨wy.heap.size, 2, none⟩ = some (.int .u64 (Y).va) ∧ wz.cell? ⟨wy.heap.size, 3, none⟩ = some (.int .i64 (Y).vi) ∧ wy.heap.size < wz.heap.size) ∧ Below w15.heap.size w15 wz)) := ⟨_, rfl⟩; have HCl := Lib.hid hCl; clear hCl; refine wp_region_eff [] Cl (by kernel_rfl) (by kernel_rfl) (by rw [HCl.out]; (try simp only [List.nil_append, List.cons_append]); (try dsimp only); ((repeat' apply And.intro) <;> first | (simp [go_sem, *]; done) | omega | (repeat' (first | with_reducible exact Below.refl _ _ | with_reducible assumption | ((with_reducible refine Below.drew ?_)) | ((with_reducible refine below_drewN ?_ _)) | ((with_reducible refine Below.alloc ?_ ?_ _); rotate_left; focus (first | omega | (simp; done) | (simp; omega))) | ((with_reducible refine Below.setCell ?_ ?_ _); rotate_left; focus (first | omega | (simp; done) | (simp; omega))) | ((with_reducible refine Below.trans ?_ (Below.mono (by with_reducible assumption) ?_)); rotate_left; focus (first | omega | (simp; done) | (simp; omega))))))) ?_
              (repeat (first | (refine wE_skip (by rfl) ?_; simp only [Act.put, Nat.reduceAdd, List.setIfInBounds_toArray, List.set_cons_zero, List.set_cons_succ, List.nil_append, List.cons_append]) | (refine wE_open (by rfl) (by rfl) ?_; apply Exists.intro; refine ⟨fun vs wq hw => ?_, ?_⟩; (focus (rw [HCl.out] at hw; (try simp only [List.nil_append, List.cons_append] at hw); (try dsimp only at hw); go_split_ands; go_simp <;> first | with_reducible exact (rfl : Value.bool false = _) | with_reducible exact (rfl : Value.bool true = _) | ((try go_bits) <;> exact rfl))); simp only [Act.put, Nat.reduceAdd, List.setIfInBounds_toArray, List.set_cons_zero, List.set_cons_succ, List.nil_append, List.cons_append]) | (refine wE_seal (by rfl) (by rfl) (by kernel_rfl) ?_; apply Exists.intro; refine ⟨fun wq hw => ?_, ?_⟩; (focus (rw [HCl.out] at hw; (try simp only [List.nil_append, List.cons_append] at hw); (try dsimp only at hw); go_split_ands; go_simp <;> (try go_bits) <;> exact rfl)); simp only [Act.put, Nat.reduceAdd, List.setIfInBounds_toArray, List.set_cons_zero, List.set_cons_succ, List.nil_append, List.cons_append]) | (refine wE_seal (by rfl) (by rfl) (by kernel_rfl) ?_; apply Exists.intro; refine ⟨fun wq hw => ?_, ?_⟩; (focus (rw [HCl.out] at hw; (try simp only [List.nil_append, List.cons_append] at hw); (try dsimp only at hw); go_split_ands; go_simp; fail)); simp only [Act.put, Nat.reduceAdd, List.setIfInBounds_toArray, List.set_cons_zero, List.set_cons_succ, List.nil_append, List.cons_append]) | (refine wE_eff (by rfl) (by rfl) (fun wq hw => ?_) (fun u hu => ?_); (focus (rw [HCl.out] at hw; (try simp only [List.nil_append, List.cons_append] at hw); (try dsimp only at hw); go_split_ands; go_simp; rw [HCl.out]; (try simp only [List.nil_append, List.cons_append]); (try dsimp only); fail; ((repeat' apply And.intro) <;> first | (simp [go_sem, *]; done) | omega | (repeat' (first | with_reducible exact Below.refl _ _ | with_reducible assumption | ((with_reducible refine Below.drew ?_)) | ((with_reducible refine below_drewN ?_ _)) | ((with_reducible refine Below.alloc ?_ ?_ _); rotate_left; focus (first | omega | (simp; done) | (simp; omega))) | ((with_reducible refine Below.setCell ?_ ?_ _); rotate_left; focus (first | omega | (simp; done) | (simp; omega))) | ((with_reducible refine Below.trans ?_ (Below.mono (by with_reducible assumption) ?_)); rotate_left; focus (first | omega | (simp; done) | (simp; omega)))))))); clear hu; simp only [Act.put, Nat.reduceAdd, List.setIfInBounds_toArray, List.set_cons_zero, List.set_cons_succ, List.nil_append, List.cons_append])))
              refine wE_nil ?_; intro w' hw; rw [HCl.out] at hw; (try simp only [List.nil_append, List.cons_append] at hw); (try dsimp only at hw); clear HCl
              go_split_ands
              rename Below w15.heap.size w15 _ => hbq
              go_wp2
              go_roundg (N - (i3 + 1))
              case rel => exact ⟨i3 + 1, by first | rfl | go_num | (congr 1; omega), by omega, Nat.le_refl _, hbq⟩
              case measure => omega
            · have hie : i3 = N := by omega
              subst hie
              have hF : (wy.cell? ⟨w10.heap.size, 0, none⟩ = some (.int .u64 (X1).ka) ∧ wy.cell? ⟨w10.heap.size, 1, none⟩ = some (.int .i64 (X1).ki) ∧ wy.cell? ⟨w10.heap.size, 2, none⟩ = some (.int .u64 (X1).va) ∧ wy.cell? ⟨w10.heap.size, 3, none⟩ = some (.int .i64 (X1).vi) ∧ w10.heap.size < wy.heap.size) ∧ (wy.cell? ⟨w11.heap.size, 0, none⟩ = some (.int .u64 (X1).ka) ∧ wy.cell? ⟨w11.heap.size, 1, none⟩ = some (.int .i64 (X1).ki) ∧ wy.cell? ⟨w11.heap.size, 2, none⟩ = some (.int .u64 (X1).va) ∧ wy.cell? ⟨w11.heap.size, 3, none⟩ = some (.int .i64 (X1).vi) ∧ w11.heap.size < wy.heap.size) ∧ (wy.cell? ⟨w12.heap.size, 0, none⟩ = some (.int .u64 (X2).ka) ∧ wy.cell? ⟨w12.heap.size, 1, none⟩ = some (.int .i64 (X2).ki) ∧ wy.cell? ⟨w12.heap.size, 2, none⟩ = some (.int .u64 (X2).va) ∧ wy.cell? ⟨w12.heap.size, 3, none⟩ = some (.int .i64 (X2).vi) ∧ w12.heap.size < wy.heap.size) ∧ (wy.cell? ⟨w13.heap.size, 0, none⟩ = some (.int .u64 (X2).ka) ∧ wy.cell? ⟨w13.heap.size, 1, none⟩ = some (.int .i64 (X2).ki) ∧ wy.cell? ⟨w13.heap.size, 2, none⟩ = some (.int .u64 (X2).va) ∧ wy.cell? ⟨w13.heap.size, 3, none⟩ = some (.int .i64 (X2).vi) ∧ w13.heap.size < wy.heap.size) := (by obtain ⟨hcc, hff⟩ := bcell hBy; ((repeat' apply And.intro) <;> first | (simp [go_sem, *]; done) | omega | (repeat' (first | with_reducible exact Below.refl _ _ | with_reducible assumption | ((with_reducible refine Below.drew ?_)) | ((with_reducible refine below_drewN ?_ _)) | ((with_reducible refine Below.alloc ?_ ?_ _); rotate_left; focus (first | omega | (simp; done) | (simp; omega))) | ((with_reducible refine Below.setCell ?_ ?_ _); rotate_left; focus (first | omega | (simp; done) | (simp; omega))) | ((with_reducible refine Below.trans ?_ (Below.mono (by with_reducible assumption) ?_)); rotate_left; focus (first | omega | (simp; done) | (simp; omega)))))))
              go_split_ands
              clear hBy
              go_wp2_with (first | go_guarded | (go_at_call 12; ((with_reducible refine (three_c _).mono ?_); rintro e w20 ⟨rfl, hbel⟩; obtain ⟨hcc, hff⟩ := bcell hbel; have hsz := hbel.size; (try simp at hsz); have hF : Below wy.heap.size wy w20 := (by ((repeat' apply And.intro) <;> first | (simp [go_sem, *]; done) | omega | (repeat' (first | with_reducible exact Below.refl _ _ | with_reducible assumption | ((with_reducible refine Below.drew ?_)) | ((with_reducible refine below_drewN ?_ _)) | ((with_reducible refine Below.alloc ?_ ?_ _); rotate_left; focus (first | omega | (simp; done) | (simp; omega))) | ((with_reducible refine Below.setCell ?_ ?_ _); rotate_left; focus (first | omega | (simp; done) | (simp; omega))) | ((with_reducible refine Below.trans ?_ (Below.mono (by with_reducible assumption) ?_)); rotate_left; focus (first | omega | (simp; done) | (simp; omega))))))); go_split_ands; clear hcc hff hbel)))
              go_ret
              refine ⟨rfl, ?_⟩
              have hb := HS15.out.s1.hb.trans (HBY.out.mono HS15.out.s1.hb.size)
              exact hb.trans (Below.mono (by with_reducible assumption) hb.size)
end Go.Proofs.Ytikmdkmejbcmmaa
