/- Parse of Line is the event. -/
import Derived.Test.YtdiniaokkdcihaaDoorTx35
import Derived.Test.YtdiniaokkdcihaaDoorTx41
namespace Go.Proofs.YtdiniaokkdcihaaDoor
set_option linter.unusedVariables false
set_option linter.unusedSimpArgs false
set_option maxRecDepth 100000
open Go.RowKit Fg Reg
attribute [local irreducible] Reg.wE

theorem cut_none (x : List UInt8) (h : (32 : UInt8) ∉ x) : cutL 32 x = [x] := by
  induction x with
  | nil => rfl
  | cons b t ih =>
    have hb : ¬ b = 32 := fun e => h (by rw [e]; simp)
    have ht := ih (fun e => h (by simp [e]))
    simp only [cutL, if_neg hb, ht]
theorem cut_app (x r : List UInt8) (h : (32 : UInt8) ∉ x) : cutL 32 (x ++ 32 :: r) = x :: cutL 32 r := by
  induction x with
  | nil => simp [cutL]
  | cons b t ih =>
    have hb : ¬ b = 32 := fun e => h (by rw [e]; simp)
    have ht := ih (fun e => h (by simp [e]))
    simp only [List.cons_append, cutL, if_neg hb, ht]
theorem cut_tail (x : List UInt8) (r : List (List UInt8)) (h : (32 : UInt8) ∉ x) (hr : ∀ y ∈ r, (32 : UInt8) ∉ y) : cutL 32 (x ++ Lib.joinTail [32] r) = x :: r := by
  induction r generalizing x with
  | nil =>
    have : Lib.joinTail [32] [] = [] := rfl
    rw [this, List.append_nil]
    exact cut_none x h
  | cons y t ih =>
    have : Lib.joinTail [32] (y :: t) = 32 :: (y ++ Lib.joinTail [32] t) := by simp [Lib.joinTail]
    rw [this, cut_app x _ h, ih y (hr y (by simp)) (fun z hz => hr z (by simp [hz]))]
theorem cut_join (x : List UInt8) (r : List (List UInt8)) (h : ∀ y ∈ x :: r, (32 : UInt8) ∉ y) : cutL 32 (Lib.join (x :: r) [32]) = x :: r := by
  rw [Lib.join_cons]
  exact cut_tail x r (h x (by simp)) (fun y hy => h y (by simp [hy]))
theorem dig_no (v : Int) : (32 : UInt8) ∉ dig v := fun h => by
  have := List.all_eq_true.1 (dec_all v.toNat) 32 h
  exact absurd this (by decide)
theorem dig_ne (v : Int) : (dig v).isEmpty = false := by
  have := dec_ne v.toNat
  unfold dig
  cases h : Lib.decDigits v.toNat with
  | nil => exact absurd h this
  | cons _ _ => rfl
theorem ne_dig (v most : Int) (h0 : 0 ≤ v) (h : v ≤ most) (hm : most < 18446744073709551616) : ne 0 (dig v) most = 0 ∧ nv 0 (dig v) most = v := by
  unfold ne nv dig
  rw [if_pos rfl, if_pos rfl]
  have hv : ((v.toNat : Nat) : Int) = v := by omega
  have h1 := numE_dec v.toNat most (by omega) hm
  have h2 := numV_dec v.toNat most (by omega) hm
  rw [hv] at h2
  exact ⟨h1, h2⟩
theorem dig_short9 (v : Int) (h0 : 0 ≤ v) (h1 : v < 18446744073709551616) : (dig v).length ≤ 20 := dec_short v h0 h1
theorem join_len300 (ls : List (List UInt8)) (hl : ls.length ≤ 11) (h : ∀ x ∈ ls, x.length ≤ 20) : (Lib.join ls [32]).length ≤ 300 := by
  cases ls with
  | nil => simp [Lib.join_nil]
  | cons x r =>
    have h2 := lens_small _ h
    rw [Lib.join_length]
    simp only [List.length_cons, List.length_nil] at *
    omega
theorem back_in (op tm cls id ln a b c d : Int) (hop : 0 ≤ op ∧ op < 9223372036854775808) (htm : 0 ≤ tm ∧ tm < 18446744073709551616) (hcls : 0 ≤ cls ∧ cls < 9223372036854775808) (hid : 0 ≤ id ∧ id < 18446744073709551616) (hln : 0 ≤ ln ∧ ln < 9223372036854775808)
    (ha : 0 ≤ a ∧ a < 65536) (hb : 0 ≤ b ∧ b < 65536) (hc : 0 ≤ c ∧ c < 65536) (hd : 0 ≤ d ∧ d < 65536) (w : World) :
    Calls Tryd.prog 24 #[.string (joinB [dig op, [105, 110], dig tm, dig cls, dig id, dig ln, dig a, dig b, dig c, dig d])] w fun ee w' => ee = .returned (.tuple #[.agg #[.int .i64 ((⟨op, true, false, tm, 0, cls, id, ln, a, b, c, d⟩ : Ev)).op, .bool ((⟨op, true, false, tm, 0, cls, id, ln, a, b, c, d⟩ : Ev)).inn, .bool ((⟨op, true, false, tm, 0, cls, id, ln, a, b, c, d⟩ : Ev)).real, .int .u64 ((⟨op, true, false, tm, 0, cls, id, ln, a, b, c, d⟩ : Ev)).tm, .int .u64 ((⟨op, true, false, tm, 0, cls, id, ln, a, b, c, d⟩ : Ev)).dn, .int .i64 ((⟨op, true, false, tm, 0, cls, id, ln, a, b, c, d⟩ : Ev)).cls, .int .u64 ((⟨op, true, false, tm, 0, cls, id, ln, a, b, c, d⟩ : Ev)).id, .int .i64 ((⟨op, true, false, tm, 0, cls, id, ln, a, b, c, d⟩ : Ev)).ln, .int .u16 ((⟨op, true, false, tm, 0, cls, id, ln, a, b, c, d⟩ : Ev)).a, .int .u16 ((⟨op, true, false, tm, 0, cls, id, ln, a, b, c, d⟩ : Ev)).b, .int .u16 ((⟨op, true, false, tm, 0, cls, id, ln, a, b, c, d⟩ : Ev)).c, .int .u16 ((⟨op, true, false, tm, 0, cls, id, ln, a, b, c, d⟩ : Ev)).d], .int .i64 (0)]) ∧ Below w.heap.size w w' := by
  have l0 := dig_short9 op (by omega) (by omega)
  have l1 := dig_short9 tm (by omega) (by omega)
  have l2 := dig_short9 cls (by omega) (by omega)
  have l3 := dig_short9 id (by omega) (by omega)
  have l4 := dig_short9 ln (by omega) (by omega)
  have l5 := dig_short9 a (by omega) (by omega)
  have l6 := dig_short9 b (by omega) (by omega)
  have l7 := dig_short9 c (by omega) (by omega)
  have l8 := dig_short9 d (by omega) (by omega)
  have hS : (joinB [dig op, [105, 110], dig tm, dig cls, dig id, dig ln, dig a, dig b, dig c, dig d]).size ≤ 300 := by
    have := join_len300 [dig op, [105, 110], dig tm, dig cls, dig id, dig ln, dig a, dig b, dig c, dig d] (by simp) (fun x hx => by
      simp only [List.mem_cons, List.not_mem_nil, or_false] at hx
      rcases hx with rfl | rfl | rfl | rfl | rfl | rfl | rfl | rfl | rfl | rfl <;> first | assumption | simp)
    unfold joinB
    show (Lib.join _ _).toArray.size ≤ 300
    rw [List.size_toArray]; exact this
  have hcut : cutL 32 (joinB [dig op, [105, 110], dig tm, dig cls, dig id, dig ln, dig a, dig b, dig c, dig d]).data.toList = [dig op, [105, 110], dig tm, dig cls, dig id, dig ln, dig a, dig b, dig c, dig d] := by
    unfold joinB
    exact cut_join _ _ (fun x hx => by
      simp only [List.mem_cons, List.not_mem_nil, or_false] at hx
      rcases hx with rfl | rfl | rfl | rfl | rfl | rfl | rfl | rfl | rfl | rfl <;> first | exact dig_no _ | decide)
  have hsh : shp [dig op, [105, 110], dig tm, dig cls, dig id, dig ln, dig a, dig b, dig c, dig d] = true := by
    unfold shp
    simp [dig_ne]
  have h := parse_in _ hS [105, 110] (dig op) (dig tm) (dig cls) (dig id) (dig ln) (dig a) (dig b) (dig c) (dig d) (by decide) (by decide) hcut hsh (fun x hx => by
    simp only [List.mem_cons, List.not_mem_nil, or_false] at hx
    rcases hx with rfl | rfl | rfl | rfl | rfl | rfl | rfl | rfl | rfl <;> omega) w
  have e0 := ne_dig op 9223372036854775807 (by omega) (by omega) (by omega)
  have e1 := ne_dig tm 18446744073709551615 (by omega) (by omega) (by omega)
  have e2 := ne_dig cls 9223372036854775807 (by omega) (by omega) (by omega)
  have e3 := ne_dig id 18446744073709551615 (by omega) (by omega) (by omega)
  have e4 := ne_dig ln 9223372036854775807 (by omega) (by omega) (by omega)
  have e5 := ne_dig a 65535 (by omega) (by omega) (by omega)
  have e6 := ne_dig b 65535 (by omega) (by omega) (by omega)
  have e7 := ne_dig c 65535 (by omega) (by omega) (by omega)
  have e8 := ne_dig d 65535 (by omega) (by omega) (by omega)
  simp only [e0.1, e0.2, e1.1, e1.2, e2.1, e2.2, e3.1, e3.2, e4.1, e4.2, e5.1, e5.2, e6.1, e6.2, e7.1, e7.2, e8.1, e8.2, if_true] at h
  exact h
end Go.Proofs.YtdiniaokkdcihaaDoor
