/- capture.put, cut, sizeMay and check. -/
import Derived.Test.YtnfhiagbbmaobaaCp0
import Derived.Test.YtnfhiagbbmaobaaIp7
import Derived.Test.YtnfhiagbbmaobaaBytes
namespace Go.Proofs.Ytnfhiagbbmaobaa
set_option linter.unusedVariables false
set_option linter.unusedSimpArgs false
set_option maxRecDepth 100000
open Go.RowKit Fg Reg
attribute [local irreducible] Reg.wE Reg2.wT World.ownsRow

theorem row_al {w : World} {base : Nat} {e : TypeId} {size n : Nat} {v : Value} {xs : List Value} (h : w.ownsRow base e size v n xs) (o : Obj) : (w.alloc o).ownsRow base e size v n xs := row_bel h (Below.alloc (Below.refl _ _) (Nat.le_refl _) o)
set_option maxHeartbeats 8000000 in
theorem cput8_c (x : Int) (hx : 0 ≤ x ∧ x ≤ 18446744073709551615) {z : World} {B : Nat} {v : Value} {l : List Int} (h : BS z B v l) (hl : l.length ≤ 999999000) (hB : B ≤ z.heap.size) :
    Calls Try.prog 57 #[v, .int .u64 x, .int .i64 8] z (fun e z' => ∃ v', e = .returned v' ∧ BS z' B v' (l ++ by8 x) ∧ GW v z v' z') := by
  obtain ⟨ie, HI0, HZ0, HZ1, HZ2⟩ := u8_parts
  have hO0 := h
  have O0 := GW.refl v z
  clear h
  go_enter Try.func57, Try.ntmps57
  go_wp2_with fail
  refine wp_loop_rounds 9 ?_
  rw [rounds_succ]
  go_wp2_with (at_builtin; refine wpList_append_bs rfl _ _ 43 rfl B 5 ie (.int .u8 0) Try.underlying43 HI0 HZ0 HZ1 HZ2 rfl _ _ rfl (hO0.alloc _) ⟨_, 0, none⟩ 1 (x / 72057594037927936) rfl ?c01 ?c02 ?c03 ?_)
  case c01 => simp [go_sem]
  case c02 => (simp; omega)
  case c03 => (have := O0.only.size; simp; omega)
  intro v1 z1 hO1 hg1
  have O1 := (O0.alloc (.cells #[.int .u8 (x / 72057594037927936)] 5)).trans hg1
  go_wp2
  rw [rounds_succ]
  go_wp2_with (at_builtin; refine wpList_append_bs rfl _ _ 43 rfl B 5 ie (.int .u8 0) Try.underlying43 HI0 HZ0 HZ1 HZ2 rfl _ _ rfl (hO1.alloc _) ⟨_, 0, none⟩ 1 (x / 281474976710656 % 256) rfl ?c11 ?c12 ?c13 ?_)
  case c11 => simp [go_sem]
  case c12 => (simp; omega)
  case c13 => (have := O1.only.size; simp; omega)
  intro v2 z2 hO2 hg2
  have O2 := (O1.alloc (.cells #[.int .u8 (x / 281474976710656 % 256)] 5)).trans hg2
  go_wp2
  rw [rounds_succ]
  go_wp2_with (at_builtin; refine wpList_append_bs rfl _ _ 43 rfl B 5 ie (.int .u8 0) Try.underlying43 HI0 HZ0 HZ1 HZ2 rfl _ _ rfl (hO2.alloc _) ⟨_, 0, none⟩ 1 (x / 1099511627776 % 256) rfl ?c21 ?c22 ?c23 ?_)
  case c21 => simp [go_sem]
  case c22 => (simp; omega)
  case c23 => (have := O2.only.size; simp; omega)
  intro v3 z3 hO3 hg3
  have O3 := (O2.alloc (.cells #[.int .u8 (x / 1099511627776 % 256)] 5)).trans hg3
  go_wp2
  rw [rounds_succ]
  go_wp2_with (at_builtin; refine wpList_append_bs rfl _ _ 43 rfl B 5 ie (.int .u8 0) Try.underlying43 HI0 HZ0 HZ1 HZ2 rfl _ _ rfl (hO3.alloc _) ⟨_, 0, none⟩ 1 (x / 4294967296 % 256) rfl ?c31 ?c32 ?c33 ?_)
  case c31 => simp [go_sem]
  case c32 => (simp; omega)
  case c33 => (have := O3.only.size; simp; omega)
  intro v4 z4 hO4 hg4
  have O4 := (O3.alloc (.cells #[.int .u8 (x / 4294967296 % 256)] 5)).trans hg4
  go_wp2
  rw [rounds_succ]
  go_wp2_with (at_builtin; refine wpList_append_bs rfl _ _ 43 rfl B 5 ie (.int .u8 0) Try.underlying43 HI0 HZ0 HZ1 HZ2 rfl _ _ rfl (hO4.alloc _) ⟨_, 0, none⟩ 1 (x / 16777216 % 256) rfl ?c41 ?c42 ?c43 ?_)
  case c41 => simp [go_sem]
  case c42 => (simp; omega)
  case c43 => (have := O4.only.size; simp; omega)
  intro v5 z5 hO5 hg5
  have O5 := (O4.alloc (.cells #[.int .u8 (x / 16777216 % 256)] 5)).trans hg5
  go_wp2
  rw [rounds_succ]
  go_wp2_with (at_builtin; refine wpList_append_bs rfl _ _ 43 rfl B 5 ie (.int .u8 0) Try.underlying43 HI0 HZ0 HZ1 HZ2 rfl _ _ rfl (hO5.alloc _) ⟨_, 0, none⟩ 1 (x / 65536 % 256) rfl ?c51 ?c52 ?c53 ?_)
  case c51 => simp [go_sem]
  case c52 => (simp; omega)
  case c53 => (have := O5.only.size; simp; omega)
  intro v6 z6 hO6 hg6
  have O6 := (O5.alloc (.cells #[.int .u8 (x / 65536 % 256)] 5)).trans hg6
  go_wp2
  rw [rounds_succ]
  go_wp2_with (at_builtin; refine wpList_append_bs rfl _ _ 43 rfl B 5 ie (.int .u8 0) Try.underlying43 HI0 HZ0 HZ1 HZ2 rfl _ _ rfl (hO6.alloc _) ⟨_, 0, none⟩ 1 (x / 256 % 256) rfl ?c61 ?c62 ?c63 ?_)
  case c61 => simp [go_sem]
  case c62 => (simp; omega)
  case c63 => (have := O6.only.size; simp; omega)
  intro v7 z7 hO7 hg7
  have O7 := (O6.alloc (.cells #[.int .u8 (x / 256 % 256)] 5)).trans hg7
  go_wp2
  rw [rounds_succ]
  go_wp2_with (at_builtin; refine wpList_append_bs rfl _ _ 43 rfl B 5 ie (.int .u8 0) Try.underlying43 HI0 HZ0 HZ1 HZ2 rfl _ _ rfl (hO7.alloc _) ⟨_, 0, none⟩ 1 (x % 256) rfl ?c71 ?c72 ?c73 ?_)
  case c71 => simp [go_sem]
  case c72 => (simp; omega)
  case c73 => (have := O7.only.size; simp; omega)
  intro v8 z8 hO8 hg8
  have O8 := (O7.alloc (.cells #[.int .u8 (x % 256)] 5)).trans hg8
  go_wp2
  rw [rounds_succ]
  go_wp2
  have e0 : x / 72057594037927936 % 256 = x / 72057594037927936 := by omega
  have hfin : BS z8 B v8 (l ++ by8 x) := by have h := hO8; simpa [by8, e0] using h
  go_ret
  exact ⟨_, rfl, hfin, O8⟩
set_option maxHeartbeats 8000000 in
theorem cput2_c (x : Int) (hx : 0 ≤ x ∧ x ≤ 18446744073709551615) {z : World} {B : Nat} {v : Value} {l : List Int} (h : BS z B v l) (hl : l.length ≤ 999999000) (hB : B ≤ z.heap.size) :
    Calls Try.prog 57 #[v, .int .u64 x, .int .i64 2] z (fun e z' => ∃ v', e = .returned v' ∧ BS z' B v' (l ++ by2 x) ∧ GW v z v' z') := by
  obtain ⟨ie, HI0, HZ0, HZ1, HZ2⟩ := u8_parts
  have hO0 := h
  have O0 := GW.refl v z
  clear h
  go_enter Try.func57, Try.ntmps57
  go_wp2_with fail
  refine wp_loop_rounds 3 ?_
  rw [rounds_succ]
  go_wp2_with (at_builtin; refine wpList_append_bs rfl _ _ 43 rfl B 5 ie (.int .u8 0) Try.underlying43 HI0 HZ0 HZ1 HZ2 rfl _ _ rfl (hO0.alloc _) ⟨_, 0, none⟩ 1 (x / 256 % 256) rfl ?c01 ?c02 ?c03 ?_)
  case c01 => simp [go_sem]
  case c02 => (simp; omega)
  case c03 => (have := O0.only.size; simp; omega)
  intro v1 z1 hO1 hg1
  have O1 := (O0.alloc (.cells #[.int .u8 (x / 256 % 256)] 5)).trans hg1
  go_wp2
  rw [rounds_succ]
  go_wp2_with (at_builtin; refine wpList_append_bs rfl _ _ 43 rfl B 5 ie (.int .u8 0) Try.underlying43 HI0 HZ0 HZ1 HZ2 rfl _ _ rfl (hO1.alloc _) ⟨_, 0, none⟩ 1 (x % 256) rfl ?c11 ?c12 ?c13 ?_)
  case c11 => simp [go_sem]
  case c12 => (simp; omega)
  case c13 => (have := O1.only.size; simp; omega)
  intro v2 z2 hO2 hg2
  have O2 := (O1.alloc (.cells #[.int .u8 (x % 256)] 5)).trans hg2
  go_wp2
  rw [rounds_succ]
  go_wp2
  have e0 : x / 72057594037927936 % 256 = x / 72057594037927936 := by omega
  have hfin : BS z2 B v2 (l ++ by2 x) := by have h := hO2; simpa [by2, e0] using h
  go_ret
  exact ⟨_, rfl, hfin, O2⟩
set_option maxHeartbeats 8000000 in
theorem ccut8_c (S : ByteArray) (hS : 8 ≤ S.size) (hM : S.size ≤ 9223372036854775807) (w : World) : Calls Try.prog 72 #[.string S, .int .i64 8] w fun ee w' => ee = .returned (.tuple #[.int .u64 (nat S 0 8), .string (S.extract 8 S.size)]) ∧ Below w.heap.size w w' := by
  have hSi : (8 : Int) ≤ S.size := by omega
  have s0 : ∀ (h : 0 < S.size), (S[0]'h).toNat = (S.data[0]?.getD 0).toNat := fun h => by rw [Array.getElem?_eq_getElem (show 0 < S.data.size from h)]; rfl
  have b0 := byt_bd S 0
  have e0 : byt S 0 = ((S.data[0]?.getD 0).toNat : Int) := rfl
  have l0 : (0 : Int) < S.size := by omega
  have s1 : ∀ (h : 1 < S.size), (S[1]'h).toNat = (S.data[1]?.getD 0).toNat := fun h => by rw [Array.getElem?_eq_getElem (show 1 < S.data.size from h)]; rfl
  have b1 := byt_bd S 1
  have e1 : byt S 1 = ((S.data[1]?.getD 0).toNat : Int) := rfl
  have l1 : (1 : Int) < S.size := by omega
  have s2 : ∀ (h : 2 < S.size), (S[2]'h).toNat = (S.data[2]?.getD 0).toNat := fun h => by rw [Array.getElem?_eq_getElem (show 2 < S.data.size from h)]; rfl
  have b2 := byt_bd S 2
  have e2 : byt S 2 = ((S.data[2]?.getD 0).toNat : Int) := rfl
  have l2 : (2 : Int) < S.size := by omega
  have s3 : ∀ (h : 3 < S.size), (S[3]'h).toNat = (S.data[3]?.getD 0).toNat := fun h => by rw [Array.getElem?_eq_getElem (show 3 < S.data.size from h)]; rfl
  have b3 := byt_bd S 3
  have e3 : byt S 3 = ((S.data[3]?.getD 0).toNat : Int) := rfl
  have l3 : (3 : Int) < S.size := by omega
  have s4 : ∀ (h : 4 < S.size), (S[4]'h).toNat = (S.data[4]?.getD 0).toNat := fun h => by rw [Array.getElem?_eq_getElem (show 4 < S.data.size from h)]; rfl
  have b4 := byt_bd S 4
  have e4 : byt S 4 = ((S.data[4]?.getD 0).toNat : Int) := rfl
  have l4 : (4 : Int) < S.size := by omega
  have s5 : ∀ (h : 5 < S.size), (S[5]'h).toNat = (S.data[5]?.getD 0).toNat := fun h => by rw [Array.getElem?_eq_getElem (show 5 < S.data.size from h)]; rfl
  have b5 := byt_bd S 5
  have e5 : byt S 5 = ((S.data[5]?.getD 0).toNat : Int) := rfl
  have l5 : (5 : Int) < S.size := by omega
  have s6 : ∀ (h : 6 < S.size), (S[6]'h).toNat = (S.data[6]?.getD 0).toNat := fun h => by rw [Array.getElem?_eq_getElem (show 6 < S.data.size from h)]; rfl
  have b6 := byt_bd S 6
  have e6 : byt S 6 = ((S.data[6]?.getD 0).toNat : Int) := rfl
  have l6 : (6 : Int) < S.size := by omega
  have s7 : ∀ (h : 7 < S.size), (S[7]'h).toNat = (S.data[7]?.getD 0).toNat := fun h => by rw [Array.getElem?_eq_getElem (show 7 < S.data.size from h)]; rfl
  have b7 := byt_bd S 7
  have e7 : byt S 7 = ((S.data[7]?.getD 0).toNat : Int) := rfl
  have l7 : (7 : Int) < S.size := by omega
  have hh : nat S 0 8 = ((((((byt S 0 * 256 + byt S 1) * 256 + byt S 2) * 256 + byt S 3) * 256 + byt S 4) * 256 + byt S 5) * 256 + byt S 6) * 256 + byt S 7 := by simp [nat, hor]
  rw [hh]
  clear hh
  rw [e0] at b0 ⊢
  rw [e1] at b1 ⊢
  rw [e2] at b2 ⊢
  rw [e3] at b3 ⊢
  rw [e4] at b4 ⊢
  rw [e5] at b5 ⊢
  rw [e6] at b6 ⊢
  rw [e7] at b7 ⊢
  generalize (S.data[0]?.getD 0).toNat = x0 at *
  generalize (S.data[1]?.getD 0).toNat = x1 at *
  generalize (S.data[2]?.getD 0).toNat = x2 at *
  generalize (S.data[3]?.getD 0).toNat = x3 at *
  generalize (S.data[4]?.getD 0).toNat = x4 at *
  generalize (S.data[5]?.getD 0).toNat = x5 at *
  generalize (S.data[6]?.getD 0).toNat = x6 at *
  generalize (S.data[7]?.getD 0).toNat = x7 at *
  clear e0 e1 e2 e3 e4 e5 e6 e7
  have o1 := or_byte (v := (x0 : Int)) (x := (x1 : Int)) (by omega) (by omega) (by omega)
  have w1 : IntKind.u64.wrap (((x0 : Int)) * 256) = ((x0 : Int)) * 256 := by rw [wrap_u64]; omega
  have o2 := or_byte (v := ((x0 : Int)) * 256 + (x1 : Int)) (x := (x2 : Int)) (by omega) (by omega) (by omega)
  have w2 : IntKind.u64.wrap ((((x0 : Int)) * 256 + (x1 : Int)) * 256) = (((x0 : Int)) * 256 + (x1 : Int)) * 256 := by rw [wrap_u64]; omega
  have o3 := or_byte (v := (((x0 : Int)) * 256 + (x1 : Int)) * 256 + (x2 : Int)) (x := (x3 : Int)) (by omega) (by omega) (by omega)
  have w3 : IntKind.u64.wrap (((((x0 : Int)) * 256 + (x1 : Int)) * 256 + (x2 : Int)) * 256) = ((((x0 : Int)) * 256 + (x1 : Int)) * 256 + (x2 : Int)) * 256 := by rw [wrap_u64]; omega
  have o4 := or_byte (v := ((((x0 : Int)) * 256 + (x1 : Int)) * 256 + (x2 : Int)) * 256 + (x3 : Int)) (x := (x4 : Int)) (by omega) (by omega) (by omega)
  have w4 : IntKind.u64.wrap ((((((x0 : Int)) * 256 + (x1 : Int)) * 256 + (x2 : Int)) * 256 + (x3 : Int)) * 256) = (((((x0 : Int)) * 256 + (x1 : Int)) * 256 + (x2 : Int)) * 256 + (x3 : Int)) * 256 := by rw [wrap_u64]; omega
  have o5 := or_byte (v := (((((x0 : Int)) * 256 + (x1 : Int)) * 256 + (x2 : Int)) * 256 + (x3 : Int)) * 256 + (x4 : Int)) (x := (x5 : Int)) (by omega) (by omega) (by omega)
  have w5 : IntKind.u64.wrap (((((((x0 : Int)) * 256 + (x1 : Int)) * 256 + (x2 : Int)) * 256 + (x3 : Int)) * 256 + (x4 : Int)) * 256) = ((((((x0 : Int)) * 256 + (x1 : Int)) * 256 + (x2 : Int)) * 256 + (x3 : Int)) * 256 + (x4 : Int)) * 256 := by rw [wrap_u64]; omega
  have o6 := or_byte (v := ((((((x0 : Int)) * 256 + (x1 : Int)) * 256 + (x2 : Int)) * 256 + (x3 : Int)) * 256 + (x4 : Int)) * 256 + (x5 : Int)) (x := (x6 : Int)) (by omega) (by omega) (by omega)
  have w6 : IntKind.u64.wrap ((((((((x0 : Int)) * 256 + (x1 : Int)) * 256 + (x2 : Int)) * 256 + (x3 : Int)) * 256 + (x4 : Int)) * 256 + (x5 : Int)) * 256) = (((((((x0 : Int)) * 256 + (x1 : Int)) * 256 + (x2 : Int)) * 256 + (x3 : Int)) * 256 + (x4 : Int)) * 256 + (x5 : Int)) * 256 := by rw [wrap_u64]; omega
  have o7 := or_byte (v := (((((((x0 : Int)) * 256 + (x1 : Int)) * 256 + (x2 : Int)) * 256 + (x3 : Int)) * 256 + (x4 : Int)) * 256 + (x5 : Int)) * 256 + (x6 : Int)) (x := (x7 : Int)) (by omega) (by omega) (by omega)
  have w7 : IntKind.u64.wrap (((((((((x0 : Int)) * 256 + (x1 : Int)) * 256 + (x2 : Int)) * 256 + (x3 : Int)) * 256 + (x4 : Int)) * 256 + (x5 : Int)) * 256 + (x6 : Int)) * 256) = ((((((((x0 : Int)) * 256 + (x1 : Int)) * 256 + (x2 : Int)) * 256 + (x3 : Int)) * 256 + (x4 : Int)) * 256 + (x5 : Int)) * 256 + (x6 : Int)) * 256 := by rw [wrap_u64]; omega
  have o0 : bits .or .u64 0 (x0 : Int) = (x0 : Int) := by have := or_byte (v := 0) (x := (x0 : Int)) (by omega) (by omega) (by omega); simpa using this
  obtain ⟨X, hX⟩ : ∃ X, S.extract 8 S.size = X := ⟨_, rfl⟩
  rw [hX]
  go_enter Try.func72, Try.ntmps72
  go_wp2_with fail
  refine wp_loop_rounds 9 ?_
  rw [rounds_succ]
  go_wp2
  rw [rounds_succ]
  go_wp2
  rw [rounds_succ]
  go_wp2
  rw [rounds_succ]
  go_wp2
  rw [rounds_succ]
  go_wp2
  rw [rounds_succ]
  go_wp2
  rw [rounds_succ]
  go_wp2
  rw [rounds_succ]
  go_wp2
  rw [rounds_succ]
  go_wp2
  go_quiet (fail)
  go_wp2
  (go_ret2; refine ⟨?_, ?_⟩; (focus (exact rfl)); ((repeat' (first | with_reducible exact Below.refl _ _ | with_reducible assumption | ((with_reducible refine Below.drew ?_)) | ((with_reducible refine below_drewN ?_ _)) | ((with_reducible refine Below.alloc ?_ ?_ _); rotate_left; focus (first | omega | (simp; done) | (simp; omega))) | ((with_reducible refine Below.setCell ?_ ?_ _); rotate_left; focus (first | omega | (simp; done) | (simp; omega))) | ((with_reducible refine Below.trans ?_ (Below.mono (by with_reducible assumption) ?_)); rotate_left; focus (first | omega | (simp; done) | (simp; omega))))); done))
set_option maxHeartbeats 8000000 in
theorem ccut2_c (S : ByteArray) (hS : 2 ≤ S.size) (hM : S.size ≤ 9223372036854775807) (w : World) : Calls Try.prog 72 #[.string S, .int .i64 2] w fun ee w' => ee = .returned (.tuple #[.int .u64 (nat S 0 2), .string (S.extract 2 S.size)]) ∧ Below w.heap.size w w' := by
  have hSi : (2 : Int) ≤ S.size := by omega
  have s0 : ∀ (h : 0 < S.size), (S[0]'h).toNat = (S.data[0]?.getD 0).toNat := fun h => by rw [Array.getElem?_eq_getElem (show 0 < S.data.size from h)]; rfl
  have b0 := byt_bd S 0
  have e0 : byt S 0 = ((S.data[0]?.getD 0).toNat : Int) := rfl
  have l0 : (0 : Int) < S.size := by omega
  have s1 : ∀ (h : 1 < S.size), (S[1]'h).toNat = (S.data[1]?.getD 0).toNat := fun h => by rw [Array.getElem?_eq_getElem (show 1 < S.data.size from h)]; rfl
  have b1 := byt_bd S 1
  have e1 : byt S 1 = ((S.data[1]?.getD 0).toNat : Int) := rfl
  have l1 : (1 : Int) < S.size := by omega
  have hh : nat S 0 2 = byt S 0 * 256 + byt S 1 := by simp [nat, hor]
  rw [hh]
  clear hh
  rw [e0] at b0 ⊢
  rw [e1] at b1 ⊢
  generalize (S.data[0]?.getD 0).toNat = x0 at *
  generalize (S.data[1]?.getD 0).toNat = x1 at *
  clear e0 e1
  have o1 := or_byte (v := (x0 : Int)) (x := (x1 : Int)) (by omega) (by omega) (by omega)
  have w1 : IntKind.u64.wrap (((x0 : Int)) * 256) = ((x0 : Int)) * 256 := by rw [wrap_u64]; omega
  have o0 : bits .or .u64 0 (x0 : Int) = (x0 : Int) := by have := or_byte (v := 0) (x := (x0 : Int)) (by omega) (by omega) (by omega); simpa using this
  obtain ⟨X, hX⟩ : ∃ X, S.extract 2 S.size = X := ⟨_, rfl⟩
  rw [hX]
  go_enter Try.func72, Try.ntmps72
  go_wp2_with fail
  refine wp_loop_rounds 3 ?_
  rw [rounds_succ]
  go_wp2
  rw [rounds_succ]
  go_wp2
  rw [rounds_succ]
  go_wp2
  go_quiet (fail)
  go_wp2
  (go_ret2; refine ⟨?_, ?_⟩; (focus (exact rfl)); ((repeat' (first | with_reducible exact Below.refl _ _ | with_reducible assumption | ((with_reducible refine Below.drew ?_)) | ((with_reducible refine below_drewN ?_ _)) | ((with_reducible refine Below.alloc ?_ ?_ _); rotate_left; focus (first | omega | (simp; done) | (simp; omega))) | ((with_reducible refine Below.setCell ?_ ?_ _); rotate_left; focus (first | omega | (simp; done) | (simp; omega))) | ((with_reducible refine Below.trans ?_ (Below.mono (by with_reducible assumption) ?_)); rotate_left; focus (first | omega | (simp; done) | (simp; omega))))); done))
theorem smay_c (n : Int) (w : World) : Calls Try.prog 70 #[.int .i64 n] w fun ee w' => ee = .returned (.bool (decide (1 ≤ n) && decide (n ≤ 16384))) ∧ Below w.heap.size w w' := by
  by_cases h1 : 1 ≤ n
  · have d1 : decide (1 ≤ n) = true := by simpa using h1
    by_cases h2 : n ≤ 16384
    · have d2 : decide (n ≤ 16384) = true := by simpa using h2
      rw [d1, d2]
      go_enter Try.func70, Try.ntmps70
      go_wp2
      (go_ret; refine ⟨?_, ?_⟩; (focus (exact rfl)); ((repeat' (first | with_reducible exact Below.refl _ _ | with_reducible assumption | ((with_reducible refine Below.drew ?_)) | ((with_reducible refine below_drewN ?_ _)) | ((with_reducible refine Below.alloc ?_ ?_ _); rotate_left; focus (first | omega | (simp; done) | (simp; omega))) | ((with_reducible refine Below.setCell ?_ ?_ _); rotate_left; focus (first | omega | (simp; done) | (simp; omega))) | ((with_reducible refine Below.trans ?_ (Below.mono (by with_reducible assumption) ?_)); rotate_left; focus (first | omega | (simp; done) | (simp; omega))))); done))
    · have d2 : decide (n ≤ 16384) = false := by simpa using h2
      rw [d1, d2]
      go_enter Try.func70, Try.ntmps70
      go_wp2
      (go_ret; refine ⟨?_, ?_⟩; (focus (exact rfl)); ((repeat' (first | with_reducible exact Below.refl _ _ | with_reducible assumption | ((with_reducible refine Below.drew ?_)) | ((with_reducible refine below_drewN ?_ _)) | ((with_reducible refine Below.alloc ?_ ?_ _); rotate_left; focus (first | omega | (simp; done) | (simp; omega))) | ((with_reducible refine Below.setCell ?_ ?_ _); rotate_left; focus (first | omega | (simp; done) | (simp; omega))) | ((with_reducible refine Below.trans ?_ (Below.mono (by with_reducible assumption) ?_)); rotate_left; focus (first | omega | (simp; done) | (simp; omega))))); done))
  · have d1 : decide (1 ≤ n) = false := by simpa using h1
    rw [d1]
    go_enter Try.func70, Try.ntmps70
    go_wp2
    (go_ret; refine ⟨?_, ?_⟩; (focus (exact rfl)); ((repeat' (first | with_reducible exact Below.refl _ _ | with_reducible assumption | ((with_reducible refine Below.drew ?_)) | ((with_reducible refine below_drewN ?_ _)) | ((with_reducible refine Below.alloc ?_ ?_ _); rotate_left; focus (first | omega | (simp; done) | (simp; omega))) | ((with_reducible refine Below.setCell ?_ ?_ _); rotate_left; focus (first | omega | (simp; done) | (simp; omega))) | ((with_reducible refine Below.trans ?_ (Below.mono (by with_reducible assumption) ?_)); rotate_left; focus (first | omega | (simp; done) | (simp; omega))))); done))
end Go.Proofs.Ytnfhiagbbmaobaa
