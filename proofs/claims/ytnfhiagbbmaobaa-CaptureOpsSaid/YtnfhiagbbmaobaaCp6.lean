/- The reference's numbers as bytes, and bytes as numbers (captures). -/
import Derived.Test.YtnfhiagbbmaobaaCp0
import Derived.Test.YtnfhiagbbmaobaaIp4
namespace Go.Proofs.Ytnfhiagbbmaobaa
set_option linter.unusedVariables false
set_option linter.unusedSimpArgs false
set_option maxRecDepth 100000
open Go.RowKit Fg Reg
attribute [local irreducible] Reg.wE Reg2.wT World.ownsRow

set_option maxHeartbeats 4000000 in
theorem cby8_c (v : Int) (hv : 0 ≤ v ∧ v ≤ 18446744073709551615) (w : World) : Calls Try.prog 60 #[.int .u64 v, .int .i64 8] w fun ee w' => ee = .returned (.string (strOf (by8 v))) ∧ Below w.heap.size w w' := by
  have hcv := fun (W : World) (b : Nat) (hb : b = W.heap.size) (x : Int) => conv_new [x] 1 1 rfl W b hb
  simp only [List.map_cons, List.map_nil] at hcv
  have hadd := fun (x : Int) (l : List Int) (hl : l.length ≤ 8) w => run_string_add_sum (P := Try.prog) (w := w) (strOf [x]) (strOf l) (by rw [strOf_size, strOf_size]; simp; omega)
  simp only [strOf_append] at hadd
  have g0 := hadd (v % 256) [] (by simp)
  have g1 := hadd (v / 256 % 256) [v % 256] (by simp)
  have g2 := hadd (v / 65536 % 256) [v / 256 % 256, v % 256] (by simp)
  have g3 := hadd (v / 16777216 % 256) [v / 65536 % 256, v / 256 % 256, v % 256] (by simp)
  have g4 := hadd (v / 4294967296 % 256) [v / 16777216 % 256, v / 65536 % 256, v / 256 % 256, v % 256] (by simp)
  have g5 := hadd (v / 1099511627776 % 256) [v / 4294967296 % 256, v / 16777216 % 256, v / 65536 % 256, v / 256 % 256, v % 256] (by simp)
  have g6 := hadd (v / 281474976710656 % 256) [v / 1099511627776 % 256, v / 4294967296 % 256, v / 16777216 % 256, v / 65536 % 256, v / 256 % 256, v % 256] (by simp)
  have g7 := hadd (v / 72057594037927936 % 256) [v / 281474976710656 % 256, v / 1099511627776 % 256, v / 4294967296 % 256, v / 16777216 % 256, v / 65536 % 256, v / 256 % 256, v % 256] (by simp)
  simp only [List.cons_append, List.nil_append] at g0 g1 g2 g3 g4 g5 g6 g7
  rw [show strOf [] = (⟨#[]⟩ : ByteArray) from rfl] at g0
  have u0 : v / 1 / 256 = v / 256 := by omega
  have w0 : 0 ≤ v / 256 := by omega
  have m0 : v / 256 ≤ 72057594037927935 := by omega
  have u1 : v / 256 / 256 = v / 65536 := by omega
  have w1 : 0 ≤ v / 65536 := by omega
  have m1 : v / 65536 ≤ 281474976710655 := by omega
  have u2 : v / 65536 / 256 = v / 16777216 := by omega
  have w2 : 0 ≤ v / 16777216 := by omega
  have m2 : v / 16777216 ≤ 1099511627775 := by omega
  have u3 : v / 16777216 / 256 = v / 4294967296 := by omega
  have w3 : 0 ≤ v / 4294967296 := by omega
  have m3 : v / 4294967296 ≤ 4294967295 := by omega
  have u4 : v / 4294967296 / 256 = v / 1099511627776 := by omega
  have w4 : 0 ≤ v / 1099511627776 := by omega
  have m4 : v / 1099511627776 ≤ 16777215 := by omega
  have u5 : v / 1099511627776 / 256 = v / 281474976710656 := by omega
  have w5 : 0 ≤ v / 281474976710656 := by omega
  have m5 : v / 281474976710656 ≤ 65535 := by omega
  have u6 : v / 281474976710656 / 256 = v / 72057594037927936 := by omega
  have w6 : 0 ≤ v / 72057594037927936 := by omega
  have m6 : v / 72057594037927936 ≤ 255 := by omega
  have u7 : v / 72057594037927936 / 256 = v / 18446744073709551616 := by omega
  have w7 : 0 ≤ v / 18446744073709551616 := by omega
  have m7 : v / 18446744073709551616 ≤ 0 := by omega
  clear hadd
  have hby : by8 v = [v / 72057594037927936 % 256, v / 281474976710656 % 256, v / 1099511627776 % 256, v / 4294967296 % 256, v / 16777216 % 256, v / 65536 % 256, v / 256 % 256, v % 256] := rfl
  rw [hby]
  clear hby
  go_enter Try.func60, Try.ntmps60
  go_wp2_with fail
  refine wp_loop_rounds 9 ?_
  rw [rounds_succ]
  go_wp2
  rw [rounds_succ]
  go_wp2
  rw [rounds_succ]
  go_wp2
  rw [rounds_succ]
  go_wp2
  rw [rounds_succ]
  go_wp2
  rw [rounds_succ]
  go_wp2
  rw [rounds_succ]
  go_wp2
  rw [rounds_succ]
  go_wp2
  rw [rounds_succ]
  go_wp2
  (go_ret; refine ⟨?_, ?_⟩; (focus (exact rfl)); ((repeat' (first | with_reducible exact Below.refl _ _ | with_reducible assumption | ((with_reducible refine Below.drew ?_)) | ((with_reducible refine below_drewN ?_ _)) | ((with_reducible refine Below.alloc ?_ ?_ _); rotate_left; focus (first | omega | (simp; done) | (simp; omega))) | ((with_reducible refine Below.setCell ?_ ?_ _); rotate_left; focus (first | omega | (simp; done) | (simp; omega))) | ((with_reducible refine Below.trans ?_ (Below.mono (by with_reducible assumption) ?_)); rotate_left; focus (first | omega | (simp; done) | (simp; omega))))); done))
set_option maxHeartbeats 4000000 in
theorem cby2_c (v : Int) (hv : 0 ≤ v ∧ v ≤ 18446744073709551615) (w : World) : Calls Try.prog 60 #[.int .u64 v, .int .i64 2] w fun ee w' => ee = .returned (.string (strOf (by2 v))) ∧ Below w.heap.size w w' := by
  have hcv := fun (W : World) (b : Nat) (hb : b = W.heap.size) (x : Int) => conv_new [x] 1 1 rfl W b hb
  simp only [List.map_cons, List.map_nil] at hcv
  have hadd := fun (x : Int) (l : List Int) (hl : l.length ≤ 8) w => run_string_add_sum (P := Try.prog) (w := w) (strOf [x]) (strOf l) (by rw [strOf_size, strOf_size]; simp; omega)
  simp only [strOf_append] at hadd
  have g0 := hadd (v % 256) [] (by simp)
  have g1 := hadd (v / 256 % 256) [v % 256] (by simp)
  simp only [List.cons_append, List.nil_append] at g0 g1
  rw [show strOf [] = (⟨#[]⟩ : ByteArray) from rfl] at g0
  have u0 : v / 1 / 256 = v / 256 := by omega
  have w0 : 0 ≤ v / 256 := by omega
  have m0 : v / 256 ≤ 72057594037927935 := by omega
  have u1 : v / 256 / 256 = v / 65536 := by omega
  have w1 : 0 ≤ v / 65536 := by omega
  have m1 : v / 65536 ≤ 281474976710655 := by omega
  clear hadd
  have hby : by2 v = [v / 256 % 256, v % 256] := rfl
  rw [hby]
  clear hby
  go_enter Try.func60, Try.ntmps60
  go_wp2_with fail
  refine wp_loop_rounds 3 ?_
  rw [rounds_succ]
  go_wp2
  rw [rounds_succ]
  go_wp2
  rw [rounds_succ]
  go_wp2
  (go_ret; refine ⟨?_, ?_⟩; (focus (exact rfl)); ((repeat' (first | with_reducible exact Below.refl _ _ | with_reducible assumption | ((with_reducible refine Below.drew ?_)) | ((with_reducible refine below_drewN ?_ _)) | ((with_reducible refine Below.alloc ?_ ?_ _); rotate_left; focus (first | omega | (simp; done) | (simp; omega))) | ((with_reducible refine Below.setCell ?_ ?_ _); rotate_left; focus (first | omega | (simp; done) | (simp; omega))) | ((with_reducible refine Below.trans ?_ (Below.mono (by with_reducible assumption) ?_)); rotate_left; focus (first | omega | (simp; done) | (simp; omega))))); done))
set_option maxHeartbeats 4000000 in
theorem cat8_c (S : ByteArray) (p : Nat) (hS : p + 8 ≤ S.size) (hM : S.size ≤ 9000000000000000000) (w : World) : Calls Try.prog 61 #[.string S, .int .i64 p, .int .i64 8] w fun ee w' => ee = .returned (.int .u64 (nat S p 8)) ∧ Below w.heap.size w w' := by
  have s0 : ∀ (h : p < S.size), (S[p]'h).toNat = (S.data[p]?.getD 0).toNat := fun h => by rw [Array.getElem?_eq_getElem (show p < S.data.size from h)]; rfl
  have b0 := byt_bd S (p)
  have e0 : byt S (p) = ((S.data[p]?.getD 0).toNat : Int) := rfl
  have l0 : (p : Int) + 0 < S.size := by omega
  have s1 : ∀ (h : p + 1 < S.size), (S[p + 1]'h).toNat = (S.data[p + 1]?.getD 0).toNat := fun h => by rw [Array.getElem?_eq_getElem (show p + 1 < S.data.size from h)]; rfl
  have b1 := byt_bd S (p + 1)
  have e1 : byt S (p + 1) = ((S.data[p + 1]?.getD 0).toNat : Int) := rfl
  have l1 : (p : Int) + 1 < S.size := by omega
  have s2 : ∀ (h : p + 2 < S.size), (S[p + 2]'h).toNat = (S.data[p + 2]?.getD 0).toNat := fun h => by rw [Array.getElem?_eq_getElem (show p + 2 < S.data.size from h)]; rfl
  have b2 := byt_bd S (p + 2)
  have e2 : byt S (p + 2) = ((S.data[p + 2]?.getD 0).toNat : Int) := rfl
  have l2 : (p : Int) + 2 < S.size := by omega
  have s3 : ∀ (h : p + 3 < S.size), (S[p + 3]'h).toNat = (S.data[p + 3]?.getD 0).toNat := fun h => by rw [Array.getElem?_eq_getElem (show p + 3 < S.data.size from h)]; rfl
  have b3 := byt_bd S (p + 3)
  have e3 : byt S (p + 3) = ((S.data[p + 3]?.getD 0).toNat : Int) := rfl
  have l3 : (p : Int) + 3 < S.size := by omega
  have s4 : ∀ (h : p + 4 < S.size), (S[p + 4]'h).toNat = (S.data[p + 4]?.getD 0).toNat := fun h => by rw [Array.getElem?_eq_getElem (show p + 4 < S.data.size from h)]; rfl
  have b4 := byt_bd S (p + 4)
  have e4 : byt S (p + 4) = ((S.data[p + 4]?.getD 0).toNat : Int) := rfl
  have l4 : (p : Int) + 4 < S.size := by omega
  have s5 : ∀ (h : p + 5 < S.size), (S[p + 5]'h).toNat = (S.data[p + 5]?.getD 0).toNat := fun h => by rw [Array.getElem?_eq_getElem (show p + 5 < S.data.size from h)]; rfl
  have b5 := byt_bd S (p + 5)
  have e5 : byt S (p + 5) = ((S.data[p + 5]?.getD 0).toNat : Int) := rfl
  have l5 : (p : Int) + 5 < S.size := by omega
  have s6 : ∀ (h : p + 6 < S.size), (S[p + 6]'h).toNat = (S.data[p + 6]?.getD 0).toNat := fun h => by rw [Array.getElem?_eq_getElem (show p + 6 < S.data.size from h)]; rfl
  have b6 := byt_bd S (p + 6)
  have e6 : byt S (p + 6) = ((S.data[p + 6]?.getD 0).toNat : Int) := rfl
  have l6 : (p : Int) + 6 < S.size := by omega
  have s7 : ∀ (h : p + 7 < S.size), (S[p + 7]'h).toNat = (S.data[p + 7]?.getD 0).toNat := fun h => by rw [Array.getElem?_eq_getElem (show p + 7 < S.data.size from h)]; rfl
  have b7 := byt_bd S (p + 7)
  have e7 : byt S (p + 7) = ((S.data[p + 7]?.getD 0).toNat : Int) := rfl
  have l7 : (p : Int) + 7 < S.size := by omega
  have hh : nat S p 8 = ((((((byt S p * 256 + byt S (p + 1)) * 256 + byt S (p + 2)) * 256 + byt S (p + 3)) * 256 + byt S (p + 4)) * 256 + byt S (p + 5)) * 256 + byt S (p + 6)) * 256 + byt S (p + 7) := by simp [nat, hor]
  rw [hh]
  clear hh
  rw [e0] at b0 ⊢
  rw [e1] at b1 ⊢
  rw [e2] at b2 ⊢
  rw [e3] at b3 ⊢
  rw [e4] at b4 ⊢
  rw [e5] at b5 ⊢
  rw [e6] at b6 ⊢
  rw [e7] at b7 ⊢
  generalize (S.data[p]?.getD 0).toNat = x0 at *
  generalize (S.data[p + 1]?.getD 0).toNat = x1 at *
  generalize (S.data[p + 2]?.getD 0).toNat = x2 at *
  generalize (S.data[p + 3]?.getD 0).toNat = x3 at *
  generalize (S.data[p + 4]?.getD 0).toNat = x4 at *
  generalize (S.data[p + 5]?.getD 0).toNat = x5 at *
  generalize (S.data[p + 6]?.getD 0).toNat = x6 at *
  generalize (S.data[p + 7]?.getD 0).toNat = x7 at *
  clear e0 e1 e2 e3 e4 e5 e6 e7
  have w1 : IntKind.u64.wrap (((x0 : Int)) * 256) = ((x0 : Int)) * 256 := by rw [wrap_u64]; omega
  have v1 : IntKind.u64.wrap (((x0 : Int)) * 256 + (x1 : Int)) = ((x0 : Int)) * 256 + (x1 : Int) := by rw [wrap_u64]; omega
  have w2 : IntKind.u64.wrap ((((x0 : Int)) * 256 + (x1 : Int)) * 256) = (((x0 : Int)) * 256 + (x1 : Int)) * 256 := by rw [wrap_u64]; omega
  have v2 : IntKind.u64.wrap ((((x0 : Int)) * 256 + (x1 : Int)) * 256 + (x2 : Int)) = (((x0 : Int)) * 256 + (x1 : Int)) * 256 + (x2 : Int) := by rw [wrap_u64]; omega
  have w3 : IntKind.u64.wrap (((((x0 : Int)) * 256 + (x1 : Int)) * 256 + (x2 : Int)) * 256) = ((((x0 : Int)) * 256 + (x1 : Int)) * 256 + (x2 : Int)) * 256 := by rw [wrap_u64]; omega
  have v3 : IntKind.u64.wrap (((((x0 : Int)) * 256 + (x1 : Int)) * 256 + (x2 : Int)) * 256 + (x3 : Int)) = ((((x0 : Int)) * 256 + (x1 : Int)) * 256 + (x2 : Int)) * 256 + (x3 : Int) := by rw [wrap_u64]; omega
  have w4 : IntKind.u64.wrap ((((((x0 : Int)) * 256 + (x1 : Int)) * 256 + (x2 : Int)) * 256 + (x3 : Int)) * 256) = (((((x0 : Int)) * 256 + (x1 : Int)) * 256 + (x2 : Int)) * 256 + (x3 : Int)) * 256 := by rw [wrap_u64]; omega
  have v4 : IntKind.u64.wrap ((((((x0 : Int)) * 256 + (x1 : Int)) * 256 + (x2 : Int)) * 256 + (x3 : Int)) * 256 + (x4 : Int)) = (((((x0 : Int)) * 256 + (x1 : Int)) * 256 + (x2 : Int)) * 256 + (x3 : Int)) * 256 + (x4 : Int) := by rw [wrap_u64]; omega
  have w5 : IntKind.u64.wrap (((((((x0 : Int)) * 256 + (x1 : Int)) * 256 + (x2 : Int)) * 256 + (x3 : Int)) * 256 + (x4 : Int)) * 256) = ((((((x0 : Int)) * 256 + (x1 : Int)) * 256 + (x2 : Int)) * 256 + (x3 : Int)) * 256 + (x4 : Int)) * 256 := by rw [wrap_u64]; omega
  have v5 : IntKind.u64.wrap (((((((x0 : Int)) * 256 + (x1 : Int)) * 256 + (x2 : Int)) * 256 + (x3 : Int)) * 256 + (x4 : Int)) * 256 + (x5 : Int)) = ((((((x0 : Int)) * 256 + (x1 : Int)) * 256 + (x2 : Int)) * 256 + (x3 : Int)) * 256 + (x4 : Int)) * 256 + (x5 : Int) := by rw [wrap_u64]; omega
  have w6 : IntKind.u64.wrap ((((((((x0 : Int)) * 256 + (x1 : Int)) * 256 + (x2 : Int)) * 256 + (x3 : Int)) * 256 + (x4 : Int)) * 256 + (x5 : Int)) * 256) = (((((((x0 : Int)) * 256 + (x1 : Int)) * 256 + (x2 : Int)) * 256 + (x3 : Int)) * 256 + (x4 : Int)) * 256 + (x5 : Int)) * 256 := by rw [wrap_u64]; omega
  have v6 : IntKind.u64.wrap ((((((((x0 : Int)) * 256 + (x1 : Int)) * 256 + (x2 : Int)) * 256 + (x3 : Int)) * 256 + (x4 : Int)) * 256 + (x5 : Int)) * 256 + (x6 : Int)) = (((((((x0 : Int)) * 256 + (x1 : Int)) * 256 + (x2 : Int)) * 256 + (x3 : Int)) * 256 + (x4 : Int)) * 256 + (x5 : Int)) * 256 + (x6 : Int) := by rw [wrap_u64]; omega
  have w7 : IntKind.u64.wrap (((((((((x0 : Int)) * 256 + (x1 : Int)) * 256 + (x2 : Int)) * 256 + (x3 : Int)) * 256 + (x4 : Int)) * 256 + (x5 : Int)) * 256 + (x6 : Int)) * 256) = ((((((((x0 : Int)) * 256 + (x1 : Int)) * 256 + (x2 : Int)) * 256 + (x3 : Int)) * 256 + (x4 : Int)) * 256 + (x5 : Int)) * 256 + (x6 : Int)) * 256 := by rw [wrap_u64]; omega
  have v7 : IntKind.u64.wrap (((((((((x0 : Int)) * 256 + (x1 : Int)) * 256 + (x2 : Int)) * 256 + (x3 : Int)) * 256 + (x4 : Int)) * 256 + (x5 : Int)) * 256 + (x6 : Int)) * 256 + (x7 : Int)) = ((((((((x0 : Int)) * 256 + (x1 : Int)) * 256 + (x2 : Int)) * 256 + (x3 : Int)) * 256 + (x4 : Int)) * 256 + (x5 : Int)) * 256 + (x6 : Int)) * 256 + (x7 : Int) := by rw [wrap_u64]; omega
  have hpb : (p : Int) ≤ 9000000000000000000 := by omega
  have hp0 : p < S.size := by omega
  go_enter Try.func61, Try.ntmps61
  go_wp2_with fail
  refine wp_loop_rounds 9 ?_
  rw [rounds_succ]
  go_wp2
  rw [rounds_succ]
  go_wp2
  rw [rounds_succ]
  go_wp2
  rw [rounds_succ]
  go_wp2
  rw [rounds_succ]
  go_wp2
  rw [rounds_succ]
  go_wp2
  rw [rounds_succ]
  go_wp2
  rw [rounds_succ]
  go_wp2
  rw [rounds_succ]
  go_wp2
  (go_ret; refine ⟨?_, ?_⟩; (focus (exact rfl)); ((repeat' (first | with_reducible exact Below.refl _ _ | with_reducible assumption | ((with_reducible refine Below.drew ?_)) | ((with_reducible refine below_drewN ?_ _)) | ((with_reducible refine Below.alloc ?_ ?_ _); rotate_left; focus (first | omega | (simp; done) | (simp; omega))) | ((with_reducible refine Below.setCell ?_ ?_ _); rotate_left; focus (first | omega | (simp; done) | (simp; omega))) | ((with_reducible refine Below.trans ?_ (Below.mono (by with_reducible assumption) ?_)); rotate_left; focus (first | omega | (simp; done) | (simp; omega))))); done))
set_option maxHeartbeats 4000000 in
theorem cat2_c (S : ByteArray) (p : Nat) (hS : p + 2 ≤ S.size) (hM : S.size ≤ 9000000000000000000) (w : World) : Calls Try.prog 61 #[.string S, .int .i64 p, .int .i64 2] w fun ee w' => ee = .returned (.int .u64 (nat S p 2)) ∧ Below w.heap.size w w' := by
  have s0 : ∀ (h : p < S.size), (S[p]'h).toNat = (S.data[p]?.getD 0).toNat := fun h => by rw [Array.getElem?_eq_getElem (show p < S.data.size from h)]; rfl
  have b0 := byt_bd S (p)
  have e0 : byt S (p) = ((S.data[p]?.getD 0).toNat : Int) := rfl
  have l0 : (p : Int) + 0 < S.size := by omega
  have s1 : ∀ (h : p + 1 < S.size), (S[p + 1]'h).toNat = (S.data[p + 1]?.getD 0).toNat := fun h => by rw [Array.getElem?_eq_getElem (show p + 1 < S.data.size from h)]; rfl
  have b1 := byt_bd S (p + 1)
  have e1 : byt S (p + 1) = ((S.data[p + 1]?.getD 0).toNat : Int) := rfl
  have l1 : (p : Int) + 1 < S.size := by omega
  have hh : nat S p 2 = byt S p * 256 + byt S (p + 1) := by simp [nat, hor]
  rw [hh]
  clear hh
  rw [e0] at b0 ⊢
  rw [e1] at b1 ⊢
  generalize (S.data[p]?.getD 0).toNat = x0 at *
  generalize (S.data[p + 1]?.getD 0).toNat = x1 at *
  clear e0 e1
  have w1 : IntKind.u64.wrap (((x0 : Int)) * 256) = ((x0 : Int)) * 256 := by rw [wrap_u64]; omega
  have v1 : IntKind.u64.wrap (((x0 : Int)) * 256 + (x1 : Int)) = ((x0 : Int)) * 256 + (x1 : Int) := by rw [wrap_u64]; omega
  have hpb : (p : Int) ≤ 9000000000000000000 := by omega
  have hp0 : p < S.size := by omega
  go_enter Try.func61, Try.ntmps61
  go_wp2_with fail
  refine wp_loop_rounds 3 ?_
  rw [rounds_succ]
  go_wp2
  rw [rounds_succ]
  go_wp2
  rw [rounds_succ]
  go_wp2
  (go_ret; refine ⟨?_, ?_⟩; (focus (exact rfl)); ((repeat' (first | with_reducible exact Below.refl _ _ | with_reducible assumption | ((with_reducible refine Below.drew ?_)) | ((with_reducible refine below_drewN ?_ _)) | ((with_reducible refine Below.alloc ?_ ?_ _); rotate_left; focus (first | omega | (simp; done) | (simp; omega))) | ((with_reducible refine Below.setCell ?_ ?_ _); rotate_left; focus (first | omega | (simp; done) | (simp; omega))) | ((with_reducible refine Below.trans ?_ (Below.mono (by with_reducible assumption) ?_)); rotate_left; focus (first | omega | (simp; done) | (simp; omega))))); done))
end Go.Proofs.Ytnfhiagbbmaobaa
