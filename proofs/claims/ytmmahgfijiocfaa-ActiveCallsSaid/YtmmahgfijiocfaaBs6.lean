/- Joined texts. -/
import Derived.Test.YtmmahgfijiocfaaBs0
import Derived.Test.YtmmahgfijiocfaaBs1
import Derived.Test.YtmmahgfijiocfaaBs2
import Derived.Test.YtmmahgfijiocfaaBs5
set_option linter.unusedVariables false
set_option linter.unusedSimpArgs false
set_option maxRecDepth 100000
set_option maxHeartbeats 16000000
section
namespace Go.Proofs.Ytmmahgfijiocfaa
namespace Fg
def kind (m1 d m2 : Int) : Int :=
 if 4294967295 < m1 ∨ 4294967295 < m2 ∨ 1048576 < d then 0
 else if m1 = 0 ∧ d = 0 ∧ m2 = 0 then 1
 else if m1 = m2 ∧ d = 0 then 2
 else if m2 < m1 ∧ 0 < d then 3
 else if m1 = 0 ∧ 0 < m2 ∧ 0 < d then 4 else 0
structure Okc (m1 d m2 : Int) : Prop where
 n1 : 0 ≤ m1
 n2 : 0 ≤ d
 n3 : 0 ≤ m2
 b1 : m1 ≤ 4294967295
 b2 : d ≤ 1048576
 b3 : m2 ≤ 4294967295
theorem kind_range (m1 d m2 : Int) : 0 ≤ kind m1 d m2 ∧ kind m1 d m2 ≤ 4 := by
 unfold kind; repeat' split
 all_goals omega
def sv (m1 d m2 t : Int) : Int := if t ≤ d then m1 * t else m1 * d + m2 * (t - d)
def srv (m1 d m2 t : Int) : Int := if kind m1 d m2 = 0 then 0 else sv m1 d m2 t
def clg (n d : Int) : Int := if n % d = 0 then n / d else n / d + 1
def ov (W m b : Int) : Int := if W = 0 then b else if m = 0 then 9223372036854775808 else if clg W m + b < 9223372036854775808 then b + clg W m else 9223372036854775808
def tk (m1 d m2 W : Int) : Int := if kind m1 d m2 = 0 then 9223372036854775808 else if W ≤ m1 * d then ov W m1 0 else ov (W - m1 * d) m2 d
end Fg
end Go.Proofs.Ytmmahgfijiocfaa
namespace Go.Proofs.Ytmmahgfijiocfaa
open Go.RowKit Fg Reg
end Go.Proofs.Ytmmahgfijiocfaa
namespace Go.Proofs.Ytmmahgfijiocfaa
open Go.RowKit Fg Reg
end Go.Proofs.Ytmmahgfijiocfaa
namespace Go.Proofs.Ytmmahgfijiocfaa
open Go.RowKit Fg Reg
end Go.Proofs.Ytmmahgfijiocfaa
end
section
namespace Go.Proofs.Ytmmahgfijiocfaa
open Go.RowKit Fg Reg
theorem ret_bool {a b : Bool} (h : a = b) : Ending.returned (.bool a) = .returned (.bool b) := by rw [h]
theorem skof_c (m1 d m2 : Int) (h1 : In m1) (h2 : In d) (h3 : In m2) (w : World) : Calls Try.prog 82 #[.agg #[.int .u64 (m1), .int .u64 (d), .int .u64 (m2)]] w fun ee w' => ee = .returned (.int .i64 (kind m1 d m2)) ∧ Below w.heap.size w w' := by
 have b1 : 0 ≤ m1 := h1.1
 have b2 : 0 ≤ d := h2.1
 have b3 : 0 ≤ m2 := h3.1
 go_enter Try.func82, Try.ntmps82
 go_wp2
 all_goals
  go_ret
  refine ⟨ret_int ?_, blb⟩
  unfold kind
  (repeat' split) <;> first | rfl | omega | (simp_all; done)
theorem srof_c (m1 d m2 : Int) (h1 : In m1) (h2 : In d) (h3 : In m2) (w : World) : Calls Try.prog 66 #[.agg #[.int .u64 (m1), .int .u64 (d), .int .u64 (m2)]] w fun ee w' => ee = .returned (.int .i64 (kind m1 d m2)) ∧ Below w.heap.size w w' := by
 have b1 : 0 ≤ m1 := h1.1
 have b2 : 0 ≤ d := h2.1
 have b3 : 0 ≤ m2 := h3.1
 go_enter Try.func66, Try.ntmps66
 go_wp2
 all_goals
  go_ret
  refine ⟨ret_int ?_, blb⟩
  unfold kind
  (repeat' split) <;> first | rfl | omega | (simp_all; done)
theorem has_c (m1 d m2 k : Int) (k1 : ∀ w, Calls Try.prog 82 #[.agg #[.int .u64 (m1), .int .u64 (d), .int .u64 (m2)]] w fun ee w' => ee = .returned (.int .i64 k) ∧ Below w.heap.size w w') (w : World) : Calls Try.prog 65 #[.agg #[.int .u64 (m1), .int .u64 (d), .int .u64 (m2)]] w fun ee w' => ee = .returned (.bool (decide (1 < k))) ∧ Below w.heap.size w w' := by
 have K := Lib.hid k1
 clear k1
 go_enter Try.func65, Try.ntmps65
 go_wp2_with (go_at_call 82; ((with_reducible refine (K.out _).mono ?_); rintro e w1 ⟨rfl, hbel⟩; obtain ⟨hcc, hff⟩ := bcell hbel; have hsz := hbel.size; (try simp at hsz); have hF : Below w.heap.size w w1 := (by exact kpb); go_split_ands; clear hcc hff hbel))
 (go_ret; refine ⟨?_, ?_⟩; (focus (exact rfl)); exact blb)
theorem real_c (i p : Int) (lf : Bool) (a1 a2 a3 b1 b2 b3 c1 c2 c3 q y : Int) (k : Bool) (k1 : ∀ w, Calls Try.prog 65 #[.agg #[.int .u64 (a1), .int .u64 (a2), .int .u64 (a3)]] w fun ee w' => ee = .returned (.bool k) ∧ Below w.heap.size w w') (w : World) : Calls Try.prog 95 #[.agg #[.int .i64 i, .int .i64 p, .bool lf, .int .u64 a1, .int .u64 a2, .int .u64 a3, .int .u64 b1, .int .u64 b2, .int .u64 b3, .int .u64 c1, .int .u64 c2, .int .u64 c3, .int .i64 q, .int .i64 y]] w fun ee w' => ee = .returned (.bool k) ∧ Below w.heap.size w w' := by
 have K := Lib.hid k1
 clear k1
 go_enter Try.func95, Try.ntmps95
 go_wp2_with (go_at_call 65; ((with_reducible refine (K.out _).mono ?_); rintro e w1 ⟨rfl, hbel⟩; obtain ⟨hcc, hff⟩ := bcell hbel; have hsz := hbel.size; (try simp at hsz); have hF : Below w.heap.size w w1 := (by exact kpb); go_split_ands; clear hcc hff hbel))
 (go_ret; refine ⟨?_, ?_⟩; (focus (exact rfl)); exact blb)
theorem shares_c (i p : Int) (lf : Bool) (a1 a2 a3 b1 b2 b3 c1 c2 c3 q y : Int) (k : Bool) (k1 : ∀ w, Calls Try.prog 65 #[.agg #[.int .u64 (b1), .int .u64 (b2), .int .u64 (b3)]] w fun ee w' => ee = .returned (.bool k) ∧ Below w.heap.size w w') (w : World) : Calls Try.prog 33 #[.agg #[.int .i64 i, .int .i64 p, .bool lf, .int .u64 a1, .int .u64 a2, .int .u64 a3, .int .u64 b1, .int .u64 b2, .int .u64 b3, .int .u64 c1, .int .u64 c2, .int .u64 c3, .int .i64 q, .int .i64 y]] w fun ee w' => ee = .returned (.bool k) ∧ Below w.heap.size w w' := by
 have K := Lib.hid k1
 clear k1
 go_enter Try.func33, Try.ntmps33
 go_wp2_with (go_at_call 65; ((with_reducible refine (K.out _).mono ?_); rintro e w1 ⟨rfl, hbel⟩; obtain ⟨hcc, hff⟩ := bcell hbel; have hsz := hbel.size; (try simp at hsz); have hF : Below w.heap.size w w1 := (by exact kpb); go_split_ands; clear hcc hff hbel))
 (go_ret; refine ⟨?_, ?_⟩; (focus (exact rfl)); exact blb)
theorem capped_c (i p : Int) (lf : Bool) (a1 a2 a3 b1 b2 b3 c1 c2 c3 q y : Int) (k : Bool) (k1 : ∀ w, Calls Try.prog 65 #[.agg #[.int .u64 (c1), .int .u64 (c2), .int .u64 (c3)]] w fun ee w' => ee = .returned (.bool k) ∧ Below w.heap.size w w') (w : World) : Calls Try.prog 94 #[.agg #[.int .i64 i, .int .i64 p, .bool lf, .int .u64 a1, .int .u64 a2, .int .u64 a3, .int .u64 b1, .int .u64 b2, .int .u64 b3, .int .u64 c1, .int .u64 c2, .int .u64 c3, .int .i64 q, .int .i64 y]] w fun ee w' => ee = .returned (.bool k) ∧ Below w.heap.size w w' := by
 have K := Lib.hid k1
 clear k1
 go_enter Try.func94, Try.ntmps94
 go_wp2_with (go_at_call 65; ((with_reducible refine (K.out _).mono ?_); rintro e w1 ⟨rfl, hbel⟩; obtain ⟨hcc, hff⟩ := bcell hbel; have hsz := hbel.size; (try simp at hsz); have hF : Below w.heap.size w w1 := (by exact kpb); go_split_ands; clear hcc hff hbel))
 (go_ret; refine ⟨?_, ?_⟩; (focus (exact rfl)); exact blb)
end Go.Proofs.Ytmmahgfijiocfaa
end
section
namespace Go.Proofs.Ytmmahgfijiocfaa
open Go.RowKit Fg Reg
def sh (lf r s c : Bool) (q y : Int) : Bool := if c = true ∧ s = false then false else if lf = true then decide (1 ≤ q ∧ q ≤ 64 ∧ 1 ≤ y ∧ y ≤ 1048576 ∧ (r = true ∨ s = true)) else decide (q = 0 ∧ y = 0 ∧ r = false)
theorem shape_ff (i p : Int) (lf : Bool) (a1 a2 a3 b1 b2 b3 c1 c2 c3 q y : Int) (r s c : Bool) (e1 : lf = false) (e2 : c = false) (k1 : ∀ w, Calls Try.prog 95 #[.agg #[.int .i64 i, .int .i64 p, .bool lf, .int .u64 a1, .int .u64 a2, .int .u64 a3, .int .u64 b1, .int .u64 b2, .int .u64 b3, .int .u64 c1, .int .u64 c2, .int .u64 c3, .int .i64 q, .int .i64 y]] w fun ee w' => ee = .returned (.bool r) ∧ Below w.heap.size w w') (k2 : ∀ w, Calls Try.prog 33 #[.agg #[.int .i64 i, .int .i64 p, .bool lf, .int .u64 a1, .int .u64 a2, .int .u64 a3, .int .u64 b1, .int .u64 b2, .int .u64 b3, .int .u64 c1, .int .u64 c2, .int .u64 c3, .int .i64 q, .int .i64 y]] w fun ee w' => ee = .returned (.bool s) ∧ Below w.heap.size w w') (k3 : ∀ w, Calls Try.prog 94 #[.agg #[.int .i64 i, .int .i64 p, .bool lf, .int .u64 a1, .int .u64 a2, .int .u64 a3, .int .u64 b1, .int .u64 b2, .int .u64 b3, .int .u64 c1, .int .u64 c2, .int .u64 c3, .int .i64 q, .int .i64 y]] w fun ee w' => ee = .returned (.bool c) ∧ Below w.heap.size w w') (w : World) : Calls Try.prog 73 #[.agg #[.int .i64 i, .int .i64 p, .bool lf, .int .u64 a1, .int .u64 a2, .int .u64 a3, .int .u64 b1, .int .u64 b2, .int .u64 b3, .int .u64 c1, .int .u64 c2, .int .u64 c3, .int .i64 q, .int .i64 y]] w fun ee w' => ee = .returned (.bool (sh lf r s c q y)) ∧ Below w.heap.size w w' := by
 cases e1
 cases e2
 have K1 := Lib.hid k1
 have K2 := Lib.hid k2
 have K3 := Lib.hid k3
 clear k1 k2 k3
 rcases Bool.eq_false_or_eq_true (q == 0) with hq | hq <;> rcases Bool.eq_false_or_eq_true (y == 0) with hy | hy <;> cases r <;> cases s
 all_goals
  go_enter Try.func73, Try.ntmps73
  go_wp2_with (first | (go_at_call 94; ((with_reducible refine (K3.out _).mono ?_); rintro e w1 ⟨rfl, hbel⟩; obtain ⟨hcc, hff⟩ := bcell hbel; have hsz := hbel.size; (try simp at hsz); have hF : (w1.cell? ⟨w.heap.size, 0, none⟩ = some (.int .i64 i) ∧ w1.cell? ⟨w.heap.size, 1, none⟩ = some (.int .i64 p) ∧ w1.cell? ⟨w.heap.size, 2, none⟩ = some (.bool false) ∧ w1.cell? ⟨w.heap.size, 3, none⟩ = some (.int .u64 a1) ∧ w1.cell? ⟨w.heap.size, 4, none⟩ = some (.int .u64 a2) ∧ w1.cell? ⟨w.heap.size, 5, none⟩ = some (.int .u64 a3) ∧ w1.cell? ⟨w.heap.size, 6, none⟩ = some (.int .u64 b1) ∧ w1.cell? ⟨w.heap.size, 7, none⟩ = some (.int .u64 b2) ∧ w1.cell? ⟨w.heap.size, 8, none⟩ = some (.int .u64 b3) ∧ w1.cell? ⟨w.heap.size, 9, none⟩ = some (.int .u64 c1) ∧ w1.cell? ⟨w.heap.size, 10, none⟩ = some (.int .u64 c2) ∧ w1.cell? ⟨w.heap.size, 11, none⟩ = some (.int .u64 c3) ∧ w1.cell? ⟨w.heap.size, 12, none⟩ = some (.int .i64 q) ∧ w1.cell? ⟨w.heap.size, 13, none⟩ = some (.int .i64 y) ∧ w.heap.size < w1.heap.size) ∧ Below w.heap.size w w1 := (by exact kpb); go_split_ands; clear hcc hff hbel)) | (go_at_call 33; ((with_reducible refine (K2.out _).mono ?_); rintro e w2 ⟨rfl, hbel⟩; obtain ⟨hcc, hff⟩ := bcell hbel; have hsz := hbel.size; (try simp at hsz); have hF : (w2.cell? ⟨w.heap.size, 0, none⟩ = some (.int .i64 i) ∧ w2.cell? ⟨w.heap.size, 1, none⟩ = some (.int .i64 p) ∧ w2.cell? ⟨w.heap.size, 2, none⟩ = some (.bool false) ∧ w2.cell? ⟨w.heap.size, 3, none⟩ = some (.int .u64 a1) ∧ w2.cell? ⟨w.heap.size, 4, none⟩ = some (.int .u64 a2) ∧ w2.cell? ⟨w.heap.size, 5, none⟩ = some (.int .u64 a3) ∧ w2.cell? ⟨w.heap.size, 6, none⟩ = some (.int .u64 b1) ∧ w2.cell? ⟨w.heap.size, 7, none⟩ = some (.int .u64 b2) ∧ w2.cell? ⟨w.heap.size, 8, none⟩ = some (.int .u64 b3) ∧ w2.cell? ⟨w.heap.size, 9, none⟩ = some (.int .u64 c1) ∧ w2.cell? ⟨w.heap.size, 10, none⟩ = some (.int .u64 c2) ∧ w2.cell? ⟨w.heap.size, 11, none⟩ = some (.int .u64 c3) ∧ w2.cell? ⟨w.heap.size, 12, none⟩ = some (.int .i64 q) ∧ w2.cell? ⟨w.heap.size, 13, none⟩ = some (.int .i64 y) ∧ w.heap.size < w2.heap.size) ∧ Below w.heap.size w w2 := (by exact kpb); go_split_ands; clear hcc hff hbel)) | (go_at_call 95; ((with_reducible refine (K1.out _).mono ?_); rintro e w3 ⟨rfl, hbel⟩; obtain ⟨hcc, hff⟩ := bcell hbel; have hsz := hbel.size; (try simp at hsz); have hF : (w3.cell? ⟨w.heap.size, 0, none⟩ = some (.int .i64 i) ∧ w3.cell? ⟨w.heap.size, 1, none⟩ = some (.int .i64 p) ∧ w3.cell? ⟨w.heap.size, 2, none⟩ = some (.bool false) ∧ w3.cell? ⟨w.heap.size, 3, none⟩ = some (.int .u64 a1) ∧ w3.cell? ⟨w.heap.size, 4, none⟩ = some (.int .u64 a2) ∧ w3.cell? ⟨w.heap.size, 5, none⟩ = some (.int .u64 a3) ∧ w3.cell? ⟨w.heap.size, 6, none⟩ = some (.int .u64 b1) ∧ w3.cell? ⟨w.heap.size, 7, none⟩ = some (.int .u64 b2) ∧ w3.cell? ⟨w.heap.size, 8, none⟩ = some (.int .u64 b3) ∧ w3.cell? ⟨w.heap.size, 9, none⟩ = some (.int .u64 c1) ∧ w3.cell? ⟨w.heap.size, 10, none⟩ = some (.int .u64 c2) ∧ w3.cell? ⟨w.heap.size, 11, none⟩ = some (.int .u64 c3) ∧ w3.cell? ⟨w.heap.size, 12, none⟩ = some (.int .i64 q) ∧ w3.cell? ⟨w.heap.size, 13, none⟩ = some (.int .i64 y) ∧ w.heap.size < w3.heap.size) ∧ Below w.heap.size w w3 := (by exact kpb); go_split_ands; clear hcc hff hbel)))
  all_goals
   go_ret
   refine ⟨ret_bool ?_, blb⟩
   clear K1 K2 K3
   simp at hq hy
   simp [sh, hq, hy]
theorem shape_ft (i p : Int) (lf : Bool) (a1 a2 a3 b1 b2 b3 c1 c2 c3 q y : Int) (r s c : Bool) (e1 : lf = false) (e2 : c = true) (k1 : ∀ w, Calls Try.prog 95 #[.agg #[.int .i64 i, .int .i64 p, .bool lf, .int .u64 a1, .int .u64 a2, .int .u64 a3, .int .u64 b1, .int .u64 b2, .int .u64 b3, .int .u64 c1, .int .u64 c2, .int .u64 c3, .int .i64 q, .int .i64 y]] w fun ee w' => ee = .returned (.bool r) ∧ Below w.heap.size w w') (k2 : ∀ w, Calls Try.prog 33 #[.agg #[.int .i64 i, .int .i64 p, .bool lf, .int .u64 a1, .int .u64 a2, .int .u64 a3, .int .u64 b1, .int .u64 b2, .int .u64 b3, .int .u64 c1, .int .u64 c2, .int .u64 c3, .int .i64 q, .int .i64 y]] w fun ee w' => ee = .returned (.bool s) ∧ Below w.heap.size w w') (k3 : ∀ w, Calls Try.prog 94 #[.agg #[.int .i64 i, .int .i64 p, .bool lf, .int .u64 a1, .int .u64 a2, .int .u64 a3, .int .u64 b1, .int .u64 b2, .int .u64 b3, .int .u64 c1, .int .u64 c2, .int .u64 c3, .int .i64 q, .int .i64 y]] w fun ee w' => ee = .returned (.bool c) ∧ Below w.heap.size w w') (w : World) : Calls Try.prog 73 #[.agg #[.int .i64 i, .int .i64 p, .bool lf, .int .u64 a1, .int .u64 a2, .int .u64 a3, .int .u64 b1, .int .u64 b2, .int .u64 b3, .int .u64 c1, .int .u64 c2, .int .u64 c3, .int .i64 q, .int .i64 y]] w fun ee w' => ee = .returned (.bool (sh lf r s c q y)) ∧ Below w.heap.size w w' := by
 cases e1
 cases e2
 have K1 := Lib.hid k1
 have K2 := Lib.hid k2
 have K3 := Lib.hid k3
 clear k1 k2 k3
 rcases Bool.eq_false_or_eq_true (q == 0) with hq | hq <;> rcases Bool.eq_false_or_eq_true (y == 0) with hy | hy <;> cases r <;> cases s
 all_goals
  go_enter Try.func73, Try.ntmps73
  go_wp2_with (first | (go_at_call 94; ((with_reducible refine (K3.out _).mono ?_); rintro e w1 ⟨rfl, hbel⟩; obtain ⟨hcc, hff⟩ := bcell hbel; have hsz := hbel.size; (try simp at hsz); have hF : (w1.cell? ⟨w.heap.size, 0, none⟩ = some (.int .i64 i) ∧ w1.cell? ⟨w.heap.size, 1, none⟩ = some (.int .i64 p) ∧ w1.cell? ⟨w.heap.size, 2, none⟩ = some (.bool false) ∧ w1.cell? ⟨w.heap.size, 3, none⟩ = some (.int .u64 a1) ∧ w1.cell? ⟨w.heap.size, 4, none⟩ = some (.int .u64 a2) ∧ w1.cell? ⟨w.heap.size, 5, none⟩ = some (.int .u64 a3) ∧ w1.cell? ⟨w.heap.size, 6, none⟩ = some (.int .u64 b1) ∧ w1.cell? ⟨w.heap.size, 7, none⟩ = some (.int .u64 b2) ∧ w1.cell? ⟨w.heap.size, 8, none⟩ = some (.int .u64 b3) ∧ w1.cell? ⟨w.heap.size, 9, none⟩ = some (.int .u64 c1) ∧ w1.cell? ⟨w.heap.size, 10, none⟩ = some (.int .u64 c2) ∧ w1.cell? ⟨w.heap.size, 11, none⟩ = some (.int .u64 c3) ∧ w1.cell? ⟨w.heap.size, 12, none⟩ = some (.int .i64 q) ∧ w1.cell? ⟨w.heap.size, 13, none⟩ = some (.int .i64 y) ∧ w.heap.size < w1.heap.size) ∧ Below w.heap.size w w1 := (by exact kpb); go_split_ands; clear hcc hff hbel)) | (go_at_call 33; ((with_reducible refine (K2.out _).mono ?_); rintro e w2 ⟨rfl, hbel⟩; obtain ⟨hcc, hff⟩ := bcell hbel; have hsz := hbel.size; (try simp at hsz); have hF : (w2.cell? ⟨w.heap.size, 0, none⟩ = some (.int .i64 i) ∧ w2.cell? ⟨w.heap.size, 1, none⟩ = some (.int .i64 p) ∧ w2.cell? ⟨w.heap.size, 2, none⟩ = some (.bool false) ∧ w2.cell? ⟨w.heap.size, 3, none⟩ = some (.int .u64 a1) ∧ w2.cell? ⟨w.heap.size, 4, none⟩ = some (.int .u64 a2) ∧ w2.cell? ⟨w.heap.size, 5, none⟩ = some (.int .u64 a3) ∧ w2.cell? ⟨w.heap.size, 6, none⟩ = some (.int .u64 b1) ∧ w2.cell? ⟨w.heap.size, 7, none⟩ = some (.int .u64 b2) ∧ w2.cell? ⟨w.heap.size, 8, none⟩ = some (.int .u64 b3) ∧ w2.cell? ⟨w.heap.size, 9, none⟩ = some (.int .u64 c1) ∧ w2.cell? ⟨w.heap.size, 10, none⟩ = some (.int .u64 c2) ∧ w2.cell? ⟨w.heap.size, 11, none⟩ = some (.int .u64 c3) ∧ w2.cell? ⟨w.heap.size, 12, none⟩ = some (.int .i64 q) ∧ w2.cell? ⟨w.heap.size, 13, none⟩ = some (.int .i64 y) ∧ w.heap.size < w2.heap.size) ∧ Below w.heap.size w w2 := (by exact kpb); go_split_ands; clear hcc hff hbel)) | (go_at_call 95; ((with_reducible refine (K1.out _).mono ?_); rintro e w3 ⟨rfl, hbel⟩; obtain ⟨hcc, hff⟩ := bcell hbel; have hsz := hbel.size; (try simp at hsz); have hF : (w3.cell? ⟨w.heap.size, 0, none⟩ = some (.int .i64 i) ∧ w3.cell? ⟨w.heap.size, 1, none⟩ = some (.int .i64 p) ∧ w3.cell? ⟨w.heap.size, 2, none⟩ = some (.bool false) ∧ w3.cell? ⟨w.heap.size, 3, none⟩ = some (.int .u64 a1) ∧ w3.cell? ⟨w.heap.size, 4, none⟩ = some (.int .u64 a2) ∧ w3.cell? ⟨w.heap.size, 5, none⟩ = some (.int .u64 a3) ∧ w3.cell? ⟨w.heap.size, 6, none⟩ = some (.int .u64 b1) ∧ w3.cell? ⟨w.heap.size, 7, none⟩ = some (.int .u64 b2) ∧ w3.cell? ⟨w.heap.size, 8, none⟩ = some (.int .u64 b3) ∧ w3.cell? ⟨w.heap.size, 9, none⟩ = some (.int .u64 c1) ∧ w3.cell? ⟨w.heap.size, 10, none⟩ = some (.int .u64 c2) ∧ w3.cell? ⟨w.heap.size, 11, none⟩ = some (.int .u64 c3) ∧ w3.cell? ⟨w.heap.size, 12, none⟩ = some (.int .i64 q) ∧ w3.cell? ⟨w.heap.size, 13, none⟩ = some (.int .i64 y) ∧ w.heap.size < w3.heap.size) ∧ Below w.heap.size w w3 := (by exact kpb); go_split_ands; clear hcc hff hbel)))
  all_goals
   go_ret
   refine ⟨ret_bool ?_, blb⟩
   clear K1 K2 K3
   simp at hq hy
   simp [sh, hq, hy]
theorem shape_tf (i p : Int) (lf : Bool) (a1 a2 a3 b1 b2 b3 c1 c2 c3 q y : Int) (r s c : Bool) (e1 : lf = true) (e2 : c = false) (k1 : ∀ w, Calls Try.prog 95 #[.agg #[.int .i64 i, .int .i64 p, .bool lf, .int .u64 a1, .int .u64 a2, .int .u64 a3, .int .u64 b1, .int .u64 b2, .int .u64 b3, .int .u64 c1, .int .u64 c2, .int .u64 c3, .int .i64 q, .int .i64 y]] w fun ee w' => ee = .returned (.bool r) ∧ Below w.heap.size w w') (k2 : ∀ w, Calls Try.prog 33 #[.agg #[.int .i64 i, .int .i64 p, .bool lf, .int .u64 a1, .int .u64 a2, .int .u64 a3, .int .u64 b1, .int .u64 b2, .int .u64 b3, .int .u64 c1, .int .u64 c2, .int .u64 c3, .int .i64 q, .int .i64 y]] w fun ee w' => ee = .returned (.bool s) ∧ Below w.heap.size w w') (k3 : ∀ w, Calls Try.prog 94 #[.agg #[.int .i64 i, .int .i64 p, .bool lf, .int .u64 a1, .int .u64 a2, .int .u64 a3, .int .u64 b1, .int .u64 b2, .int .u64 b3, .int .u64 c1, .int .u64 c2, .int .u64 c3, .int .i64 q, .int .i64 y]] w fun ee w' => ee = .returned (.bool c) ∧ Below w.heap.size w w') (w : World) : Calls Try.prog 73 #[.agg #[.int .i64 i, .int .i64 p, .bool lf, .int .u64 a1, .int .u64 a2, .int .u64 a3, .int .u64 b1, .int .u64 b2, .int .u64 b3, .int .u64 c1, .int .u64 c2, .int .u64 c3, .int .i64 q, .int .i64 y]] w fun ee w' => ee = .returned (.bool (sh lf r s c q y)) ∧ Below w.heap.size w w' := by
 cases e1
 cases e2
 have K1 := Lib.hid k1
 have K2 := Lib.hid k2
 have K3 := Lib.hid k3
 clear k1 k2 k3
 cases r <;> cases s
 all_goals
  go_enter Try.func73, Try.ntmps73
  go_wp2_with (first | (go_at_call 94; ((with_reducible refine (K3.out _).mono ?_); rintro e w1 ⟨rfl, hbel⟩; obtain ⟨hcc, hff⟩ := bcell hbel; have hsz := hbel.size; (try simp at hsz); have hF : (w1.cell? ⟨w.heap.size, 0, none⟩ = some (.int .i64 i) ∧ w1.cell? ⟨w.heap.size, 1, none⟩ = some (.int .i64 p) ∧ w1.cell? ⟨w.heap.size, 2, none⟩ = some (.bool true) ∧ w1.cell? ⟨w.heap.size, 3, none⟩ = some (.int .u64 a1) ∧ w1.cell? ⟨w.heap.size, 4, none⟩ = some (.int .u64 a2) ∧ w1.cell? ⟨w.heap.size, 5, none⟩ = some (.int .u64 a3) ∧ w1.cell? ⟨w.heap.size, 6, none⟩ = some (.int .u64 b1) ∧ w1.cell? ⟨w.heap.size, 7, none⟩ = some (.int .u64 b2) ∧ w1.cell? ⟨w.heap.size, 8, none⟩ = some (.int .u64 b3) ∧ w1.cell? ⟨w.heap.size, 9, none⟩ = some (.int .u64 c1) ∧ w1.cell? ⟨w.heap.size, 10, none⟩ = some (.int .u64 c2) ∧ w1.cell? ⟨w.heap.size, 11, none⟩ = some (.int .u64 c3) ∧ w1.cell? ⟨w.heap.size, 12, none⟩ = some (.int .i64 q) ∧ w1.cell? ⟨w.heap.size, 13, none⟩ = some (.int .i64 y) ∧ w.heap.size < w1.heap.size) ∧ Below w.heap.size w w1 := (by exact kpb); go_split_ands; clear hcc hff hbel)) | (go_at_call 33; ((with_reducible refine (K2.out _).mono ?_); rintro e w2 ⟨rfl, hbel⟩; obtain ⟨hcc, hff⟩ := bcell hbel; have hsz := hbel.size; (try simp at hsz); have hF : (w2.cell? ⟨w.heap.size, 0, none⟩ = some (.int .i64 i) ∧ w2.cell? ⟨w.heap.size, 1, none⟩ = some (.int .i64 p) ∧ w2.cell? ⟨w.heap.size, 2, none⟩ = some (.bool true) ∧ w2.cell? ⟨w.heap.size, 3, none⟩ = some (.int .u64 a1) ∧ w2.cell? ⟨w.heap.size, 4, none⟩ = some (.int .u64 a2) ∧ w2.cell? ⟨w.heap.size, 5, none⟩ = some (.int .u64 a3) ∧ w2.cell? ⟨w.heap.size, 6, none⟩ = some (.int .u64 b1) ∧ w2.cell? ⟨w.heap.size, 7, none⟩ = some (.int .u64 b2) ∧ w2.cell? ⟨w.heap.size, 8, none⟩ = some (.int .u64 b3) ∧ w2.cell? ⟨w.heap.size, 9, none⟩ = some (.int .u64 c1) ∧ w2.cell? ⟨w.heap.size, 10, none⟩ = some (.int .u64 c2) ∧ w2.cell? ⟨w.heap.size, 11, none⟩ = some (.int .u64 c3) ∧ w2.cell? ⟨w.heap.size, 12, none⟩ = some (.int .i64 q) ∧ w2.cell? ⟨w.heap.size, 13, none⟩ = some (.int .i64 y) ∧ w.heap.size < w2.heap.size) ∧ Below w.heap.size w w2 := (by exact kpb); go_split_ands; clear hcc hff hbel)) | (go_at_call 95; ((with_reducible refine (K1.out _).mono ?_); rintro e w3 ⟨rfl, hbel⟩; obtain ⟨hcc, hff⟩ := bcell hbel; have hsz := hbel.size; (try simp at hsz); have hF : (w3.cell? ⟨w.heap.size, 0, none⟩ = some (.int .i64 i) ∧ w3.cell? ⟨w.heap.size, 1, none⟩ = some (.int .i64 p) ∧ w3.cell? ⟨w.heap.size, 2, none⟩ = some (.bool true) ∧ w3.cell? ⟨w.heap.size, 3, none⟩ = some (.int .u64 a1) ∧ w3.cell? ⟨w.heap.size, 4, none⟩ = some (.int .u64 a2) ∧ w3.cell? ⟨w.heap.size, 5, none⟩ = some (.int .u64 a3) ∧ w3.cell? ⟨w.heap.size, 6, none⟩ = some (.int .u64 b1) ∧ w3.cell? ⟨w.heap.size, 7, none⟩ = some (.int .u64 b2) ∧ w3.cell? ⟨w.heap.size, 8, none⟩ = some (.int .u64 b3) ∧ w3.cell? ⟨w.heap.size, 9, none⟩ = some (.int .u64 c1) ∧ w3.cell? ⟨w.heap.size, 10, none⟩ = some (.int .u64 c2) ∧ w3.cell? ⟨w.heap.size, 11, none⟩ = some (.int .u64 c3) ∧ w3.cell? ⟨w.heap.size, 12, none⟩ = some (.int .i64 q) ∧ w3.cell? ⟨w.heap.size, 13, none⟩ = some (.int .i64 y) ∧ w.heap.size < w3.heap.size) ∧ Below w.heap.size w w3 := (by exact kpb); go_split_ands; clear hcc hff hbel)))
  all_goals
   go_ret
   refine ⟨ret_bool ?_, blb⟩
   clear K1 K2 K3
   simp [sh]
   try omega
theorem shape_tt (i p : Int) (lf : Bool) (a1 a2 a3 b1 b2 b3 c1 c2 c3 q y : Int) (r s c : Bool) (e1 : lf = true) (e2 : c = true) (k1 : ∀ w, Calls Try.prog 95 #[.agg #[.int .i64 i, .int .i64 p, .bool lf, .int .u64 a1, .int .u64 a2, .int .u64 a3, .int .u64 b1, .int .u64 b2, .int .u64 b3, .int .u64 c1, .int .u64 c2, .int .u64 c3, .int .i64 q, .int .i64 y]] w fun ee w' => ee = .returned (.bool r) ∧ Below w.heap.size w w') (k2 : ∀ w, Calls Try.prog 33 #[.agg #[.int .i64 i, .int .i64 p, .bool lf, .int .u64 a1, .int .u64 a2, .int .u64 a3, .int .u64 b1, .int .u64 b2, .int .u64 b3, .int .u64 c1, .int .u64 c2, .int .u64 c3, .int .i64 q, .int .i64 y]] w fun ee w' => ee = .returned (.bool s) ∧ Below w.heap.size w w') (k3 : ∀ w, Calls Try.prog 94 #[.agg #[.int .i64 i, .int .i64 p, .bool lf, .int .u64 a1, .int .u64 a2, .int .u64 a3, .int .u64 b1, .int .u64 b2, .int .u64 b3, .int .u64 c1, .int .u64 c2, .int .u64 c3, .int .i64 q, .int .i64 y]] w fun ee w' => ee = .returned (.bool c) ∧ Below w.heap.size w w') (w : World) : Calls Try.prog 73 #[.agg #[.int .i64 i, .int .i64 p, .bool lf, .int .u64 a1, .int .u64 a2, .int .u64 a3, .int .u64 b1, .int .u64 b2, .int .u64 b3, .int .u64 c1, .int .u64 c2, .int .u64 c3, .int .i64 q, .int .i64 y]] w fun ee w' => ee = .returned (.bool (sh lf r s c q y)) ∧ Below w.heap.size w w' := by
 cases e1
 cases e2
 have K1 := Lib.hid k1
 have K2 := Lib.hid k2
 have K3 := Lib.hid k3
 clear k1 k2 k3
 cases r <;> cases s
 all_goals
  go_enter Try.func73, Try.ntmps73
  go_wp2_with (first | (go_at_call 94; ((with_reducible refine (K3.out _).mono ?_); rintro e w1 ⟨rfl, hbel⟩; obtain ⟨hcc, hff⟩ := bcell hbel; have hsz := hbel.size; (try simp at hsz); have hF : (w1.cell? ⟨w.heap.size, 0, none⟩ = some (.int .i64 i) ∧ w1.cell? ⟨w.heap.size, 1, none⟩ = some (.int .i64 p) ∧ w1.cell? ⟨w.heap.size, 2, none⟩ = some (.bool true) ∧ w1.cell? ⟨w.heap.size, 3, none⟩ = some (.int .u64 a1) ∧ w1.cell? ⟨w.heap.size, 4, none⟩ = some (.int .u64 a2) ∧ w1.cell? ⟨w.heap.size, 5, none⟩ = some (.int .u64 a3) ∧ w1.cell? ⟨w.heap.size, 6, none⟩ = some (.int .u64 b1) ∧ w1.cell? ⟨w.heap.size, 7, none⟩ = some (.int .u64 b2) ∧ w1.cell? ⟨w.heap.size, 8, none⟩ = some (.int .u64 b3) ∧ w1.cell? ⟨w.heap.size, 9, none⟩ = some (.int .u64 c1) ∧ w1.cell? ⟨w.heap.size, 10, none⟩ = some (.int .u64 c2) ∧ w1.cell? ⟨w.heap.size, 11, none⟩ = some (.int .u64 c3) ∧ w1.cell? ⟨w.heap.size, 12, none⟩ = some (.int .i64 q) ∧ w1.cell? ⟨w.heap.size, 13, none⟩ = some (.int .i64 y) ∧ w.heap.size < w1.heap.size) ∧ Below w.heap.size w w1 := (by exact kpb); go_split_ands; clear hcc hff hbel)) | (go_at_call 33; ((with_reducible refine (K2.out _).mono ?_); rintro e w2 ⟨rfl, hbel⟩; obtain ⟨hcc, hff⟩ := bcell hbel; have hsz := hbel.size; (try simp at hsz); have hF : (w2.cell? ⟨w.heap.size, 0, none⟩ = some (.int .i64 i) ∧ w2.cell? ⟨w.heap.size, 1, none⟩ = some (.int .i64 p) ∧ w2.cell? ⟨w.heap.size, 2, none⟩ = some (.bool true) ∧ w2.cell? ⟨w.heap.size, 3, none⟩ = some (.int .u64 a1) ∧ w2.cell? ⟨w.heap.size, 4, none⟩ = some (.int .u64 a2) ∧ w2.cell? ⟨w.heap.size, 5, none⟩ = some (.int .u64 a3) ∧ w2.cell? ⟨w.heap.size, 6, none⟩ = some (.int .u64 b1) ∧ w2.cell? ⟨w.heap.size, 7, none⟩ = some (.int .u64 b2) ∧ w2.cell? ⟨w.heap.size, 8, none⟩ = some (.int .u64 b3) ∧ w2.cell? ⟨w.heap.size, 9, none⟩ = some (.int .u64 c1) ∧ w2.cell? ⟨w.heap.size, 10, none⟩ = some (.int .u64 c2) ∧ w2.cell? ⟨w.heap.size, 11, none⟩ = some (.int .u64 c3) ∧ w2.cell? ⟨w.heap.size, 12, none⟩ = some (.int .i64 q) ∧ w2.cell? ⟨w.heap.size, 13, none⟩ = some (.int .i64 y) ∧ w.heap.size < w2.heap.size) ∧ Below w.heap.size w w2 := (by exact kpb); go_split_ands; clear hcc hff hbel)) | (go_at_call 95; ((with_reducible refine (K1.out _).mono ?_); rintro e w3 ⟨rfl, hbel⟩; obtain ⟨hcc, hff⟩ := bcell hbel; have hsz := hbel.size; (try simp at hsz); have hF : (w3.cell? ⟨w.heap.size, 0, none⟩ = some (.int .i64 i) ∧ w3.cell? ⟨w.heap.size, 1, none⟩ = some (.int .i64 p) ∧ w3.cell? ⟨w.heap.size, 2, none⟩ = some (.bool true) ∧ w3.cell? ⟨w.heap.size, 3, none⟩ = some (.int .u64 a1) ∧ w3.cell? ⟨w.heap.size, 4, none⟩ = some (.int .u64 a2) ∧ w3.cell? ⟨w.heap.size, 5, none⟩ = some (.int .u64 a3) ∧ w3.cell? ⟨w.heap.size, 6, none⟩ = some (.int .u64 b1) ∧ w3.cell? ⟨w.heap.size, 7, none⟩ = some (.int .u64 b2) ∧ w3.cell? ⟨w.heap.size, 8, none⟩ = some (.int .u64 b3) ∧ w3.cell? ⟨w.heap.size, 9, none⟩ = some (.int .u64 c1) ∧ w3.cell? ⟨w.heap.size, 10, none⟩ = some (.int .u64 c2) ∧ w3.cell? ⟨w.heap.size, 11, none⟩ = some (.int .u64 c3) ∧ w3.cell? ⟨w.heap.size, 12, none⟩ = some (.int .i64 q) ∧ w3.cell? ⟨w.heap.size, 13, none⟩ = some (.int .i64 y) ∧ w.heap.size < w3.heap.size) ∧ Below w.heap.size w w3 := (by exact kpb); go_split_ands; clear hcc hff hbel)))
  all_goals
   go_ret
   refine ⟨ret_bool ?_, blb⟩
   clear K1 K2 K3
   simp [sh]
   try omega
theorem shape_c (i p : Int) (lf : Bool) (a1 a2 a3 b1 b2 b3 c1 c2 c3 q y : Int) (r s c : Bool) (k1 : ∀ w, Calls Try.prog 95 #[.agg #[.int .i64 i, .int .i64 p, .bool lf, .int .u64 a1, .int .u64 a2, .int .u64 a3, .int .u64 b1, .int .u64 b2, .int .u64 b3, .int .u64 c1, .int .u64 c2, .int .u64 c3, .int .i64 q, .int .i64 y]] w fun ee w' => ee = .returned (.bool r) ∧ Below w.heap.size w w') (k2 : ∀ w, Calls Try.prog 33 #[.agg #[.int .i64 i, .int .i64 p, .bool lf, .int .u64 a1, .int .u64 a2, .int .u64 a3, .int .u64 b1, .int .u64 b2, .int .u64 b3, .int .u64 c1, .int .u64 c2, .int .u64 c3, .int .i64 q, .int .i64 y]] w fun ee w' => ee = .returned (.bool s) ∧ Below w.heap.size w w') (k3 : ∀ w, Calls Try.prog 94 #[.agg #[.int .i64 i, .int .i64 p, .bool lf, .int .u64 a1, .int .u64 a2, .int .u64 a3, .int .u64 b1, .int .u64 b2, .int .u64 b3, .int .u64 c1, .int .u64 c2, .int .u64 c3, .int .i64 q, .int .i64 y]] w fun ee w' => ee = .returned (.bool c) ∧ Below w.heap.size w w') (w : World) : Calls Try.prog 73 #[.agg #[.int .i64 i, .int .i64 p, .bool lf, .int .u64 a1, .int .u64 a2, .int .u64 a3, .int .u64 b1, .int .u64 b2, .int .u64 b3, .int .u64 c1, .int .u64 c2, .int .u64 c3, .int .i64 q, .int .i64 y]] w fun ee w' => ee = .returned (.bool (sh lf r s c q y)) ∧ Below w.heap.size w w' := by
 cases hl : lf <;> cases hc : c
 ·subst hl hc
  exact shape_ff i p false a1 a2 a3 b1 b2 b3 c1 c2 c3 q y r s false rfl rfl k1 k2 k3 w
 ·subst hl hc
  exact shape_ft i p false a1 a2 a3 b1 b2 b3 c1 c2 c3 q y r s true rfl rfl k1 k2 k3 w
 ·subst hl hc
  exact shape_tf i p true a1 a2 a3 b1 b2 b3 c1 c2 c3 q y r s false rfl rfl k1 k2 k3 w
 ·subst hl hc
  exact shape_tt i p true a1 a2 a3 b1 b2 b3 c1 c2 c3 q y r s true rfl rfl k1 k2 k3 w
end Go.Proofs.Ytmmahgfijiocfaa
end
