/- Joined texts. -/
import Derived.Test.YtmmahgfijiocfaaBs0
import Derived.Test.YtmmahgfijiocfaaBs5
import Derived.Test.YtmmahgfijiocfaaBs6
set_option linter.unusedVariables false
set_option linter.unusedSimpArgs false
set_option maxRecDepth 100000
set_option maxHeartbeats 16000000
section
namespace Go.Proofs.Ytmmahgfijiocfaa
open Go.RowKit Fg Reg
theorem ix_0 (a1 a2 a3 b1 b2 b3 c1 c2 c3 : Int) (W : World) : (Instr.index 135 (.agg #[.int .u64 a1, .int .u64 a2, .int .u64 a3, .int .u64 b1, .int .u64 b2, .int .u64 b3, .int .u64 c1, .int .u64 c2, .int .u64 c3]) (.int .i64 0)).run Try.prog W = .ok (.agg #[.int .u64 (a1), .int .u64 (a2), .int .u64 (a3)]) W := by kernel_rfl
theorem ix_1 (a1 a2 a3 b1 b2 b3 c1 c2 c3 : Int) (W : World) : (Instr.index 135 (.agg #[.int .u64 a1, .int .u64 a2, .int .u64 a3, .int .u64 b1, .int .u64 b2, .int .u64 b3, .int .u64 c1, .int .u64 c2, .int .u64 c3]) (.int .i64 1)).run Try.prog W = .ok (.agg #[.int .u64 (b1), .int .u64 (b2), .int .u64 (b3)]) W := by kernel_rfl
theorem ix_2 (a1 a2 a3 b1 b2 b3 c1 c2 c3 : Int) (W : World) : (Instr.index 135 (.agg #[.int .u64 a1, .int .u64 a2, .int .u64 a3, .int .u64 b1, .int .u64 b2, .int .u64 b3, .int .u64 c1, .int .u64 c2, .int .u64 c3]) (.int .i64 2)).run Try.prog W = .ok (.agg #[.int .u64 (c1), .int .u64 (c2), .int .u64 (c3)]) W := by kernel_rfl
def cr (k1 k2 k3 : Int) : Bool := decide (¬ (k1 = 0 ∨ k2 = 0 ∨ k3 = 0 ∨ k2 = 4 ∨ k3 = 4))
set_option maxRecDepth 100000 in
theorem crt_c (i p : Int) (lf : Bool) (a1 a2 a3 b1 b2 b3 c1 c2 c3 q y : Int) (k1 k2 k3 : Int) (h1 : ∀ w, Calls Try.prog 82 #[.agg #[.int .u64 (a1), .int .u64 (a2), .int .u64 (a3)]] w fun ee w' => ee = .returned (.int .i64 k1) ∧ Below w.heap.size w w') (h2 : ∀ w, Calls Try.prog 82 #[.agg #[.int .u64 (b1), .int .u64 (b2), .int .u64 (b3)]] w fun ee w' => ee = .returned (.int .i64 k2) ∧ Below w.heap.size w w') (h3 : ∀ w, Calls Try.prog 82 #[.agg #[.int .u64 (c1), .int .u64 (c2), .int .u64 (c3)]] w fun ee w' => ee = .returned (.int .i64 k3) ∧ Below w.heap.size w w')
  (w : World) : Calls Try.prog 72 #[.agg #[.int .i64 i, .int .i64 p, .bool lf, .int .u64 a1, .int .u64 a2, .int .u64 a3, .int .u64 b1, .int .u64 b2, .int .u64 b3, .int .u64 c1, .int .u64 c2, .int .u64 c3, .int .i64 q, .int .i64 y]] w fun ee w' => ee = .returned (.bool (cr k1 k2 k3)) ∧ Below w.heap.size w w' := by
 have K1 := Lib.hid h1
 have K2 := Lib.hid h2
 have K3 := Lib.hid h3
 clear h1 h2 h3
 have i0 := ix_0 a1 a2 a3 b1 b2 b3 c1 c2 c3
 have i1 := ix_1 a1 a2 a3 b1 b2 b3 c1 c2 c3
 have i2 := ix_2 a1 a2 a3 b1 b2 b3 c1 c2 c3
 by_cases z1 : k1 = 0
 ·subst z1
  go_enter Try.func72, Try.ntmps72
  go_wp2
  refine wp_loop_rounds 3 ?_
  rw [rounds_succ]
  go_wp2_with (go_at_call 82; ((with_reducible refine (K1.out _).mono ?_); rintro e w1 ⟨rfl, hbel⟩; obtain ⟨hcc, hff⟩ := bcell hbel; have hsz := hbel.size; (try simp at hsz); have hF : Below w.heap.size w w1 := (by exact kpb); go_split_ands; clear hcc hff hbel))
  all_goals try (exfalso; clear K1 K2 K3 i0 i1 i2; simp_all; done)
  all_goals go_ret
  all_goals refine ⟨ret_bool (by simp [cr]), blb⟩
 ·have z1' : (k1 == 0) = false := by simpa using z1
  by_cases z2 : k2 = 0 ∨ k2 = 4
  ·have z2' : (k2 == 0 || k2 == 4) = true := by simpa using z2
   go_enter Try.func72, Try.ntmps72
   go_wp2
   refine wp_loop_rounds 3 ?_
   rw [rounds_succ]
   go_wp2_with (go_at_call 82; ((with_reducible refine (K1.out _).mono ?_); rintro e w1 ⟨rfl, hbel⟩; obtain ⟨hcc, hff⟩ := bcell hbel; have hsz := hbel.size; (try simp at hsz); have hF : Below w.heap.size w w1 := (by exact kpb); go_split_ands; clear hcc hff hbel))
   all_goals try (exfalso; clear K1 K2 K3 i0 i1 i2; simp_all; done)
   rw [rounds_succ]
   go_wp2_with (go_at_call 82; ((with_reducible refine (K2.out _).mono ?_); rintro e w2 ⟨rfl, hbel⟩; obtain ⟨hcc, hff⟩ := bcell hbel; have hsz := hbel.size; (try simp at hsz); have hF : Below w.heap.size w w2 := (by exact kpb); go_split_ands; clear hcc hff hbel))
   all_goals try (exfalso; clear K1 K2 K3 i0 i1 i2; simp_all; done)
   all_goals go_ret
   all_goals refine ⟨ret_bool (by simp [cr]; first | done | omega | (simp_all; done)), blb⟩
  ·have z2' : (k2 == 0 || k2 == 4) = false := by simpa using z2
   by_cases z3 : k3 = 0 ∨ k3 = 4
   ·have z3' : (k3 == 0 || k3 == 4) = true := by simpa using z3
    go_enter Try.func72, Try.ntmps72
    go_wp2
    refine wp_loop_rounds 3 ?_
    rw [rounds_succ]
    go_wp2_with (go_at_call 82; ((with_reducible refine (K1.out _).mono ?_); rintro e w1 ⟨rfl, hbel⟩; obtain ⟨hcc, hff⟩ := bcell hbel; have hsz := hbel.size; (try simp at hsz); have hF : Below w.heap.size w w1 := (by exact kpb); go_split_ands; clear hcc hff hbel))
    all_goals try (exfalso; clear K1 K2 K3 i0 i1 i2; simp_all; done)
    rw [rounds_succ]
    go_wp2_with (go_at_call 82; ((with_reducible refine (K2.out _).mono ?_); rintro e w2 ⟨rfl, hbel⟩; obtain ⟨hcc, hff⟩ := bcell hbel; have hsz := hbel.size; (try simp at hsz); have hF : Below w.heap.size w w2 := (by exact kpb); go_split_ands; clear hcc hff hbel))
    all_goals try (exfalso; clear K1 K2 K3 i0 i1 i2; simp_all; done)
    rw [rounds_succ]
    go_wp2_with (go_at_call 82; ((with_reducible refine (K3.out _).mono ?_); rintro e w3 ⟨rfl, hbel⟩; obtain ⟨hcc, hff⟩ := bcell hbel; have hsz := hbel.size; (try simp at hsz); have hF : Below w.heap.size w w3 := (by exact kpb); go_split_ands; clear hcc hff hbel))
    all_goals try (exfalso; clear K1 K2 K3 i0 i1 i2; simp_all; done)
    all_goals go_ret
    all_goals refine ⟨ret_bool (by simp [cr]; first | done | omega | (simp_all; done)), blb⟩
   ·have z3' : (k3 == 0 || k3 == 4) = false := by simpa using z3
    go_enter Try.func72, Try.ntmps72
    go_wp2
    refine wp_loop_rounds 4 ?_
    rw [rounds_succ]
    go_wp2_with (go_at_call 82; ((with_reducible refine (K1.out _).mono ?_); rintro e w1 ⟨rfl, hbel⟩; obtain ⟨hcc, hff⟩ := bcell hbel; have hsz := hbel.size; (try simp at hsz); have hF : Below w.heap.size w w1 := (by exact kpb); go_split_ands; clear hcc hff hbel))
    all_goals try (exfalso; clear K1 K2 K3 i0 i1 i2; simp_all; done)
    rw [rounds_succ]
    go_wp2_with (go_at_call 82; ((with_reducible refine (K2.out _).mono ?_); rintro e w2 ⟨rfl, hbel⟩; obtain ⟨hcc, hff⟩ := bcell hbel; have hsz := hbel.size; (try simp at hsz); have hF : Below w.heap.size w w2 := (by exact kpb); go_split_ands; clear hcc hff hbel))
    all_goals try (exfalso; clear K1 K2 K3 i0 i1 i2; simp_all; done)
    rw [rounds_succ]
    go_wp2_with (go_at_call 82; ((with_reducible refine (K3.out _).mono ?_); rintro e w3 ⟨rfl, hbel⟩; obtain ⟨hcc, hff⟩ := bcell hbel; have hsz := hbel.size; (try simp at hsz); have hF : Below w.heap.size w w3 := (by exact kpb); go_split_ands; clear hcc hff hbel))
    all_goals try (exfalso; clear K1 K2 K3 i0 i1 i2; simp_all; done)
    rw [rounds_succ]
    go_wp2
    all_goals go_ret
    all_goals refine ⟨ret_bool (by simp [cr]; first | done | omega | (simp_all; done)), blb⟩
end Go.Proofs.Ytmmahgfijiocfaa
end
section
namespace Go.Proofs.Ytmmahgfijiocfaa
open Go.RowKit Fg Reg
def who (i p : Int) : Bool := decide (i < 1) || decide (65536 < i) || decide (p < 0) || decide (65536 < p) || p == i
def wr (i p : Int) (c s : Bool) : Int := if who i p = true then 1 else if c = false then 21 else if s = false then 29 else 0
theorem right_c (i p : Int) (lf : Bool) (a1 a2 a3 b1 b2 b3 c1 c2 c3 q y : Int) (c s : Bool) (h1 : ∀ w, Calls Try.prog 72 #[.agg #[.int .i64 i, .int .i64 p, .bool lf, .int .u64 a1, .int .u64 a2, .int .u64 a3, .int .u64 b1, .int .u64 b2, .int .u64 b3, .int .u64 c1, .int .u64 c2, .int .u64 c3, .int .i64 q, .int .i64 y]] w fun ee w' => ee = .returned (.bool c) ∧ Below w.heap.size w w') (h2 : ∀ w, Calls Try.prog 73 #[.agg #[.int .i64 i, .int .i64 p, .bool lf, .int .u64 a1, .int .u64 a2, .int .u64 a3, .int .u64 b1, .int .u64 b2, .int .u64 b3, .int .u64 c1, .int .u64 c2, .int .u64 c3, .int .i64 q, .int .i64 y]] w fun ee w' => ee = .returned (.bool s) ∧ Below w.heap.size w w') (w : World) : Calls Try.prog 51 #[.agg #[.int .i64 i, .int .i64 p, .bool lf, .int .u64 a1, .int .u64 a2, .int .u64 a3, .int .u64 b1, .int .u64 b2, .int .u64 b3, .int .u64 c1, .int .u64 c2, .int .u64 c3, .int .i64 q, .int .i64 y]] w fun ee w' => ee = .returned (.int .i64 (wr i p c s)) ∧ Below w.heap.size w w' := by
 have K1 := Lib.hid h1
 have K2 := Lib.hid h2
 clear h1 h2
 cases hb : who i p
 ·have hb' := hb
  unfold who at hb'
  cases c
  ·go_enter Try.func51, Try.ntmps51
   go_wp2_with (first | (go_at_call 72; ((with_reducible refine (K1.out _).mono ?_); rintro e w1 ⟨rfl, hbel⟩; obtain ⟨hcc, hff⟩ := bcell hbel; have hsz := hbel.size; (try simp at hsz); have hF : (w1.cell? ⟨w.heap.size, 0, none⟩ = some (.int .i64 i) ∧ w1.cell? ⟨w.heap.size, 1, none⟩ = some (.int .i64 p) ∧ w1.cell? ⟨w.heap.size, 2, none⟩ = some (.bool lf) ∧ w1.cell? ⟨w.heap.size, 3, none⟩ = some (.int .u64 a1) ∧ w1.cell? ⟨w.heap.size, 4, none⟩ = some (.int .u64 a2) ∧ w1.cell? ⟨w.heap.size, 5, none⟩ = some (.int .u64 a3) ∧ w1.cell? ⟨w.heap.size, 6, none⟩ = some (.int .u64 b1) ∧ w1.cell? ⟨w.heap.size, 7, none⟩ = some (.int .u64 b2) ∧ w1.cell? ⟨w.heap.size, 8, none⟩ = some (.int .u64 b3) ∧ w1.cell? ⟨w.heap.size, 9, none⟩ = some (.int .u64 c1) ∧ w1.cell? ⟨w.heap.size, 10, none⟩ = some (.int .u64 c2) ∧ w1.cell? ⟨w.heap.size, 11, none⟩ = some (.int .u64 c3) ∧ w1.cell? ⟨w.heap.size, 12, none⟩ = some (.int .i64 q) ∧ w1.cell? ⟨w.heap.size, 13, none⟩ = some (.int .i64 y) ∧ w.heap.size < w1.heap.size) ∧ Below w.heap.size w w1 := (by exact kpb); go_split_ands; clear hcc hff hbel)) | (go_at_call 73; ((with_reducible refine (K2.out _).mono ?_); rintro e w2 ⟨rfl, hbel⟩; obtain ⟨hcc, hff⟩ := bcell hbel; have hsz := hbel.size; (try simp at hsz); have hF : (w2.cell? ⟨w.heap.size, 0, none⟩ = some (.int .i64 i) ∧ w2.cell? ⟨w.heap.size, 1, none⟩ = some (.int .i64 p) ∧ w2.cell? ⟨w.heap.size, 2, none⟩ = some (.bool lf) ∧ w2.cell? ⟨w.heap.size, 3, none⟩ = some (.int .u64 a1) ∧ w2.cell? ⟨w.heap.size, 4, none⟩ = some (.int .u64 a2) ∧ w2.cell? ⟨w.heap.size, 5, none⟩ = some (.int .u64 a3) ∧ w2.cell? ⟨w.heap.size, 6, none⟩ = some (.int .u64 b1) ∧ w2.cell? ⟨w.heap.size, 7, none⟩ = some (.int .u64 b2) ∧ w2.cell? ⟨w.heap.size, 8, none⟩ = some (.int .u64 b3) ∧ w2.cell? ⟨w.heap.size, 9, none⟩ = some (.int .u64 c1) ∧ w2.cell? ⟨w.heap.size, 10, none⟩ = some (.int .u64 c2) ∧ w2.cell? ⟨w.heap.size, 11, none⟩ = some (.int .u64 c3) ∧ w2.cell? ⟨w.heap.size, 12, none⟩ = some (.int .i64 q) ∧ w2.cell? ⟨w.heap.size, 13, none⟩ = some (.int .i64 y) ∧ w.heap.size < w2.heap.size) ∧ Below w.heap.size w w2 := (by exact kpb); go_split_ands; clear hcc hff hbel)))
   all_goals first | (exfalso; clear K1 K2; simp_all; done) | (exfalso; simp_all; omega) | (go_ret; refine ⟨ret_int (by simp [wr, hb]), blb⟩)
  ·cases s
   all_goals
    go_enter Try.func51, Try.ntmps51
    go_wp2_with (first | (go_at_call 72; ((with_reducible refine (K1.out _).mono ?_); rintro e w1 ⟨rfl, hbel⟩; obtain ⟨hcc, hff⟩ := bcell hbel; have hsz := hbel.size; (try simp at hsz); have hF : (w1.cell? ⟨w.heap.size, 0, none⟩ = some (.int .i64 i) ∧ w1.cell? ⟨w.heap.size, 1, none⟩ = some (.int .i64 p) ∧ w1.cell? ⟨w.heap.size, 2, none⟩ = some (.bool lf) ∧ w1.cell? ⟨w.heap.size, 3, none⟩ = some (.int .u64 a1) ∧ w1.cell? ⟨w.heap.size, 4, none⟩ = some (.int .u64 a2) ∧ w1.cell? ⟨w.heap.size, 5, none⟩ = some (.int .u64 a3) ∧ w1.cell? ⟨w.heap.size, 6, none⟩ = some (.int .u64 b1) ∧ w1.cell? ⟨w.heap.size, 7, none⟩ = some (.int .u64 b2) ∧ w1.cell? ⟨w.heap.size, 8, none⟩ = some (.int .u64 b3) ∧ w1.cell? ⟨w.heap.size, 9, none⟩ = some (.int .u64 c1) ∧ w1.cell? ⟨w.heap.size, 10, none⟩ = some (.int .u64 c2) ∧ w1.cell? ⟨w.heap.size, 11, none⟩ = some (.int .u64 c3) ∧ w1.cell? ⟨w.heap.size, 12, none⟩ = some (.int .i64 q) ∧ w1.cell? ⟨w.heap.size, 13, none⟩ = some (.int .i64 y) ∧ w.heap.size < w1.heap.size) ∧ Below w.heap.size w w1 := (by exact kpb); go_split_ands; clear hcc hff hbel)) | (go_at_call 73; ((with_reducible refine (K2.out _).mono ?_); rintro e w2 ⟨rfl, hbel⟩; obtain ⟨hcc, hff⟩ := bcell hbel; have hsz := hbel.size; (try simp at hsz); have hF : (w2.cell? ⟨w.heap.size, 0, none⟩ = some (.int .i64 i) ∧ w2.cell? ⟨w.heap.size, 1, none⟩ = some (.int .i64 p) ∧ w2.cell? ⟨w.heap.size, 2, none⟩ = some (.bool lf) ∧ w2.cell? ⟨w.heap.size, 3, none⟩ = some (.int .u64 a1) ∧ w2.cell? ⟨w.heap.size, 4, none⟩ = some (.int .u64 a2) ∧ w2.cell? ⟨w.heap.size, 5, none⟩ = some (.int .u64 a3) ∧ w2.cell? ⟨w.heap.size, 6, none⟩ = some (.int .u64 b1) ∧ w2.cell? ⟨w.heap.size, 7, none⟩ = some (.int .u64 b2) ∧ w2.cell? ⟨w.heap.size, 8, none⟩ = some (.int .u64 b3) ∧ w2.cell? ⟨w.heap.size, 9, none⟩ = some (.int .u64 c1) ∧ w2.cell? ⟨w.heap.size, 10, none⟩ = some (.int .u64 c2) ∧ w2.cell? ⟨w.heap.size, 11, none⟩ = some (.int .u64 c3) ∧ w2.cell? ⟨w.heap.size, 12, none⟩ = some (.int .i64 q) ∧ w2.cell? ⟨w.heap.size, 13, none⟩ = some (.int .i64 y) ∧ w.heap.size < w2.heap.size) ∧ Below w.heap.size w w2 := (by exact kpb); go_split_ands; clear hcc hff hbel)))
    all_goals first | (exfalso; clear K1 K2; simp_all; done) | (exfalso; simp_all; omega) | (go_ret; refine ⟨ret_int (by simp [wr, hb]), blb⟩)
 ·have hb' := hb
  unfold who at hb'
  go_enter Try.func51, Try.ntmps51
  go_wp2
  all_goals first | (exfalso; clear K1 K2; simp_all; done) | (exfalso; simp_all; omega) | (go_ret; refine ⟨ret_int (by simp [wr, hb]), blb⟩)
end Go.Proofs.Ytmmahgfijiocfaa
end
section
namespace Go.Proofs.Ytmmahgfijiocfaa
open Go.RowKit Fg Reg Go.Maps
attribute [local irreducible] Reg.wE
structure CIn (c : Cls) : Prop where
 id : iok c.id
 par : iok c.par
 ra : In c.ra
 rb : In c.rb
 rc : In c.rc
 la : In c.la
 lb : In c.lb
 lc : In c.lc
 ua : In c.ua
 ub : In c.ub
 uc : In c.uc
 pk : iok c.pk
 bt : iok c.bt
def rl1 (c : Cls) : Bool := decide (1 < kind c.ra c.rb c.rc)
def sh1 (c : Cls) : Bool := decide (1 < kind c.la c.lb c.lc)
def cp1 (c : Cls) : Bool := decide (1 < kind c.ua c.ub c.uc)
def wrC (c : Cls) : Int := wr c.id c.par (cr (kind c.ra c.rb c.rc) (kind c.la c.lb c.lc) (kind c.ua c.ub c.uc)) (sh c.leaf (rl1 c) (sh1 c) (cp1 c) c.pk c.bt)
theorem creal_c {c : Cls} (h : CIn c) (w : World) : Calls Try.prog 95 #[.agg #[.int .i64 c.id, .int .i64 c.par, .bool c.leaf, .int .u64 c.ra, .int .u64 c.rb, .int .u64 c.rc, .int .u64 c.la, .int .u64 c.lb, .int .u64 c.lc, .int .u64 c.ua, .int .u64 c.ub, .int .u64 c.uc, .int .i64 c.pk, .int .i64 c.bt]] w fun ee w' => ee = .returned (.bool (rl1 c)) ∧ Below w.heap.size w w' :=
 real_c c.id c.par c.leaf c.ra c.rb c.rc c.la c.lb c.lc c.ua c.ub c.uc c.pk c.bt _ (has_c _ _ _ _ (skof_c _ _ _ h.ra h.rb h.rc)) w
theorem cshares_c {c : Cls} (h : CIn c) (w : World) : Calls Try.prog 33 #[.agg #[.int .i64 c.id, .int .i64 c.par, .bool c.leaf, .int .u64 c.ra, .int .u64 c.rb, .int .u64 c.rc, .int .u64 c.la, .int .u64 c.lb, .int .u64 c.lc, .int .u64 c.ua, .int .u64 c.ub, .int .u64 c.uc, .int .i64 c.pk, .int .i64 c.bt]] w fun ee w' => ee = .returned (.bool (sh1 c)) ∧ Below w.heap.size w w' :=
 shares_c c.id c.par c.leaf c.ra c.rb c.rc c.la c.lb c.lc c.ua c.ub c.uc c.pk c.bt _ (has_c _ _ _ _ (skof_c _ _ _ h.la h.lb h.lc)) w
theorem ccapped_c {c : Cls} (h : CIn c) (w : World) : Calls Try.prog 94 #[.agg #[.int .i64 c.id, .int .i64 c.par, .bool c.leaf, .int .u64 c.ra, .int .u64 c.rb, .int .u64 c.rc, .int .u64 c.la, .int .u64 c.lb, .int .u64 c.lc, .int .u64 c.ua, .int .u64 c.ub, .int .u64 c.uc, .int .i64 c.pk, .int .i64 c.bt]] w fun ee w' => ee = .returned (.bool (cp1 c)) ∧ Below w.heap.size w w' :=
 capped_c c.id c.par c.leaf c.ra c.rb c.rc c.la c.lb c.lc c.ua c.ub c.uc c.pk c.bt _ (has_c _ _ _ _ (skof_c _ _ _ h.ua h.ub h.uc)) w
theorem cright_c {c : Cls} (h : CIn c) (w : World) : Calls Try.prog 51 #[.agg #[.int .i64 c.id, .int .i64 c.par, .bool c.leaf, .int .u64 c.ra, .int .u64 c.rb, .int .u64 c.rc, .int .u64 c.la, .int .u64 c.lb, .int .u64 c.lc, .int .u64 c.ua, .int .u64 c.ub, .int .u64 c.uc, .int .i64 c.pk, .int .i64 c.bt]] w fun ee w' => ee = .returned (.int .i64 (wrC c)) ∧ Below w.heap.size w w' :=
 right_c c.id c.par c.leaf c.ra c.rb c.rc c.la c.lb c.lc c.ua c.ub c.uc c.pk c.bt _ _
  (crt_c _ _ _ _ _ _ _ _ _ _ _ _ _ _ _ _ _ (skof_c _ _ _ h.ra h.rb h.rc) (skof_c _ _ _ h.la h.lb h.lc) (skof_c _ _ _ h.ua h.ub h.uc))
  (shape_c _ _ _ _ _ _ _ _ _ _ _ _ _ _ _ _ _ (creal_c h) (cshares_c h) (ccapped_c h)) w
theorem wrC_zero {c : Cls} (h : wrC c = 0) : 1 ≤ c.id ∧ c.id ≤ 65536 ∧ 0 ≤ c.par ∧ c.par ≤ 65536 ∧ c.par ≠ c.id ∧ (c.leaf = false → rl1 c = false) := by
 unfold wrC wr at h
 split at h
 ·cases h
 ·rename_i h1
  split at h
  ·cases h
  ·split at h
   ·cases h
   ·rename_i h3
    simp [who] at h1
    refine ⟨by omega, by omega, by omega, by omega, h1.2, fun hl => ?_⟩
    simp [sh, hl] at h3
    exact h3.2.2.2
def shA (f : Int → Option Cls) (i : Int) : Bool := (i == 0) || (match f i with | some c => sh1 c | none => false)
theorem sharesAt_c {w : World} {tb mb : Nat} {f : Int → Option Cls} (h : HT w tb mb f) {i : Int} (hi : iok i) (hf : i ≠ 0 → ∃ c, f i = some c ∧ CIn c) : Calls Try.prog 53 #[.pointer (some ⟨tb, 0, none⟩), .int .i64 i] w fun ee w' => ee = .returned (.bool (shA f i)) ∧ Below w.heap.size w w' := by
 have c0 := h.c0
 have lt := h.lt
 have hl0 := h.look hi false
 unfold shA
 cases hz : (i == 0) with
 | true =>
  rw [Bool.true_or]
  clear hl0 h
  go_enter Try.func53, Try.ntmps53
  go_wp2_with (first | go_guarded)
  refine bodyPost_ret (v := (.bool true)) (by simp [results, Try.results53, go_sem, *]) rfl ⟨rfl, ?_⟩
  exact bub
 | false =>
  obtain ⟨c, hc, hin⟩ := hf (by simpa using hz)
  rw [Bool.false_or]
  have HC := Lib.hid hc
  rw [hc] at hl0 ⊢
  have hl : (Instr.lookup 85 (.map (some mb)) (.int .i64 i) false).run Try.prog w = .ok (.agg #[.int .i64 c.id, .int .i64 c.par, .bool c.leaf, .int .u64 c.ra, .int .u64 c.rb, .int .u64 c.rc, .int .u64 c.la, .int .u64 c.lb, .int .u64 c.lc, .int .u64 c.ua, .int .u64 c.ub, .int .u64 c.uc, .int .i64 c.pk, .int .i64 c.bt]) w := hl0
  have K := Lib.hid (fun z => cshares_c hin z)
  show Calls Try.prog 53 #[.pointer (some ⟨tb, 0, none⟩), .int .i64 i] w fun ee w' => ee = .returned (.bool (sh1 c)) ∧ Below w.heap.size w w'
  clear hl0 h hc hf
  go_enter Try.func53, Try.ntmps53
  go_wp2_with (first | go_guarded | (go_at_call 33; (with_reducible refine (K.out _).mono ?_); rintro _ w1 ⟨rfl, hbel⟩))
  refine bodyPost_ret (v := (.bool (sh1 c))) (by simp [results, Try.results53, go_sem, *]) rfl ⟨rfl, ?_⟩
  first | (with_reducible assumption) | exact bub
end Go.Proofs.Ytmmahgfijiocfaa
end
