/- Joined texts. -/
import Derived.Test.YtffaahipgabkhaaGreatJn0
import Derived.Test.YtffaahipgabkhaaGreatJn1
import Derived.Test.YtffaahipgabkhaaGreatJn8
import Derived.Test.YtffaahipgabkhaaGreatJn9
set_option linter.unusedVariables false
set_option linter.unusedSimpArgs false
set_option maxRecDepth 100000
set_option maxHeartbeats 16000000
section
namespace Go.Proofs.YtffaahipgabkhaaGreat
namespace Fg
def kind (m1 d m2 : Int) : Int :=
 if 4294967295 < m1 ∨ 4294967295 < m2 ∨ 1048576 < d then 0
 else if m1 = 0 ∧ d = 0 ∧ m2 = 0 then 1
 else if m1 = m2 ∧ d = 0 then 2
 else if m2 < m1 ∧ 0 < d then 3
 else if m1 = 0 ∧ 0 < m2 ∧ 0 < d then 4 else 0
structure Okc (m1 d m2 : Int) : Prop where
 n1 : 0 ≤ m1
 n2 : 0 ≤ d
 n3 : 0 ≤ m2
 b1 : m1 ≤ 4294967295
 b2 : d ≤ 1048576
 b3 : m2 ≤ 4294967295
theorem okc {m1 d m2 : Int} (h1 : In m1) (h2 : In d) (h3 : In m2) (h : ¬ kind m1 d m2 = 0) : Okc m1 d m2 := by
 unfold kind at h
 split at h
 ·exact absurd rfl h
 ·unfold In at *
  constructor <;> omega
theorem kind_range (m1 d m2 : Int) : 0 ≤ kind m1 d m2 ∧ kind m1 d m2 ≤ 4 := by
 unfold kind; repeat' split
 all_goals omega
def sv (m1 d m2 t : Int) : Int := if t ≤ d then m1 * t else m1 * d + m2 * (t - d)
def srv (m1 d m2 t : Int) : Int := if kind m1 d m2 = 0 then 0 else sv m1 d m2 t
theorem srv_ok {m1 d m2 : Int} (h : ¬ kind m1 d m2 = 0) (t : Int) : srv m1 d m2 t = sv m1 d m2 t := if_neg h
theorem srv_no {m1 d m2 : Int} (h : kind m1 d m2 = 0) (t : Int) : srv m1 d m2 t = 0 := if_pos h
theorem mul_bd {m t a b : Int} (h0 : 0 ≤ m) (h1 : m ≤ a) (g0 : 0 ≤ t) (g1 : t ≤ b) (ha : 0 ≤ a) : 0 ≤ m * t ∧ m * t ≤ a * b :=
 ⟨Int.mul_nonneg h0 g0, Int.mul_le_mul h1 g1 g0 ha⟩
theorem sv_nn {m1 d m2 t : Int} (h : Okc m1 d m2) (ht : 0 ≤ t) : 0 ≤ sv m1 d m2 t := by
 unfold sv
 split
 ·exact Int.mul_nonneg h.n1 ht
 ·have h1 := Int.mul_nonneg h.n1 h.n2
  have h2 := Int.mul_nonneg h.n3 (show 0 ≤ t - d by omega)
  omega
theorem sv_lt {m1 d m2 t : Int} (h : Okc m1 d m2) (ht : In t) : sv m1 d m2 t ≤ 79228162532711081662980096000 := by
 unfold sv
 unfold In at ht
 split
 ·have := (mul_bd h.n1 h.b1 ht.1 (show t ≤ 1048576 by have := h.b2; omega) (by omega)).2
  omega
 ·have h1 := (mul_bd h.n1 h.b1 h.n2 h.b2 (by omega)).2
  have h2 := (mul_bd h.n3 h.b3 (show 0 ≤ t - d by omega) (show t - d ≤ 18446744073709551615 by have := h.n2; omega) (by omega)).2
  omega
def clg (n d : Int) : Int := if n % d = 0 then n / d else n / d + 1
def ov (W m b : Int) : Int := if W = 0 then b else if m = 0 then 9223372036854775808 else if clg W m + b < 9223372036854775808 then b + clg W m else 9223372036854775808
def tk (m1 d m2 W : Int) : Int := if kind m1 d m2 = 0 then 9223372036854775808 else if W ≤ m1 * d then ov W m1 0 else ov (W - m1 * d) m2 d
end Fg
end Go.Proofs.YtffaahipgabkhaaGreat
namespace Go.Proofs.YtffaahipgabkhaaGreat
open Go.RowKit Fg Reg
theorem kof_c (m1 d m2 : Int) (h1 : In m1) (h2 : In d) (h3 : In m2) (w : World) : Calls Tryz.prog 108 #[.agg #[.int .u64 (m1), .int .u64 (d), .int .u64 (m2)]] w fun ee w' => ee = .returned (.int .i64 (kind m1 d m2)) ∧ Below w.heap.size w w' := by
 have b1 : 0 ≤ m1 := h1.1
 have b2 : 0 ≤ d := h2.1
 have b3 : 0 ≤ m2 := h3.1
 go_enter Tryz.func108, Tryz.ntmps108
 go_wp2
 all_goals
  go_ret
  refine ⟨ret_int ?_, blb⟩
  unfold kind
  (repeat' split) <;> first | rfl | omega | (simp_all; done)
theorem krt_yes (m1 d m2 : Int) (h1 : In m1) (h2 : In d) (h3 : In m2) (h : ¬ kind m1 d m2 = 0) (w : World) : Calls Tryz.prog 82 #[.agg #[.int .u64 (m1), .int .u64 (d), .int .u64 (m2)]] w fun ee w' => ee = .returned (.bool true) ∧ Below w.heap.size w w' := by
 have K := Lib.hid (kof_c m1 d m2 h1 h2 h3)
 have h0 : (kind m1 d m2 == 0) = false := by simpa using h
 have h0' : (kind m1 d m2 != 0) = true := by simpa using h
 clear h
 generalize kind m1 d m2 = k at *
 go_enter Tryz.func82, Tryz.ntmps82
 go_wp2_with (go_at_call 108; ((with_reducible refine (K.out _).mono ?_); rintro e w1 ⟨rfl, hbel⟩; obtain ⟨hcc, hff⟩ := bcell hbel; have hsz := hbel.size; (try simp at hsz); have hF : Below w.heap.size w w1 := (by exact kpb); go_split_ands; clear hcc hff hbel))
 (go_ret; refine ⟨?_, ?_⟩; (focus (exact rfl)); exact blb)
theorem krt_no (m1 d m2 : Int) (h1 : In m1) (h2 : In d) (h3 : In m2) (h : kind m1 d m2 = 0) (w : World) : Calls Tryz.prog 82 #[.agg #[.int .u64 (m1), .int .u64 (d), .int .u64 (m2)]] w fun ee w' => ee = .returned (.bool false) ∧ Below w.heap.size w w' := by
 have k := kof_c m1 d m2 h1 h2 h3
 rw [h] at k
 have K := Lib.hid k
 clear k h
 go_enter Tryz.func82, Tryz.ntmps82
 go_wp2_with (go_at_call 108; ((with_reducible refine (K.out _).mono ?_); rintro e w1 ⟨rfl, hbel⟩; obtain ⟨hcc, hff⟩ := bcell hbel; have hsz := hbel.size; (try simp at hsz); have hF : Below w.heap.size w w1 := (by exact kpb); go_split_ands; clear hcc hff hbel))
 (go_ret; refine ⟨?_, ?_⟩; (focus (exact rfl)); exact blb)
theorem ksc_ok (t : Int) (h : 1 ≤ t) (h' : t ≤ 9223372036854775807) (w : World) : Calls Tryz.prog 91 #[.int .i64 t] w fun ee w' => ee = .returned (.int .u64 (65536 / t)) ∧ Below w.heap.size w w' := by
 have hw : IntKind.u64.wrap t = t := by rw [wrap_u64]; omega
 go_enter Tryz.func91, Tryz.ntmps91
 go_wp2
 (go_ret; refine ⟨?_, ?_⟩; (focus (exact rfl)); exact blb)
theorem ksv_no (m1 d m2 t : Int) (h1 : In m1) (h2 : In d) (h3 : In m2) (h : kind m1 d m2 = 0) (w : World) : Calls Tryz.prog 115 #[.agg #[.int .u64 (m1), .int .u64 (d), .int .u64 (m2)], .int .u64 t] w fun ee w' => ee = .returned (.agg #[.int .u64 0, .int .u64 0]) ∧ Below w.heap.size w w' := by
 have K := Lib.hid (krt_no m1 d m2 h1 h2 h3 h)
 clear h
 go_enter Tryz.func115, Tryz.ntmps115
 go_wp2_with (go_at_call 82; ((with_reducible refine (K.out _).mono ?_); rintro e w1 ⟨rfl, hbel⟩; obtain ⟨hcc, hff⟩ := bcell hbel; have hsz := hbel.size; (try simp at hsz); have hF : (w1.cell? ⟨w.heap.size, 0, none⟩ = some (.int .u64 m1) ∧ w1.cell? ⟨w.heap.size, 1, none⟩ = some (.int .u64 d) ∧ w1.cell? ⟨w.heap.size, 2, none⟩ = some (.int .u64 m2) ∧ w.heap.size < w1.heap.size) ∧ (w1.cell? ⟨w.heap.size + 1, 0, none⟩ = some (.int .u64 (0)) ∧ w1.cell? ⟨w.heap.size + 1, 1, none⟩ = some (.int .u64 (0)) ∧ w1.frozen? ⟨w.heap.size + 1, 0, none⟩ = false ∧ w1.frozen? ⟨w.heap.size + 1, 1, none⟩ = false ∧ w.heap.size + 1 < w1.heap.size) ∧ Below w.heap.size w w1 := (by exact kpb); go_split_ands; clear hcc hff hbel))
 refine bodyPost_ret (v := .agg #[.int .u64 0, .int .u64 0]) (by simp [results, Tryz.results115, go_sem, *]) rfl ⟨rfl, blb⟩
set_option maxRecDepth 100000 in
theorem ksv_lo (m1 d m2 t x y : Int) (h1 : In m1) (h2 : In d) (h3 : In m2) (ht : In t) (hle : t ≤ d) (h : ¬ kind m1 d m2 = 0)
  (k2 : ∀ w, Calls Tryz.prog 131 #[.int .u64 m1, .int .u64 t] w fun ee w' => ee = .returned (.agg #[.int .u64 x, .int .u64 y]) ∧ Below w.heap.size w w')
  (k3 : ∀ w, Calls Tryz.prog 131 #[.int .u64 m2, .int .u64 0] w fun ee w' => ee = .returned (.agg #[.int .u64 0, .int .u64 0]) ∧ Below w.heap.size w w')
  (k4 : ∀ w, Calls Tryz.prog 130 #[.agg #[.int .u64 x, .int .u64 y], .agg #[.int .u64 0, .int .u64 0]] w fun ee w' => ee = .returned (.tuple #[.agg #[.int .u64 x, .int .u64 y], .bool false]) ∧ Below w.heap.size w w')
  (w : World) : Calls Tryz.prog 115 #[.agg #[.int .u64 (m1), .int .u64 (d), .int .u64 (m2)], .int .u64 t] w fun ee w' => ee = .returned (.agg #[.int .u64 x, .int .u64 y]) ∧ Below w.heap.size w w' := by
 have ht' : 0 ≤ t ∧ t ≤ 18446744073709551615 := ht
 have hmin : (if d < t then d else t) = t := if_neg (by omega)
 have K := Lib.hid (krt_yes m1 d m2 h1 h2 h3 h)
 have K2 := Lib.hid k2
 have K3 := Lib.hid k3
 have K4 := Lib.hid k4
 clear h k2 k3 k4
 go_enter Tryz.func115, Tryz.ntmps115
 go_wp2_with (go_at_call 82; ((with_reducible refine (K.out _).mono ?_); rintro e w1 ⟨rfl, hbel⟩; obtain ⟨hcc, hff⟩ := bcell hbel; have hsz := hbel.size; (try simp at hsz); have hF : (w1.cell? ⟨w.heap.size, 0, none⟩ = some (.int .u64 m1) ∧ w1.cell? ⟨w.heap.size, 1, none⟩ = some (.int .u64 d) ∧ w1.cell? ⟨w.heap.size, 2, none⟩ = some (.int .u64 m2) ∧ w.heap.size < w1.heap.size) ∧ (w1.cell? ⟨w.heap.size + 1, 0, none⟩ = some (.int .u64 (0)) ∧ w1.cell? ⟨w.heap.size + 1, 1, none⟩ = some (.int .u64 (0)) ∧ w1.frozen? ⟨w.heap.size + 1, 0, none⟩ = false ∧ w1.frozen? ⟨w.heap.size + 1, 1, none⟩ = false ∧ w.heap.size + 1 < w1.heap.size) ∧ Below w.heap.size w w1 := (by exact kpb); go_split_ands; clear hcc hff hbel))
 obtain ⟨Cl, HCl⟩ := zH (α := List Value → World → Prop) (((fun ps w' => ((w'.cell? ⟨w.heap.size, 0, none⟩ = some (.int .u64 m1) ∧ w'.cell? ⟨w.heap.size, 1, none⟩ = some (.int .u64 d) ∧ w'.cell? ⟨w.heap.size, 2, none⟩ = some (.int .u64 m2) ∧ w.heap.size < w'.heap.size) ∧ (w'.cell? ⟨w.heap.size + 1, 0, none⟩ = some (.int .u64 (0)) ∧ w'.cell? ⟨w.heap.size + 1, 1, none⟩ = some (.int .u64 (0)) ∧ w'.frozen? ⟨w.heap.size + 1, 0, none⟩ = false ∧ w'.frozen? ⟨w.heap.size + 1, 1, none⟩ = false ∧ w.heap.size + 1 < w'.heap.size) ∧ Below w.heap.size w w') ∧ (match ps with | [] => True | [pz] => ∃ b, pz = Value.pointer (some ⟨b, 0, none⟩) ∧ w.heap.size + 1 < b ∧ (w'.cell? ⟨b, 0, none⟩ = some (.int .u64 (0)) ∧ w'.cell? ⟨b, 1, none⟩ = some (.int .u64 (0)) ∧ w'.frozen? ⟨b, 0, none⟩ = false ∧ w'.frozen? ⟨b, 1, none⟩ = false ∧ b < w'.heap.size) | (pz :: _ :: _) => ∃ b, pz = Value.pointer (some ⟨b, 0, none⟩) ∧ w.heap.size + 1 < b ∧ (w'.cell? ⟨b, 0, none⟩ = some (.int .u64 (x)) ∧ w'.cell? ⟨b, 1, none⟩ = some (.int .u64 (y)) ∧ w'.frozen? ⟨b, 0, none⟩ = false ∧ w'.frozen? ⟨b, 1, none⟩ = false ∧ b < w'.heap.size))))); refine wp_region_eff [14, 15] Cl (by kernel_rfl) (by kernel_rfl) (by simp only [HCl.out, zD, zE]; exact kpb) ?_
 (repeat ((first | (refine wE_skip (by rfl) ?_) | (refine wE_open (by rfl) (by rfl) ?_; apply Exists.intro; refine ⟨fun vs wq hw => ?_, ?_⟩; (focus (simp only [HCl.out, zD, zE] at hw; go_split_ands; go_simp <;> exact ebb))) | (refine wE_open (by rfl) (by rfl) ?_; apply Exists.intro; refine ⟨fun vs wq hw => ?_, ?_⟩; (focus (simp only [HCl.out, zD, zE] at hw; obtain ⟨hw1, hw2⟩ := hw; go_split_ands; go_simp; (first | (go_at_call 131; first | ((with_reducible refine (K2.out _).mono ?_); rintro e w' ⟨rfl, hbel⟩; obtain ⟨hcc, hff⟩ := bcell hbel; have hsz := hbel.size; (try simp at hsz); refine ⟨rfl, ?_⟩; simp only [HCl.out, zD, zE]; refine ⟨(by exact kpb), ?_⟩; (rcases vs with _ | ⟨p1, _ | ⟨p2, vs⟩⟩ <;> first | exact trivial | (obtain ⟨bq, hbe, hlb, hz⟩ := hw2; exact ⟨bq, hbe, hlb, (by exact kpb)⟩))) | ((with_reducible refine (K3.out _).mono ?_); rintro e w' ⟨rfl, hbel⟩; obtain ⟨hcc, hff⟩ := bcell hbel; have hsz := hbel.size; (try simp at hsz); refine ⟨rfl, ?_⟩; simp only [HCl.out, zD, zE]; refine ⟨(by exact kpb), ?_⟩; (rcases vs with _ | ⟨p1, _ | ⟨p2, vs⟩⟩ <;> first | exact trivial | (obtain ⟨bq, hbe, hlb, hz⟩ := hw2; exact ⟨bq, hbe, hlb, (by exact kpb)⟩)))) | (go_at_call 130; ((with_reducible refine (K4.out _).mono ?_); rintro e w' ⟨rfl, hbel⟩; obtain ⟨hcc, hff⟩ := bcell hbel; have hsz := hbel.size; (try simp at hsz); refine ⟨rfl, ?_⟩; simp only [HCl.out, zD, zE]; refine ⟨(by exact kpb), ?_⟩; (rcases vs with _ | ⟨p1, _ | ⟨p2, vs⟩⟩ <;> first | exact trivial | (obtain ⟨bq, hbe, hlb, hz⟩ := hw2; exact ⟨bq, hbe, hlb, (by exact kpb)⟩))))))))); simp only [Act.put, Nat.reduceAdd, zA, zB, zC, zD, zE]))
 refine wE_eff (by rfl) (by rfl) (fun wq hw => ?_) (fun u hu => ?_); (focus (simp only [HCl.out, zD, zE] at hw; go_split_ands; go_simp; simp only [HCl.out, zD, zE]; refine ⟨?_, wq.heap.size, rfl, ?_⟩ <;> exact kpb)); obtain ⟨wz, hz⟩ := hu; rw [HCl.out] at hz; (try simp only [List.nil_append, List.cons_append] at hz); (try dsimp only at hz); obtain ⟨hz0, bN, rfl, hz2, hz1⟩ := hz; clear hz1 hz2 hz0 wz; simp only [Act.put, Nat.reduceAdd, zA, zB, zC, zD, zE]
 refine wE_eff (by rfl) (by rfl) (fun wq hw => ?_) (fun u hu => ?_); (focus (simp only [HCl.out, zD, zE] at hw; obtain ⟨hw1, bq, hbe, hlb, hw2⟩ := hw; obtain rfl : bN = bq := (by simpa using hbe); clear hbe; go_split_ands; go_simp; simp only [HCl.out, zD, zE]; refine ⟨?_, bN, rfl, ?_⟩ <;> exact kpb)); clear hu; simp only [Act.put, Nat.reduceAdd, zA, zB, zC, zD, zE]
 repeat ((first | (refine wE_skip (by rfl) ?_) | (refine wE_open (by rfl) (by rfl) ?_; apply Exists.intro; refine ⟨fun vs wq hw => ?_, ?_⟩; (focus (simp only [HCl.out, zD, zE] at hw; go_split_ands; go_simp <;> exact ebb)))); simp only [Act.put, Nat.reduceAdd, zA, zB, zC, zD, zE])
 refine wE_nil ?_; intro w' hw; simp only [HCl.out, zD, zE] at hw; clear HCl; obtain ⟨hw1, bq, hbe, hlb, hw2⟩ := hw; obtain rfl : bN = bq := (by simpa using hbe); clear hbe; go_split_ands
 go_wp2
 refine bodyPost_ret (v := .agg #[.int .u64 x, .int .u64 y]) (by simp [results, Tryz.results115, go_sem, *]) rfl ⟨rfl, blb⟩
set_option maxRecDepth 100000 in
theorem ksv_hi (m1 d m2 t x y p q u v : Int) (fl : Bool) (h1 : In m1) (h2 : In d) (h3 : In m2) (ht : In t) (hle : d < t) (h : ¬ kind m1 d m2 = 0)
  (k2 : ∀ w, Calls Tryz.prog 131 #[.int .u64 m1, .int .u64 d] w fun ee w' => ee = .returned (.agg #[.int .u64 p, .int .u64 q]) ∧ Below w.heap.size w w')
  (k3 : ∀ w, Calls Tryz.prog 131 #[.int .u64 m2, .int .u64 (t - d)] w fun ee w' => ee = .returned (.agg #[.int .u64 u, .int .u64 v]) ∧ Below w.heap.size w w')
  (k4 : ∀ w, Calls Tryz.prog 130 #[.agg #[.int .u64 p, .int .u64 q], .agg #[.int .u64 u, .int .u64 v]] w fun ee w' => ee = .returned (.tuple #[.agg #[.int .u64 x, .int .u64 y], .bool fl]) ∧ Below w.heap.size w w')
  (w : World) : Calls Tryz.prog 115 #[.agg #[.int .u64 (m1), .int .u64 (d), .int .u64 (m2)], .int .u64 t] w fun ee w' => ee = .returned (.agg #[.int .u64 x, .int .u64 y]) ∧ Below w.heap.size w w' := by
 have ht' : 0 ≤ t ∧ t ≤ 18446744073709551615 := ht
 have hd' : 0 ≤ d := h2.1
 have hmin : (if d < t then d else t) = d := if_pos (by omega)
 have K := Lib.hid (krt_yes m1 d m2 h1 h2 h3 h)
 have K2 := Lib.hid k2
 have K3 := Lib.hid k3
 have K4 := Lib.hid k4
 clear h k2 k3 k4
 go_enter Tryz.func115, Tryz.ntmps115
 go_wp2_with (go_at_call 82; ((with_reducible refine (K.out _).mono ?_); rintro e w1 ⟨rfl, hbel⟩; obtain ⟨hcc, hff⟩ := bcell hbel; have hsz := hbel.size; (try simp at hsz); have hF : (w1.cell? ⟨w.heap.size, 0, none⟩ = some (.int .u64 m1) ∧ w1.cell? ⟨w.heap.size, 1, none⟩ = some (.int .u64 d) ∧ w1.cell? ⟨w.heap.size, 2, none⟩ = some (.int .u64 m2) ∧ w.heap.size < w1.heap.size) ∧ (w1.cell? ⟨w.heap.size + 1, 0, none⟩ = some (.int .u64 (0)) ∧ w1.cell? ⟨w.heap.size + 1, 1, none⟩ = some (.int .u64 (0)) ∧ w1.frozen? ⟨w.heap.size + 1, 0, none⟩ = false ∧ w1.frozen? ⟨w.heap.size + 1, 1, none⟩ = false ∧ w.heap.size + 1 < w1.heap.size) ∧ Below w.heap.size w w1 := (by exact kpb); go_split_ands; clear hcc hff hbel))
 obtain ⟨Cl, HCl⟩ := zH (α := List Value → World → Prop) (((fun ps w' => ((w'.cell? ⟨w.heap.size, 0, none⟩ = some (.int .u64 m1) ∧ w'.cell? ⟨w.heap.size, 1, none⟩ = some (.int .u64 d) ∧ w'.cell? ⟨w.heap.size, 2, none⟩ = some (.int .u64 m2) ∧ w.heap.size < w'.heap.size) ∧ (w'.cell? ⟨w.heap.size + 1, 0, none⟩ = some (.int .u64 (0)) ∧ w'.cell? ⟨w.heap.size + 1, 1, none⟩ = some (.int .u64 (0)) ∧ w'.frozen? ⟨w.heap.size + 1, 0, none⟩ = false ∧ w'.frozen? ⟨w.heap.size + 1, 1, none⟩ = false ∧ w.heap.size + 1 < w'.heap.size) ∧ Below w.heap.size w w') ∧ (match ps with | [] => True | [pz] => ∃ b, pz = Value.pointer (some ⟨b, 0, none⟩) ∧ w.heap.size + 1 < b ∧ (w'.cell? ⟨b, 0, none⟩ = some (.int .u64 (0)) ∧ w'.cell? ⟨b, 1, none⟩ = some (.int .u64 (0)) ∧ w'.frozen? ⟨b, 0, none⟩ = false ∧ w'.frozen? ⟨b, 1, none⟩ = false ∧ b < w'.heap.size) | (pz :: _ :: _) => ∃ b, pz = Value.pointer (some ⟨b, 0, none⟩) ∧ w.heap.size + 1 < b ∧ (w'.cell? ⟨b, 0, none⟩ = some (.int .u64 (x)) ∧ w'.cell? ⟨b, 1, none⟩ = some (.int .u64 (y)) ∧ w'.frozen? ⟨b, 0, none⟩ = false ∧ w'.frozen? ⟨b, 1, none⟩ = false ∧ b < w'.heap.size))))); refine wp_region_eff [14, 15] Cl (by kernel_rfl) (by kernel_rfl) (by simp only [HCl.out, zD, zE]; exact kpb) ?_
 (repeat ((first | (refine wE_skip (by rfl) ?_) | (refine wE_open (by rfl) (by rfl) ?_; apply Exists.intro; refine ⟨fun vs wq hw => ?_, ?_⟩; (focus (simp only [HCl.out, zD, zE] at hw; go_split_ands; go_simp <;> exact ebb))) | (refine wE_open (by rfl) (by rfl) ?_; apply Exists.intro; refine ⟨fun vs wq hw => ?_, ?_⟩; (focus (simp only [HCl.out, zD, zE] at hw; obtain ⟨hw1, hw2⟩ := hw; go_split_ands; go_simp; (first | (go_at_call 131; first | ((with_reducible refine (K2.out _).mono ?_); rintro e w' ⟨rfl, hbel⟩; obtain ⟨hcc, hff⟩ := bcell hbel; have hsz := hbel.size; (try simp at hsz); refine ⟨rfl, ?_⟩; simp only [HCl.out, zD, zE]; refine ⟨(by exact kpb), ?_⟩; (rcases vs with _ | ⟨p1, _ | ⟨p2, vs⟩⟩ <;> first | exact trivial | (obtain ⟨bq, hbe, hlb, hz⟩ := hw2; exact ⟨bq, hbe, hlb, (by exact kpb)⟩))) | ((with_reducible refine (K3.out _).mono ?_); rintro e w' ⟨rfl, hbel⟩; obtain ⟨hcc, hff⟩ := bcell hbel; have hsz := hbel.size; (try simp at hsz); refine ⟨rfl, ?_⟩; simp only [HCl.out, zD, zE]; refine ⟨(by exact kpb), ?_⟩; (rcases vs with _ | ⟨p1, _ | ⟨p2, vs⟩⟩ <;> first | exact trivial | (obtain ⟨bq, hbe, hlb, hz⟩ := hw2; exact ⟨bq, hbe, hlb, (by exact kpb)⟩)))) | (go_at_call 130; ((with_reducible refine (K4.out _).mono ?_); rintro e w' ⟨rfl, hbel⟩; obtain ⟨hcc, hff⟩ := bcell hbel; have hsz := hbel.size; (try simp at hsz); refine ⟨rfl, ?_⟩; simp only [HCl.out, zD, zE]; refine ⟨(by exact kpb), ?_⟩; (rcases vs with _ | ⟨p1, _ | ⟨p2, vs⟩⟩ <;> first | exact trivial | (obtain ⟨bq, hbe, hlb, hz⟩ := hw2; exact ⟨bq, hbe, hlb, (by exact kpb)⟩))))))))); simp only [Act.put, Nat.reduceAdd, zA, zB, zC, zD, zE]))
 refine wE_eff (by rfl) (by rfl) (fun wq hw => ?_) (fun u hu => ?_); (focus (simp only [HCl.out, zD, zE] at hw; go_split_ands; go_simp; simp only [HCl.out, zD, zE]; refine ⟨?_, wq.heap.size, rfl, ?_⟩ <;> exact kpb)); obtain ⟨wz, hz⟩ := hu; rw [HCl.out] at hz; (try simp only [List.nil_append, List.cons_append] at hz); (try dsimp only at hz); obtain ⟨hz0, bN, rfl, hz2, hz1⟩ := hz; clear hz1 hz2 hz0 wz; simp only [Act.put, Nat.reduceAdd, zA, zB, zC, zD, zE]
 refine wE_eff (by rfl) (by rfl) (fun wq hw => ?_) (fun u hu => ?_); (focus (simp only [HCl.out, zD, zE] at hw; obtain ⟨hw1, bq, hbe, hlb, hw2⟩ := hw; obtain rfl : bN = bq := (by simpa using hbe); clear hbe; go_split_ands; go_simp; simp only [HCl.out, zD, zE]; refine ⟨?_, bN, rfl, ?_⟩ <;> exact kpb)); clear hu; simp only [Act.put, Nat.reduceAdd, zA, zB, zC, zD, zE]
 repeat ((first | (refine wE_skip (by rfl) ?_) | (refine wE_open (by rfl) (by rfl) ?_; apply Exists.intro; refine ⟨fun vs wq hw => ?_, ?_⟩; (focus (simp only [HCl.out, zD, zE] at hw; go_split_ands; go_simp <;> exact ebb)))); simp only [Act.put, Nat.reduceAdd, zA, zB, zC, zD, zE])
 refine wE_nil ?_; intro w' hw; simp only [HCl.out, zD, zE] at hw; clear HCl; obtain ⟨hw1, bq, hbe, hlb, hw2⟩ := hw; obtain rfl : bN = bq := (by simpa using hbe); clear hbe; go_split_ands
 go_wp2
 refine bodyPost_ret (v := .agg #[.int .u64 x, .int .u64 y]) (by simp [results, Tryz.results115, go_sem, *]) rfl ⟨rfl, blb⟩
end Go.Proofs.YtffaahipgabkhaaGreat
namespace Go.Proofs.YtffaahipgabkhaaGreat
open Go.RowKit Fg Reg
theorem ksv_c (m1 d m2 t : Int) (h1 : In m1) (h2 : In d) (h3 : In m2) (ht : In t) (w : World) : Calls Tryz.prog 115 #[.agg #[.int .u64 (m1), .int .u64 (d), .int .u64 (m2)], .int .u64 t] w fun ee w' => ee = .returned (.agg #[.int .u64 (hi (srv m1 d m2 t)), .int .u64 (lo (srv m1 d m2 t))]) ∧ Below w.heap.size w w' := by
 by_cases h : kind m1 d m2 = 0
 ·rw [srv_no h]
  exact ksv_no m1 d m2 t h1 h2 h3 h w
 ·rw [srv_ok h]
  have hk := okc h1 h2 h3 h
  rcases Int.lt_or_le d t with hlt | hle
  ·have e : sv m1 d m2 t = m1 * d + m2 * (t - d) := if_neg (by omega)
   have ht2 : In (t - d) := by unfold In at *; omega
   refine ksv_hi m1 d m2 t _ _ _ _ _ _ (decide (340282366920938463463374607431768211455 < sv m1 d m2 t)) h1 h2 h3 ht hlt h (mul_c m1 d h1 h2) (mul_c m2 (t - d) h3 ht2) (fun w => ?_) w
   have k := add_c (hi (m1 * d)) (lo (m1 * d)) (hi (m2 * (t - d))) (lo (m2 * (t - d))) (hi_in _) (lo_in _) (hi_in _) (lo_in _) w
   rw [val_wd (wd_mul h1 h2), val_wd (wd_mul h3 ht2), ← e] at k
   exact k
  ·have e : sv m1 d m2 t = m1 * t := if_pos hle
   rw [e]
   have z : In 0 := by unfold In; omega
   refine ksv_lo m1 d m2 t _ _ h1 h2 h3 ht hle h (mul_c m1 t h1 ht) (fun w => ?_) (fun w => ?_) w
   ·have k := mul_c m2 0 h3 z w
    rw [Int.mul_zero] at k
    exact k
   ·have k := add_c (hi (m1 * t)) (lo (m1 * t)) 0 0 (hi_in _) (lo_in _) z z w
    have hw := wd_mul h1 ht
    rw [val_wd hw, val_zero, Int.add_zero] at k
    have e2 : decide (340282366920938463463374607431768211455 < m1 * t) = false := by unfold Wd at hw; simp; omega
    rwa [e2] at k
end Go.Proofs.YtffaahipgabkhaaGreat
namespace Go.Proofs.YtffaahipgabkhaaGreat
open Go.RowKit Fg Reg
theorem rkof_c (m1 d m2 : Int) (h1 : In m1) (h2 : In d) (h3 : In m2) (w : World) : Calls Tryz.prog 63 #[.agg #[.int .u64 (m1), .int .u64 (d), .int .u64 (m2)]] w fun ee w' => ee = .returned (.int .i64 (kind m1 d m2)) ∧ Below w.heap.size w w' := by
 have b1 : 0 ≤ m1 := h1.1
 have b2 : 0 ≤ d := h2.1
 have b3 : 0 ≤ m2 := h3.1
 go_enter Tryz.func63, Tryz.ntmps63
 go_wp2
 all_goals
  go_ret
  refine ⟨ret_int ?_, blb⟩
  unfold kind
  (repeat' split) <;> first | rfl | omega | (simp_all; done)
theorem rsv_no (m1 d m2 t : Int) (h1 : In m1) (h2 : In d) (h3 : In m2) (h : kind m1 d m2 = 0) (w : World) : Calls Tryz.prog 121 #[.agg #[.int .u64 (m1), .int .u64 (d), .int .u64 (m2)], .int .u64 t] w fun ee w' => ee = .returned (.agg #[.int .u64 (d0 0), .int .u64 (d1 0), .int .u64 (d2 0), .int .u64 (d3 0)]) ∧ Below w.heap.size w w' := by
 have k := rkof_c m1 d m2 h1 h2 h3
 rw [h] at k
 have K := Lib.hid k
 clear h k
 go_enter Tryz.func121, Tryz.ntmps121
 go_wp2_with (go_at_call 63; ((with_reducible refine (K.out _).mono ?_); rintro e w1 ⟨rfl, hbel⟩; obtain ⟨hcc, hff⟩ := bcell hbel; have hsz := hbel.size; (try simp at hsz); have hF : (w1.cell? ⟨w.heap.size, 0, none⟩ = some (.int .u64 m1) ∧ w1.cell? ⟨w.heap.size, 1, none⟩ = some (.int .u64 d) ∧ w1.cell? ⟨w.heap.size, 2, none⟩ = some (.int .u64 m2) ∧ w.heap.size < w1.heap.size) ∧ (w1.cell? ⟨w.heap.size + 1, 0, none⟩ = some (.int .u64 0) ∧ w1.cell? ⟨w.heap.size + 1, 1, none⟩ = some (.int .u64 0) ∧ w1.cell? ⟨w.heap.size + 1, 2, none⟩ = some (.int .u64 0) ∧ w1.cell? ⟨w.heap.size + 1, 3, none⟩ = some (.int .u64 0) ∧ w1.frozen? ⟨w.heap.size + 1, 0, none⟩ = false ∧ w1.frozen? ⟨w.heap.size + 1, 1, none⟩ = false ∧ w1.frozen? ⟨w.heap.size + 1, 2, none⟩ = false ∧ w1.frozen? ⟨w.heap.size + 1, 3, none⟩ = false ∧ w.heap.size + 1 < w1.heap.size) ∧ Below w.heap.size w w1 := (by exact kpb); go_split_ands; clear hcc hff hbel))
 refine bodyPost_ret (v := .agg #[.int .u64 0, .int .u64 0, .int .u64 0, .int .u64 0]) (by simp [results, Tryz.results121, go_sem, *]) rfl ⟨rfl, blb⟩
theorem rsv_lo (m1 d m2 t : Int) (h1 : In m1) (h2 : In d) (h3 : In m2) (ht : In t) (hle : t ≤ d) (h : ¬ kind m1 d m2 = 0) (w : World) : Calls Tryz.prog 121 #[.agg #[.int .u64 (m1), .int .u64 (d), .int .u64 (m2)], .int .u64 t] w fun ee w' => ee = .returned (.agg #[.int .u64 (d0 (m1 * t)), .int .u64 (d1 (m1 * t)), .int .u64 (d2 (m1 * t)), .int .u64 (d3 (m1 * t))]) ∧ Below w.heap.size w w' := by
 have K := Lib.hid (rkof_c m1 d m2 h1 h2 h3)
 have K2 := Lib.hid (refmul_c m1 t h1 ht)
 have h0 : (kind m1 d m2 == 0) = false := by simpa using h
 clear h
 generalize kind m1 d m2 = k at *
 obtain ⟨x, hx⟩ : ∃ x, x = m1 * t := ⟨_, rfl⟩
 rw [← hx] at K2 ⊢
 clear hx
 go_enter Tryz.func121, Tryz.ntmps121
 go_wp2_with (first | (go_at_call 63; ((with_reducible refine (K.out _).mono ?_); rintro e w1 ⟨rfl, hbel⟩; obtain ⟨hcc, hff⟩ := bcell hbel; have hsz := hbel.size; (try simp at hsz); have hF : (w1.cell? ⟨w.heap.size, 0, none⟩ = some (.int .u64 m1) ∧ w1.cell? ⟨w.heap.size, 1, none⟩ = some (.int .u64 d) ∧ w1.cell? ⟨w.heap.size, 2, none⟩ = some (.int .u64 m2) ∧ w.heap.size < w1.heap.size) ∧ (w1.cell? ⟨w.heap.size + 1, 0, none⟩ = some (.int .u64 0) ∧ w1.cell? ⟨w.heap.size + 1, 1, none⟩ = some (.int .u64 0) ∧ w1.cell? ⟨w.heap.size + 1, 2, none⟩ = some (.int .u64 0) ∧ w1.cell? ⟨w.heap.size + 1, 3, none⟩ = some (.int .u64 0) ∧ w1.frozen? ⟨w.heap.size + 1, 0, none⟩ = false ∧ w1.frozen? ⟨w.heap.size + 1, 1, none⟩ = false ∧ w1.frozen? ⟨w.heap.size + 1, 2, none⟩ = false ∧ w1.frozen? ⟨w.heap.size + 1, 3, none⟩ = false ∧ w.heap.size + 1 < w1.heap.size) ∧ Below w.heap.size w w1 := (by exact kpb); go_split_ands; clear hcc hff hbel)) | (go_at_call 118; ((with_reducible refine (K2.out _).mono ?_); rintro e w2 ⟨rfl, hbel⟩; obtain ⟨hcc, hff⟩ := bcell hbel; have hsz := hbel.size; (try simp at hsz); have hF : (w2.cell? ⟨w.heap.size, 0, none⟩ = some (.int .u64 m1) ∧ w2.cell? ⟨w.heap.size, 1, none⟩ = some (.int .u64 d) ∧ w2.cell? ⟨w.heap.size, 2, none⟩ = some (.int .u64 m2) ∧ w.heap.size < w2.heap.size) ∧ (w2.cell? ⟨w.heap.size + 1, 0, none⟩ = some (.int .u64 0) ∧ w2.cell? ⟨w.heap.size + 1, 1, none⟩ = some (.int .u64 0) ∧ w2.cell? ⟨w.heap.size + 1, 2, none⟩ = some (.int .u64 0) ∧ w2.cell? ⟨w.heap.size + 1, 3, none⟩ = some (.int .u64 0) ∧ w2.frozen? ⟨w.heap.size + 1, 0, none⟩ = false ∧ w2.frozen? ⟨w.heap.size + 1, 1, none⟩ = false ∧ w2.frozen? ⟨w.heap.size + 1, 2, none⟩ = false ∧ w2.frozen? ⟨w.heap.size + 1, 3, none⟩ = false ∧ w.heap.size + 1 < w2.heap.size) ∧ Below w.heap.size w w2 := (by exact kpb); go_split_ands; clear hcc hff hbel)))
 refine bodyPost_ret (v := .agg #[.int .u64 (d0 x), .int .u64 (d1 x), .int .u64 (d2 x), .int .u64 (d3 x)]) (by simp [results, Tryz.results121, go_sem, *]) rfl ⟨rfl, blb⟩
set_option maxRecDepth 100000 in
theorem rsv_hi (m1 d m2 t x y z : Int) (h1 : In m1) (h2 : In d) (h3 : In m2) (ht : In t) (hle : d < t) (h : ¬ kind m1 d m2 = 0)
  (k2 : ∀ w, Calls Tryz.prog 118 #[.int .u64 m1, .int .u64 d] w fun ee w' => ee = .returned (.agg #[.int .u64 (d0 x), .int .u64 (d1 x), .int .u64 (d2 x), .int .u64 (d3 x)]) ∧ Below w.heap.size w w')
  (k3 : ∀ w, Calls Tryz.prog 118 #[.int .u64 m2, .int .u64 (t - d)] w fun ee w' => ee = .returned (.agg #[.int .u64 (d0 y), .int .u64 (d1 y), .int .u64 (d2 y), .int .u64 (d3 y)]) ∧ Below w.heap.size w w')
  (k4 : ∀ w, Calls Tryz.prog 120 #[.agg #[.int .u64 (d0 x), .int .u64 (d1 x), .int .u64 (d2 x), .int .u64 (d3 x)], .agg #[.int .u64 (d0 y), .int .u64 (d1 y), .int .u64 (d2 y), .int .u64 (d3 y)]] w fun ee w' => ee = .returned (.agg #[.int .u64 (d0 z), .int .u64 (d1 z), .int .u64 (d2 z), .int .u64 (d3 z)]) ∧ Below w.heap.size w w')
  (w : World) : Calls Tryz.prog 121 #[.agg #[.int .u64 (m1), .int .u64 (d), .int .u64 (m2)], .int .u64 t] w fun ee w' => ee = .returned (.agg #[.int .u64 (d0 z), .int .u64 (d1 z), .int .u64 (d2 z), .int .u64 (d3 z)]) ∧ Below w.heap.size w w' := by
 have ht' : 0 ≤ t ∧ t ≤ 18446744073709551615 := ht
 have hd' : 0 ≤ d := h2.1
 have K := Lib.hid (rkof_c m1 d m2 h1 h2 h3)
 have K2 := Lib.hid k2
 have K3 := Lib.hid k3
 have K4 := Lib.hid k4
 have h0 : (kind m1 d m2 == 0) = false := by simpa using h
 clear h k2 k3 k4
 generalize kind m1 d m2 = k at *
 go_enter Tryz.func121, Tryz.ntmps121
 go_wp2_with (go_at_call 63; ((with_reducible refine (K.out _).mono ?_); rintro e w1 ⟨rfl, hbel⟩; obtain ⟨hcc, hff⟩ := bcell hbel; have hsz := hbel.size; (try simp at hsz); have hF : (w1.cell? ⟨w.heap.size, 0, none⟩ = some (.int .u64 m1) ∧ w1.cell? ⟨w.heap.size, 1, none⟩ = some (.int .u64 d) ∧ w1.cell? ⟨w.heap.size, 2, none⟩ = some (.int .u64 m2) ∧ w.heap.size < w1.heap.size) ∧ (w1.cell? ⟨w.heap.size + 1, 0, none⟩ = some (.int .u64 0) ∧ w1.cell? ⟨w.heap.size + 1, 1, none⟩ = some (.int .u64 0) ∧ w1.cell? ⟨w.heap.size + 1, 2, none⟩ = some (.int .u64 0) ∧ w1.cell? ⟨w.heap.size + 1, 3, none⟩ = some (.int .u64 0) ∧ w1.frozen? ⟨w.heap.size + 1, 0, none⟩ = false ∧ w1.frozen? ⟨w.heap.size + 1, 1, none⟩ = false ∧ w1.frozen? ⟨w.heap.size + 1, 2, none⟩ = false ∧ w1.frozen? ⟨w.heap.size + 1, 3, none⟩ = false ∧ w.heap.size + 1 < w1.heap.size) ∧ Below w.heap.size w w1 := (by exact kpb); go_split_ands; clear hcc hff hbel))
 obtain ⟨Cl, HCl⟩ := zH (α := List Value → World → Prop) ((fun ps w' => (w'.cell? ⟨w.heap.size, 0, none⟩ = some (.int .u64 m1) ∧ w'.cell? ⟨w.heap.size, 1, none⟩ = some (.int .u64 d) ∧ w'.cell? ⟨w.heap.size, 2, none⟩ = some (.int .u64 m2) ∧ w.heap.size < w'.heap.size) ∧ (match ps with | [] => (w'.cell? ⟨w.heap.size + 1, 0, none⟩ = some (.int .u64 0) ∧ w'.cell? ⟨w.heap.size + 1, 1, none⟩ = some (.int .u64 0) ∧ w'.cell? ⟨w.heap.size + 1, 2, none⟩ = some (.int .u64 0) ∧ w'.cell? ⟨w.heap.size + 1, 3, none⟩ = some (.int .u64 0) ∧ w'.frozen? ⟨w.heap.size + 1, 0, none⟩ = false ∧ w'.frozen? ⟨w.heap.size + 1, 1, none⟩ = false ∧ w'.frozen? ⟨w.heap.size + 1, 2, none⟩ = false ∧ w'.frozen? ⟨w.heap.size + 1, 3, none⟩ = false ∧ w.heap.size + 1 < w'.heap.size) | _ => (w'.cell? ⟨w.heap.size + 1, 0, none⟩ = some (.int .u64 (d0 z)) ∧ w'.cell? ⟨w.heap.size + 1, 1, none⟩ = some (.int .u64 (d1 z)) ∧ w'.cell? ⟨w.heap.size + 1, 2, none⟩ = some (.int .u64 (d2 z)) ∧ w'.cell? ⟨w.heap.size + 1, 3, none⟩ = some (.int .u64 (d3 z)) ∧ w'.frozen? ⟨w.heap.size + 1, 0, none⟩ = false ∧ w'.frozen? ⟨w.heap.size + 1, 1, none⟩ = false ∧ w'.frozen? ⟨w.heap.size + 1, 2, none⟩ = false ∧ w'.frozen? ⟨w.heap.size + 1, 3, none⟩ = false ∧ w.heap.size + 1 < w'.heap.size)) ∧ Below w.heap.size w w')); refine wp_region_eff [13] Cl (by kernel_rfl) (by kernel_rfl) (by simp only [HCl.out, zD, zE]; exact kpb) ?_
 (repeat ((first | (refine wE_skip (by rfl) ?_) | (refine wE_open (by rfl) (by rfl) ?_; apply Exists.intro; refine ⟨fun vs wq hw => ?_, ?_⟩; (focus (simp only [HCl.out, zD, zE] at hw; go_split_ands; go_simp <;> exact ebb))) | (refine wE_seal (by rfl) (by rfl) (by kernel_rfl) ?_; apply Exists.intro; refine ⟨fun wq hw => ?_, ?_⟩; (focus (simp only [HCl.out, zD, zE] at hw; go_split_ands; go_simp <;> (try go_bits) <;> exact rfl))) | (refine wE_seal (by rfl) (by rfl) (by kernel_rfl) ?_; apply Exists.intro; refine ⟨fun wq hw => ?_, ?_⟩; (focus (simp only [HCl.out, zD, zE] at hw; go_split_ands; go_simp; (first | (go_at_call 118; first | ((with_reducible refine (K2.out _).mono ?_); rintro e w' ⟨rfl, hbel⟩; obtain ⟨hcc, hff⟩ := bcell hbel; have hsz := hbel.size; (try simp at hsz); refine ⟨rfl, ?_⟩; simp only [HCl.out, zD, zE]; exact kpb) | ((with_reducible refine (K3.out _).mono ?_); rintro e w' ⟨rfl, hbel⟩; obtain ⟨hcc, hff⟩ := bcell hbel; have hsz := hbel.size; (try simp at hsz); refine ⟨rfl, ?_⟩; simp only [HCl.out, zD, zE]; exact kpb)) | (go_at_call 120; ((with_reducible refine (K4.out _).mono ?_); rintro e w' ⟨rfl, hbel⟩; obtain ⟨hcc, hff⟩ := bcell hbel; have hsz := hbel.size; (try simp at hsz); refine ⟨rfl, ?_⟩; simp only [HCl.out, zD, zE]; exact kpb)))))) | (refine wE_eff (by rfl) (by rfl) (fun wq hw => ?_) (fun u hu => ?_); (focus (simp only [HCl.out, zD, zE] at hw; go_split_ands; go_simp; simp only [HCl.out, zD, zE]; skip; exact kpb)); clear hu)); simp only [Act.put, Nat.reduceAdd, zA, zB, zC, zD, zE]))
 refine wE_nil ?_; intro w' hw; simp only [HCl.out, zD, zE] at hw; clear HCl
 go_split_ands
 go_wp2
 refine bodyPost_ret (v := .agg #[.int .u64 (d0 z), .int .u64 (d1 z), .int .u64 (d2 z), .int .u64 (d3 z)]) (by simp [results, Tryz.results121, go_sem, *]) rfl ⟨rfl, blb⟩
theorem rsv_c (m1 d m2 t : Int) (h1 : In m1) (h2 : In d) (h3 : In m2) (ht : In t) (w : World) : Calls Tryz.prog 121 #[.agg #[.int .u64 (m1), .int .u64 (d), .int .u64 (m2)], .int .u64 t] w fun ee w' => ee = .returned (.agg #[.int .u64 (d0 (srv m1 d m2 t)), .int .u64 (d1 (srv m1 d m2 t)), .int .u64 (d2 (srv m1 d m2 t)), .int .u64 (d3 (srv m1 d m2 t))]) ∧ Below w.heap.size w w' := by
 by_cases h : kind m1 d m2 = 0
 ·rw [srv_no h]; exact rsv_no m1 d m2 t h1 h2 h3 h w
 ·rw [srv_ok h]
  rcases Int.lt_or_le d t with hlt | hle
  ·have e : sv m1 d m2 t = m1 * d + m2 * (t - d) := if_neg (by omega)
   have ht2 : In (t - d) := by unfold In at *; omega
   rw [e]
   exact rsv_hi m1 d m2 t _ _ _ h1 h2 h3 ht hlt h (refmul_c m1 d h1 h2) (refmul_c m2 (t - d) h3 ht2) (refplus_d _ _ (wd_mul h1 h2) (wd_mul h3 ht2)) w
  ·rw [show sv m1 d m2 t = m1 * t from if_pos hle]
   exact rsv_lo m1 d m2 t h1 h2 h3 ht hle h w
end Go.Proofs.YtffaahipgabkhaaGreat
end
