/- Joined texts. -/
import Derived.Test.YtffaahipgabkhaaGreatJn0
import Derived.Test.YtffaahipgabkhaaGreatJn38
set_option linter.unusedVariables false
set_option linter.unusedSimpArgs false
set_option maxRecDepth 100000
set_option maxHeartbeats 16000000
section
namespace Go.Proofs.YtffaahipgabkhaaGreat
open Go.RowKit Fg Reg Go.Sort
attribute [local irreducible] Reg.wE Holds QS
theorem times_num {x T : Int} (hx : Wd x) (hT0 : 0 ≤ T) (hT : T ≤ 65536) (h : Wd (x * T)) : Wd (lo x * T) ∧ Wd (hi x * T) ∧ Wd (val (lo (hi x * T)) 0) ∧ lo x * T + val (lo (hi x * T)) 0 = x * T := by
 have e : x = hi x * 18446744073709551616 + lo x := by have := val_wd hx; unfold val at this; omega
 have l0 : 0 ≤ lo x ∧ lo x ≤ 18446744073709551615 := lo_in x
 have h0 : 0 ≤ hi x := (hi_in x).1
 have p1 : 0 ≤ lo x * T := Int.mul_nonneg l0.1 hT0
 have p2 : 0 ≤ hi x * T := Int.mul_nonneg h0 hT0
 have exT : x * T = hi x * T * 18446744073709551616 + lo x * T := by
  have : x * T = (hi x * 18446744073709551616 + lo x) * T := by rw [← e]
  rw [this, Int.add_mul, Int.mul_assoc, Int.mul_comm 18446744073709551616 T, ← Int.mul_assoc]
 generalize lo x * T = A at *
 generalize hi x * T = B at *
 unfold Wd at *
 have hB : lo B = B := by unfold lo; omega
 rw [hB]
 unfold val
 refine ⟨by omega, by omega, by omega, by omega⟩
theorem rtimes_c (x T : Int) (hx : Wd x) (hT0 : 0 ≤ T) (hT : T ≤ 65536) (h : Wd (x * T)) (w : World) :
  Calls Tryz.prog 119 #[.agg #[.int .u64 (d0 x), .int .u64 (d1 x), .int .u64 (d2 x), .int .u64 (d3 x)], .int .i64 T] w fun ee w' => ee = .returned (.agg #[.int .u64 (d0 (x * T)), .int .u64 (d1 (x * T)), .int .u64 (d2 (x * T)), .int .u64 (d3 (x * T))]) ∧ Below w.heap.size w w' := by
 obtain ⟨w1, w2, w3, e⟩ := times_num hx hT0 hT h
 have k1 := fun z => reflo_c x z
 have k2 := fun z => refhi_c x z
 have k3 := fun z => refmul_c (lo x) T (lo_in x) (by unfold In; omega) z
 have k4 := fun z => refmul_c (hi x) T (hi_in x) (by unfold In; omega) z
 have k5 := fun z => reflo_c (hi x * T) z
 have k6 := fun z => reftwo_c (lo (hi x * T)) 0 (lo_in _) (by unfold In; omega) z
 have k7 := fun z => refplus_d (lo x * T) (val (lo (hi x * T)) 0) w1 w3 z
 rw [e] at k7
 have W2 : IntKind.u64.wrap T = T := by rw [IntKind.wrap_u64]; omega
 clear w1 w2 w3 e h hx
 generalize val (lo (hi x * T)) 0 = v at *
 generalize lo (hi x * T) = B at *
 generalize hi x * T = H at *
 generalize lo x * T = L at *
 generalize x * T = S at *
 generalize lo x = xl at *
 generalize hi x = xh at *
 (generalize d0 x = x0 at *; generalize d1 x = x1 at *; generalize d2 x = x2 at *; generalize d3 x = x3 at *)
 (generalize d0 L = l0 at *; generalize d1 L = l1 at *; generalize d2 L = l2 at *; generalize d3 L = l3 at *)
 (generalize d0 H = h0 at *; generalize d1 H = h1 at *; generalize d2 H = h2 at *; generalize d3 H = h3 at *)
 (generalize d0 v = v0 at *; generalize d1 v = v1 at *; generalize d2 v = v2 at *; generalize d3 v = v3 at *)
 (generalize d0 S = s0 at *; generalize d1 S = s1 at *; generalize d2 S = s2 at *; generalize d3 S = s3 at *)
 have K1 := Lib.hid k1
 have K2 := Lib.hid k2
 have K3 := Lib.hid k3
 have K4 := Lib.hid k4
 have K5 := Lib.hid k5
 have K6 := Lib.hid k6
 have K7 := Lib.hid k7
 clear k1 k2 k3 k4 k5 k6 k7
 go_enter Tryz.func119, Tryz.ntmps119
 go_wp2_with (first
  | (go_at_call 132; ((with_reducible refine (K1.out _).mono ?_); rintro e w1 ⟨rfl, hbel⟩; obtain ⟨hcc, hff⟩ := bcell hbel; have hsz := hbel.size; (try simp at hsz); have hF : (w1.cell? ⟨w.heap.size, 0, none⟩ = some (.int .u64 (x0)) ∧ w1.cell? ⟨w.heap.size, 1, none⟩ = some (.int .u64 (x1)) ∧ w1.cell? ⟨w.heap.size, 2, none⟩ = some (.int .u64 (x2)) ∧ w1.cell? ⟨w.heap.size, 3, none⟩ = some (.int .u64 (x3)) ∧ w.heap.size < w1.heap.size) ∧ (w1.cell? ⟨w.heap.size + 1, 0, none⟩ = some (.int .u64 (0)) ∧ w1.cell? ⟨w.heap.size + 1, 1, none⟩ = some (.int .u64 (0)) ∧ w1.cell? ⟨w.heap.size + 1, 2, none⟩ = some (.int .u64 (0)) ∧ w1.cell? ⟨w.heap.size + 1, 3, none⟩ = some (.int .u64 (0)) ∧ w.heap.size + 1 < w1.heap.size) ∧ (w1.frozen? ⟨w.heap.size + 1, 0, none⟩ = false ∧ w1.frozen? ⟨w.heap.size + 1, 1, none⟩ = false ∧ w1.frozen? ⟨w.heap.size + 1, 2, none⟩ = false ∧ w1.frozen? ⟨w.heap.size + 1, 3, none⟩ = false) ∧ Below w.heap.size w w1 := (by exact kpb); go_split_ands; clear hcc hff hbel))
  | (go_at_call 118; ((with_reducible refine (K3.out _).mono ?_); rintro e w2 ⟨rfl, hbel⟩; obtain ⟨hcc, hff⟩ := bcell hbel; have hsz := hbel.size; (try simp at hsz); have hF : (w2.cell? ⟨w.heap.size, 0, none⟩ = some (.int .u64 (x0)) ∧ w2.cell? ⟨w.heap.size, 1, none⟩ = some (.int .u64 (x1)) ∧ w2.cell? ⟨w.heap.size, 2, none⟩ = some (.int .u64 (x2)) ∧ w2.cell? ⟨w.heap.size, 3, none⟩ = some (.int .u64 (x3)) ∧ w.heap.size < w2.heap.size) ∧ (w2.cell? ⟨w.heap.size + 1, 0, none⟩ = some (.int .u64 (0)) ∧ w2.cell? ⟨w.heap.size + 1, 1, none⟩ = some (.int .u64 (0)) ∧ w2.cell? ⟨w.heap.size + 1, 2, none⟩ = some (.int .u64 (0)) ∧ w2.cell? ⟨w.heap.size + 1, 3, none⟩ = some (.int .u64 (0)) ∧ w.heap.size + 1 < w2.heap.size) ∧ (w2.frozen? ⟨w.heap.size + 1, 0, none⟩ = false ∧ w2.frozen? ⟨w.heap.size + 1, 1, none⟩ = false ∧ w2.frozen? ⟨w.heap.size + 1, 2, none⟩ = false ∧ w2.frozen? ⟨w.heap.size + 1, 3, none⟩ = false) ∧ Below w.heap.size w w2 := (by exact kpb); go_split_ands; clear hcc hff hbel))
  | (go_at_call 133; ((with_reducible refine (K2.out _).mono ?_); rintro e w3 ⟨rfl, hbel⟩; obtain ⟨hcc, hff⟩ := bcell hbel; have hsz := hbel.size; (try simp at hsz); have hF : (w3.cell? ⟨w2.heap.size, 0, none⟩ = some (.int .u64 (l0)) ∧ w3.cell? ⟨w2.heap.size, 1, none⟩ = some (.int .u64 (l1)) ∧ w3.cell? ⟨w2.heap.size, 2, none⟩ = some (.int .u64 (l2)) ∧ w3.cell? ⟨w2.heap.size, 3, none⟩ = some (.int .u64 (l3)) ∧ w2.heap.size < w3.heap.size) ∧ (w3.cell? ⟨w.heap.size, 0, none⟩ = some (.int .u64 (x0)) ∧ w3.cell? ⟨w.heap.size, 1, none⟩ = some (.int .u64 (x1)) ∧ w3.cell? ⟨w.heap.size, 2, none⟩ = some (.int .u64 (x2)) ∧ w3.cell? ⟨w.heap.size, 3, none⟩ = some (.int .u64 (x3)) ∧ w.heap.size < w3.heap.size) ∧ (w3.cell? ⟨w.heap.size + 1, 0, none⟩ = some (.int .u64 (0)) ∧ w3.cell? ⟨w.heap.size + 1, 1, none⟩ = some (.int .u64 (0)) ∧ w3.cell? ⟨w.heap.size + 1, 2, none⟩ = some (.int .u64 (0)) ∧ w3.cell? ⟨w.heap.size + 1, 3, none⟩ = some (.int .u64 (0)) ∧ w.heap.size + 1 < w3.heap.size) ∧ (w3.frozen? ⟨w.heap.size + 1, 0, none⟩ = false ∧ w3.frozen? ⟨w.heap.size + 1, 1, none⟩ = false ∧ w3.frozen? ⟨w.heap.size + 1, 2, none⟩ = false ∧ w3.frozen? ⟨w.heap.size + 1, 3, none⟩ = false) ∧ Below w.heap.size w w3 := (by exact kpb); go_split_ands; clear hcc hff hbel))
  | (go_at_call 118; ((with_reducible refine (K4.out _).mono ?_); rintro e w4 ⟨rfl, hbel⟩; obtain ⟨hcc, hff⟩ := bcell hbel; have hsz := hbel.size; (try simp at hsz); have hF : (w4.cell? ⟨w2.heap.size, 0, none⟩ = some (.int .u64 (l0)) ∧ w4.cell? ⟨w2.heap.size, 1, none⟩ = some (.int .u64 (l1)) ∧ w4.cell? ⟨w2.heap.size, 2, none⟩ = some (.int .u64 (l2)) ∧ w4.cell? ⟨w2.heap.size, 3, none⟩ = some (.int .u64 (l3)) ∧ w2.heap.size < w4.heap.size) ∧ (w4.cell? ⟨w.heap.size, 0, none⟩ = some (.int .u64 (x0)) ∧ w4.cell? ⟨w.heap.size, 1, none⟩ = some (.int .u64 (x1)) ∧ w4.cell? ⟨w.heap.size, 2, none⟩ = some (.int .u64 (x2)) ∧ w4.cell? ⟨w.heap.size, 3, none⟩ = some (.int .u64 (x3)) ∧ w.heap.size < w4.heap.size) ∧ (w4.cell? ⟨w.heap.size + 1, 0, none⟩ = some (.int .u64 (0)) ∧ w4.cell? ⟨w.heap.size + 1, 1, none⟩ = some (.int .u64 (0)) ∧ w4.cell? ⟨w.heap.size + 1, 2, none⟩ = some (.int .u64 (0)) ∧ w4.cell? ⟨w.heap.size + 1, 3, none⟩ = some (.int .u64 (0)) ∧ w.heap.size + 1 < w4.heap.size) ∧ (w4.frozen? ⟨w.heap.size + 1, 0, none⟩ = false ∧ w4.frozen? ⟨w.heap.size + 1, 1, none⟩ = false ∧ w4.frozen? ⟨w.heap.size + 1, 2, none⟩ = false ∧ w4.frozen? ⟨w.heap.size + 1, 3, none⟩ = false) ∧ Below w.heap.size w w4 := (by exact kpb); go_split_ands; clear hcc hff hbel)))
 obtain ⟨Cl, HCl⟩ := zH (α := List Value → World → Prop) ((fun ps wz => (match ps with | [] => (wz.cell? ⟨w.heap.size + 1, 0, none⟩ = some (.int .u64 (0)) ∧ wz.cell? ⟨w.heap.size + 1, 1, none⟩ = some (.int .u64 (0)) ∧ wz.cell? ⟨w.heap.size + 1, 2, none⟩ = some (.int .u64 (0)) ∧ wz.cell? ⟨w.heap.size + 1, 3, none⟩ = some (.int .u64 (0)) ∧ w.heap.size + 1 < wz.heap.size) | _ => (wz.cell? ⟨w.heap.size + 1, 0, none⟩ = some (.int .u64 (s0)) ∧ wz.cell? ⟨w.heap.size + 1, 1, none⟩ = some (.int .u64 (s1)) ∧ wz.cell? ⟨w.heap.size + 1, 2, none⟩ = some (.int .u64 (s2)) ∧ wz.cell? ⟨w.heap.size + 1, 3, none⟩ = some (.int .u64 (s3)) ∧ w.heap.size + 1 < wz.heap.size)) ∧ (wz.cell? ⟨w2.heap.size, 0, none⟩ = some (.int .u64 (l0)) ∧ wz.cell? ⟨w2.heap.size, 1, none⟩ = some (.int .u64 (l1)) ∧ wz.cell? ⟨w2.heap.size, 2, none⟩ = some (.int .u64 (l2)) ∧ wz.cell? ⟨w2.heap.size, 3, none⟩ = some (.int .u64 (l3)) ∧ w2.heap.size < wz.heap.size) ∧ (wz.cell? ⟨w4.heap.size, 0, none⟩ = some (.int .u64 (h0)) ∧ wz.cell? ⟨w4.heap.size, 1, none⟩ = some (.int .u64 (h1)) ∧ wz.cell? ⟨w4.heap.size, 2, none⟩ = some (.int .u64 (h2)) ∧ wz.cell? ⟨w4.heap.size, 3, none⟩ = some (.int .u64 (h3)) ∧ w4.heap.size < wz.heap.size) ∧ (wz.frozen? ⟨w.heap.size + 1, 0, none⟩ = false ∧ wz.frozen? ⟨w.heap.size + 1, 1, none⟩ = false ∧ wz.frozen? ⟨w.heap.size + 1, 2, none⟩ = false ∧ wz.frozen? ⟨w.heap.size + 1, 3, none⟩ = false) ∧ w.heap.size + 1 < w2.heap.size ∧ w2.heap.size < w4.heap.size ∧ w4.heap.size < wz.heap.size ∧ Below w.heap.size w wz)); refine wp_region_eff [5] Cl (by kernel_rfl) (by kernel_rfl) (by simp only [HCl.out, zD, zE]; exact kpb) ?_
 (repeat ((first | (refine wE_skip (by rfl) ?_) | (refine wE_open (by rfl) (by rfl) ?_; apply Exists.intro; refine ⟨fun vs wq hw => ?_, ?_⟩; (focus (simp only [HCl.out, zD, zE] at hw; go_split_ands; go_simp <;> exact ebb))) | (refine wE_seal (by rfl) (by rfl) (by kernel_rfl) ?_; apply Exists.intro; refine ⟨fun wq hw => ?_, ?_⟩; (focus (simp only [HCl.out, zD, zE] at hw; go_split_ands; go_simp <;> (try go_bits) <;> exact rfl))) | (refine wE_seal (by rfl) (by rfl) (by kernel_rfl) ?_; apply Exists.intro; refine ⟨fun wq hw => ?_, ?_⟩; (focus (simp only [HCl.out, zD, zE] at hw; go_split_ands; go_simp; (first | (go_at_call 132; ((with_reducible refine (K5.out _).mono ?_); rintro e w' ⟨rfl, hbel⟩; obtain ⟨hcc, hff⟩ := bcell hbel; have hsz := hbel.size; (try simp at hsz); refine ⟨rfl, ?_⟩; simp only [HCl.out, zD, zE]; exact kpb)) | (go_at_call 134; ((with_reducible refine (K6.out _).mono ?_); rintro e w' ⟨rfl, hbel⟩; obtain ⟨hcc, hff⟩ := bcell hbel; have hsz := hbel.size; (try simp at hsz); refine ⟨rfl, ?_⟩; simp only [HCl.out, zD, zE]; exact kpb)) | (go_at_call 120; ((with_reducible refine (K7.out _).mono ?_); rintro e w' ⟨rfl, hbel⟩; obtain ⟨hcc, hff⟩ := bcell hbel; have hsz := hbel.size; (try simp at hsz); refine ⟨rfl, ?_⟩; simp only [HCl.out, zD, zE]; exact kpb)))))) | (refine wE_eff (by rfl) (by rfl) (fun wq hw => ?_) (fun u hu => ?_); (focus (simp only [HCl.out, zD, zE] at hw; go_split_ands; go_simp; simp only [HCl.out, zD, zE]; skip; exact kpb)); clear hu)); simp only [Act.put, Nat.reduceAdd, zA, zB, zC, zD, zE]))
 refine wE_nil ?_; intro w' hw; simp only [HCl.out, zD, zE] at hw; clear HCl
 go_split_ands
 go_wp2
 refine bodyPost_ret (v := .agg #[.int .u64 s0, .int .u64 s1, .int .u64 s2, .int .u64 s3]) (by simp [results, Tryz.results119, go_sem, *]) rfl ⟨rfl, blb⟩
theorem carries_c (V T x : Int) (hV : Wd V) (hT0 : 0 ≤ T) (hT : T ≤ 65536) (h : Wd (V * T)) (hx : In x) (w : World) :
  Calls Tryz.prog 94 #[.agg #[.int .u64 (d0 V), .int .u64 (d1 V), .int .u64 (d2 V), .int .u64 (d3 V)], .int .i64 T, .int .u64 x] w fun ee w' => ee = .returned (.bool (!decide (65536 * x < V * T))) ∧ Below w.heap.size w w' := by
 have hM : Wd (65536 * x) := by unfold In at hx; unfold Wd; omega
 have k1 := fun z => refmul_c 65536 x (by unfold In; omega) hx z
 have k2 := fun z => rtimes_c V T hV hT0 hT h z
 have k3 := fun z => refless_d (65536 * x) (V * T) hM h z
 clear hM h hV
 generalize decide (65536 * x < V * T) = D at *
 generalize V * T = S at *
 generalize 65536 * x = M at *
 (generalize d0 V = x0 at *; generalize d1 V = x1 at *; generalize d2 V = x2 at *; generalize d3 V = x3 at *)
 (generalize d0 M = l0 at *; generalize d1 M = l1 at *; generalize d2 M = l2 at *; generalize d3 M = l3 at *)
 (generalize d0 S = s0 at *; generalize d1 S = s1 at *; generalize d2 S = s2 at *; generalize d3 S = s3 at *)
 have K1 := Lib.hid k1
 have K2 := Lib.hid k2
 have K3 := Lib.hid k3
 clear k1 k2 k3
 go_enter Tryz.func94, Tryz.ntmps94
 go_wp2
 obtain ⟨Cl, HCl⟩ := zH (α := List Value → World → Prop) ((fun ps wz => (wz.cell? ⟨w.heap.size, 0, none⟩ = some (.int .u64 (x0)) ∧ wz.cell? ⟨w.heap.size, 1, none⟩ = some (.int .u64 (x1)) ∧ wz.cell? ⟨w.heap.size, 2, none⟩ = some (.int .u64 (x2)) ∧ wz.cell? ⟨w.heap.size, 3, none⟩ = some (.int .u64 (x3)) ∧ w.heap.size < wz.heap.size) ∧ w.heap.size < wz.heap.size ∧ Below w.heap.size w wz)); refine wp_region_eff [] Cl (by kernel_rfl) (by kernel_rfl) (by simp only [HCl.out, zD, zE]; exact kpb) ?_
 (repeat ((first | (refine wE_skip (by rfl) ?_) | (refine wE_open (by rfl) (by rfl) ?_; apply Exists.intro; refine ⟨fun vs wq hw => ?_, ?_⟩; (focus (simp only [HCl.out, zD, zE] at hw; go_split_ands; go_simp <;> exact ebb))) | (refine wE_seal (by rfl) (by rfl) (by kernel_rfl) ?_; apply Exists.intro; refine ⟨fun wq hw => ?_, ?_⟩; (focus (simp only [HCl.out, zD, zE] at hw; go_split_ands; go_simp <;> (try go_bits) <;> exact rfl))) | (refine wE_seal (by rfl) (by rfl) (by kernel_rfl) ?_; apply Exists.intro; refine ⟨fun wq hw => ?_, ?_⟩; (focus (simp only [HCl.out, zD, zE] at hw; go_split_ands; go_simp; (first | (go_at_call 118; ((with_reducible refine (K1.out _).mono ?_); rintro e w' ⟨rfl, hbel⟩; obtain ⟨hcc, hff⟩ := bcell hbel; have hsz := hbel.size; (try simp at hsz); refine ⟨rfl, ?_⟩; simp only [HCl.out, zD, zE]; exact kpb)) | (go_at_call 119; ((with_reducible refine (K2.out _).mono ?_); rintro e w' ⟨rfl, hbel⟩; obtain ⟨hcc, hff⟩ := bcell hbel; have hsz := hbel.size; (try simp at hsz); refine ⟨rfl, ?_⟩; simp only [HCl.out, zD, zE]; exact kpb)) | (go_at_call 117; ((with_reducible refine (K3.out _).mono ?_); rintro e w' ⟨rfl, hbel⟩; obtain ⟨hcc, hff⟩ := bcell hbel; have hsz := hbel.size; (try simp at hsz); refine ⟨rfl, ?_⟩; simp only [HCl.out, zD, zE]; exact kpb)))))) | (refine wE_eff (by rfl) (by rfl) (fun wq hw => ?_) (fun u hu => ?_); (focus (simp only [HCl.out, zD, zE] at hw; go_split_ands; go_simp; simp only [HCl.out, zD, zE]; skip; exact kpb)); clear hu)); simp only [Act.put, Nat.reduceAdd, zA, zB, zC, zD, zE]))
 refine wE_nil ?_; intro w' hw; simp only [HCl.out, zD, zE] at hw; clear HCl
 go_split_ands
 go_wp2
 (go_ret; refine ⟨?_, ?_⟩; (focus (exact rfl)); exact blb)
def mayr (T : Int) (l : List Cv) : Int := if tok T = false then 1 else if lok l = false then 21 else 0
theorem may_c (T : Int) (l : List Cv) (a : Option Addr) (c : Nat) (hn : l.length ≤ 100) (hok : (∀ k (h : k < l.length), l[k].ok)) (w : World) (hR : RwV Cv.cells 3 w a l) :
  Calls Tryz.prog 61 #[.int .i64 T, .slice a l.length c] w fun ee w' => ee = .returned (.int .i64 (mayr T l)) ∧ Below w.heap.size w w' := by
 by_cases h1 : T < 1
 ·rw [show mayr T l = 1 by unfold mayr tok; rw [if_pos]; simp; omega]
  have d1 : decide (T < 1) = true := decide_eq_true h1
  go_enter Tryz.func61, Tryz.ntmps61
  go_wp2_with go_guarded
  (go_ret; refine ⟨?_, ?_⟩; (focus (exact rfl)); exact blb)
 by_cases h2 : 65536 < T
 ·rw [show mayr T l = 1 by unfold mayr tok; rw [if_pos]; simp; omega]
  have d1 : decide (T < 1) = false := decide_eq_false h1
  have d2 : decide (65536 < T) = true := decide_eq_true h2
  go_enter Tryz.func61, Tryz.ntmps61
  go_wp2_with go_guarded
  (go_ret; refine ⟨?_, ?_⟩; (focus (exact rfl)); exact blb)
 have d1 : decide (T < 1) = false := decide_eq_false h1
 have d2 : decide (65536 < T) = false := decide_eq_false h2
 have hm : mayr T l = if lok l = false then 21 else 0 := by unfold mayr; rw [if_neg]; unfold tok; simp; omega
 obtain ⟨RR, hRR⟩ : ∃ RR, mayr T l = RR := ⟨_, rfl⟩
 rw [hRR]
 have HRR := Lib.hid (hRR.symm.trans hm)
 have HR := Lib.hid hR
 have HO := Lib.hid hok
 clear hR hok hm h1 h2 hRR
 go_enter Tryz.func61, Tryz.ntmps61
 go_wp2_with go_guarded
 go_loopw [15] (fun ii wr => ∃ k : Nat, k ≤ l.length ∧ ii = .int .i64 k ∧ (∀ j (hj : j < l.length), j < k → ¬ kind l[j].m1 l[j].d l[j].m2 = 0) ∧ Below w.heap.size w wr) (fun ii _ => l.length - (intOf ii).toNat)
 case atStart => exact ⟨0, Nat.zero_le _, rfl, fun _ _ h => absurd h (by omega), by exact kpb⟩
 case round =>
  obtain ⟨k, hk, rfl, hno, hB⟩ := hrel
  have HNO := Lib.hid hno
  clear hno
  by_cases hlt : k < l.length
  ·obtain ⟨b, o, rfl, hbl, hrr⟩ := (HR.out.below hB) k hlt
   have hc := HO.out k hlt
   have e0 : wr.cell? ⟨b, o + k * 3, none⟩ = some (.int .u64 l[k].m1) := hrr 0 _ rfl
   have e1 : wr.cell? ⟨b, o + k * 3 + 1, none⟩ = some (.int .u64 l[k].d) := hrr 1 _ rfl
   have e2 : wr.cell? ⟨b, o + k * 3 + 2, none⟩ = some (.int .u64 l[k].m2) := hrr 2 _ rfl
   have kc := rkof_c l[k].m1 l[k].d l[k].m2 hc.h1 hc.h2 hc.h3
   clear hrr hc
   have hBs := hB.size
   by_cases h0 : kind l[k].m1 l[k].d l[k].m2 = 0
   ·rw [h0] at kc
    have HL := Lib.hid (lok_no hlt h0)
    have KC := Lib.hid kc
    clear h0 kc
    generalize l[k].m1 = m1 at *
    generalize l[k].d = d at *
    generalize l[k].m2 = m2 at *
    go_wp2_with (go_at_call 63; ((with_reducible refine (KC.out _).mono ?_); rintro e w1 ⟨rfl, hbel⟩; obtain ⟨hcc, hff⟩ := bcell hbel; have hsz := hbel.size; (try simp at hsz); have hF : Below w.heap.size w w1 := (by exact kpb); go_split_ands; clear hcc hff hbel))
    go_ret
    exact ⟨by rw [HRR.out, HL.out]; rfl, by assumption⟩
   ·have HNO2 := Lib.hid (fun j (hj : j < l.length) (h : j < k + 1) => show ¬ kind l[j].m1 l[j].d l[j].m2 = 0 from by
     by_cases hjk : j = k
     ·subst hjk; exact h0
     ·exact HNO.out j hj (by omega))
    have hkb : (kind l[k].m1 l[k].d l[k].m2 == 0) = false := by simpa using h0
    have KC := Lib.hid kc
    clear h0 kc
    generalize l[k].m1 = m1 at *
    generalize l[k].d = d at *
    generalize l[k].m2 = m2 at *
    generalize kind m1 d m2 = kd at *
    go_wp2_with (go_at_call 63; ((with_reducible refine (KC.out _).mono ?_); rintro e w1 ⟨rfl, hbel⟩; obtain ⟨hcc, hff⟩ := bcell hbel; have hsz := hbel.size; (try simp at hsz); have hF : Below w.heap.size w w1 := (by exact kpb); go_split_ands; clear hcc hff hbel))
    go_roundw
    case rel => exact ⟨k + 1, by omega, by go_num, HNO2.out, by assumption⟩
    case measure => simp [intOf]; omega
  ·obtain rfl : k = l.length := by omega
   have HL := Lib.hid (lok_yes (l := l) (fun j hj => HNO.out j hj hj))
   go_wp2
   go_ret
   exact ⟨by rw [HRR.out, HL.out]; rfl, hB⟩
end Go.Proofs.YtffaahipgabkhaaGreat
end
