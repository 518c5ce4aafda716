/- The reference's Bound; both as one function. -/
import Derived.Test.YtdahjhokcjfioaaCf7
namespace Go.Proofs.Ytdahjhokcjfioaa
set_option linter.unusedVariables false
set_option linter.unusedSimpArgs false
set_option maxRecDepth 100000
open Go.RowKit Fg Reg
attribute [local irreducible] Reg.wE

def bvf (T L m1 d m2 b : Int) : Int × Int := if T < 1 ∨ 65536 < T ∨ L < 1 ∨ 16384 < L ∨ 1099511627776 < b then (0, 1) else if kind m1 d m2 = 0 ∨ m2 = 0 then (0, 21) else (bndV T L m1 d m2 b, 0)
theorem bound_f (T L m1 d m2 b : Int) (h1 : In m1) (h2 : In d) (h3 : In m2) (hb : In b) (w : World) : Calls Try.prog 76 #[.agg #[.int .i64 T, .int .i64 L], .agg #[.int .u64 (m1), .int .u64 (d), .int .u64 (m2)], .int .u64 b] w fun ee w' => ee = .returned (.tuple #[.int .u64 ((bvf T L m1 d m2 b).1), .int .i64 ((bvf T L m1 d m2 b).2)]) ∧ Below w.heap.size w w' := by
  refine (bound_c T L m1 d m2 b h1 h2 h3 hb w).mono ?_
  rintro e w' ⟨⟨V, F, rfl, h⟩, hB⟩
  refine ⟨?_, hB⟩
  unfold bvf
  rcases h with ⟨h, rfl, rfl⟩ | ⟨h, hk, rfl, rfl⟩ | ⟨h, hk, hz, rfl, rfl⟩
  · unfold badA at h; rw [if_pos h]
  · unfold badA at h; rw [if_neg h, if_pos hk]
  · unfold badA at h; rw [if_neg h, if_neg (fun e => e.elim hk hz)]
theorem rbound_lo (T L m1 d m2 b k : Int) (h1 : In m1) (h2 : In d) (h3 : In m2) (h : ¬ badA T L b) (hk : kind m1 d m2 = k) (hl : decide (k < 2) = true) (w : World) : Calls Try.prog 77 #[.agg #[.int .i64 T, .int .i64 L], .agg #[.int .u64 (m1), .int .u64 (d), .int .u64 (m2)], .int .u64 b] w fun ee w' => ee = .returned (.agg #[.int .u64 (0), .int .i64 (21)]) ∧ Below w.heap.size w w' := by
  have dd0 : decide (T < 1) = false := by simp; unfold badA at h; omega
  have dd1 : decide (65536 < T) = false := by simp; unfold badA at h; omega
  have dd2 : decide (L < 1) = false := by simp; unfold badA at h; omega
  have dd3 : decide (16384 < L) = false := by simp; unfold badA at h; omega
  have dd4 : decide (1099511627776 < b) = false := by simp; unfold badA at h; omega
  have k1 := rkof_c m1 d m2 h1 h2 h3
  rw [hk] at k1
  have K1 := Lib.hid k1
  clear h h1 h2 h3 hk k1
  go_enter Try.func77, Try.ntmps77
  go_wp2_with (go_at_call 101; ((with_reducible refine (K1.out _).mono ?_); rintro e w1 ⟨rfl, hbel⟩; obtain ⟨hcc, hff⟩ := bcell hbel; have hsz := hbel.size; (try simp at hsz); have hF : (((w1.cell? ⟨w.heap.size, 0, none⟩ = some (.int .i64 T) ∧ w1.cell? ⟨w.heap.size, 1, none⟩ = some (.int .i64 L) ∧ w1.cell? ⟨w.heap.size + 1, 0, none⟩ = some (.int .u64 m1) ∧ w1.cell? ⟨w.heap.size + 1, 1, none⟩ = some (.int .u64 d) ∧ w1.cell? ⟨w.heap.size + 1, 2, none⟩ = some (.int .u64 m2) ∧ w.heap.size < w1.heap.size ∧ w.heap.size + 1 < w1.heap.size ∧ Below w.heap.size w w1)) ∧ (w1.cell? ⟨w.heap.size + 2, 0, none⟩ = some (.int .u64 0) ∧ w1.cell? ⟨w.heap.size + 2, 1, none⟩ = some (.int .i64 0) ∧ w1.frozen? ⟨w.heap.size + 2, 0, none⟩ = false ∧ w1.frozen? ⟨w.heap.size + 2, 1, none⟩ = false ∧ w.heap.size + 2 < w1.heap.size)) := (by ((repeat' apply And.intro) <;> first | (simp [go_sem, *]; done) | omega | (repeat' (first | with_reducible exact Below.refl _ _ | with_reducible assumption | ((with_reducible refine Below.drew ?_)) | ((with_reducible refine below_drewN ?_ _)) | ((with_reducible refine Below.alloc ?_ ?_ _); rotate_left; focus (first | omega | (simp; done) | (simp; omega))) | ((with_reducible refine Below.setCell ?_ ?_ _); rotate_left; focus (first | omega | (simp; done) | (simp; omega))) | ((with_reducible refine Below.trans ?_ (Below.mono (by with_reducible assumption) ?_)); rotate_left; focus (first | omega | (simp; done) | (simp; omega))))))); go_split_ands; clear hcc hff hbel))
  refine bodyPost_ret (v := .agg #[.int .u64 (0), .int .i64 (21)]) (by simp [results, Try.results77, go_sem, *]) rfl ⟨rfl, (by repeat' (first | with_reducible exact Below.refl _ _ | with_reducible assumption | ((with_reducible refine Below.drew ?_)) | ((with_reducible refine below_drewN ?_ _)) | ((with_reducible refine Below.alloc ?_ ?_ _); rotate_left; focus (first | omega | (simp; done) | (simp; omega))) | ((with_reducible refine Below.setCell ?_ ?_ _); rotate_left; focus (first | omega | (simp; done) | (simp; omega))) | ((with_reducible refine Below.trans ?_ (Below.mono (by with_reducible assumption) ?_)); rotate_left; focus (first | omega | (simp; done) | (simp; omega)))))⟩
theorem rbound_z (T L m1 d m2 b k : Int) (h1 : In m1) (h2 : In d) (h3 : In m2) (h : ¬ badA T L b) (hk : kind m1 d m2 = k) (hl : decide (k < 2) = false) (hz : (m2 == 0) = true) (w : World) : Calls Try.prog 77 #[.agg #[.int .i64 T, .int .i64 L], .agg #[.int .u64 (m1), .int .u64 (d), .int .u64 (m2)], .int .u64 b] w fun ee w' => ee = .returned (.agg #[.int .u64 (0), .int .i64 (21)]) ∧ Below w.heap.size w w' := by
  have dd0 : decide (T < 1) = false := by simp; unfold badA at h; omega
  have dd1 : decide (65536 < T) = false := by simp; unfold badA at h; omega
  have dd2 : decide (L < 1) = false := by simp; unfold badA at h; omega
  have dd3 : decide (16384 < L) = false := by simp; unfold badA at h; omega
  have dd4 : decide (1099511627776 < b) = false := by simp; unfold badA at h; omega
  have k1 := rkof_c m1 d m2 h1 h2 h3
  rw [hk] at k1
  have K1 := Lib.hid k1
  clear h h1 h2 h3 hk k1
  go_enter Try.func77, Try.ntmps77
  go_wp2_with (go_at_call 101; ((with_reducible refine (K1.out _).mono ?_); rintro e w1 ⟨rfl, hbel⟩; obtain ⟨hcc, hff⟩ := bcell hbel; have hsz := hbel.size; (try simp at hsz); have hF : (((w1.cell? ⟨w.heap.size, 0, none⟩ = some (.int .i64 T) ∧ w1.cell? ⟨w.heap.size, 1, none⟩ = some (.int .i64 L) ∧ w1.cell? ⟨w.heap.size + 1, 0, none⟩ = some (.int .u64 m1) ∧ w1.cell? ⟨w.heap.size + 1, 1, none⟩ = some (.int .u64 d) ∧ w1.cell? ⟨w.heap.size + 1, 2, none⟩ = some (.int .u64 m2) ∧ w.heap.size < w1.heap.size ∧ w.heap.size + 1 < w1.heap.size ∧ Below w.heap.size w w1)) ∧ (w1.cell? ⟨w.heap.size + 2, 0, none⟩ = some (.int .u64 0) ∧ w1.cell? ⟨w.heap.size + 2, 1, none⟩ = some (.int .i64 0) ∧ w1.frozen? ⟨w.heap.size + 2, 0, none⟩ = false ∧ w1.frozen? ⟨w.heap.size + 2, 1, none⟩ = false ∧ w.heap.size + 2 < w1.heap.size)) := (by ((repeat' apply And.intro) <;> first | (simp [go_sem, *]; done) | omega | (repeat' (first | with_reducible exact Below.refl _ _ | with_reducible assumption | ((with_reducible refine Below.drew ?_)) | ((with_reducible refine below_drewN ?_ _)) | ((with_reducible refine Below.alloc ?_ ?_ _); rotate_left; focus (first | omega | (simp; done) | (simp; omega))) | ((with_reducible refine Below.setCell ?_ ?_ _); rotate_left; focus (first | omega | (simp; done) | (simp; omega))) | ((with_reducible refine Below.trans ?_ (Below.mono (by with_reducible assumption) ?_)); rotate_left; focus (first | omega | (simp; done) | (simp; omega))))))); go_split_ands; clear hcc hff hbel))
  refine bodyPost_ret (v := .agg #[.int .u64 (0), .int .i64 (21)]) (by simp [results, Try.results77, go_sem, *]) rfl ⟨rfl, (by repeat' (first | with_reducible exact Below.refl _ _ | with_reducible assumption | ((with_reducible refine Below.drew ?_)) | ((with_reducible refine below_drewN ?_ _)) | ((with_reducible refine Below.alloc ?_ ?_ _); rotate_left; focus (first | omega | (simp; done) | (simp; omega))) | ((with_reducible refine Below.setCell ?_ ?_ _); rotate_left; focus (first | omega | (simp; done) | (simp; omega))) | ((with_reducible refine Below.trans ?_ (Below.mono (by with_reducible assumption) ?_)); rotate_left; focus (first | omega | (simp; done) | (simp; omega)))))⟩
set_option maxHeartbeats 2000000 in
theorem rbound_core4 (T L m1 d m2 b x k p : Int) (h1 : In m1) (h2 : In d) (h3 : In m2) (h : ¬ badA T L b) (hz : ¬ m2 = 0) (hl : decide (k < 2) = false) (hkd : (k == 4) = true) (hk4 : kind m1 d m2 = k) (hx : 0 ≤ x ∧ x ≤ 72057594037927937) (hd : 0 ≤ d ∧ d ≤ 1048576)
    (k2 : ∀ w, Calls Try.prog 36 #[.int .u64 b] w fun ee w' => ee = .returned (.agg #[.int .u64 (d0 p), .int .u64 (d1 p), .int .u64 (d2 p), .int .u64 (d3 p)]) ∧ Below w.heap.size w w') (k3 : ∀ w, Calls Try.prog 142 #[.agg #[.int .u64 (d0 p), .int .u64 (d1 p), .int .u64 (d2 p), .int .u64 (d3 p)], .int .u64 m2] w fun ee w' => ee = .returned (.agg #[.int .u64 (x), .int .i64 (0)]) ∧ Below w.heap.size w w') (w : World) : Calls Try.prog 77 #[.agg #[.int .i64 T, .int .i64 L], .agg #[.int .u64 (m1), .int .u64 (d), .int .u64 (m2)], .int .u64 b] w fun ee w' => ee = .returned (.agg #[.int .u64 (x + d + L * T), .int .i64 (0)]) ∧ Below w.heap.size w w' := by
  have dd0 : decide (T < 1) = false := by simp; unfold badA at h; omega
  have dd1 : decide (65536 < T) = false := by simp; unfold badA at h; omega
  have dd2 : decide (L < 1) = false := by simp; unfold badA at h; omega
  have dd3 : decide (16384 < L) = false := by simp; unfold badA at h; omega
  have dd4 : decide (1099511627776 < b) = false := by simp; unfold badA at h; omega
  have k1 := rkof_c m1 d m2 h1 h2 h3
  rw [hk4] at k1
  have K1 := Lib.hid k1
  have K2 := Lib.hid k2
  have K3 := Lib.hid k3
  have z1 : (m2 == 0) = false := by simpa using hz
  have hLT : 0 ≤ T * L ∧ T * L ≤ 1073741824 := by
    unfold badA at h
    have a1 : 0 ≤ L := by omega
    have a2 : L ≤ 16384 := by omega
    have a3 : 0 ≤ T := by omega
    have a4 : T ≤ 65536 := by omega
    exact ⟨Int.mul_nonneg a3 a1, by have := Int.mul_le_mul a4 a2 a1 (by omega : (0:Int) ≤ 65536); omega⟩
  have wT : IntKind.u64.wrap T = T := by rw [wrap_u64]; unfold badA at h; omega
  have wL : IntKind.u64.wrap L = L := by rw [wrap_u64]; unfold badA at h; omega
  have wLT : IntKind.u64.wrap (T * L) = T * L := by rw [wrap_u64]; omega
  have wa : IntKind.u64.wrap (x + T * L) = x + T * L := by rw [wrap_u64]; omega
  have wb : IntKind.u64.wrap (x + T * L + d) = x + T * L + d := by rw [wrap_u64]; omega
  have hfld : ∀ z, (Instr.field 245 (.agg #[.int .u64 x, .int .i64 0]) 0).run Try.prog z = .ok (.int .u64 x) z := fun z => by kernel_rfl
  have hv : x + d + L * T = x + T * L + d := by have := Int.mul_comm L T; omega
  rw [hv]
  clear hv
  generalize d0 p = p0 at *
  generalize d1 p = p1 at *
  generalize d2 p = p2 at *
  generalize d3 p = p3 at *
  clear k1 k2 k3 h h1 h2 h3 hz hk4 hx hd hLT
  go_enter Try.func77, Try.ntmps77
  go_wp2_with (first | (go_at_call 101; ((with_reducible refine (K1.out _).mono ?_); rintro e w1 ⟨rfl, hbel⟩; obtain ⟨hcc, hff⟩ := bcell hbel; have hsz := hbel.size; (try simp at hsz); have hF : (((w1.cell? ⟨w.heap.size, 0, none⟩ = some (.int .i64 T) ∧ w1.cell? ⟨w.heap.size, 1, none⟩ = some (.int .i64 L) ∧ w1.cell? ⟨w.heap.size + 1, 0, none⟩ = some (.int .u64 m1) ∧ w1.cell? ⟨w.heap.size + 1, 1, none⟩ = some (.int .u64 d) ∧ w1.cell? ⟨w.heap.size + 1, 2, none⟩ = some (.int .u64 m2) ∧ w.heap.size < w1.heap.size ∧ w.heap.size + 1 < w1.heap.size ∧ Below w.heap.size w w1)) ∧ (w1.cell? ⟨w.heap.size + 2, 0, none⟩ = some (.int .u64 0) ∧ w1.cell? ⟨w.heap.size + 2, 1, none⟩ = some (.int .i64 0) ∧ w1.frozen? ⟨w.heap.size + 2, 0, none⟩ = false ∧ w1.frozen? ⟨w.heap.size + 2, 1, none⟩ = false ∧ w.heap.size + 2 < w1.heap.size)) := (by ((repeat' apply And.intro) <;> first | (simp [go_sem, *]; done) | omega | (repeat' (first | with_reducible exact Below.refl _ _ | with_reducible assumption | ((with_reducible refine Below.drew ?_)) | ((with_reducible refine below_drewN ?_ _)) | ((with_reducible refine Below.alloc ?_ ?_ _); rotate_left; focus (first | omega | (simp; done) | (simp; omega))) | ((with_reducible refine Below.setCell ?_ ?_ _); rotate_left; focus (first | omega | (simp; done) | (simp; omega))) | ((with_reducible refine Below.trans ?_ (Below.mono (by with_reducible assumption) ?_)); rotate_left; focus (first | omega | (simp; done) | (simp; omega))))))); go_split_ands; clear hcc hff hbel)))
  obtain ⟨Cl, hCl⟩ : ∃ Cl : List Value → World → Prop, Cl = ((fun ps wz => (((wz.cell? ⟨w.heap.size, 0, none⟩ = some (.int .i64 T) ∧ wz.cell? ⟨w.heap.size, 1, none⟩ = some (.int .i64 L) ∧ wz.cell? ⟨w.heap.size + 1, 0, none⟩ = some (.int .u64 m1) ∧ wz.cell? ⟨w.heap.size + 1, 1, none⟩ = some (.int .u64 d) ∧ wz.cell? ⟨w.heap.size + 1, 2, none⟩ = some (.int .u64 m2) ∧ w.heap.size < wz.heap.size ∧ w.heap.size + 1 < wz.heap.size ∧ Below w.heap.size w wz)) ∧ (wz.cell? ⟨w.heap.size + 2, 0, none⟩ = some (.int .u64 0) ∧ wz.cell? ⟨w.heap.size + 2, 1, none⟩ = some (.int .i64 0) ∧ wz.frozen? ⟨w.heap.size + 2, 0, none⟩ = false ∧ wz.frozen? ⟨w.heap.size + 2, 1, none⟩ = false ∧ w.heap.size + 2 < wz.heap.size)))) := ⟨_, rfl⟩; have HCl := Lib.hid hCl; clear hCl; refine wp_region_eff [] Cl (by kernel_rfl) (by kernel_rfl) (by rw [HCl.out]; (try simp only [List.nil_append, List.cons_append]); (try dsimp only); ((repeat' apply And.intro) <;> first | (simp [go_sem, *]; done) | omega | (repeat' (first | with_reducible exact Below.refl _ _ | with_reducible assumption | ((with_reducible refine Below.drew ?_)) | ((with_reducible refine below_drewN ?_ _)) | ((with_reducible refine Below.alloc ?_ ?_ _); rotate_left; focus (first | omega | (simp; done) | (simp; omega))) | ((with_reducible refine Below.setCell ?_ ?_ _); rotate_left; focus (first | omega | (simp; done) | (simp; omega))) | ((with_reducible refine Below.trans ?_ (Below.mono (by with_reducible assumption) ?_)); rotate_left; focus (first | omega | (simp; done) | (simp; omega))))))) ?_
  (repeat (first | (refine wE_skip (by rfl) ?_; simp only [Act.put, Nat.reduceAdd, List.setIfInBounds_toArray, List.set_cons_zero, List.set_cons_succ, List.nil_append, List.cons_append]) | (refine wE_open (by rfl) (by rfl) ?_; apply Exists.intro; refine ⟨fun vs wq hw => ?_, ?_⟩; (focus (rw [HCl.out] at hw; (try simp only [List.nil_append, List.cons_append] at hw); (try dsimp only at hw); go_split_ands; go_simp <;> first | with_reducible exact (rfl : Value.bool false = _) | with_reducible exact (rfl : Value.bool true = _) | ((try go_bits) <;> exact rfl))); simp only [Act.put, Nat.reduceAdd, List.setIfInBounds_toArray, List.set_cons_zero, List.set_cons_succ, List.nil_append, List.cons_append]) | (refine wE_seal (by rfl) (by rfl) (by kernel_rfl) ?_; apply Exists.intro; refine ⟨fun wq hw => ?_, ?_⟩; (focus (rw [HCl.out] at hw; (try simp only [List.nil_append, List.cons_append] at hw); (try dsimp only at hw); go_split_ands; go_simp <;> (try go_bits) <;> exact rfl)); simp only [Act.put, Nat.reduceAdd, List.setIfInBounds_toArray, List.set_cons_zero, List.set_cons_succ, List.nil_append, List.cons_append]) | (refine wE_seal (by rfl) (by rfl) (by kernel_rfl) ?_; apply Exists.intro; refine ⟨fun wq hw => ?_, ?_⟩; (focus (rw [HCl.out] at hw; (try simp only [List.nil_append, List.cons_append] at hw); (try dsimp only at hw); go_split_ands; go_simp; (first | (go_at_call 36; ((with_reducible refine (K2.out _).mono ?_); rintro e w' ⟨rfl, hbel⟩; obtain ⟨hcc, hff⟩ := bcell hbel; have hsz := hbel.size; (try simp at hsz); refine ⟨rfl, ?_⟩; rw [HCl.out]; (try simp only [List.nil_append, List.cons_append]); (try dsimp only); ((repeat' apply And.intro) <;> first | (simp [go_sem, *]; done) | omega | (repeat' (first | with_reducible exact Below.refl _ _ | with_reducible assumption | ((with_reducible refine Below.drew ?_)) | ((with_reducible refine below_drewN ?_ _)) | ((with_reducible refine Below.alloc ?_ ?_ _); rotate_left; focus (first | omega | (simp; done) | (simp; omega))) | ((with_reducible refine Below.setCell ?_ ?_ _); rotate_left; focus (first | omega | (simp; done) | (simp; omega))) | ((with_reducible refine Below.trans ?_ (Below.mono (by with_reducible assumption) ?_)); rotate_left; focus (first | omega | (simp; done) | (simp; omega)))))))) | (go_at_call 142; ((with_reducible refine (K3.out _).mono ?_); rintro e w' ⟨rfl, hbel⟩; obtain ⟨hcc, hff⟩ := bcell hbel; have hsz := hbel.size; (try simp at hsz); refine ⟨rfl, ?_⟩; rw [HCl.out]; (try simp only [List.nil_append, List.cons_append]); (try dsimp only); ((repeat' apply And.intro) <;> first | (simp [go_sem, *]; done) | omega | (repeat' (first | with_reducible exact Below.refl _ _ | with_reducible assumption | ((with_reducible refine Below.drew ?_)) | ((with_reducible refine below_drewN ?_ _)) | ((with_reducible refine Below.alloc ?_ ?_ _); rotate_left; focus (first | omega | (simp; done) | (simp; omega))) | ((with_reducible refine Below.setCell ?_ ?_ _); rotate_left; focus (first | omega | (simp; done) | (simp; omega))) | ((with_reducible refine Below.trans ?_ (Below.mono (by with_reducible assumption) ?_)); rotate_left; focus (first | omega | (simp; done) | (simp; omega))))))))))); simp only [Act.put, Nat.reduceAdd, List.setIfInBounds_toArray, List.set_cons_zero, List.set_cons_succ, List.nil_append, List.cons_append]) | (refine wE_eff (by rfl) (by rfl) (fun wq hw => ?_) (fun u hu => ?_); (focus (rw [HCl.out] at hw; (try simp only [List.nil_append, List.cons_append] at hw); (try dsimp only at hw); go_split_ands; go_simp; rw [HCl.out]; (try simp only [List.nil_append, List.cons_append]); (try dsimp only); skip; ((repeat' apply And.intro) <;> first | (simp [go_sem, *]; done) | omega | (repeat' (first | with_reducible exact Below.refl _ _ | with_reducible assumption | ((with_reducible refine Below.drew ?_)) | ((with_reducible refine below_drewN ?_ _)) | ((with_reducible refine Below.alloc ?_ ?_ _); rotate_left; focus (first | omega | (simp; done) | (simp; omega))) | ((with_reducible refine Below.setCell ?_ ?_ _); rotate_left; focus (first | omega | (simp; done) | (simp; omega))) | ((with_reducible refine Below.trans ?_ (Below.mono (by with_reducible assumption) ?_)); rotate_left; focus (first | omega | (simp; done) | (simp; omega)))))))); clear hu; simp only [Act.put, Nat.reduceAdd, List.setIfInBounds_toArray, List.set_cons_zero, List.set_cons_succ, List.nil_append, List.cons_append])))
  refine wE_nil ?_; intro w' hw; rw [HCl.out] at hw; (try simp only [List.nil_append, List.cons_append] at hw); (try dsimp only at hw); clear HCl
  go_split_ands
  go_wp2_with (go_at_call 101; ((with_reducible refine (K1.out _).mono ?_); rintro e w2 ⟨rfl, hbel⟩; obtain ⟨hcc, hff⟩ := bcell hbel; have hsz := hbel.size; (try simp at hsz); have hF : (((w2.cell? ⟨w.heap.size, 0, none⟩ = some (.int .i64 T) ∧ w2.cell? ⟨w.heap.size, 1, none⟩ = some (.int .i64 L) ∧ w2.cell? ⟨w.heap.size + 1, 0, none⟩ = some (.int .u64 m1) ∧ w2.cell? ⟨w.heap.size + 1, 1, none⟩ = some (.int .u64 d) ∧ w2.cell? ⟨w.heap.size + 1, 2, none⟩ = some (.int .u64 m2) ∧ w.heap.size < w2.heap.size ∧ w.heap.size + 1 < w2.heap.size ∧ Below w.heap.size w w2)) ∧ (w2.cell? ⟨w.heap.size + 2, 0, none⟩ = some (.int .u64 0) ∧ w2.cell? ⟨w.heap.size + 2, 1, none⟩ = some (.int .i64 0) ∧ w2.frozen? ⟨w.heap.size + 2, 0, none⟩ = false ∧ w2.frozen? ⟨w.heap.size + 2, 1, none⟩ = false ∧ w.heap.size + 2 < w2.heap.size)) := (by ((repeat' apply And.intro) <;> first | (simp [go_sem, *]; done) | omega | (repeat' (first | with_reducible exact Below.refl _ _ | with_reducible assumption | ((with_reducible refine Below.drew ?_)) | ((with_reducible refine below_drewN ?_ _)) | ((with_reducible refine Below.alloc ?_ ?_ _); rotate_left; focus (first | omega | (simp; done) | (simp; omega))) | ((with_reducible refine Below.setCell ?_ ?_ _); rotate_left; focus (first | omega | (simp; done) | (simp; omega))) | ((with_reducible refine Below.trans ?_ (Below.mono (by with_reducible assumption) ?_)); rotate_left; focus (first | omega | (simp; done) | (simp; omega))))))); go_split_ands; clear hcc hff hbel))
  refine bodyPost_ret (v := .agg #[.int .u64 (x + T * L + d), .int .i64 (0)]) (by simp [results, Try.results77, go_sem, *]) rfl ⟨rfl, (by repeat' (first | with_reducible exact Below.refl _ _ | with_reducible assumption | ((with_reducible refine Below.drew ?_)) | ((with_reducible refine below_drewN ?_ _)) | ((with_reducible refine Below.alloc ?_ ?_ _); rotate_left; focus (first | omega | (simp; done) | (simp; omega))) | ((with_reducible refine Below.setCell ?_ ?_ _); rotate_left; focus (first | omega | (simp; done) | (simp; omega))) | ((with_reducible refine Below.trans ?_ (Below.mono (by with_reducible assumption) ?_)); rotate_left; focus (first | omega | (simp; done) | (simp; omega)))))⟩
set_option maxHeartbeats 2000000 in
theorem rbound_coren (T L m1 d m2 b x k p : Int) (h1 : In m1) (h2 : In d) (h3 : In m2) (h : ¬ badA T L b) (hz : ¬ m2 = 0) (hl : decide (k < 2) = false) (hkd : (k == 4) = false) (hk4 : kind m1 d m2 = k) (hx : 0 ≤ x ∧ x ≤ 72057594037927937) (hd : 0 ≤ d ∧ d ≤ 1048576)
    (k2 : ∀ w, Calls Try.prog 36 #[.int .u64 b] w fun ee w' => ee = .returned (.agg #[.int .u64 (d0 p), .int .u64 (d1 p), .int .u64 (d2 p), .int .u64 (d3 p)]) ∧ Below w.heap.size w w') (k3 : ∀ w, Calls Try.prog 142 #[.agg #[.int .u64 (d0 p), .int .u64 (d1 p), .int .u64 (d2 p), .int .u64 (d3 p)], .int .u64 m2] w fun ee w' => ee = .returned (.agg #[.int .u64 (x), .int .i64 (0)]) ∧ Below w.heap.size w w') (w : World) : Calls Try.prog 77 #[.agg #[.int .i64 T, .int .i64 L], .agg #[.int .u64 (m1), .int .u64 (d), .int .u64 (m2)], .int .u64 b] w fun ee w' => ee = .returned (.agg #[.int .u64 (x + L * T), .int .i64 (0)]) ∧ Below w.heap.size w w' := by
  have dd0 : decide (T < 1) = false := by simp; unfold badA at h; omega
  have dd1 : decide (65536 < T) = false := by simp; unfold badA at h; omega
  have dd2 : decide (L < 1) = false := by simp; unfold badA at h; omega
  have dd3 : decide (16384 < L) = false := by simp; unfold badA at h; omega
  have dd4 : decide (1099511627776 < b) = false := by simp; unfold badA at h; omega
  have k1 := rkof_c m1 d m2 h1 h2 h3
  rw [hk4] at k1
  have K1 := Lib.hid k1
  have K2 := Lib.hid k2
  have K3 := Lib.hid k3
  have z1 : (m2 == 0) = false := by simpa using hz
  have hLT : 0 ≤ T * L ∧ T * L ≤ 1073741824 := by
    unfold badA at h
    have a1 : 0 ≤ L := by omega
    have a2 : L ≤ 16384 := by omega
    have a3 : 0 ≤ T := by omega
    have a4 : T ≤ 65536 := by omega
    exact ⟨Int.mul_nonneg a3 a1, by have := Int.mul_le_mul a4 a2 a1 (by omega : (0:Int) ≤ 65536); omega⟩
  have wT : IntKind.u64.wrap T = T := by rw [wrap_u64]; unfold badA at h; omega
  have wL : IntKind.u64.wrap L = L := by rw [wrap_u64]; unfold badA at h; omega
  have wLT : IntKind.u64.wrap (T * L) = T * L := by rw [wrap_u64]; omega
  have wa : IntKind.u64.wrap (x + T * L) = x + T * L := by rw [wrap_u64]; omega
  have wb : IntKind.u64.wrap (x + T * L + d) = x + T * L + d := by rw [wrap_u64]; omega
  have hfld : ∀ z, (Instr.field 245 (.agg #[.int .u64 x, .int .i64 0]) 0).run Try.prog z = .ok (.int .u64 x) z := fun z => by kernel_rfl
  have hv : x + L * T = x + T * L := by have := Int.mul_comm L T; omega
  rw [hv]
  clear hv
  generalize d0 p = p0 at *
  generalize d1 p = p1 at *
  generalize d2 p = p2 at *
  generalize d3 p = p3 at *
  clear k1 k2 k3 h h1 h2 h3 hz hk4 hx hd hLT
  go_enter Try.func77, Try.ntmps77
  go_wp2_with (first | (go_at_call 101; ((with_reducible refine (K1.out _).mono ?_); rintro e w1 ⟨rfl, hbel⟩; obtain ⟨hcc, hff⟩ := bcell hbel; have hsz := hbel.size; (try simp at hsz); have hF : (((w1.cell? ⟨w.heap.size, 0, none⟩ = some (.int .i64 T) ∧ w1.cell? ⟨w.heap.size, 1, none⟩ = some (.int .i64 L) ∧ w1.cell? ⟨w.heap.size + 1, 0, none⟩ = some (.int .u64 m1) ∧ w1.cell? ⟨w.heap.size + 1, 1, none⟩ = some (.int .u64 d) ∧ w1.cell? ⟨w.heap.size + 1, 2, none⟩ = some (.int .u64 m2) ∧ w.heap.size < w1.heap.size ∧ w.heap.size + 1 < w1.heap.size ∧ Below w.heap.size w w1)) ∧ (w1.cell? ⟨w.heap.size + 2, 0, none⟩ = some (.int .u64 0) ∧ w1.cell? ⟨w.heap.size + 2, 1, none⟩ = some (.int .i64 0) ∧ w1.frozen? ⟨w.heap.size + 2, 0, none⟩ = false ∧ w1.frozen? ⟨w.heap.size + 2, 1, none⟩ = false ∧ w.heap.size + 2 < w1.heap.size)) := (by ((repeat' apply And.intro) <;> first | (simp [go_sem, *]; done) | omega | (repeat' (first | with_reducible exact Below.refl _ _ | with_reducible assumption | ((with_reducible refine Below.drew ?_)) | ((with_reducible refine below_drewN ?_ _)) | ((with_reducible refine Below.alloc ?_ ?_ _); rotate_left; focus (first | omega | (simp; done) | (simp; omega))) | ((with_reducible refine Below.setCell ?_ ?_ _); rotate_left; focus (first | omega | (simp; done) | (simp; omega))) | ((with_reducible refine Below.trans ?_ (Below.mono (by with_reducible assumption) ?_)); rotate_left; focus (first | omega | (simp; done) | (simp; omega))))))); go_split_ands; clear hcc hff hbel)))
  obtain ⟨Cl, hCl⟩ : ∃ Cl : List Value → World → Prop, Cl = ((fun ps wz => (((wz.cell? ⟨w.heap.size, 0, none⟩ = some (.int .i64 T) ∧ wz.cell? ⟨w.heap.size, 1, none⟩ = some (.int .i64 L) ∧ wz.cell? ⟨w.heap.size + 1, 0, none⟩ = some (.int .u64 m1) ∧ wz.cell? ⟨w.heap.size + 1, 1, none⟩ = some (.int .u64 d) ∧ wz.cell? ⟨w.heap.size + 1, 2, none⟩ = some (.int .u64 m2) ∧ w.heap.size < wz.heap.size ∧ w.heap.size + 1 < wz.heap.size ∧ Below w.heap.size w wz)) ∧ (wz.cell? ⟨w.heap.size + 2, 0, none⟩ = some (.int .u64 0) ∧ wz.cell? ⟨w.heap.size + 2, 1, none⟩ = some (.int .i64 0) ∧ wz.frozen? ⟨w.heap.size + 2, 0, none⟩ = false ∧ wz.frozen? ⟨w.heap.size + 2, 1, none⟩ = false ∧ w.heap.size + 2 < wz.heap.size)))) := ⟨_, rfl⟩; have HCl := Lib.hid hCl; clear hCl; refine wp_region_eff [] Cl (by kernel_rfl) (by kernel_rfl) (by rw [HCl.out]; (try simp only [List.nil_append, List.cons_append]); (try dsimp only); ((repeat' apply And.intro) <;> first | (simp [go_sem, *]; done) | omega | (repeat' (first | with_reducible exact Below.refl _ _ | with_reducible assumption | ((with_reducible refine Below.drew ?_)) | ((with_reducible refine below_drewN ?_ _)) | ((with_reducible refine Below.alloc ?_ ?_ _); rotate_left; focus (first | omega | (simp; done) | (simp; omega))) | ((with_reducible refine Below.setCell ?_ ?_ _); rotate_left; focus (first | omega | (simp; done) | (simp; omega))) | ((with_reducible refine Below.trans ?_ (Below.mono (by with_reducible assumption) ?_)); rotate_left; focus (first | omega | (simp; done) | (simp; omega))))))) ?_
  (repeat (first | (refine wE_skip (by rfl) ?_; simp only [Act.put, Nat.reduceAdd, List.setIfInBounds_toArray, List.set_cons_zero, List.set_cons_succ, List.nil_append, List.cons_append]) | (refine wE_open (by rfl) (by rfl) ?_; apply Exists.intro; refine ⟨fun vs wq hw => ?_, ?_⟩; (focus (rw [HCl.out] at hw; (try simp only [List.nil_append, List.cons_append] at hw); (try dsimp only at hw); go_split_ands; go_simp <;> first | with_reducible exact (rfl : Value.bool false = _) | with_reducible exact (rfl : Value.bool true = _) | ((try go_bits) <;> exact rfl))); simp only [Act.put, Nat.reduceAdd, List.setIfInBounds_toArray, List.set_cons_zero, List.set_cons_succ, List.nil_append, List.cons_append]) | (refine wE_seal (by rfl) (by rfl) (by kernel_rfl) ?_; apply Exists.intro; refine ⟨fun wq hw => ?_, ?_⟩; (focus (rw [HCl.out] at hw; (try simp only [List.nil_append, List.cons_append] at hw); (try dsimp only at hw); go_split_ands; go_simp <;> (try go_bits) <;> exact rfl)); simp only [Act.put, Nat.reduceAdd, List.setIfInBounds_toArray, List.set_cons_zero, List.set_cons_succ, List.nil_append, List.cons_append]) | (refine wE_seal (by rfl) (by rfl) (by kernel_rfl) ?_; apply Exists.intro; refine ⟨fun wq hw => ?_, ?_⟩; (focus (rw [HCl.out] at hw; (try simp only [List.nil_append, List.cons_append] at hw); (try dsimp only at hw); go_split_ands; go_simp; (first | (go_at_call 36; ((with_reducible refine (K2.out _).mono ?_); rintro e w' ⟨rfl, hbel⟩; obtain ⟨hcc, hff⟩ := bcell hbel; have hsz := hbel.size; (try simp at hsz); refine ⟨rfl, ?_⟩; rw [HCl.out]; (try simp only [List.nil_append, List.cons_append]); (try dsimp only); ((repeat' apply And.intro) <;> first | (simp [go_sem, *]; done) | omega | (repeat' (first | with_reducible exact Below.refl _ _ | with_reducible assumption | ((with_reducible refine Below.drew ?_)) | ((with_reducible refine below_drewN ?_ _)) | ((with_reducible refine Below.alloc ?_ ?_ _); rotate_left; focus (first | omega | (simp; done) | (simp; omega))) | ((with_reducible refine Below.setCell ?_ ?_ _); rotate_left; focus (first | omega | (simp; done) | (simp; omega))) | ((with_reducible refine Below.trans ?_ (Below.mono (by with_reducible assumption) ?_)); rotate_left; focus (first | omega | (simp; done) | (simp; omega)))))))) | (go_at_call 142; ((with_reducible refine (K3.out _).mono ?_); rintro e w' ⟨rfl, hbel⟩; obtain ⟨hcc, hff⟩ := bcell hbel; have hsz := hbel.size; (try simp at hsz); refine ⟨rfl, ?_⟩; rw [HCl.out]; (try simp only [List.nil_append, List.cons_append]); (try dsimp only); ((repeat' apply And.intro) <;> first | (simp [go_sem, *]; done) | omega | (repeat' (first | with_reducible exact Below.refl _ _ | with_reducible assumption | ((with_reducible refine Below.drew ?_)) | ((with_reducible refine below_drewN ?_ _)) | ((with_reducible refine Below.alloc ?_ ?_ _); rotate_left; focus (first | omega | (simp; done) | (simp; omega))) | ((with_reducible refine Below.setCell ?_ ?_ _); rotate_left; focus (first | omega | (simp; done) | (simp; omega))) | ((with_reducible refine Below.trans ?_ (Below.mono (by with_reducible assumption) ?_)); rotate_left; focus (first | omega | (simp; done) | (simp; omega))))))))))); simp only [Act.put, Nat.reduceAdd, List.setIfInBounds_toArray, List.set_cons_zero, List.set_cons_succ, List.nil_append, List.cons_append]) | (refine wE_eff (by rfl) (by rfl) (fun wq hw => ?_) (fun u hu => ?_); (focus (rw [HCl.out] at hw; (try simp only [List.nil_append, List.cons_append] at hw); (try dsimp only at hw); go_split_ands; go_simp; rw [HCl.out]; (try simp only [List.nil_append, List.cons_append]); (try dsimp only); skip; ((repeat' apply And.intro) <;> first | (simp [go_sem, *]; done) | omega | (repeat' (first | with_reducible exact Below.refl _ _ | with_reducible assumption | ((with_reducible refine Below.drew ?_)) | ((with_reducible refine below_drewN ?_ _)) | ((with_reducible refine Below.alloc ?_ ?_ _); rotate_left; focus (first | omega | (simp; done) | (simp; omega))) | ((with_reducible refine Below.setCell ?_ ?_ _); rotate_left; focus (first | omega | (simp; done) | (simp; omega))) | ((with_reducible refine Below.trans ?_ (Below.mono (by with_reducible assumption) ?_)); rotate_left; focus (first | omega | (simp; done) | (simp; omega)))))))); clear hu; simp only [Act.put, Nat.reduceAdd, List.setIfInBounds_toArray, List.set_cons_zero, List.set_cons_succ, List.nil_append, List.cons_append])))
  refine wE_nil ?_; intro w' hw; rw [HCl.out] at hw; (try simp only [List.nil_append, List.cons_append] at hw); (try dsimp only at hw); clear HCl
  go_split_ands
  go_wp2_with (go_at_call 101; ((with_reducible refine (K1.out _).mono ?_); rintro e w2 ⟨rfl, hbel⟩; obtain ⟨hcc, hff⟩ := bcell hbel; have hsz := hbel.size; (try simp at hsz); have hF : (((w2.cell? ⟨w.heap.size, 0, none⟩ = some (.int .i64 T) ∧ w2.cell? ⟨w.heap.size, 1, none⟩ = some (.int .i64 L) ∧ w2.cell? ⟨w.heap.size + 1, 0, none⟩ = some (.int .u64 m1) ∧ w2.cell? ⟨w.heap.size + 1, 1, none⟩ = some (.int .u64 d) ∧ w2.cell? ⟨w.heap.size + 1, 2, none⟩ = some (.int .u64 m2) ∧ w.heap.size < w2.heap.size ∧ w.heap.size + 1 < w2.heap.size ∧ Below w.heap.size w w2)) ∧ (w2.cell? ⟨w.heap.size + 2, 0, none⟩ = some (.int .u64 0) ∧ w2.cell? ⟨w.heap.size + 2, 1, none⟩ = some (.int .i64 0) ∧ w2.frozen? ⟨w.heap.size + 2, 0, none⟩ = false ∧ w2.frozen? ⟨w.heap.size + 2, 1, none⟩ = false ∧ w.heap.size + 2 < w2.heap.size)) := (by ((repeat' apply And.intro) <;> first | (simp [go_sem, *]; done) | omega | (repeat' (first | with_reducible exact Below.refl _ _ | with_reducible assumption | ((with_reducible refine Below.drew ?_)) | ((with_reducible refine below_drewN ?_ _)) | ((with_reducible refine Below.alloc ?_ ?_ _); rotate_left; focus (first | omega | (simp; done) | (simp; omega))) | ((with_reducible refine Below.setCell ?_ ?_ _); rotate_left; focus (first | omega | (simp; done) | (simp; omega))) | ((with_reducible refine Below.trans ?_ (Below.mono (by with_reducible assumption) ?_)); rotate_left; focus (first | omega | (simp; done) | (simp; omega))))))); go_split_ands; clear hcc hff hbel))
  refine bodyPost_ret (v := .agg #[.int .u64 (x + T * L), .int .i64 (0)]) (by simp [results, Try.results77, go_sem, *]) rfl ⟨rfl, (by repeat' (first | with_reducible exact Below.refl _ _ | with_reducible assumption | ((with_reducible refine Below.drew ?_)) | ((with_reducible refine below_drewN ?_ _)) | ((with_reducible refine Below.alloc ?_ ?_ _); rotate_left; focus (first | omega | (simp; done) | (simp; omega))) | ((with_reducible refine Below.setCell ?_ ?_ _); rotate_left; focus (first | omega | (simp; done) | (simp; omega))) | ((with_reducible refine Below.trans ?_ (Below.mono (by with_reducible assumption) ?_)); rotate_left; focus (first | omega | (simp; done) | (simp; omega)))))⟩
theorem rbound_f (T L m1 d m2 b : Int) (h1 : In m1) (h2 : In d) (h3 : In m2) (hb : In b) (w : World) : Calls Try.prog 77 #[.agg #[.int .i64 T, .int .i64 L], .agg #[.int .u64 (m1), .int .u64 (d), .int .u64 (m2)], .int .u64 b] w fun ee w' => ee = .returned (.agg #[.int .u64 ((bvf T L m1 d m2 b).1), .int .i64 ((bvf T L m1 d m2 b).2)]) ∧ Below w.heap.size w w' := by
  unfold bvf
  by_cases h : badA T L b
  · have h' := h
    unfold badA at h'
    rw [if_pos h']
    exact rbound_arg T L m1 d m2 b h w
  · have h' := h
    unfold badA at h'
    rw [if_neg h']
    by_cases hz : m2 = 0
    · rw [if_pos (.inr hz)]
      by_cases hl : kind m1 d m2 < 2
      · exact rbound_lo T L m1 d m2 b _ h1 h2 h3 h rfl (by simpa using hl) w
      · exact rbound_z T L m1 d m2 b _ h1 h2 h3 h rfl (by simpa using hl) (by simpa using hz) w
    · by_cases hk : kind m1 d m2 = 0
      · rw [if_pos (.inl hk)]
        exact rbound_lo T L m1 d m2 b _ h1 h2 h3 h rfl (by rw [hk]; decide) w
      · rw [if_neg (fun e => e.elim hk hz)]
        have hk2 : ¬ kind m1 d m2 < 2 := by
          intro e
          have hr := kind_range m1 d m2
          have : kind m1 d m2 = 1 := by omega
          unfold kind at this
          split at this
          · omega
          · split at this
            · omega
            · split at this
              · omega
              · split at this
                · omega
                · split at this <;> omega
        have hb2 : b ≤ 1099511627776 := by unfold badA at h; omega
        obtain ⟨x0, x1, q0, q1⟩ := bnd_small h1 h2 h3 hb hb2 hk hz
        have hb0 := hb.1
        have k3 := fun w => refceil_c (b * 65536) m2 (by unfold Wd; omega) h3 (by have := h3.1; omega) w
        have hh : hi (cl (b * 65536) m2) = 0 := by unfold hi; omega
        rw [nv_ok hh, ne_ok hh, show lo (cl (b * 65536) m2) = cl (b * 65536) m2 by unfold lo; omega] at k3
        by_cases h4 : kind m1 d m2 = 4
        · have hv : bndV T L m1 d m2 b = cl (b * 65536) m2 + d + L * T := by unfold bndV; rw [if_pos h4]
          rw [hv]
          exact rbound_core4 T L m1 d m2 b _ 4 _ h1 h2 h3 h hz (by decide) rfl h4 ⟨x0, x1⟩ ⟨q0, q1⟩ (runj_c b hb) k3 w
        · have hv : bndV T L m1 d m2 b = cl (b * 65536) m2 + L * T := by unfold bndV; rw [if_neg h4]; omega
          rw [hv]
          exact rbound_coren T L m1 d m2 b _ _ _ h1 h2 h3 h hz (by simpa using hk2) (by simpa using h4) rfl ⟨x0, x1⟩ ⟨q0, q1⟩ (runj_c b hb) k3 w
end Go.Proofs.Ytdahjhokcjfioaa
