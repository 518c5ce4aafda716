/- Joined texts. -/
import Derived.Test.YtffaahipgabkhaaGreatJn0
import Derived.Test.YtffaahipgabkhaaGreatJn1
import Derived.Test.YtffaahipgabkhaaGreatJn2
set_option linter.unusedVariables false
set_option linter.unusedSimpArgs false
set_option maxRecDepth 100000
set_option maxHeartbeats 16000000
section
namespace Go.Proofs.YtffaahipgabkhaaGreat
open Go.RowKit Fg
theorem of_c (v : Int) (w : World) : Calls Tryz.prog 88 #[.int .u64 v] w fun e w' => e = .returned (.agg #[.int .u64 0, .int .u64 v]) ∧ Below w.heap.size w w' := by
 go_enter Tryz.func88, Tryz.ntmps88
 go_wp2
 exact bodyPost_ret (v := .agg #[.int .u64 0, .int .u64 v]) (by simp [results, Tryz.results88, go_sem]) rfl ⟨rfl, (Below.refl _ _).alloc (Nat.le_refl _) _⟩
theorem add_c (a b c d : Int) (ha : In a) (hb : In b) (hc : In c) (hd : In d) (w : World) : Calls Tryz.prog 130 #[.agg #[.int .u64 a, .int .u64 b], .agg #[.int .u64 c, .int .u64 d]] w fun e w' => e = .returned (.tuple #[.agg #[.int .u64 (hi (val a b + val c d)), .int .u64 (lo (val a b + val c d))], .bool (decide (340282366920938463463374607431768211455 < val a b + val c d))]) ∧ Below w.heap.size w w' := by
 go_enter Tryz.func130, Tryz.ntmps130
 go_wp2
 all_goals
  refine bodyPost_ret (v := .tuple #[.agg #[.int .u64 (hi (val a b + val c d)), .int .u64 (lo (val a b + val c d))], .bool (decide (340282366920938463463374607431768211455 < val a b + val c d))]) ?_ rfl ⟨rfl, blb⟩
  simp [results, Tryz.results130, go_sem]
  simp only [wrap_u64] at *
  unfold In at *
  unfold hi lo val
  refine ⟨⟨?_, ?_⟩, ?_⟩
  ·omega
  ·omega
  ·first | omega | (rw [Bool.eq_iff_iff]; simp; omega)
def cmp (x y : Int) : Int := if x = y then 0 else if x < y then -1 else 1
theorem compare_c (a b c d : Int) (ha : In a) (hb : In b) (hc : In c) (hd : In d) (w : World) : Calls Tryz.prog 86 #[.agg #[.int .u64 a, .int .u64 b], .agg #[.int .u64 c, .int .u64 d]] w fun e w' => e = .returned (.int .i64 (cmp (val a b) (val c d))) ∧ Below w.heap.size w w' := by
 go_enter Tryz.func86, Tryz.ntmps86
 go_wp2
 all_goals
  go_ret
  refine ⟨ret_int ?_, blb⟩
  unfold In at *
  unfold cmp val
  first
   | (rw [if_pos (by omega)])
   | (rw [if_neg (by omega), if_pos (by omega)])
   | (rw [if_neg (by omega), if_neg (by omega)])
theorem half_c (v : Int) (i : Int) (hv : In v) (h01 : i = 0 ∨ i = 1) (w : World) : Calls Tryz.prog 147 #[.int .u64 v, .int .i64 i] w fun e w' => e = .returned (.int .u64 (if i = 0 then v % 4294967296 else v / 4294967296)) ∧ w = w' := by
 rcases h01 with rfl | rfl
 all_goals
  go_enter Tryz.func147, Tryz.ntmps147
  go_wp2
  go_ret
  refine ⟨ret_int ?_, rfl⟩
  rewrite [and_mask (by first | assumption | (unfold In at *; omega))]
  first | rfl | (simp; done) | (unfold In at hv; simp; omega) | (unfold In at hv; omega)
theorem moved_c (v : Int) (i m : Int) (hv : In v) (h01 : (i = 0 ∧ m = 1) ∨ (i = 1 ∧ m = 4294967296) ∨ (i = 2 ∧ m = 18446744073709551616)) (w : World) : Calls Tryz.prog 146 #[.int .u64 v, .int .i64 i] w fun e w' => e = .returned (.agg #[.int .u64 (Fg.hi (v * m)), .int .u64 (lo (v * m))]) ∧ Below w.heap.size w w' := by
 rcases h01 with ⟨rfl, rfl⟩ | ⟨rfl, rfl⟩ | ⟨rfl, rfl⟩
 all_goals
  go_enter Tryz.func146, Tryz.ntmps146
  go_wp2
  refine bodyPost_ret (v := .agg #[.int .u64 (Fg.hi (v * _)), .int .u64 (lo (v * _))]) ?_ rfl ⟨rfl, blb⟩
  simp [results, Tryz.results146, go_sem]
  simp only [wrap_u64] at *
  unfold In at *
  unfold Fg.hi lo
  omega
end Go.Proofs.YtffaahipgabkhaaGreat
namespace Go.Proofs.YtffaahipgabkhaaGreat
open Go.RowKit Fg Reg
theorem half_b (v : Int) (i : Int) (hv : In v) (h01 : i = 0 ∨ i = 1) (w : World) : Calls Tryz.prog 147 #[.int .u64 v, .int .i64 i] w fun e w' => e = .returned (.int .u64 (if i = 0 then v % 4294967296 else v / 4294967296)) ∧ Below w.heap.size w w' :=
 (half_c v i hv h01 w).mono fun _ _ ⟨he, hw⟩ => ⟨he, hw ▸ Below.refl _ _⟩
set_option maxRecDepth 100000 in
theorem mul_c (a b : Int) (ha : In a) (hb : In b) (w : World) : Calls Tryz.prog 131 #[.int .u64 a, .int .u64 b] w fun e w' => e = .returned (.agg #[.int .u64 (hi (a * b)), .int .u64 (lo (a * b))]) ∧ Below w.heap.size w w' := by
 go_enter Tryz.func131, Tryz.ntmps131
 go_wp2_with fail
 go_loopw [8] (fun i wr => ∃ k : Nat, k ≤ 2 ∧ i = .int .i64 k ∧ (wr.cell? ⟨w.heap.size, 0, none⟩ = some (.int .u64 0) ∧ wr.cell? ⟨w.heap.size, 1, none⟩ = some (.int .u64 0) ∧ wr.frozen? ⟨w.heap.size, 0, none⟩ = false ∧ wr.frozen? ⟨w.heap.size, 1, none⟩ = false ∧ w.heap.size < wr.heap.size) ∧ (wr.cell? ⟨w.heap.size + 1, 0, none⟩ = some (.int .u64 (hi (mpart a b (2 * k)))) ∧ wr.cell? ⟨w.heap.size + 1, 1, none⟩ = some (.int .u64 (lo (mpart a b (2 * k)))) ∧ wr.frozen? ⟨w.heap.size + 1, 0, none⟩ = false ∧ wr.frozen? ⟨w.heap.size + 1, 1, none⟩ = false ∧ w.heap.size + 1 < wr.heap.size) ∧ Below w.heap.size w wr) (fun i _ => 2 - (intOf i).toNat)
 case atStart =>
  have z1 : hi (mpart a b 0) = 0 := rfl
  have z2 : lo (mpart a b 0) = 0 := rfl
  refine ⟨0, by omega, rfl, ?_⟩
  simp only [Nat.mul_zero, z1, z2]
  exact kpb
 case round =>
  obtain ⟨k, hk, rfl, ⟨h1, h2, h3, h4, h5⟩, ⟨h6, h7, h8, h9, h10⟩, h11⟩ := hrel
  obtain ⟨wo, rfl⟩ : ∃ wo : World, wo = wr := ⟨_, rfl⟩
  rcases (by omega : k = 0 ∨ k = 1 ∨ k = 2) with rfl | rfl | rfl
  ·go_wp2_with fail
   go_loopw [11] (fun i wr => ∃ k : Nat, k ≤ 2 ∧ i = .int .i64 k ∧ (wr.cell? ⟨w.heap.size, 0, none⟩ = some (.int .u64 0) ∧ wr.cell? ⟨w.heap.size, 1, none⟩ = some (.int .u64 0) ∧ wr.frozen? ⟨w.heap.size, 0, none⟩ = false ∧ wr.frozen? ⟨w.heap.size, 1, none⟩ = false ∧ w.heap.size < wr.heap.size) ∧ (wr.cell? ⟨w.heap.size + 1, 0, none⟩ = some (.int .u64 (hi (mpart a b (0 + k)))) ∧ wr.cell? ⟨w.heap.size + 1, 1, none⟩ = some (.int .u64 (lo (mpart a b (0 + k)))) ∧ wr.frozen? ⟨w.heap.size + 1, 0, none⟩ = false ∧ wr.frozen? ⟨w.heap.size + 1, 1, none⟩ = false ∧ w.heap.size + 1 < wr.heap.size) ∧ Below w.heap.size w wr) (fun i _ => 2 - (intOf i).toNat)
   case atStart => exact ⟨0, by omega, rfl, ⟨h1, h2, h3, h4, h5⟩, ⟨h6, h7, h8, h9, h10⟩, h11⟩
   case round =>
    clear h1 h2 h3 h4 h5 h6 h7 h8 h9 h10 h11
    obtain ⟨k, hk, rfl, ⟨h1, h2, h3, h4, h5⟩, ⟨h6, h7, h8, h9, h10⟩, h11⟩ := hrel
    obtain ⟨wo, rfl⟩ : ∃ wo : World, wo = wr := ⟨_, rfl⟩
    rcases (by omega : k = 0 ∨ k = 1 ∨ k = 2) with rfl | rfl | rfl
    ·have g1 := mpart_in ha hb 0
     have e1 := wrap_half (in_half0 ha) (in_half0 hb)
     have e2 := half_mul (in_half0 ha) (in_half0 hb)
     have ac := acc (p := mpart a b 0) (q := mpart a b 1) (v := (a % 4294967296) * (b % 4294967296)) (m := 1) g1 (by omega) (by simp [mpart])
     have i1 : In ((a % 4294967296) * (b % 4294967296)) := by unfold In; omega
     try simp only [Int.mul_one] at ac
     have Hac := Lib.hid ac; clear ac g1 e2
     go_wp2_with fail
     obtain ⟨Cl, HCl⟩ := zH (α := List Value → World → Prop) ((fun ps w' => (w'.cell? ⟨w.heap.size, 0, none⟩ = some (.int .u64 0) ∧ w'.cell? ⟨w.heap.size, 1, none⟩ = some (.int .u64 0) ∧ w'.frozen? ⟨w.heap.size, 0, none⟩ = false ∧ w'.frozen? ⟨w.heap.size, 1, none⟩ = false ∧ w.heap.size < w'.heap.size) ∧ (match ps with | [] => (w'.cell? ⟨w.heap.size + 1, 0, none⟩ = some (.int .u64 (hi (mpart a b 0))) ∧ w'.cell? ⟨w.heap.size + 1, 1, none⟩ = some (.int .u64 (lo (mpart a b 0))) ∧ w'.frozen? ⟨w.heap.size + 1, 0, none⟩ = false ∧ w'.frozen? ⟨w.heap.size + 1, 1, none⟩ = false ∧ w.heap.size + 1 < w'.heap.size) | _ => (w'.cell? ⟨w.heap.size + 1, 0, none⟩ = some (.int .u64 (hi (mpart a b 1))) ∧ w'.cell? ⟨w.heap.size + 1, 1, none⟩ = some (.int .u64 (lo (mpart a b 1))) ∧ w'.frozen? ⟨w.heap.size + 1, 0, none⟩ = false ∧ w'.frozen? ⟨w.heap.size + 1, 1, none⟩ = false ∧ w.heap.size + 1 < w'.heap.size)) ∧ Below w.heap.size w w')); refine wp_region_eff [16] Cl (by kernel_rfl) (by kernel_rfl) (by simp only [HCl.out, zD, zE]; exact kpb) ?_
     (repeat ((first | (refine wE_skip (by rfl) ?_) | (refine wE_open (by rfl) (by rfl) ?_; apply Exists.intro; refine ⟨fun vs wq hw => ?_, ?_⟩; (focus (simp only [HCl.out, zD, zE] at hw; go_split_ands; go_simp <;> exact ebb))) | (refine wE_seal (by rfl) (by rfl) (by kernel_rfl) ?_; apply Exists.intro; refine ⟨fun wq hw => ?_, ?_⟩; (focus (simp only [HCl.out, zD, zE] at hw; go_split_ands; go_simp <;> (try go_bits) <;> exact rfl))) | (refine wE_seal (by rfl) (by rfl) (by kernel_rfl) ?_; apply Exists.intro; refine ⟨fun wq hw => ?_, ?_⟩; (focus (simp only [HCl.out, zD, zE] at hw; go_split_ands; go_simp; (first | (go_at_call 147; (refine (half_b _ _ (by assumption) (by simp) _).mono ?_; rintro e w' ⟨rfl, hbel⟩; obtain ⟨hcc, hff⟩ := bcell hbel; have hsz := hbel.size; (try simp at hsz); refine ⟨rfl, ?_⟩; simp only [HCl.out, zD, zE]; exact kpb)) | (go_at_call 146; (refine (moved_c _ _ 1 i1 (by simp) _).mono ?_; rintro e w' ⟨rfl, hbel⟩; obtain ⟨hcc, hff⟩ := bcell hbel; have hsz := hbel.size; (try simp at hsz); refine ⟨rfl, ?_⟩; simp only [HCl.out, zD, zE]; exact kpb)) | (go_at_call 130; (refine (add_c _ _ _ _ (hi_in _) (lo_in _) (hi_in _) (lo_in _) _).mono ?_; rintro e w' ⟨rfl, hbel⟩; obtain ⟨hcc, hff⟩ := bcell hbel; have hsz := hbel.size; (try simp at hsz); refine ⟨rfl, ?_⟩; simp only [HCl.out, zD, zE]; exact kpb)))))) | (refine wE_eff (by rfl) (by rfl) (fun wq hw => ?_) (fun u hu => ?_); (focus (simp only [HCl.out, zD, zE] at hw; go_split_ands; go_simp; simp only [HCl.out, zD, zE]; have hq := Hac.out; exact kpb)); clear hu)); simp only [Act.put, Nat.reduceAdd, zA, zB, zC, zD, zE]))
     refine wE_nil ?_; intro w' hw; simp only [HCl.out, zD, zE] at hw; clear HCl
     clear h1 h2 h3 h4 h5 h6 h7 h8 h9 h10 h11
     obtain ⟨⟨h1, h2, h3, h4, h5⟩, ⟨h6, h7, h8, h9, h10⟩, h11⟩ := hw
     go_wp2
     go_roundw
     case rel => exact ⟨1, by omega, by go_num, ⟨h1, h2, h3, h4, h5⟩, ⟨h6, h7, h8, h9, h10⟩, h11⟩
     case measure => simp [intOf]
    ·have g1 := mpart_in ha hb 1
     have e1 := wrap_half (in_half0 ha) (in_half1 hb)
     have e2 := half_mul (in_half0 ha) (in_half1 hb)
     have ac := acc (p := mpart a b 1) (q := mpart a b 2) (v := (a % 4294967296) * (b / 4294967296)) (m := 4294967296) g1 (by omega) (by simp [mpart])
     have i1 : In ((a % 4294967296) * (b / 4294967296)) := by unfold In; omega
     try simp only [Int.mul_one] at ac
     have Hac := Lib.hid ac; clear ac g1 e2
     go_wp2_with fail
     obtain ⟨Cl, HCl⟩ := zH (α := List Value → World → Prop) ((fun ps w' => (w'.cell? ⟨w.heap.size, 0, none⟩ = some (.int .u64 0) ∧ w'.cell? ⟨w.heap.size, 1, none⟩ = some (.int .u64 0) ∧ w'.frozen? ⟨w.heap.size, 0, none⟩ = false ∧ w'.frozen? ⟨w.heap.size, 1, none⟩ = false ∧ w.heap.size < w'.heap.size) ∧ (match ps with | [] => (w'.cell? ⟨w.heap.size + 1, 0, none⟩ = some (.int .u64 (hi (mpart a b 1))) ∧ w'.cell? ⟨w.heap.size + 1, 1, none⟩ = some (.int .u64 (lo (mpart a b 1))) ∧ w'.frozen? ⟨w.heap.size + 1, 0, none⟩ = false ∧ w'.frozen? ⟨w.heap.size + 1, 1, none⟩ = false ∧ w.heap.size + 1 < w'.heap.size) | _ => (w'.cell? ⟨w.heap.size + 1, 0, none⟩ = some (.int .u64 (hi (mpart a b 2))) ∧ w'.cell? ⟨w.heap.size + 1, 1, none⟩ = some (.int .u64 (lo (mpart a b 2))) ∧ w'.frozen? ⟨w.heap.size + 1, 0, none⟩ = false ∧ w'.frozen? ⟨w.heap.size + 1, 1, none⟩ = false ∧ w.heap.size + 1 < w'.heap.size)) ∧ Below w.heap.size w w')); refine wp_region_eff [16] Cl (by kernel_rfl) (by kernel_rfl) (by simp only [HCl.out, zD, zE]; exact kpb) ?_
     (repeat ((first | (refine wE_skip (by rfl) ?_) | (refine wE_open (by rfl) (by rfl) ?_; apply Exists.intro; refine ⟨fun vs wq hw => ?_, ?_⟩; (focus (simp only [HCl.out, zD, zE] at hw; go_split_ands; go_simp <;> exact ebb))) | (refine wE_seal (by rfl) (by rfl) (by kernel_rfl) ?_; apply Exists.intro; refine ⟨fun wq hw => ?_, ?_⟩; (focus (simp only [HCl.out, zD, zE] at hw; go_split_ands; go_simp <;> (try go_bits) <;> exact rfl))) | (refine wE_seal (by rfl) (by rfl) (by kernel_rfl) ?_; apply Exists.intro; refine ⟨fun wq hw => ?_, ?_⟩; (focus (simp only [HCl.out, zD, zE] at hw; go_split_ands; go_simp; (first | (go_at_call 147; (refine (half_b _ _ (by assumption) (by simp) _).mono ?_; rintro e w' ⟨rfl, hbel⟩; obtain ⟨hcc, hff⟩ := bcell hbel; have hsz := hbel.size; (try simp at hsz); refine ⟨rfl, ?_⟩; simp only [HCl.out, zD, zE]; exact kpb)) | (go_at_call 146; (refine (moved_c _ _ 4294967296 i1 (by simp) _).mono ?_; rintro e w' ⟨rfl, hbel⟩; obtain ⟨hcc, hff⟩ := bcell hbel; have hsz := hbel.size; (try simp at hsz); refine ⟨rfl, ?_⟩; simp only [HCl.out, zD, zE]; exact kpb)) | (go_at_call 130; (refine (add_c _ _ _ _ (hi_in _) (lo_in _) (hi_in _) (lo_in _) _).mono ?_; rintro e w' ⟨rfl, hbel⟩; obtain ⟨hcc, hff⟩ := bcell hbel; have hsz := hbel.size; (try simp at hsz); refine ⟨rfl, ?_⟩; simp only [HCl.out, zD, zE]; exact kpb)))))) | (refine wE_eff (by rfl) (by rfl) (fun wq hw => ?_) (fun u hu => ?_); (focus (simp only [HCl.out, zD, zE] at hw; go_split_ands; go_simp; simp only [HCl.out, zD, zE]; have hq := Hac.out; exact kpb)); clear hu)); simp only [Act.put, Nat.reduceAdd, zA, zB, zC, zD, zE]))
     refine wE_nil ?_; intro w' hw; simp only [HCl.out, zD, zE] at hw; clear HCl
     clear h1 h2 h3 h4 h5 h6 h7 h8 h9 h10 h11
     obtain ⟨⟨h1, h2, h3, h4, h5⟩, ⟨h6, h7, h8, h9, h10⟩, h11⟩ := hw
     go_wp2
     go_roundw
     case rel => exact ⟨2, by omega, by go_num, ⟨h1, h2, h3, h4, h5⟩, ⟨h6, h7, h8, h9, h10⟩, h11⟩
     case measure => simp [intOf]
    ·go_wp2
     go_roundw
     case rel => exact ⟨1, by omega, by go_num, ⟨h1, h2, h3, h4, h5⟩, ⟨h6, h7, h8, h9, h10⟩, h11⟩
     case measure => simp [intOf]
  ·go_wp2_with fail
   go_loopw [11] (fun i wr => ∃ k : Nat, k ≤ 2 ∧ i = .int .i64 k ∧ (wr.cell? ⟨w.heap.size, 0, none⟩ = some (.int .u64 0) ∧ wr.cell? ⟨w.heap.size, 1, none⟩ = some (.int .u64 0) ∧ wr.frozen? ⟨w.heap.size, 0, none⟩ = false ∧ wr.frozen? ⟨w.heap.size, 1, none⟩ = false ∧ w.heap.size < wr.heap.size) ∧ (wr.cell? ⟨w.heap.size + 1, 0, none⟩ = some (.int .u64 (hi (mpart a b (2 + k)))) ∧ wr.cell? ⟨w.heap.size + 1, 1, none⟩ = some (.int .u64 (lo (mpart a b (2 + k)))) ∧ wr.frozen? ⟨w.heap.size + 1, 0, none⟩ = false ∧ wr.frozen? ⟨w.heap.size + 1, 1, none⟩ = false ∧ w.heap.size + 1 < wr.heap.size) ∧ Below w.heap.size w wr) (fun i _ => 2 - (intOf i).toNat)
   case atStart => exact ⟨0, by omega, rfl, ⟨h1, h2, h3, h4, h5⟩, ⟨h6, h7, h8, h9, h10⟩, h11⟩
   case round =>
    clear h1 h2 h3 h4 h5 h6 h7 h8 h9 h10 h11
    obtain ⟨k, hk, rfl, ⟨h1, h2, h3, h4, h5⟩, ⟨h6, h7, h8, h9, h10⟩, h11⟩ := hrel
    obtain ⟨wo, rfl⟩ : ∃ wo : World, wo = wr := ⟨_, rfl⟩
    rcases (by omega : k = 0 ∨ k = 1 ∨ k = 2) with rfl | rfl | rfl
    ·have g1 := mpart_in ha hb 2
     have e1 := wrap_half (in_half1 ha) (in_half0 hb)
     have e2 := half_mul (in_half1 ha) (in_half0 hb)
     have ac := acc (p := mpart a b 2) (q := mpart a b 3) (v := (a / 4294967296) * (b % 4294967296)) (m := 4294967296) g1 (by omega) (by simp [mpart])
     have i1 : In ((a / 4294967296) * (b % 4294967296)) := by unfold In; omega
     try simp only [Int.mul_one] at ac
     have Hac := Lib.hid ac; clear ac g1 e2
     go_wp2_with fail
     obtain ⟨Cl, HCl⟩ := zH (α := List Value → World → Prop) ((fun ps w' => (w'.cell? ⟨w.heap.size, 0, none⟩ = some (.int .u64 0) ∧ w'.cell? ⟨w.heap.size, 1, none⟩ = some (.int .u64 0) ∧ w'.frozen? ⟨w.heap.size, 0, none⟩ = false ∧ w'.frozen? ⟨w.heap.size, 1, none⟩ = false ∧ w.heap.size < w'.heap.size) ∧ (match ps with | [] => (w'.cell? ⟨w.heap.size + 1, 0, none⟩ = some (.int .u64 (hi (mpart a b 2))) ∧ w'.cell? ⟨w.heap.size + 1, 1, none⟩ = some (.int .u64 (lo (mpart a b 2))) ∧ w'.frozen? ⟨w.heap.size + 1, 0, none⟩ = false ∧ w'.frozen? ⟨w.heap.size + 1, 1, none⟩ = false ∧ w.heap.size + 1 < w'.heap.size) | _ => (w'.cell? ⟨w.heap.size + 1, 0, none⟩ = some (.int .u64 (hi (mpart a b 3))) ∧ w'.cell? ⟨w.heap.size + 1, 1, none⟩ = some (.int .u64 (lo (mpart a b 3))) ∧ w'.frozen? ⟨w.heap.size + 1, 0, none⟩ = false ∧ w'.frozen? ⟨w.heap.size + 1, 1, none⟩ = false ∧ w.heap.size + 1 < w'.heap.size)) ∧ Below w.heap.size w w')); refine wp_region_eff [16] Cl (by kernel_rfl) (by kernel_rfl) (by simp only [HCl.out, zD, zE]; exact kpb) ?_
     (repeat ((first | (refine wE_skip (by rfl) ?_) | (refine wE_open (by rfl) (by rfl) ?_; apply Exists.intro; refine ⟨fun vs wq hw => ?_, ?_⟩; (focus (simp only [HCl.out, zD, zE] at hw; go_split_ands; go_simp <;> exact ebb))) | (refine wE_seal (by rfl) (by rfl) (by kernel_rfl) ?_; apply Exists.intro; refine ⟨fun wq hw => ?_, ?_⟩; (focus (simp only [HCl.out, zD, zE] at hw; go_split_ands; go_simp <;> (try go_bits) <;> exact rfl))) | (refine wE_seal (by rfl) (by rfl) (by kernel_rfl) ?_; apply Exists.intro; refine ⟨fun wq hw => ?_, ?_⟩; (focus (simp only [HCl.out, zD, zE] at hw; go_split_ands; go_simp; (first | (go_at_call 147; (refine (half_b _ _ (by assumption) (by simp) _).mono ?_; rintro e w' ⟨rfl, hbel⟩; obtain ⟨hcc, hff⟩ := bcell hbel; have hsz := hbel.size; (try simp at hsz); refine ⟨rfl, ?_⟩; simp only [HCl.out, zD, zE]; exact kpb)) | (go_at_call 146; (refine (moved_c _ _ 4294967296 i1 (by simp) _).mono ?_; rintro e w' ⟨rfl, hbel⟩; obtain ⟨hcc, hff⟩ := bcell hbel; have hsz := hbel.size; (try simp at hsz); refine ⟨rfl, ?_⟩; simp only [HCl.out, zD, zE]; exact kpb)) | (go_at_call 130; (refine (add_c _ _ _ _ (hi_in _) (lo_in _) (hi_in _) (lo_in _) _).mono ?_; rintro e w' ⟨rfl, hbel⟩; obtain ⟨hcc, hff⟩ := bcell hbel; have hsz := hbel.size; (try simp at hsz); refine ⟨rfl, ?_⟩; simp only [HCl.out, zD, zE]; exact kpb)))))) | (refine wE_eff (by rfl) (by rfl) (fun wq hw => ?_) (fun u hu => ?_); (focus (simp only [HCl.out, zD, zE] at hw; go_split_ands; go_simp; simp only [HCl.out, zD, zE]; have hq := Hac.out; exact kpb)); clear hu)); simp only [Act.put, Nat.reduceAdd, zA, zB, zC, zD, zE]))
     refine wE_nil ?_; intro w' hw; simp only [HCl.out, zD, zE] at hw; clear HCl
     clear h1 h2 h3 h4 h5 h6 h7 h8 h9 h10 h11
     obtain ⟨⟨h1, h2, h3, h4, h5⟩, ⟨h6, h7, h8, h9, h10⟩, h11⟩ := hw
     go_wp2
     go_roundw
     case rel => exact ⟨1, by omega, by go_num, ⟨h1, h2, h3, h4, h5⟩, ⟨h6, h7, h8, h9, h10⟩, h11⟩
     case measure => simp [intOf]
    ·have g1 := mpart_in ha hb 3
     have e1 := wrap_half (in_half1 ha) (in_half1 hb)
     have e2 := half_mul (in_half1 ha) (in_half1 hb)
     have ac := acc (p := mpart a b 3) (q := mpart a b 4) (v := (a / 4294967296) * (b / 4294967296)) (m := 18446744073709551616) g1 (by omega) (by simp [mpart])
     have i1 : In ((a / 4294967296) * (b / 4294967296)) := by unfold In; omega
     try simp only [Int.mul_one] at ac
     have Hac := Lib.hid ac; clear ac g1 e2
     go_wp2_with fail
     obtain ⟨Cl, HCl⟩ := zH (α := List Value → World → Prop) ((fun ps w' => (w'.cell? ⟨w.heap.size, 0, none⟩ = some (.int .u64 0) ∧ w'.cell? ⟨w.heap.size, 1, none⟩ = some (.int .u64 0) ∧ w'.frozen? ⟨w.heap.size, 0, none⟩ = false ∧ w'.frozen? ⟨w.heap.size, 1, none⟩ = false ∧ w.heap.size < w'.heap.size) ∧ (match ps with | [] => (w'.cell? ⟨w.heap.size + 1, 0, none⟩ = some (.int .u64 (hi (mpart a b 3))) ∧ w'.cell? ⟨w.heap.size + 1, 1, none⟩ = some (.int .u64 (lo (mpart a b 3))) ∧ w'.frozen? ⟨w.heap.size + 1, 0, none⟩ = false ∧ w'.frozen? ⟨w.heap.size + 1, 1, none⟩ = false ∧ w.heap.size + 1 < w'.heap.size) | _ => (w'.cell? ⟨w.heap.size + 1, 0, none⟩ = some (.int .u64 (hi (mpart a b 4))) ∧ w'.cell? ⟨w.heap.size + 1, 1, none⟩ = some (.int .u64 (lo (mpart a b 4))) ∧ w'.frozen? ⟨w.heap.size + 1, 0, none⟩ = false ∧ w'.frozen? ⟨w.heap.size + 1, 1, none⟩ = false ∧ w.heap.size + 1 < w'.heap.size)) ∧ Below w.heap.size w w')); refine wp_region_eff [16] Cl (by kernel_rfl) (by kernel_rfl) (by simp only [HCl.out, zD, zE]; exact kpb) ?_
     (repeat ((first | (refine wE_skip (by rfl) ?_) | (refine wE_open (by rfl) (by rfl) ?_; apply Exists.intro; refine ⟨fun vs wq hw => ?_, ?_⟩; (focus (simp only [HCl.out, zD, zE] at hw; go_split_ands; go_simp <;> exact ebb))) | (refine wE_seal (by rfl) (by rfl) (by kernel_rfl) ?_; apply Exists.intro; refine ⟨fun wq hw => ?_, ?_⟩; (focus (simp only [HCl.out, zD, zE] at hw; go_split_ands; go_simp <;> (try go_bits) <;> exact rfl))) | (refine wE_seal (by rfl) (by rfl) (by kernel_rfl) ?_; apply Exists.intro; refine ⟨fun wq hw => ?_, ?_⟩; (focus (simp only [HCl.out, zD, zE] at hw; go_split_ands; go_simp; (first | (go_at_call 147; (refine (half_b _ _ (by assumption) (by simp) _).mono ?_; rintro e w' ⟨rfl, hbel⟩; obtain ⟨hcc, hff⟩ := bcell hbel; have hsz := hbel.size; (try simp at hsz); refine ⟨rfl, ?_⟩; simp only [HCl.out, zD, zE]; exact kpb)) | (go_at_call 146; (refine (moved_c _ _ 18446744073709551616 i1 (by simp) _).mono ?_; rintro e w' ⟨rfl, hbel⟩; obtain ⟨hcc, hff⟩ := bcell hbel; have hsz := hbel.size; (try simp at hsz); refine ⟨rfl, ?_⟩; simp only [HCl.out, zD, zE]; exact kpb)) | (go_at_call 130; (refine (add_c _ _ _ _ (hi_in _) (lo_in _) (hi_in _) (lo_in _) _).mono ?_; rintro e w' ⟨rfl, hbel⟩; obtain ⟨hcc, hff⟩ := bcell hbel; have hsz := hbel.size; (try simp at hsz); refine ⟨rfl, ?_⟩; simp only [HCl.out, zD, zE]; exact kpb)))))) | (refine wE_eff (by rfl) (by rfl) (fun wq hw => ?_) (fun u hu => ?_); (focus (simp only [HCl.out, zD, zE] at hw; go_split_ands; go_simp; simp only [HCl.out, zD, zE]; have hq := Hac.out; exact kpb)); clear hu)); simp only [Act.put, Nat.reduceAdd, zA, zB, zC, zD, zE]))
     refine wE_nil ?_; intro w' hw; simp only [HCl.out, zD, zE] at hw; clear HCl
     clear h1 h2 h3 h4 h5 h6 h7 h8 h9 h10 h11
     obtain ⟨⟨h1, h2, h3, h4, h5⟩, ⟨h6, h7, h8, h9, h10⟩, h11⟩ := hw
     go_wp2
     go_roundw
     case rel => exact ⟨2, by omega, by go_num, ⟨h1, h2, h3, h4, h5⟩, ⟨h6, h7, h8, h9, h10⟩, h11⟩
     case measure => simp [intOf]
    ·go_wp2
     go_roundw
     case rel => exact ⟨2, by omega, by go_num, ⟨h1, h2, h3, h4, h5⟩, ⟨h6, h7, h8, h9, h10⟩, h11⟩
     case measure => simp [intOf]
  ·go_wp2
   rw [show 2 * 2 = 4 from rfl, mpart_last] at *
   refine bodyPost_ret (v := .agg #[.int .u64 (hi (a * b)), .int .u64 (lo (a * b))]) (by simp [results, Tryz.results131, go_sem, *]) rfl ⟨rfl, blb⟩
end Go.Proofs.YtffaahipgabkhaaGreat
namespace Go.Proofs.YtffaahipgabkhaaGreat
open Go.RowKit Fg Reg
end Go.Proofs.YtffaahipgabkhaaGreat
namespace Go.Proofs.YtffaahipgabkhaaGreat
open Go.RowKit Fg Reg
def Filled (w : World) (b k : Nat) (ds : List Int) : Prop :=
 (∀ j, j < 39 → ∃ x, w.cell? ⟨b, j, none⟩ = some (.int .u8 x)) ∧ (∀ j, j < 39 → w.frozen? ⟨b, j, none⟩ = false) ∧ ∀ j x, ds[j]? = some x → w.cell? ⟨b, 39 - k + j, none⟩ = some (.int .u8 x)
theorem Filled.below {w w' : World} {b k : Nat} {ds : List Int} (h : Filled w b k ds) (hb : Below w.heap.size w w') (hlt : b < w.heap.size) : Filled w' b k ds :=
 ⟨fun j hj => let ⟨x, hx⟩ := h.1 j hj; ⟨x, (hb.cell (p := ⟨b, j, none⟩) hlt).trans hx⟩, fun j hj => (hb.frozen (p := ⟨b, j, none⟩) hlt).trans (h.2.1 j hj), fun j x hj => (hb.cell (p := ⟨b, _, none⟩) hlt).trans (h.2.2 j x hj)⟩
theorem Filled.put {w : World} {b k : Nat} {ds : List Int} (h : Filled w b k ds) (hk : k < 39) (x : Int) : Filled (w.setCell ⟨b, 39 - k - 1, none⟩ (.int .u8 x)) b (k + 1) (x :: ds) := by
 obtain ⟨h1, h2, h3⟩ := h
 refine ⟨fun j hj => ?_, fun j hj => by rw [World.frozen?_setCell]; exact h2 j hj, fun j y hj => ?_⟩
 ·obtain ⟨y, hy⟩ := h1 j hj
  by_cases e : 39 - k - 1 = j
  ·subst e; exact ⟨x, World.cell?_setCell_same w _ _ hy⟩
  ·exact ⟨y, (World.cell?_setCell_other w _ _ _ (fun h => e (congrArg Addr.off h))).trans hy⟩
 ·cases j with
  | zero =>
   have hx : x = y := by simpa using hj
   subst hx
   obtain ⟨z, hz⟩ := h1 (39 - k - 1) (by omega)
   have : (⟨b, 39 - (k + 1) + 0, none⟩ : Addr) = ⟨b, 39 - k - 1, none⟩ := by rw [show 39 - (k + 1) + 0 = 39 - k - 1 by omega]
   rw [this]
   exact World.cell?_setCell_same w _ _ hz
  | succ j =>
   have hj' : ds[j]? = some y := by simpa using hj
   have := h3 j y hj'
   rw [show 39 - (k + 1) + (j + 1) = 39 - k + j by omega]
   refine (World.cell?_setCell_other w _ _ _ (fun h => ?_)).trans this
   have : 39 - k - 1 = 39 - k + j := congrArg Addr.off h
   omega
theorem Filled.alloc {w : World} {b k : Nat} {ds : List Int} (h : Filled w b k ds) (hlt : b < w.heap.size) (o : Obj) : Filled (w.alloc o) b k ds :=
 h.below ((Below.refl _ _).alloc (Nat.le_refl _) o) hlt
end Go.Proofs.YtffaahipgabkhaaGreat
end
