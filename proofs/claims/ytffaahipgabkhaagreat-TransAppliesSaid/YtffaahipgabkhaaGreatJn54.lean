/- Joined texts. -/
import Derived.Test.YtffaahipgabkhaaGreatJn0
import Derived.Test.YtffaahipgabkhaaGreatJn53
set_option linter.unusedVariables false
set_option linter.unusedSimpArgs false
set_option maxRecDepth 100000
set_option maxHeartbeats 16000000
section
namespace Go.Proofs.YtffaahipgabkhaaGreat
open Go.RowKit Fg Reg Go.Sort
attribute [local irreducible] Reg.wE Holds QS
theorem svc_t {l : List Cv} (hn : l.length ≤ 100) (hok : (∀ k (h : k < l.length), l[k].ok)) {t : Int} (ht : In t) {T : Int} (h0 : 0 ≤ T) (h1 : T ≤ 65536) : Wd (tots (csv t) l * T) := by
 have h := tots_bd (csv t) 79228162532711081662980096000 l (fun cv hcv => by
  obtain ⟨j, hj, rfl⟩ := List.getElem_of_mem hcv
  exact csv_bd (hok j hj) ht)
 have h2 : (l.length : Int) * 79228162532711081662980096000 ≤ 100 * 79228162532711081662980096000 := Int.mul_le_mul_of_nonneg_right (by omega) (by omega)
 have h3 := Int.mul_nonneg h.1 h0
 have h4 : tots (csv t) l * T ≤ 7922816253271108166298009600000 * 65536 := Int.mul_le_mul (by omega) h1 h0 (by omega)
 unfold Wd; omega
theorem slc_t {l : List Cv} (hn : l.length ≤ 100) (hok : (∀ k (h : k < l.length), l[k].ok)) {T : Int} (h0 : 0 ≤ T) (h1 : T ≤ 65536) : Wd (tots csl l * T) := by
 have h := slc_in hn hok
 have h3 := Int.mul_nonneg h.1 h0
 have h4 : tots csl l * T ≤ 429496729500 * 65536 := Int.mul_le_mul h.2 h1 h0 (by omega)
 unfold Wd; omega
theorem rfull_c (T : Int) (l : List Cv) (a : Option Addr) (c : Nat) (hn : l.length ≤ 100) (hok : (∀ k (h : k < l.length), l[k].ok)) (w : World) (hR : RwV Cv.cells 3 w a l) :
  Calls Tryz.prog 62 #[.int .i64 T, .slice a l.length c] w fun ee w' => ee = .returned (.agg #[.int .u64 (fullr T l).1, .bool (fullr T l).2]) ∧ Below w.heap.size w w' := by
 have k1 := fun (z : World) (hz : Below w.heap.size w z) => may_c T l a c hn hok z (hR.below hz)
 by_cases hm : mayr T l = 0
 ·have ht : tok T = true := by
   cases h : tok T with
   | false => unfold mayr at hm; rw [if_pos h] at hm; omega
   | true => rfl
  have hlk : lok l = true := by
   cases h : lok l with
   | false => unfold mayr at hm; rw [if_neg (by simp [ht]), if_pos h] at hm; omega
   | true => rfl
  rw [fullr_ok ht hlk]
  rw [hm] at k1
  have hT : 1 ≤ T ∧ T ≤ 65536 := by unfold tok at ht; simpa using ht
  obtain ⟨h1, h2⟩ := hT
  have hmem : ∀ cv ∈ l, cv.ok := fun cv hcv => by
   obtain ⟨j, hj, rfl⟩ := List.getElem_of_mem hcv
   exact hok j hj
  have k2 := fun (z : World) (hz : Below w.heap.size w z) => rknees_c l a c hn hok z (hR.below hz)
  have k3 := fun (k : Int) (hk : 0 < k ∧ k ≤ 1048576) (z : World) (hz : Below w.heap.size w z) => rservice_c k (by unfold In; omega) l a c hn hok z (hR.below hz)
  have k4 := fun (k : Int) (hk : 0 < k ∧ k ≤ 1048576) (z : World) => carries_c (tots (csv k) l) T k (svc_in hn hok (by unfold In; omega)) (by omega) h2 (svc_t hn hok (by unfold In; omega) (by omega) h2) (by unfold In; omega) z
  have k5 := fun (z : World) (hz : Below w.heap.size w z) => rslope_c l a c hn hok z (hR.below hz)
  have k6 := fun (z : World) => carries_c (tots csl l) T 1 (by have := slc_in hn hok; unfold Wd; omega) (by omega) h2 (slc_t hn hok (by omega) h2) (by unfold In; omega) z
  rw [show decide (65536 * 1 < tots csl l * T) = fe T l from rfl] at k6
  have hkp : ∀ k ∈ kns l, 0 < k ∧ k ≤ 1048576 := fun k hk => kns_pos hmem hk
  have hfv : fullv T l = ((kns l).find? (fk T l)).elim (0, fe T l) (fun k => (k, true)) := rfl
  have hKl := kns_len l
  generalize fullv T l = FV at *
  generalize fe T l = FE at *
  generalize tots csl l = S at *
  generalize kns l = K at *
  (generalize d0 S = s0 at *; generalize d1 S = s1 at *; generalize d2 S = s2 at *; generalize d3 S = s3 at *)
  have HFV := Lib.hid hfv
  have HKP := Lib.hid hkp
  have K1 := Lib.hid k1
  have K2 := Lib.hid k2
  have K3 := Lib.hid k3
  have K4 := Lib.hid k4
  have K5 := Lib.hid k5
  have K6 := Lib.hid k6
  clear k1 k2 k3 k4 k5 k6 hmem hR hok ht hlk hfv hkp hm
  go_enter Tryz.func62, Tryz.ntmps62
  go_wp2_with (first
   | (go_at_call 61; ((with_reducible refine (K1.out _ blb).mono ?_); rintro e w1 ⟨rfl, hbel⟩; obtain ⟨hcc, hff⟩ := bcell hbel; have hsz := hbel.size; (try simp at hsz); have hF : (w1.cell? ⟨w.heap.size, 0, none⟩ = some (.int .u64 0) ∧ w1.cell? ⟨w.heap.size, 1, none⟩ = some (.bool false) ∧ w1.frozen? ⟨w.heap.size, 0, none⟩ = false ∧ w1.frozen? ⟨w.heap.size, 1, none⟩ = false ∧ w.heap.size < w1.heap.size) ∧ Below w.heap.size w w1 := (by exact kpb); go_split_ands; clear hcc hff hbel))
   | (go_at_call 93; ((with_reducible refine (K2.out _ blb).mono ?_); rintro e w3 ⟨⟨kp, kc, rfl, hk3⟩, hbel⟩; obtain ⟨hcc, hff⟩ := bcell hbel; have hsz := hbel.size; (try simp at hsz); have hF : (w3.cell? ⟨w.heap.size, 0, none⟩ = some (.int .u64 0) ∧ w3.cell? ⟨w.heap.size, 1, none⟩ = some (.bool false) ∧ w3.frozen? ⟨w.heap.size, 0, none⟩ = false ∧ w3.frozen? ⟨w.heap.size, 1, none⟩ = false ∧ w.heap.size < w3.heap.size) ∧ Below w.heap.size w w3 := (by exact kpb); go_split_ands; clear hcc hff hbel)))
  have HK3 := Lib.hid hk3
  have hs3 : w.heap.size < w3.heap.size := by assumption
  clear hk3
  go_loopw [15] (fun jv wr => ∃ j : Nat, j ≤ K.length ∧ jv = .int .i64 j ∧ (∀ i, i < j → fk T l (K.getD i 0) = false) ∧ (wr.cell? ⟨w.heap.size, 0, none⟩ = some (.int .u64 0) ∧ wr.cell? ⟨w.heap.size, 1, none⟩ = some (.bool false) ∧ wr.frozen? ⟨w.heap.size, 0, none⟩ = false ∧ wr.frozen? ⟨w.heap.size, 1, none⟩ = false ∧ w.heap.size < wr.heap.size) ∧ w3.heap.size ≤ wr.heap.size ∧ Below w3.heap.size w3 wr ∧ Below w.heap.size w wr) (fun jv _ => K.length - (intOf jv).toNat)
  case atStart => exact ⟨0, Nat.zero_le _, rfl, fun _ h => absurd h (by omega), by exact kpb, Nat.le_refl _, Below.refl _ _, by assumption⟩
  case round =>
   obtain ⟨j, hj, rfl, hno, ⟨q0, q1, q2, q3, q4⟩, hsw, hB3, hB⟩ := hrel
   have HNO := Lib.hid hno
   clear hno
   by_cases hlt : j < K.length
   ·obtain ⟨b1, o1, rfl, hbl1, hu1⟩ := (HK3.out.below hB3).at hlt
    have e1 := hu1 j hlt
    have hyK := HKP.out (K.getD j 0) (by rw [show K.getD j 0 = K[j] by simp [List.getD, hlt]]; exact List.getElem_mem hlt)
    obtain ⟨y, hy⟩ : ∃ y, K.getD j 0 = y := ⟨_, rfl⟩
    rw [hy] at e1 hyK
    have g3 := K3.out y hyK
    have g4 := K4.out y hyK
    rw [show decide (65536 * y < tots (csv y) l * T) = fk T l y from rfl] at g4
    generalize tots (csv y) l = V at *
    (generalize d0 V = v0 at *; generalize d1 V = v1 at *; generalize d2 V = v2 at *; generalize d3 V = v3 at *)
    clear hu1
    cases hfk : fk T l y with
    | true =>
     have HE := Lib.hid (find_at (fk T l) K j hlt HNO.out (by rw [hy]; exact hfk))
     have HY := Lib.hid hy
     rw [hfk] at g4
     have G3 := Lib.hid g3
     have G4 := Lib.hid g4
     clear g3 g4 hfk hy hyK
     go_wp2_with (first
      | (go_at_call 95; ((with_reducible refine (G3.out _ blb).mono ?_); rintro e w4 ⟨rfl, hbel⟩; obtain ⟨hcc, hff⟩ := bcell hbel; have hsz := hbel.size; (try simp at hsz); have hF : (w4.cell? ⟨w.heap.size, 0, none⟩ = some (.int .u64 0) ∧ w4.cell? ⟨w.heap.size, 1, none⟩ = some (.bool false) ∧ w4.frozen? ⟨w.heap.size, 0, none⟩ = false ∧ w4.frozen? ⟨w.heap.size, 1, none⟩ = false ∧ w.heap.size < w4.heap.size) ∧ Below w.heap.size w w4 := (by exact kpb); go_split_ands; clear hcc hff hbel))
      | (go_at_call 94; ((with_reducible refine (G4.out _).mono ?_); rintro e w5 ⟨rfl, hbel⟩; obtain ⟨hcc, hff⟩ := bcell hbel; have hsz := hbel.size; (try simp at hsz); have hF : (w5.cell? ⟨w.heap.size, 0, none⟩ = some (.int .u64 0) ∧ w5.cell? ⟨w.heap.size, 1, none⟩ = some (.bool false) ∧ w5.frozen? ⟨w.heap.size, 0, none⟩ = false ∧ w5.frozen? ⟨w.heap.size, 1, none⟩ = false ∧ w.heap.size < w5.heap.size) ∧ Below w.heap.size w w5 := (by exact kpb); go_split_ands; clear hcc hff hbel)))
     refine bodyPost_ret (v := .agg #[.int .u64 y, .bool true]) (by simp [results, Tryz.results62, go_sem, *]) rfl ⟨(by rw [HFV.out, HE.out, HY.out]; rfl), blb⟩
    | false =>
     have HNO2 := Lib.hid (fun i (h : i < j + 1) => show fk T l (K.getD i 0) = false from by
      by_cases hij : i = j
      ·subst hij; rw [hy]; exact hfk
      ·exact HNO.out i (by omega))
     rw [hfk] at g4
     have G3 := Lib.hid g3
     have G4 := Lib.hid g4
     clear g3 g4 hfk hy hyK
     go_wp2_with (first
      | (go_at_call 95; ((with_reducible refine (G3.out _ blb).mono ?_); rintro e w4 ⟨rfl, hbel⟩; obtain ⟨hcc, hff⟩ := bcell hbel; have hsz := hbel.size; (try simp at hsz); have hF : (w4.cell? ⟨w.heap.size, 0, none⟩ = some (.int .u64 0) ∧ w4.cell? ⟨w.heap.size, 1, none⟩ = some (.bool false) ∧ w4.frozen? ⟨w.heap.size, 0, none⟩ = false ∧ w4.frozen? ⟨w.heap.size, 1, none⟩ = false ∧ w.heap.size < w4.heap.size) ∧ w3.heap.size ≤ w4.heap.size ∧ Below w3.heap.size w3 w4 ∧ Below w.heap.size w w4 := (by exact kpb); go_split_ands; clear hcc hff hbel))
      | (go_at_call 94; ((with_reducible refine (G4.out _).mono ?_); rintro e w5 ⟨rfl, hbel⟩; obtain ⟨hcc, hff⟩ := bcell hbel; have hsz := hbel.size; (try simp at hsz); have hF : (w5.cell? ⟨w.heap.size, 0, none⟩ = some (.int .u64 0) ∧ w5.cell? ⟨w.heap.size, 1, none⟩ = some (.bool false) ∧ w5.frozen? ⟨w.heap.size, 0, none⟩ = false ∧ w5.frozen? ⟨w.heap.size, 1, none⟩ = false ∧ w.heap.size < w5.heap.size) ∧ w3.heap.size ≤ w5.heap.size ∧ Below w3.heap.size w3 w5 ∧ Below w.heap.size w w5 := (by exact kpb); go_split_ands; clear hcc hff hbel)))
     go_roundw
     case rel => exact ⟨j + 1, by omega, by go_num, HNO2.out, by exact kpb, by assumption, by assumption, by assumption⟩
     case measure => simp [intOf]; omega
   ·obtain rfl : j = K.length := by omega
    have HE := Lib.hid (find_no (fk T l) K HNO.out)
    go_wp2_with (first
     | (go_at_call 96; ((with_reducible refine (K5.out _ blb).mono ?_); rintro e w4 ⟨rfl, hbel⟩; obtain ⟨hcc, hff⟩ := bcell hbel; have hsz := hbel.size; (try simp at hsz); have hF : (w4.cell? ⟨w.heap.size, 0, none⟩ = some (.int .u64 0) ∧ w4.cell? ⟨w.heap.size, 1, none⟩ = some (.bool false) ∧ w4.frozen? ⟨w.heap.size, 0, none⟩ = false ∧ w4.frozen? ⟨w.heap.size, 1, none⟩ = false ∧ w.heap.size < w4.heap.size) ∧ Below w.heap.size w w4 := (by exact kpb); go_split_ands; clear hcc hff hbel))
     | (go_at_call 94; ((with_reducible refine (K6.out _).mono ?_); rintro e w5 ⟨rfl, hbel⟩; obtain ⟨hcc, hff⟩ := bcell hbel; have hsz := hbel.size; (try simp at hsz); have hF : (w5.cell? ⟨w.heap.size, 0, none⟩ = some (.int .u64 0) ∧ w5.cell? ⟨w.heap.size, 1, none⟩ = some (.bool false) ∧ w5.frozen? ⟨w.heap.size, 0, none⟩ = false ∧ w5.frozen? ⟨w.heap.size, 1, none⟩ = false ∧ w.heap.size < w5.heap.size) ∧ Below w.heap.size w w5 := (by exact kpb); go_split_ands; clear hcc hff hbel)))
    refine bodyPost_ret (v := .agg #[.int .u64 0, .bool FE]) (by simp [results, Tryz.results62, go_sem, *]) rfl ⟨(by rw [HFV.out, HE.out]; rfl), blb⟩
 ·have hz : fullr T l = (0, false) := by
   cases ht : tok T
   ·exact fullr_no1 ht
   ·cases hlk : lok l
    ·exact fullr_no2 hlk
    ·exact absurd (by unfold mayr; rw [if_neg (by simp [ht]), if_neg (by simp [hlk])]) hm
  rw [hz]
  have hmb : (mayr T l != 0) = true := by simpa using hm
  have hmb2 : (mayr T l == 0) = false := by simpa using hm
  generalize mayr T l = M at *
  have K1 := Lib.hid k1
  clear k1 hz hm hok hR
  go_enter Tryz.func62, Tryz.ntmps62
  go_wp2_with (go_at_call 61; ((with_reducible refine (K1.out _ blb).mono ?_); rintro e w1 ⟨rfl, hbel⟩; obtain ⟨hcc, hff⟩ := bcell hbel; have hsz := hbel.size; (try simp at hsz); have hF : (w1.cell? ⟨w.heap.size, 0, none⟩ = some (.int .u64 0) ∧ w1.cell? ⟨w.heap.size, 1, none⟩ = some (.bool false) ∧ w1.frozen? ⟨w.heap.size, 0, none⟩ = false ∧ w1.frozen? ⟨w.heap.size, 1, none⟩ = false ∧ w.heap.size < w1.heap.size) ∧ Below w.heap.size w w1 := (by exact kpb); go_split_ands; clear hcc hff hbel))
  refine bodyPost_ret (v := .agg #[.int .u64 0, .bool false]) (by simp [results, Tryz.results62, go_sem, *]) rfl ⟨rfl, blb⟩
theorem rfits_c (T : Int) (l : List Cv) (a : Option Addr) (c : Nat) (hn : l.length ≤ 100) (hok : (∀ k (h : k < l.length), l[k].ok)) (w : World) (hR : RwV Cv.cells 3 w a l) :
  Calls Tryz.prog 28 #[.int .i64 T, .slice a l.length c] w fun ee w' => ee = .returned (.int .i64 (fitr T l)) ∧ Below w.heap.size w w' := by
 have k1 := fun (z : World) (hz : Below w.heap.size w z) => may_c T l a c hn hok z (hR.below hz)
 have k3 := fun (z : World) (hz : Below w.heap.size w z) => rfull_c T l a c hn hok z (hR.below hz)
 have hft : fitr T l = if mayr T l = 0 then (if (fullr T l).2 = true then 22 else 0) else mayr T l := by
  unfold fitr mayr
  cases ht : tok T
  ·rfl
  ·cases hl : lok l
   ·rfl
   ·rw [fullr_ok ht hl]; rfl
 by_cases hm : mayr T l = 0
 ·rw [hft, if_pos hm]
  rw [hm] at k1
  generalize fullr T l = FR at *
  obtain ⟨fa, fb⟩ := FR
  dsimp only at k3 ⊢
  have K1 := Lib.hid k1
  have K3 := Lib.hid k3
  clear k1 k3 hR hok hft hm
  have hF : ∀ (b : Bool) (z : World), (Instr.field 90 (.agg #[.int .u64 fa, .bool b]) 1).run Tryz.prog z = .ok (.bool b) z := fun b z => by kernel_rfl
  cases fb
  all_goals
   go_enter Tryz.func28, Tryz.ntmps28
   go_wp2_with (first
    | (go_at_call 61; ((with_reducible refine (K1.out _ blb).mono ?_); rintro e w2 ⟨rfl, hbel⟩; obtain ⟨hcc, hff⟩ := bcell hbel; have hsz := hbel.size; (try simp at hsz); have hF : Below w.heap.size w w2 := (by exact kpb); go_split_ands; clear hcc hff hbel))
    | (go_at_call 62; ((with_reducible refine (K3.out _ blb).mono ?_); rintro e w3 ⟨rfl, hbel⟩; obtain ⟨hcc, hff⟩ := bcell hbel; have hsz := hbel.size; (try simp at hsz); have hF : Below w.heap.size w w3 := (by exact kpb); go_split_ands; clear hcc hff hbel)))
   (go_ret; refine ⟨?_, ?_⟩; (focus (exact rfl)); exact blb)
 ·rw [hft, if_neg hm]
  have hmb : (mayr T l != 0) = true := by simpa using hm
  have hmb2 : (mayr T l == 0) = false := by simpa using hm
  generalize mayr T l = M at *
  have K1 := Lib.hid k1
  clear k1 k3 hR hok hft hm
  go_enter Tryz.func28, Tryz.ntmps28
  go_wp2_with (go_at_call 61; ((with_reducible refine (K1.out _ blb).mono ?_); rintro e w2 ⟨rfl, hbel⟩; obtain ⟨hcc, hff⟩ := bcell hbel; have hsz := hbel.size; (try simp at hsz); have hF : Below w.heap.size w w2 := (by exact kpb); go_split_ands; clear hcc hff hbel))
  (go_ret; refine ⟨?_, ?_⟩; (focus (exact rfl)); exact blb)
end Go.Proofs.YtffaahipgabkhaaGreat
end
