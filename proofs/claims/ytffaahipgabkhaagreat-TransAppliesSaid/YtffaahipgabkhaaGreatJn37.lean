/- Joined texts. -/
import Derived.Test.YtffaahipgabkhaaGreatJn0
import Derived.Test.YtffaahipgabkhaaGreatJn36
set_option linter.unusedVariables false
set_option linter.unusedSimpArgs false
set_option maxRecDepth 100000
set_option maxHeartbeats 16000000
section
namespace Go.Proofs.YtffaahipgabkhaaGreat
open Go.RowKit Fg Reg Go.Sort
attribute [local irreducible] Reg.wE Holds QS
theorem ticks_c (T : Int) (w : World) : Calls Tryz.prog 57 #[.int .i64 T] w fun ee w' => ee = .returned (.bool (tok T)) ∧ Below w.heap.size w w' := by
 by_cases h1 : 1 ≤ T
 ·by_cases h2 : T ≤ 65536
  ·rw [show tok T = true by unfold tok; simp [h1, h2]]
   have d1 : decide (1 ≤ T) = true := decide_eq_true h1
   have d2 : decide (T ≤ 65536) = true := decide_eq_true h2
   go_enter Tryz.func57, Tryz.ntmps57
   go_wp2_with go_guarded
   (go_ret; refine ⟨?_, ?_⟩; (focus (exact rfl)); exact blb)
  ·rw [show tok T = false by unfold tok; simp [h2]]
   have d1 : decide (1 ≤ T) = true := decide_eq_true h1
   have d2 : decide (T ≤ 65536) = false := decide_eq_false h2
   go_enter Tryz.func57, Tryz.ntmps57
   go_wp2_with go_guarded
   (go_ret; refine ⟨?_, ?_⟩; (focus (exact rfl)); exact blb)
 ·rw [show tok T = false by unfold tok; simp [h1]]
  have d1 : decide (1 ≤ T) = false := decide_eq_false h1
  go_enter Tryz.func57, Tryz.ntmps57
  go_wp2_with go_guarded
  (go_ret; refine ⟨?_, ?_⟩; (focus (exact rfl)); exact blb)
theorem ar1_c (m1 d m2 : Int) (h1 : In m1) (h2 : In d) (h3 : In m2) (w : World) : Calls Tryz.prog 81 #[.agg #[.int .u64 (m1), .int .u64 (d), .int .u64 (m2)]] w fun ee w' => ee = .returned (.bool (decide (kind m1 d m2 = 0))) ∧ Below w.heap.size w w' := by
 by_cases h : kind m1 d m2 = 0
 ·rw [show decide (kind m1 d m2 = 0) = true from decide_eq_true h]
  have K1 := Lib.hid (krt_no m1 d m2 h1 h2 h3 h)
  clear h h1 h2 h3
  go_enter Tryz.func81, Tryz.ntmps81
  go_wp2_with (go_at_call 82; ((with_reducible refine (K1.out _).mono ?_); rintro e w1 ⟨rfl, hbel⟩; obtain ⟨hcc, hff⟩ := bcell hbel; have hsz := hbel.size; (try simp at hsz); have hF : Below w.heap.size w w1 := (by exact kpb); go_split_ands; clear hcc hff hbel))
  (go_ret; refine ⟨?_, ?_⟩; (focus (exact rfl)); exact blb)
 ·rw [show decide (kind m1 d m2 = 0) = false from decide_eq_false h]
  have K1 := Lib.hid (krt_yes m1 d m2 h1 h2 h3 h)
  clear h h1 h2 h3
  go_enter Tryz.func81, Tryz.ntmps81
  go_wp2_with (go_at_call 82; ((with_reducible refine (K1.out _).mono ?_); rintro e w1 ⟨rfl, hbel⟩; obtain ⟨hcc, hff⟩ := bcell hbel; have hsz := hbel.size; (try simp at hsz); have hF : Below w.heap.size w w1 := (by exact kpb); go_split_ands; clear hcc hff hbel))
  (go_ret; refine ⟨?_, ?_⟩; (focus (exact rfl)); exact blb)
theorem lok_no {l : List Cv} {k : Nat} (hk : k < l.length) (h : kind l[k].m1 l[k].d l[k].m2 = 0) : lok l = false := by
 unfold lok
 rw [List.all_eq_false]
 exact ⟨l[k], List.getElem_mem hk, by simpa using h⟩
theorem lok_yes {l : List Cv} (h : ∀ k (hk : k < l.length), ¬ kind l[k].m1 l[k].d l[k].m2 = 0) : lok l = true := by
 unfold lok
 rw [List.all_eq_true]
 intro c hc
 obtain ⟨j, hj, rfl⟩ := List.getElem_of_mem hc
 simpa using h j hj
theorem ifc_c (l : List Cv) (a : Option Addr) (c : Nat) (hn : l.length ≤ 100) (hok : (∀ k (h : k < l.length), l[k].ok)) (w : World) (hR : RwV Cv.cells 3 w a l) :
  Calls Tryz.prog 110 #[.slice a l.length c, .func (.func 81) #[] #[]] w fun e w' => (∃ r : Int, e = .returned (.int .i64 r) ∧ decide (0 ≤ r) = !lok l) ∧ Below w.heap.size w w' := by
 have HR := Lib.hid hR
 have HO := Lib.hid hok
 clear hR hok
 go_enter Tryz.func110, Tryz.ntmps110
 go_wp2
 go_loopw [8] (fun ii wr => ∃ k : Nat, k ≤ l.length ∧ ii = .int .i64 k ∧ (∀ j (hj : j < l.length), j < k → ¬ kind l[j].m1 l[j].d l[j].m2 = 0) ∧ Below w.heap.size w wr) (fun ii _ => l.length - (intOf ii).toNat)
 case atStart => exact ⟨0, Nat.zero_le _, rfl, fun _ _ h => absurd h (by omega), by exact kpb⟩
 case round =>
  obtain ⟨k, hk, rfl, hno, hB⟩ := hrel
  have HNO := Lib.hid hno
  clear hno
  by_cases hlt : k < l.length
  ·obtain ⟨b, o, rfl, hbl, hrr⟩ := (HR.out.below hB) k hlt
   have hc := HO.out k hlt
   have e0 : wr.cell? ⟨b, o + k * 3, none⟩ = some (.int .u64 l[k].m1) := hrr 0 _ rfl
   have e1 : wr.cell? ⟨b, o + k * 3 + 1, none⟩ = some (.int .u64 l[k].d) := hrr 1 _ rfl
   have e2 : wr.cell? ⟨b, o + k * 3 + 2, none⟩ = some (.int .u64 l[k].m2) := hrr 2 _ rfl
   have kc := ar1_c l[k].m1 l[k].d l[k].m2 hc.h1 hc.h2 hc.h3
   clear hrr hc
   have hBs := hB.size
   by_cases h0 : kind l[k].m1 l[k].d l[k].m2 = 0
   ·rw [show decide (kind l[k].m1 l[k].d l[k].m2 = 0) = true from decide_eq_true h0] at kc
    have HL := Lib.hid (lok_no hlt h0)
    have KC := Lib.hid kc
    clear h0 kc
    generalize l[k].m1 = m1 at *
    generalize l[k].d = d at *
    generalize l[k].m2 = m2 at *
    go_wp2_with (go_at_call 81; ((with_reducible refine (KC.out _).mono ?_); rintro e w1 ⟨rfl, hbel⟩; obtain ⟨hcc, hff⟩ := bcell hbel; have hsz := hbel.size; (try simp at hsz); have hF : Below w.heap.size w w1 := (by exact kpb); go_split_ands; clear hcc hff hbel))
    go_ret
    exact ⟨⟨k, rfl, by rw [HL.out]; simp⟩, by assumption⟩
   ·rw [show decide (kind l[k].m1 l[k].d l[k].m2 = 0) = false from decide_eq_false h0] at kc
    have HNO2 := Lib.hid (fun j (hj : j < l.length) (h : j < k + 1) => show ¬ kind l[j].m1 l[j].d l[j].m2 = 0 from by
     by_cases hjk : j = k
     ·subst hjk; exact h0
     ·exact HNO.out j hj (by omega))
    have KC := Lib.hid kc
    clear h0 kc
    generalize l[k].m1 = m1 at *
    generalize l[k].d = d at *
    generalize l[k].m2 = m2 at *
    go_wp2_with (go_at_call 81; ((with_reducible refine (KC.out _).mono ?_); rintro e w1 ⟨rfl, hbel⟩; obtain ⟨hcc, hff⟩ := bcell hbel; have hsz := hbel.size; (try simp at hsz); have hF : Below w.heap.size w w1 := (by exact kpb); go_split_ands; clear hcc hff hbel))
    go_roundw
    case rel => exact ⟨k + 1, by omega, by go_num, HNO2.out, by assumption⟩
    case measure => simp [intOf]; omega
  ·obtain rfl : k = l.length := by omega
   have HL := Lib.hid (lok_yes (l := l) (fun j hj => HNO.out j hj hj))
   go_wp2
   go_ret
   exact ⟨⟨-1, rfl, by rw [HL.out]; simp⟩, hB⟩
theorem aright_c (l : List Cv) (a : Option Addr) (c : Nat) (hn : l.length ≤ 100) (hok : (∀ k (h : k < l.length), l[k].ok)) (w : World) (hR : RwV Cv.cells 3 w a l) :
  Calls Tryz.prog 58 #[.slice a l.length c] w fun ee w' => ee = .returned (.bool (lok l)) ∧ Below w.heap.size w w' := by
 have K0 := Lib.hid (fun z hz => ifc_c l a c hn hok z (hR.below hz))
 clear hR hok
 have K1 : ∀ z, Below w.heap.size w z → Calls Tryz.prog 80 #[.slice a l.length c, .func (.func 81) #[] #[]] z fun e w' => e = .returned (.bool (!lok l)) ∧ Below z.heap.size z w' := fun z hz => by
  have K00 := Lib.hid (K0.out z hz)
  clear K0 hz
  generalize lok l = q at *
  go_enter Tryz.func80, Tryz.ntmps80
  go_wp2_with ((go_at_call 110; (with_reducible refine K00.out.mono ?_); rintro e w1 ⟨⟨r, rfl, hr⟩, hbel⟩))
  go_ret
  refine ⟨?_, hbel⟩
  rw [← hr]; rfl
 have K2 := Lib.hid (K1 w (Below.refl _ _))
 clear K0 K1
 generalize lok l = q at *
 go_enter Tryz.func58, Tryz.ntmps58
 go_wp2_with ((go_at_call 80; ((with_reducible refine (K2.out).mono ?_); rintro e w1 ⟨rfl, hbel⟩; obtain ⟨hcc, hff⟩ := bcell hbel; have hsz := hbel.size; (try simp at hsz); have hF : Below w.heap.size w w1 := (by exact kpb); go_split_ands; clear hcc hff hbel)))
 go_ret
 exact ⟨by cases q <;> rfl, by assumption⟩
theorem carried_c (T k : Int) (h1 : 1 ≤ T) (h2 : T ≤ 65536) (hk0 : 0 ≤ k) (hk : k ≤ 1048576) (w : World) : Calls Tryz.prog 89 #[.int .i64 T, .int .u64 k] w fun ee w' => ee = .returned (.int .u64 (k * 65536 / T)) ∧ Below w.heap.size w w' := by
 have W1 : IntKind.u64.wrap (k * 65536) = k * 65536 := by rw [IntKind.wrap_u64]; omega
 have W2 : IntKind.u64.wrap T = T := by rw [IntKind.wrap_u64]; omega
 have q0 : 0 ≤ k * 65536 := by omega
 have q1 := Int.ediv_nonneg q0 (show 0 ≤ T by omega)
 have q2 := Int.ediv_le_self T q0
 have W3 : IntKind.u64.wrap (k * 65536 / T) = k * 65536 / T := by rw [IntKind.wrap_u64]; omega
 go_enter Tryz.func89, Tryz.ntmps89
 go_wp2
 (go_ret; refine ⟨?_, ?_⟩; (focus (exact rfl)); exact blb)
theorem fk_cmp {T k : Int} {l : List Cv} (hT : 1 ≤ T) : decide (0 < cmp (tots (csv k) l) (k * 65536 / T)) = fk T l k := by
 unfold fk
 rw [decide_eq_decide]
 have h1 : tots (csv k) l ≤ k * 65536 / T ↔ tots (csv k) l * T ≤ k * 65536 := le_div (by omega)
 unfold cmp
 generalize tots (csv k) l = V at *
 generalize k * 65536 / T = C at *
 split
 ·have := h1.1 (by omega); omega
 ·split
  ·have := h1.1 (by omega); omega
  ·constructor
   ·intro _
    have : ¬ V * T ≤ k * 65536 := fun h => by have := h1.2 h; omega
    omega
   ·omega
theorem fe_cmp {T : Int} {l : List Cv} (hT : 1 ≤ T) : decide (0 < cmp (tots csl l) (65536 / T)) = fe T l := by
 unfold fe
 rw [decide_eq_decide]
 have h1 : tots csl l ≤ 65536 / T ↔ tots csl l * T ≤ 65536 := le_div (by omega)
 unfold cmp
 generalize tots csl l = V at *
 generalize 65536 / T = C at *
 split
 ·have := h1.1 (by omega); omega
 ·split
  ·have := h1.1 (by omega); omega
  ·constructor
   ·intro _
    have : ¬ V * T ≤ 65536 := fun h => by have := h1.2 h; omega
    omega
   ·omega
theorem svc_in {l : List Cv} (hn : l.length ≤ 100) (hok : (∀ k (h : k < l.length), l[k].ok)) {t : Int} (ht : In t) : Wd (tots (csv t) l) := by
 have h := tots_bd (csv t) 79228162532711081662980096000 l (fun cv hcv => by
  obtain ⟨j, hj, rfl⟩ := List.getElem_of_mem hcv
  exact csv_bd (hok j hj) ht)
 have h2 : (l.length : Int) * 79228162532711081662980096000 ≤ 100 * 79228162532711081662980096000 := Int.mul_le_mul_of_nonneg_right (by omega) (by omega)
 unfold Wd; omega
theorem slc_in {l : List Cv} (hn : l.length ≤ 100) (hok : (∀ k (h : k < l.length), l[k].ok)) : 0 ≤ tots csl l ∧ tots csl l ≤ 429496729500 := by
 have h := tots_bd csl 4294967295 l (fun cv hcv => by
  obtain ⟨j, hj, rfl⟩ := List.getElem_of_mem hcv
  exact csl_bd (hok j hj))
 have h2 : (l.length : Int) * 4294967295 ≤ 100 * 4294967295 := Int.mul_le_mul_of_nonneg_right (by omega) (by omega)
 omega
theorem af1_c (T k : Int) (h1 : 1 ≤ T) (h2 : T ≤ 65536) (hk0 : 0 ≤ k) (hk : k ≤ 1048576) (l : List Cv) (a : Option Addr) (c : Nat) (hn : l.length ≤ 100) (hok : (∀ k (h : k < l.length), l[k].ok)) (x2 x3 : Nat) (w : World) (hR : RwV Cv.cells 3 w a l) (hc : (w.cell? ⟨x3, 0, none⟩ = some (.slice a l.length c) ∧ w.cell? ⟨x2, 0, none⟩ = some (.int .i64 T) ∧ x3 < w.heap.size ∧ x2 < w.heap.size)) :
  Calls Tryz.prog 85 #[.int .u64 k, .pointer (some ⟨x3, 0, none⟩), .pointer (some ⟨x2, 0, none⟩)] w fun ee w' => ee = .returned (.bool (fk T l k)) ∧ Below w.heap.size w w' := by
 have hI : In k := by unfold In; omega
 have hC : In (k * 65536 / T) := by
  have q0 : 0 ≤ k * 65536 := by omega
  have q1 := Int.ediv_nonneg q0 (show 0 ≤ T by omega)
  have q2 := Int.ediv_le_self T q0
  unfold In; omega
 have hV := svc_in hn hok hI
 have k1 := fun (z : World) (hz : Below w.heap.size w z) => service_c k hI l a c hn hok z (hR.below hz)
 have k2 := fun (z : World) => carried_c T k h1 h2 hk0 hk z
 have hfk := fk_cmp (T := T) (k := k) (l := l) h1
 generalize fk T l k = F at *
 generalize tots (csv k) l = V at *
 generalize k * 65536 / T = C at *
 have k3 := fun (z : World) => compare_c (hi V) (lo V) 0 C (hi_in _) (lo_in _) (by unfold In; omega) hC z
 have K4 := Lib.hid of_c
 rw [val_wd hV, show val 0 C = C by unfold val; omega] at k3
 generalize cmp V C = X at *
 generalize hi V = p at *
 generalize lo V = q at *
 have K1 := Lib.hid k1
 have K2 := Lib.hid k2
 have K3 := Lib.hid k3
 obtain ⟨c3, c2, l3, l2⟩ := hc
 clear k1 k2 k3 hV hC hI hR hok
 go_enter Tryz.func85, Tryz.ntmps85
 go_wp2
 obtain ⟨Cl, HCl⟩ := zH (α := List Value → World → Prop) ((fun ps wz => wz.cell? ⟨x3, 0, none⟩ = some (.slice a l.length c) ∧ wz.cell? ⟨x2, 0, none⟩ = some (.int .i64 T) ∧ x3 < wz.heap.size ∧ x2 < wz.heap.size ∧ w.heap.size ≤ wz.heap.size ∧ Below w.heap.size w wz)); refine wp_region_eff [] Cl (by kernel_rfl) (by kernel_rfl) (by simp only [HCl.out, zD, zE]; exact kpb) ?_
 (repeat ((first | (refine wE_skip (by rfl) ?_) | (refine wE_open (by rfl) (by rfl) ?_; apply Exists.intro; refine ⟨fun vs wq hw => ?_, ?_⟩; (focus (simp only [HCl.out, zD, zE] at hw; go_split_ands; go_simp <;> exact ebb))) | (refine wE_seal (by rfl) (by rfl) (by kernel_rfl) ?_; apply Exists.intro; refine ⟨fun wq hw => ?_, ?_⟩; (focus (simp only [HCl.out, zD, zE] at hw; go_split_ands; go_simp <;> (try go_bits) <;> exact rfl))) | (refine wE_seal (by rfl) (by rfl) (by kernel_rfl) ?_; apply Exists.intro; refine ⟨fun wq hw => ?_, ?_⟩; (focus (simp only [HCl.out, zD, zE] at hw; go_split_ands; go_simp; (first | (go_at_call 87; ((with_reducible refine (K1.out _ (by with_reducible assumption)).mono ?_); rintro e w' ⟨rfl, hbel⟩; obtain ⟨hcc, hff⟩ := bcell hbel; have hsz := hbel.size; (try simp at hsz); refine ⟨rfl, ?_⟩; simp only [HCl.out, zD, zE]; exact kpb)) | (go_at_call 89; ((with_reducible refine (K2.out _).mono ?_); rintro e w' ⟨rfl, hbel⟩; obtain ⟨hcc, hff⟩ := bcell hbel; have hsz := hbel.size; (try simp at hsz); refine ⟨rfl, ?_⟩; simp only [HCl.out, zD, zE]; exact kpb)) | (go_at_call 88; ((with_reducible refine (K4.out _ _).mono ?_); rintro e w' ⟨rfl, hbel⟩; obtain ⟨hcc, hff⟩ := bcell hbel; have hsz := hbel.size; (try simp at hsz); refine ⟨rfl, ?_⟩; simp only [HCl.out, zD, zE]; exact kpb)) | (go_at_call 86; ((with_reducible refine (K3.out _).mono ?_); rintro e w' ⟨rfl, hbel⟩; obtain ⟨hcc, hff⟩ := bcell hbel; have hsz := hbel.size; (try simp at hsz); refine ⟨rfl, ?_⟩; simp only [HCl.out, zD, zE]; exact kpb)))))) | (refine wE_eff (by rfl) (by rfl) (fun wq hw => ?_) (fun u hu => ?_); (focus (simp only [HCl.out, zD, zE] at hw; go_split_ands; go_simp; simp only [HCl.out, zD, zE]; skip; exact kpb)); clear hu)); simp only [Act.put, Nat.reduceAdd, zA, zB, zC, zD, zE]))
 refine wE_nil ?_; intro w' hw; simp only [HCl.out, zD, zE] at hw; clear HCl
 go_split_ands
 go_wp2
 (go_ret; refine ⟨?_, ?_⟩; (focus (exact rfl)); exact blb)
end Go.Proofs.YtffaahipgabkhaaGreat
end
