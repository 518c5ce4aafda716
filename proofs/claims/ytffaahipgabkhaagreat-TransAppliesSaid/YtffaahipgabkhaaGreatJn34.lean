/- Joined texts. -/
import Derived.Test.YtffaahipgabkhaaGreatJn0
import Derived.Test.YtffaahipgabkhaaGreatJn3
import Derived.Test.YtffaahipgabkhaaGreatJn5
import Derived.Test.YtffaahipgabkhaaGreatJn7
import Derived.Test.YtffaahipgabkhaaGreatJn24
import Derived.Test.YtffaahipgabkhaaGreatJn32
set_option linter.unusedVariables false
set_option linter.unusedSimpArgs false
set_option maxRecDepth 100000
set_option maxHeartbeats 16000000
section
namespace Go.Proofs.YtffaahipgabkhaaGreat
open Go.RowKit Fg Reg
attribute [local irreducible] Reg.wE
theorem csv_c (m1 d m2 t : Int) (hc : Cv.ok ⟨m1, d, m2⟩) (ht : In t) (x : Nat) (w : World) (hx : w.cell? ⟨x, 0, none⟩ = some (.int .u64 t)) (hxl : x < w.heap.size) :
  Calls Tryz.prog 114 #[.agg #[.int .u64 (m1), .int .u64 (d), .int .u64 (m2)], .pointer (some ⟨x, 0, none⟩)] w fun ee w' => ee = .returned (.agg #[.int .u64 (hi (csv t ⟨m1, d, m2⟩)), .int .u64 (lo (csv t ⟨m1, d, m2⟩))]) ∧ Below w.heap.size w w' := by
 have k1 := fun z => ksv_c m1 d m2 t hc.h1 hc.h2 hc.h3 ht z
 unfold csv
 dsimp only
 generalize hi (srv m1 d m2 t) = r at *
 generalize lo (srv m1 d m2 t) = s at *
 have K1 := Lib.hid k1
 clear k1 hc
 go_enter Tryz.func114, Tryz.ntmps114
 go_wp2_with (go_at_call 115; ((with_reducible refine (K1.out _).mono ?_); rintro e w1 ⟨rfl, hbel⟩; obtain ⟨hcc, hff⟩ := bcell hbel; have hsz := hbel.size; (try simp at hsz); have hF : (w1.cell? ⟨w.heap.size + 1, 0, none⟩ = some (.int .u64 (0)) ∧ w1.cell? ⟨w.heap.size + 1, 1, none⟩ = some (.int .u64 (0)) ∧ w.heap.size + 1 < w1.heap.size) ∧ (w1.frozen? ⟨w.heap.size + 1, 0, none⟩ = false ∧ w1.frozen? ⟨w.heap.size + 1, 1, none⟩ = false) ∧ Below w.heap.size w w1 := (by exact kpb); go_split_ands; clear hcc hff hbel))
 refine bodyPost_ret (v := .agg #[.int .u64 r, .int .u64 s]) (by simp [results, Tryz.results114, go_sem, *]) rfl ⟨rfl, blb⟩
theorem csl_c (m1 d m2 : Int) (hc : Cv.ok ⟨m1, d, m2⟩) (w : World) : Calls Tryz.prog 116 #[.agg #[.int .u64 (m1), .int .u64 (d), .int .u64 (m2)]] w fun ee w' => ee = .returned (.agg #[.int .u64 (hi (csl ⟨m1, d, m2⟩)), .int .u64 (lo (csl ⟨m1, d, m2⟩))]) ∧ Below w.heap.size w w' := by
 have K2 := Lib.hid (fun v z => of_c v z)
 by_cases h : kind m1 d m2 = 0
 ·rw [show csl ⟨m1, d, m2⟩ = 0 from if_pos h]
  have K1 := Lib.hid (fun z => krt_no m1 d m2 hc.h1 hc.h2 hc.h3 h z)
  rw [show hi 0 = 0 by decide, show lo 0 = 0 by decide]
  clear hc h
  go_enter Tryz.func116, Tryz.ntmps116
  go_wp2_with (go_at_call 82; ((with_reducible refine (K1.out _).mono ?_); rintro e w1 ⟨rfl, hbel⟩; obtain ⟨hcc, hff⟩ := bcell hbel; have hsz := hbel.size; (try simp at hsz); have hF : (w1.cell? ⟨w.heap.size, 0, none⟩ = some (.int .u64 m1) ∧ w1.cell? ⟨w.heap.size, 1, none⟩ = some (.int .u64 d) ∧ w1.cell? ⟨w.heap.size, 2, none⟩ = some (.int .u64 m2) ∧ w.heap.size < w1.heap.size) ∧ (w1.cell? ⟨w.heap.size + 1, 0, none⟩ = some (.int .u64 (0)) ∧ w1.cell? ⟨w.heap.size + 1, 1, none⟩ = some (.int .u64 (0)) ∧ w.heap.size + 1 < w1.heap.size) ∧ (w1.frozen? ⟨w.heap.size + 1, 0, none⟩ = false ∧ w1.frozen? ⟨w.heap.size + 1, 1, none⟩ = false) ∧ Below w.heap.size w w1 := (by exact kpb); go_split_ands; clear hcc hff hbel))
  refine bodyPost_ret (v := .agg #[.int .u64 0, .int .u64 0]) (by simp [results, Tryz.results116, go_sem, *]) rfl ⟨rfl, blb⟩
 ·rw [show csl ⟨m1, d, m2⟩ = m2 from if_neg h]
  have K1 := Lib.hid (fun z => krt_yes m1 d m2 hc.h1 hc.h2 hc.h3 h z)
  have h3 : In m2 := hc.h3
  have e1 : hi m2 = 0 := by unfold In at h3; unfold hi; omega
  have e2 : lo m2 = m2 := by unfold In at h3; unfold lo; omega
  rw [e1, e2]
  clear hc h e1 e2 h3
  go_enter Tryz.func116, Tryz.ntmps116
  go_wp2_with (first | (go_at_call 82; ((with_reducible refine (K1.out _).mono ?_); rintro e w1 ⟨rfl, hbel⟩; obtain ⟨hcc, hff⟩ := bcell hbel; have hsz := hbel.size; (try simp at hsz); have hF : (w1.cell? ⟨w.heap.size, 0, none⟩ = some (.int .u64 m1) ∧ w1.cell? ⟨w.heap.size, 1, none⟩ = some (.int .u64 d) ∧ w1.cell? ⟨w.heap.size, 2, none⟩ = some (.int .u64 m2) ∧ w.heap.size < w1.heap.size) ∧ (w1.cell? ⟨w.heap.size + 1, 0, none⟩ = some (.int .u64 (0)) ∧ w1.cell? ⟨w.heap.size + 1, 1, none⟩ = some (.int .u64 (0)) ∧ w.heap.size + 1 < w1.heap.size) ∧ (w1.frozen? ⟨w.heap.size + 1, 0, none⟩ = false ∧ w1.frozen? ⟨w.heap.size + 1, 1, none⟩ = false) ∧ Below w.heap.size w w1 := (by exact kpb); go_split_ands; clear hcc hff hbel)) | (go_at_call 88; ((with_reducible refine (K2.out _ _).mono ?_); rintro e w2 ⟨rfl, hbel⟩; obtain ⟨hcc, hff⟩ := bcell hbel; have hsz := hbel.size; (try simp at hsz); have hF : (w2.cell? ⟨w.heap.size + 1, 0, none⟩ = some (.int .u64 (0)) ∧ w2.cell? ⟨w.heap.size + 1, 1, none⟩ = some (.int .u64 (0)) ∧ w.heap.size + 1 < w2.heap.size) ∧ (w2.frozen? ⟨w.heap.size + 1, 0, none⟩ = false ∧ w2.frozen? ⟨w.heap.size + 1, 1, none⟩ = false) ∧ Below w.heap.size w w2 := (by exact kpb); go_split_ands; clear hcc hff hbel)))
  refine bodyPost_ret (v := .agg #[.int .u64 0, .int .u64 m2]) (by simp [results, Tryz.results116, go_sem, *]) rfl ⟨rfl, blb⟩
theorem totsv_c (t : Int) (ht : In t) (x : Nat) (l : List Cv) (a : Option Addr) (c : Nat) (hn : l.length ≤ 100) (hok : ∀ k (h : k < l.length), l[k].ok) (w : World) (hR : RwV Cv.cells 3 w a l) (hx : w.cell? ⟨x, 0, none⟩ = some (.int .u64 t)) (hxl : x < w.heap.size) :
  Calls Tryz.prog 113 #[.slice a l.length c, .func (.func 114) #[] #[.pointer (some ⟨x, 0, none⟩)]] w fun ee w' => ee = .returned (.agg #[.int .u64 (hi (tots (csv t) l)), .int .u64 (lo (tots (csv t) l))]) ∧ Below w.heap.size w w' := by
 have HR := Lib.hid hR
 have HO := Lib.hid hok
 clear hR hok
 go_enter Tryz.func113, Tryz.ntmps113
 go_wp2
 go_loopw [10] (fun ii wr => ∃ (k : Nat) (p q : Int), k ≤ l.length ∧ ii = .int .i64 k ∧ p = hi (tots (csv t) (l.take k)) ∧ q = lo (tots (csv t) (l.take k)) ∧ (wr.cell? ⟨w.heap.size + 1, 0, none⟩ = some (.int .u64 (p)) ∧ wr.cell? ⟨w.heap.size + 1, 1, none⟩ = some (.int .u64 (q)) ∧ w.heap.size + 1 < wr.heap.size) ∧ (wr.frozen? ⟨w.heap.size + 1, 0, none⟩ = false ∧ wr.frozen? ⟨w.heap.size + 1, 1, none⟩ = false) ∧ (wr.cell? ⟨w.heap.size, 0, none⟩ = some (.int .u64 (0)) ∧ wr.cell? ⟨w.heap.size, 1, none⟩ = some (.int .u64 (0)) ∧ w.heap.size < wr.heap.size) ∧ (wr.frozen? ⟨w.heap.size, 0, none⟩ = false ∧ wr.frozen? ⟨w.heap.size, 1, none⟩ = false) ∧ Below w.heap.size w wr) (fun ii _ => l.length - (intOf ii).toNat)
 case atStart => exact ⟨0, 0, 0, Nat.zero_le _, rfl, by simp [tots, hi], by simp [tots, lo], by exact kpb, by exact kpb, by exact kpb, by exact kpb, by exact kpb⟩
 case round =>
  obtain ⟨k, p, q, hk, rfl, hp, hq, ha, hfa, hr, hfr, hB⟩ := hrel
  by_cases hlt : k < l.length
  ·obtain ⟨b, o, rfl, hbl, hrr⟩ := (HR.out.below hB) k hlt
   have hc := HO.out k hlt
   have hbd := tots_bd (csv t) 79228162532711081662980096000 (l.take k) (fun cv hcv => by
    obtain ⟨j, hj, rfl⟩ := List.getElem_of_mem hcv
    rw [List.getElem_take]
    exact csv_bd (HO.out j (by simp at hj; omega)) ht)
   have hsucc := tots_succ (csv t) l k hlt
   have hfb := csv_bd hc ht
   have hlen : (l.take k).length = k := by rw [List.length_take]; omega
   rw [hlen] at hbd
   have hmul : (k : Int) * 79228162532711081662980096000 ≤ 100 * 79228162532711081662980096000 := Int.mul_le_mul_of_nonneg_right (by omega) (by omega)
   have HS := Lib.hid hsucc
   clear hsucc
   generalize l[k] = cv at *
   obtain ⟨m1, d, m2⟩ := cv
   have e0 : wr.cell? ⟨b, o + k * 3, none⟩ = some (.int .u64 m1) := hrr 0 _ rfl
   have e1 : wr.cell? ⟨b, o + k * 3 + 1, none⟩ = some (.int .u64 d) := hrr 1 _ rfl
   have e2 : wr.cell? ⟨b, o + k * 3 + 2, none⟩ = some (.int .u64 m2) := hrr 2 _ rfl
   clear hrr
   have kc := fun z hz hl => csv_c m1 d m2 t hc ht x z hz hl
   generalize (csv t) ⟨m1, d, m2⟩ = F at *
   generalize tots (csv t) (l.take k) = S at *
   have ka := fun z => add_c p q (hi F) (lo F) (by rw [hp]; exact hi_in _) (by rw [hq]; exact lo_in _) (hi_in _) (lo_in _) z
   have hwS : Wd S := by unfold Wd; omega
   have hwF : Wd F := by unfold Wd; omega
   rw [show val p q = S by rw [hp, hq]; exact val_wd hwS, val_wd hwF, show decide (340282366920938463463374607431768211455 < S + F) = false by simp; omega] at ka
   have HP := Lib.hid (And.intro hp hq)
   clear hwS hwF hp hq hmul hlen hbd hfb
   generalize hp' : hi (S + F) = p' at ka
   generalize hq' : lo (S + F) = q' at ka
   have HP' := Lib.hid (And.intro hp' hq')
   generalize hi F = r at *
   generalize lo F = s at *
   clear hp' hq'
   have KA := Lib.hid ka
   have KC := Lib.hid kc
   clear ka kc hc
   have hxr : wr.cell? ⟨x, 0, none⟩ = some (.int .u64 t) := ((bcell hB).1 _ _ hxl).trans hx
   have hxr2 : x < wr.heap.size := by have := hB.size; omega
   have hxn : ¬ x = wr.heap.size := by omega
   have hxn1 : ¬ x = w.heap.size + 1 := by omega
   have hxn2 : ¬ x = w.heap.size := by omega
   have hBs := hB.size
   go_wp2
   obtain ⟨Cl, HCl⟩ := zH (α := List Value → World → Prop) ((fun ps wz => (match ps with | [] => (wz.cell? ⟨w.heap.size + 1, 0, none⟩ = some (.int .u64 (p)) ∧ wz.cell? ⟨w.heap.size + 1, 1, none⟩ = some (.int .u64 (q)) ∧ w.heap.size + 1 < wz.heap.size) | _ => (wz.cell? ⟨w.heap.size + 1, 0, none⟩ = some (.int .u64 (p')) ∧ wz.cell? ⟨w.heap.size + 1, 1, none⟩ = some (.int .u64 (q')) ∧ w.heap.size + 1 < wz.heap.size)) ∧ (wz.cell? ⟨wr.heap.size, 0, none⟩ = some (.int .u64 m1) ∧ wz.cell? ⟨wr.heap.size, 1, none⟩ = some (.int .u64 d) ∧ wz.cell? ⟨wr.heap.size, 2, none⟩ = some (.int .u64 m2) ∧ wr.heap.size < wz.heap.size) ∧ (wz.frozen? ⟨w.heap.size + 1, 0, none⟩ = false ∧ wz.frozen? ⟨w.heap.size + 1, 1, none⟩ = false) ∧ (wz.cell? ⟨w.heap.size, 0, none⟩ = some (.int .u64 (0)) ∧ wz.cell? ⟨w.heap.size, 1, none⟩ = some (.int .u64 (0)) ∧ w.heap.size < wz.heap.size) ∧ (wz.frozen? ⟨w.heap.size, 0, none⟩ = false ∧ wz.frozen? ⟨w.heap.size, 1, none⟩ = false) ∧ wz.cell? ⟨x, 0, none⟩ = some (.int .u64 t) ∧ x < wz.heap.size ∧ w.heap.size + 1 < wr.heap.size ∧ wr.heap.size ≤ wz.heap.size ∧ Below w.heap.size w wz)); refine wp_region_eff [8] Cl (by kernel_rfl) (by kernel_rfl) (by simp only [HCl.out, zD, zE]; exact kpb) ?_
   (repeat ((first | (refine wE_skip (by rfl) ?_) | (refine wE_open (by rfl) (by rfl) ?_; apply Exists.intro; refine ⟨fun vs wq hw => ?_, ?_⟩; (focus (simp only [HCl.out, zD, zE] at hw; go_split_ands; go_simp <;> exact ebb))) | (refine wE_seal (by rfl) (by rfl) (by kernel_rfl) ?_; apply Exists.intro; refine ⟨fun wq hw => ?_, ?_⟩; (focus (simp only [HCl.out, zD, zE] at hw; go_split_ands; go_simp <;> (try go_bits) <;> exact rfl))) | (refine wE_seal (by rfl) (by rfl) (by kernel_rfl) ?_; apply Exists.intro; refine ⟨fun wq hw => ?_, ?_⟩; (focus (simp only [HCl.out, zD, zE] at hw; go_split_ands; go_simp; (first | (go_at_call 114; ((with_reducible refine (KC.out _ (by with_reducible assumption) (by with_reducible assumption)).mono ?_); rintro e w' ⟨rfl, hbel⟩; obtain ⟨hcc, hff⟩ := bcell hbel; have hsz := hbel.size; (try simp at hsz); refine ⟨rfl, ?_⟩; simp only [HCl.out, zD, zE]; exact kpb)) | (go_at_call 130; ((with_reducible refine (KA.out _).mono ?_); rintro e w' ⟨rfl, hbel⟩; obtain ⟨hcc, hff⟩ := bcell hbel; have hsz := hbel.size; (try simp at hsz); refine ⟨rfl, ?_⟩; simp only [HCl.out, zD, zE]; exact kpb)))))) | (refine wE_eff (by rfl) (by rfl) (fun wq hw => ?_) (fun u hu => ?_); (focus (simp only [HCl.out, zD, zE] at hw; go_split_ands; go_simp; simp only [HCl.out, zD, zE]; skip; exact kpb)); clear hu)); simp only [Act.put, Nat.reduceAdd, zA, zB, zC, zD, zE]))
   refine wE_nil ?_; intro w' hw; simp only [HCl.out, zD, zE] at hw; clear HCl
   go_split_ands
   go_wp2
   go_roundw
   case rel =>
    refine ⟨k + 1, p', q', by omega, by go_num, ?_, ?_, by exact kpb, by exact kpb, by exact kpb, by exact kpb, by assumption⟩
    ·rw [HS.out, ← HP'.out.1]
    ·rw [HS.out, ← HP'.out.2]
   case measure => simp [intOf]; omega
  ·obtain rfl : k = l.length := by omega
   rw [List.take_length] at hp hq
   have HP := Lib.hid (And.intro hp hq)
   clear hp hq
   go_wp2
   refine bodyPost_ret (v := .agg #[.int .u64 p, .int .u64 q]) (by simp [results, Tryz.results113, go_sem, *]) rfl ⟨(by rw [HP.out.1, HP.out.2]), blb⟩
theorem totsl_c (l : List Cv) (a : Option Addr) (c : Nat) (hn : l.length ≤ 100) (hok : ∀ k (h : k < l.length), l[k].ok) (w : World) (hR : RwV Cv.cells 3 w a l) :
  Calls Tryz.prog 113 #[.slice a l.length c, .func (.func 116) #[] #[]] w fun ee w' => ee = .returned (.agg #[.int .u64 (hi (tots csl l)), .int .u64 (lo (tots csl l))]) ∧ Below w.heap.size w w' := by
 have HR := Lib.hid hR
 have HO := Lib.hid hok
 clear hR hok
 go_enter Tryz.func113, Tryz.ntmps113
 go_wp2
 go_loopw [10] (fun ii wr => ∃ (k : Nat) (p q : Int), k ≤ l.length ∧ ii = .int .i64 k ∧ p = hi (tots csl (l.take k)) ∧ q = lo (tots csl (l.take k)) ∧ (wr.cell? ⟨w.heap.size + 1, 0, none⟩ = some (.int .u64 (p)) ∧ wr.cell? ⟨w.heap.size + 1, 1, none⟩ = some (.int .u64 (q)) ∧ w.heap.size + 1 < wr.heap.size) ∧ (wr.frozen? ⟨w.heap.size + 1, 0, none⟩ = false ∧ wr.frozen? ⟨w.heap.size + 1, 1, none⟩ = false) ∧ (wr.cell? ⟨w.heap.size, 0, none⟩ = some (.int .u64 (0)) ∧ wr.cell? ⟨w.heap.size, 1, none⟩ = some (.int .u64 (0)) ∧ w.heap.size < wr.heap.size) ∧ (wr.frozen? ⟨w.heap.size, 0, none⟩ = false ∧ wr.frozen? ⟨w.heap.size, 1, none⟩ = false) ∧ Below w.heap.size w wr) (fun ii _ => l.length - (intOf ii).toNat)
 case atStart => exact ⟨0, 0, 0, Nat.zero_le _, rfl, by simp [tots, hi], by simp [tots, lo], by exact kpb, by exact kpb, by exact kpb, by exact kpb, by exact kpb⟩
 case round =>
  obtain ⟨k, p, q, hk, rfl, hp, hq, ha, hfa, hr, hfr, hB⟩ := hrel
  by_cases hlt : k < l.length
  ·obtain ⟨b, o, rfl, hbl, hrr⟩ := (HR.out.below hB) k hlt
   have hc := HO.out k hlt
   have hbd := tots_bd csl 79228162532711081662980096000 (l.take k) (fun cv hcv => by
    obtain ⟨j, hj, rfl⟩ := List.getElem_of_mem hcv
    rw [List.getElem_take]
    exact (fun h => ⟨h.1, by omega⟩) (csl_bd (HO.out j (by simp at hj; omega))))
   have hsucc := tots_succ csl l k hlt
   have hfb := csl_bd hc
   have hlen : (l.take k).length = k := by rw [List.length_take]; omega
   rw [hlen] at hbd
   have hmul : (k : Int) * 79228162532711081662980096000 ≤ 100 * 79228162532711081662980096000 := Int.mul_le_mul_of_nonneg_right (by omega) (by omega)
   have HS := Lib.hid hsucc
   clear hsucc
   generalize l[k] = cv at *
   obtain ⟨m1, d, m2⟩ := cv
   have e0 : wr.cell? ⟨b, o + k * 3, none⟩ = some (.int .u64 m1) := hrr 0 _ rfl
   have e1 : wr.cell? ⟨b, o + k * 3 + 1, none⟩ = some (.int .u64 d) := hrr 1 _ rfl
   have e2 : wr.cell? ⟨b, o + k * 3 + 2, none⟩ = some (.int .u64 m2) := hrr 2 _ rfl
   clear hrr
   have kc := fun z => csl_c m1 d m2 hc z
   generalize csl ⟨m1, d, m2⟩ = F at *
   generalize tots csl (l.take k) = S at *
   have ka := fun z => add_c p q (hi F) (lo F) (by rw [hp]; exact hi_in _) (by rw [hq]; exact lo_in _) (hi_in _) (lo_in _) z
   have hwS : Wd S := by unfold Wd; omega
   have hwF : Wd F := by unfold Wd; omega
   rw [show val p q = S by rw [hp, hq]; exact val_wd hwS, val_wd hwF, show decide (340282366920938463463374607431768211455 < S + F) = false by simp; omega] at ka
   have HP := Lib.hid (And.intro hp hq)
   clear hwS hwF hp hq hmul hlen hbd hfb
   generalize hp' : hi (S + F) = p' at ka
   generalize hq' : lo (S + F) = q' at ka
   have HP' := Lib.hid (And.intro hp' hq')
   generalize hi F = r at *
   generalize lo F = s at *
   clear hp' hq'
   have KA := Lib.hid ka
   have KC := Lib.hid kc
   clear ka kc hc
   have hBs := hB.size
   go_wp2
   obtain ⟨Cl, HCl⟩ := zH (α := List Value → World → Prop) ((fun ps wz => (match ps with | [] => (wz.cell? ⟨w.heap.size + 1, 0, none⟩ = some (.int .u64 (p)) ∧ wz.cell? ⟨w.heap.size + 1, 1, none⟩ = some (.int .u64 (q)) ∧ w.heap.size + 1 < wz.heap.size) | _ => (wz.cell? ⟨w.heap.size + 1, 0, none⟩ = some (.int .u64 (p')) ∧ wz.cell? ⟨w.heap.size + 1, 1, none⟩ = some (.int .u64 (q')) ∧ w.heap.size + 1 < wz.heap.size)) ∧ (wz.cell? ⟨wr.heap.size, 0, none⟩ = some (.int .u64 m1) ∧ wz.cell? ⟨wr.heap.size, 1, none⟩ = some (.int .u64 d) ∧ wz.cell? ⟨wr.heap.size, 2, none⟩ = some (.int .u64 m2) ∧ wr.heap.size < wz.heap.size) ∧ (wz.frozen? ⟨w.heap.size + 1, 0, none⟩ = false ∧ wz.frozen? ⟨w.heap.size + 1, 1, none⟩ = false) ∧ (wz.cell? ⟨w.heap.size, 0, none⟩ = some (.int .u64 (0)) ∧ wz.cell? ⟨w.heap.size, 1, none⟩ = some (.int .u64 (0)) ∧ w.heap.size < wz.heap.size) ∧ (wz.frozen? ⟨w.heap.size, 0, none⟩ = false ∧ wz.frozen? ⟨w.heap.size, 1, none⟩ = false) ∧ w.heap.size + 1 < wr.heap.size ∧ wr.heap.size ≤ wz.heap.size ∧ Below w.heap.size w wz)); refine wp_region_eff [8] Cl (by kernel_rfl) (by kernel_rfl) (by simp only [HCl.out, zD, zE]; exact kpb) ?_
   (repeat ((first | (refine wE_skip (by rfl) ?_) | (refine wE_open (by rfl) (by rfl) ?_; apply Exists.intro; refine ⟨fun vs wq hw => ?_, ?_⟩; (focus (simp only [HCl.out, zD, zE] at hw; go_split_ands; go_simp <;> exact ebb))) | (refine wE_seal (by rfl) (by rfl) (by kernel_rfl) ?_; apply Exists.intro; refine ⟨fun wq hw => ?_, ?_⟩; (focus (simp only [HCl.out, zD, zE] at hw; go_split_ands; go_simp <;> (try go_bits) <;> exact rfl))) | (refine wE_seal (by rfl) (by rfl) (by kernel_rfl) ?_; apply Exists.intro; refine ⟨fun wq hw => ?_, ?_⟩; (focus (simp only [HCl.out, zD, zE] at hw; go_split_ands; go_simp; (first | (go_at_call 116; ((with_reducible refine (KC.out _).mono ?_); rintro e w' ⟨rfl, hbel⟩; obtain ⟨hcc, hff⟩ := bcell hbel; have hsz := hbel.size; (try simp at hsz); refine ⟨rfl, ?_⟩; simp only [HCl.out, zD, zE]; exact kpb)) | (go_at_call 130; ((with_reducible refine (KA.out _).mono ?_); rintro e w' ⟨rfl, hbel⟩; obtain ⟨hcc, hff⟩ := bcell hbel; have hsz := hbel.size; (try simp at hsz); refine ⟨rfl, ?_⟩; simp only [HCl.out, zD, zE]; exact kpb)))))) | (refine wE_eff (by rfl) (by rfl) (fun wq hw => ?_) (fun u hu => ?_); (focus (simp only [HCl.out, zD, zE] at hw; go_split_ands; go_simp; simp only [HCl.out, zD, zE]; skip; exact kpb)); clear hu)); simp only [Act.put, Nat.reduceAdd, zA, zB, zC, zD, zE]))
   refine wE_nil ?_; intro w' hw; simp only [HCl.out, zD, zE] at hw; clear HCl
   go_split_ands
   go_wp2
   go_roundw
   case rel =>
    refine ⟨k + 1, p', q', by omega, by go_num, ?_, ?_, by exact kpb, by exact kpb, by exact kpb, by exact kpb, by assumption⟩
    ·rw [HS.out, ← HP'.out.1]
    ·rw [HS.out, ← HP'.out.2]
   case measure => simp [intOf]; omega
  ·obtain rfl : k = l.length := by omega
   rw [List.take_length] at hp hq
   have HP := Lib.hid (And.intro hp hq)
   clear hp hq
   go_wp2
   refine bodyPost_ret (v := .agg #[.int .u64 p, .int .u64 q]) (by simp [results, Tryz.results113, go_sem, *]) rfl ⟨(by rw [HP.out.1, HP.out.2]), blb⟩
end Go.Proofs.YtffaahipgabkhaaGreat
end
section
namespace Go.Proofs.YtffaahipgabkhaaGreat
open Go.RowKit Fg Reg
attribute [local irreducible] Reg.wE
theorem service_c (t : Int) (ht : In t) (l : List Cv) (a : Option Addr) (c : Nat) (hn : l.length ≤ 100) (hok : ∀ k (h : k < l.length), l[k].ok) (w : World) (hR : RwV Cv.cells 3 w a l) :
  Calls Tryz.prog 87 #[.slice a l.length c, .int .u64 t] w fun ee w' => ee = .returned (.agg #[.int .u64 (hi (tots (csv t) l)), .int .u64 (lo (tots (csv t) l))]) ∧ Below w.heap.size w w' := by
 have k1 := fun (z : World) (hz : Below w.heap.size w z) (hx : z.cell? ⟨w.heap.size, 0, none⟩ = some (.int .u64 t)) (hxl : w.heap.size < z.heap.size) => totsv_c t ht w.heap.size l a c hn hok z (hR.below hz) hx hxl
 generalize hi (tots (csv t) l) = p at *
 generalize lo (tots (csv t) l) = q at *
 have K1 := Lib.hid k1
 clear k1 hR hok
 go_enter Tryz.func87, Tryz.ntmps87
 go_wp2_with (go_at_call 113; ((with_reducible refine (K1.out _ ?_ ?_ ?_).mono ?_); (focus exact blb); (focus (simp [go_sem])); (focus (first | omega | (simp; done) | (simp; omega))); rintro e w1 ⟨rfl, hbel⟩; obtain ⟨hcc, hff⟩ := bcell hbel; have hsz := hbel.size; (try simp at hsz); have hF : (((w1.cell? ⟨w.heap.size + 1, 0, none⟩ = some (.int .u64 (0)) ∧ w1.cell? ⟨w.heap.size + 1, 1, none⟩ = some (.int .u64 (0)) ∧ w.heap.size + 1 < w1.heap.size)) ∧ ((w1.frozen? ⟨w.heap.size + 1, 0, none⟩ = false ∧ w1.frozen? ⟨w.heap.size + 1, 1, none⟩ = false)) ∧ Below w.heap.size w w1) := (by exact kpb); go_split_ands; clear hcc hff hbel))
 refine bodyPost_ret (v := .agg #[.int .u64 p, .int .u64 q]) (by simp [results, Tryz.results87, go_sem, *]) rfl ⟨rfl, blb⟩
theorem slope_c (l : List Cv) (a : Option Addr) (c : Nat) (hn : l.length ≤ 100) (hok : ∀ k (h : k < l.length), l[k].ok) (w : World) (hR : RwV Cv.cells 3 w a l) :
  Calls Tryz.prog 90 #[.slice a l.length c] w fun ee w' => ee = .returned (.agg #[.int .u64 (hi (tots csl l)), .int .u64 (lo (tots csl l))]) ∧ Below w.heap.size w w' := by
 have k1 := fun (z : World) (hz : Below w.heap.size w z) => totsl_c l a c hn hok z (hR.below hz)
 generalize hi (tots csl l) = p at *
 generalize lo (tots csl l) = q at *
 have K1 := Lib.hid k1
 clear k1 hR hok
 go_enter Tryz.func90, Tryz.ntmps90
 go_wp2_with (go_at_call 113; ((with_reducible refine (K1.out _ ?_).mono ?_); (focus exact blb); rintro e w1 ⟨rfl, hbel⟩; obtain ⟨hcc, hff⟩ := bcell hbel; have hsz := hbel.size; (try simp at hsz); have hF : (((w1.cell? ⟨w.heap.size, 0, none⟩ = some (.int .u64 (0)) ∧ w1.cell? ⟨w.heap.size, 1, none⟩ = some (.int .u64 (0)) ∧ w.heap.size < w1.heap.size)) ∧ ((w1.frozen? ⟨w.heap.size, 0, none⟩ = false ∧ w1.frozen? ⟨w.heap.size, 1, none⟩ = false)) ∧ Below w.heap.size w w1) := (by exact kpb); go_split_ands; clear hcc hff hbel))
 refine bodyPost_ret (v := .agg #[.int .u64 p, .int .u64 q]) (by simp [results, Tryz.results90, go_sem, *]) rfl ⟨rfl, blb⟩
theorem u64_info4 : (Tryz.prog.info? 44).map (fun i => (i.zero, i.size, i.bytes)) = some (some (.int .u64 0), 1, 8) := by kernel_rfl
theorem u64_parts : ∃ i, Tryz.prog.info? 44 = some i ∧ i.zero = some (.int .u64 0) ∧ i.size = 1 ∧ i.bytes = 8 := by
 obtain ⟨i, hi, h⟩ := Option.map_eq_some_iff.1 u64_info4
 simp only [Prod.mk.injEq] at h
 exact ⟨i, hi, h.1, h.2.1, h.2.2⟩
theorem QC.two {z : World} {B b o cap : Nat} {g : Nat → Value} (h : QC z B b o cap 2 g) : z.cell? ⟨b, o, none⟩ = some (g 0) ∧ z.cell? ⟨b, o + 1, none⟩ = some (g 1) ∧ b < z.heap.size := ⟨by have := h.2.2.2 0 (by omega); simpa using this, h.2.2.2 1 (by omega), h.2.1⟩
attribute [local irreducible] QS QC
end Go.Proofs.YtffaahipgabkhaaGreat
end
section
namespace Go.Proofs.YtffaahipgabkhaaGreat
open Go.RowKit Fg Reg
attribute [local irreducible] Reg.wE
instance : Inhabited Cv := ⟨⟨0, 0, 0⟩⟩
end Go.Proofs.YtffaahipgabkhaaGreat
end
