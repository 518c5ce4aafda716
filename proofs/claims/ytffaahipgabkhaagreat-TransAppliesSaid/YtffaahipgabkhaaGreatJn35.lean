/- Joined texts. -/
import Derived.Test.YtffaahipgabkhaaGreatJn0
import Derived.Test.YtffaahipgabkhaaGreatJn8
import Derived.Test.YtffaahipgabkhaaGreatJn34
set_option linter.unusedVariables false
set_option linter.unusedSimpArgs false
set_option maxRecDepth 100000
set_option maxHeartbeats 16000000
section
namespace Go.Proofs.YtffaahipgabkhaaGreat
open Go.RowKit Fg Reg
attribute [local irreducible] Reg.wE
theorem rservice_c (t : Int) (ht : In t) (l : List Cv) (a : Option Addr) (c : Nat) (hn : l.length ≤ 100) (hok : ∀ k (h : k < l.length), l[k].ok) (w : World) (hR : RwV Cv.cells 3 w a l) :
  Calls Tryz.prog 95 #[.slice a l.length c, .int .u64 t] w fun ee w' => ee = .returned (.agg #[.int .u64 (d0 (tots (csv t) l)), .int .u64 (d1 (tots (csv t) l)), .int .u64 (d2 (tots (csv t) l)), .int .u64 (d3 (tots (csv t) l))]) ∧ Below w.heap.size w w' := by
 have HR := Lib.hid hR
 have HO := Lib.hid hok
 clear hR hok
 go_enter Tryz.func95, Tryz.ntmps95
 go_wp2
 go_loopw [11] (fun ii wr => ∃ (k : Nat) (p0 p1 p2 p3 : Int), k ≤ l.length ∧ ii = .int .i64 k ∧ p0 = d0 (tots (csv t) (l.take k)) ∧ p1 = d1 (tots (csv t) (l.take k)) ∧ p2 = d2 (tots (csv t) (l.take k)) ∧ p3 = d3 (tots (csv t) (l.take k)) ∧ (wr.cell? ⟨w.heap.size + 1, 0, none⟩ = some (.int .u64 (p0)) ∧ wr.cell? ⟨w.heap.size + 1, 1, none⟩ = some (.int .u64 (p1)) ∧ wr.cell? ⟨w.heap.size + 1, 2, none⟩ = some (.int .u64 (p2)) ∧ wr.cell? ⟨w.heap.size + 1, 3, none⟩ = some (.int .u64 (p3)) ∧ w.heap.size + 1 < wr.heap.size) ∧ (wr.frozen? ⟨w.heap.size + 1, 0, none⟩ = false ∧ wr.frozen? ⟨w.heap.size + 1, 1, none⟩ = false ∧ wr.frozen? ⟨w.heap.size + 1, 2, none⟩ = false ∧ wr.frozen? ⟨w.heap.size + 1, 3, none⟩ = false) ∧ (wr.cell? ⟨w.heap.size, 0, none⟩ = some (.int .u64 (0)) ∧ wr.cell? ⟨w.heap.size, 1, none⟩ = some (.int .u64 (0)) ∧ wr.cell? ⟨w.heap.size, 2, none⟩ = some (.int .u64 (0)) ∧ wr.cell? ⟨w.heap.size, 3, none⟩ = some (.int .u64 (0)) ∧ w.heap.size < wr.heap.size) ∧ (wr.frozen? ⟨w.heap.size, 0, none⟩ = false ∧ wr.frozen? ⟨w.heap.size, 1, none⟩ = false ∧ wr.frozen? ⟨w.heap.size, 2, none⟩ = false ∧ wr.frozen? ⟨w.heap.size, 3, none⟩ = false) ∧ Below w.heap.size w wr) (fun ii _ => l.length - (intOf ii).toNat)
 case atStart => exact ⟨0, 0, 0, 0, 0, Nat.zero_le _, rfl, by simp [tots, d0], by simp [tots, d1], by simp [tots, d2], by simp [tots, d3], by exact kpb, by exact kpb, by exact kpb, by exact kpb, by exact kpb⟩
 case round =>
  obtain ⟨k, p0, p1, p2, p3, hk, rfl, h0, h1, h2, h3, ha, hfa, hr, hfr, hB⟩ := hrel
  by_cases hlt : k < l.length
  ·obtain ⟨b, o, rfl, hbl, hrr⟩ := (HR.out.below hB) k hlt
   have hc := HO.out k hlt
   have hbd := tots_bd (csv t) 79228162532711081662980096000 (l.take k) (fun cv hcv => by
    obtain ⟨j, hj, rfl⟩ := List.getElem_of_mem hcv
    rw [List.getElem_take]
    exact csv_bd (HO.out j (by simp at hj; omega)) ht)
   have hsucc := tots_succ (csv t) l k hlt
   have hfb := csv_bd hc ht
   have hlen : (l.take k).length = k := by rw [List.length_take]; omega
   rw [hlen] at hbd
   have hmul : (k : Int) * 79228162532711081662980096000 ≤ 100 * 79228162532711081662980096000 := Int.mul_le_mul_of_nonneg_right (by omega) (by omega)
   have HS := Lib.hid hsucc
   clear hsucc
   generalize l[k] = cv at *
   obtain ⟨m1, d, m2⟩ := cv
   have e0 : wr.cell? ⟨b, o + k * 3, none⟩ = some (.int .u64 m1) := hrr 0 _ rfl
   have e1 : wr.cell? ⟨b, o + k * 3 + 1, none⟩ = some (.int .u64 d) := hrr 1 _ rfl
   have e2 : wr.cell? ⟨b, o + k * 3 + 2, none⟩ = some (.int .u64 m2) := hrr 2 _ rfl
   clear hrr
   have i1 : In m1 := hc.h1
   have i2 : In d := hc.h2
   have i3 : In m2 := hc.h3
   have hBs := hB.size
   have kc := fun z => rsv_c m1 d m2 t i1 i2 i3 ht z
   rw [show srv m1 d m2 t = csv t ⟨m1, d, m2⟩ from rfl] at kc
   generalize csv t ⟨m1, d, m2⟩ = F at *
   have hwF : Wd F := by unfold Wd; omega
   generalize tots (csv t) (l.take k) = S at *
   have hwS : Wd S := by unfold Wd; omega
   have ka := fun z => refplus_d S F hwS hwF z
   rw [← h0, ← h1, ← h2, ← h3] at ka
   have HP := Lib.hid (And.intro h0 (And.intro h1 (And.intro h2 h3)))
   clear hwS hwF h0 h1 h2 h3 hmul hlen hbd hfb
   generalize hq0 : d0 (S + F) = q0 at ka
   generalize hq1 : d1 (S + F) = q1 at ka
   generalize hq2 : d2 (S + F) = q2 at ka
   generalize hq3 : d3 (S + F) = q3 at ka
   have HQ := Lib.hid (And.intro hq0 (And.intro hq1 (And.intro hq2 hq3)))
   clear hq0 hq1 hq2 hq3
   generalize d0 F = f0 at *
   generalize d1 F = f1 at *
   generalize d2 F = f2 at *
   generalize d3 F = f3 at *
   have KA := Lib.hid ka
   have KC := Lib.hid kc
   clear ka kc hc
   go_wp2
   obtain ⟨Cl, HCl⟩ := zH (α := List Value → World → Prop) ((fun ps wz => (match ps with | [] => (wz.cell? ⟨w.heap.size + 1, 0, none⟩ = some (.int .u64 (p0)) ∧ wz.cell? ⟨w.heap.size + 1, 1, none⟩ = some (.int .u64 (p1)) ∧ wz.cell? ⟨w.heap.size + 1, 2, none⟩ = some (.int .u64 (p2)) ∧ wz.cell? ⟨w.heap.size + 1, 3, none⟩ = some (.int .u64 (p3)) ∧ w.heap.size + 1 < wz.heap.size) | _ => (wz.cell? ⟨w.heap.size + 1, 0, none⟩ = some (.int .u64 (q0)) ∧ wz.cell? ⟨w.heap.size + 1, 1, none⟩ = some (.int .u64 (q1)) ∧ wz.cell? ⟨w.heap.size + 1, 2, none⟩ = some (.int .u64 (q2)) ∧ wz.cell? ⟨w.heap.size + 1, 3, none⟩ = some (.int .u64 (q3)) ∧ w.heap.size + 1 < wz.heap.size)) ∧ (wz.cell? ⟨wr.heap.size, 0, none⟩ = some (.int .u64 m1) ∧ wz.cell? ⟨wr.heap.size, 1, none⟩ = some (.int .u64 d) ∧ wz.cell? ⟨wr.heap.size, 2, none⟩ = some (.int .u64 m2) ∧ wr.heap.size < wz.heap.size) ∧ (wz.frozen? ⟨w.heap.size + 1, 0, none⟩ = false ∧ wz.frozen? ⟨w.heap.size + 1, 1, none⟩ = false ∧ wz.frozen? ⟨w.heap.size + 1, 2, none⟩ = false ∧ wz.frozen? ⟨w.heap.size + 1, 3, none⟩ = false) ∧ (wz.cell? ⟨w.heap.size, 0, none⟩ = some (.int .u64 (0)) ∧ wz.cell? ⟨w.heap.size, 1, none⟩ = some (.int .u64 (0)) ∧ wz.cell? ⟨w.heap.size, 2, none⟩ = some (.int .u64 (0)) ∧ wz.cell? ⟨w.heap.size, 3, none⟩ = some (.int .u64 (0)) ∧ w.heap.size < wz.heap.size) ∧ (wz.frozen? ⟨w.heap.size, 0, none⟩ = false ∧ wz.frozen? ⟨w.heap.size, 1, none⟩ = false ∧ wz.frozen? ⟨w.heap.size, 2, none⟩ = false ∧ wz.frozen? ⟨w.heap.size, 3, none⟩ = false) ∧ w.heap.size + 1 < wr.heap.size ∧ wr.heap.size ≤ wz.heap.size ∧ Below w.heap.size w wz)); refine wp_region_eff [5] Cl (by kernel_rfl) (by kernel_rfl) (by simp only [HCl.out, zD, zE]; exact kpb) ?_
   (repeat ((first | (refine wE_skip (by rfl) ?_) | (refine wE_open (by rfl) (by rfl) ?_; apply Exists.intro; refine ⟨fun vs wq hw => ?_, ?_⟩; (focus (simp only [HCl.out, zD, zE] at hw; go_split_ands; go_simp <;> exact ebb))) | (refine wE_seal (by rfl) (by rfl) (by kernel_rfl) ?_; apply Exists.intro; refine ⟨fun wq hw => ?_, ?_⟩; (focus (simp only [HCl.out, zD, zE] at hw; go_split_ands; go_simp <;> (try go_bits) <;> exact rfl))) | (refine wE_seal (by rfl) (by rfl) (by kernel_rfl) ?_; apply Exists.intro; refine ⟨fun wq hw => ?_, ?_⟩; (focus (simp only [HCl.out, zD, zE] at hw; go_split_ands; go_simp; (first | (go_at_call 121; ((with_reducible refine (KC.out _).mono ?_); rintro e w' ⟨rfl, hbel⟩; obtain ⟨hcc, hff⟩ := bcell hbel; have hsz := hbel.size; (try simp at hsz); refine ⟨rfl, ?_⟩; simp only [HCl.out, zD, zE]; exact kpb)) | (go_at_call 120; ((with_reducible refine (KA.out _).mono ?_); rintro e w' ⟨rfl, hbel⟩; obtain ⟨hcc, hff⟩ := bcell hbel; have hsz := hbel.size; (try simp at hsz); refine ⟨rfl, ?_⟩; simp only [HCl.out, zD, zE]; exact kpb)))))) | (refine wE_eff (by rfl) (by rfl) (fun wq hw => ?_) (fun u hu => ?_); (focus (simp only [HCl.out, zD, zE] at hw; go_split_ands; go_simp; simp only [HCl.out, zD, zE]; skip; exact kpb)); clear hu)); simp only [Act.put, Nat.reduceAdd, zA, zB, zC, zD, zE]))
   refine wE_nil ?_; intro w' hw; simp only [HCl.out, zD, zE] at hw; clear HCl
   go_split_ands
   go_wp2
   go_roundw
   case rel =>
    refine ⟨k + 1, q0, q1, q2, q3, by omega, by go_num, ?_, ?_, ?_, ?_, by exact kpb, by exact kpb, by exact kpb, by exact kpb, by assumption⟩
    ·rw [HS.out, ← HQ.out.1]
    ·rw [HS.out, ← HQ.out.2.1]
    ·rw [HS.out, ← HQ.out.2.2.1]
    ·rw [HS.out, ← HQ.out.2.2.2]
   case measure => simp [intOf]; omega
  ·obtain rfl : k = l.length := by omega
   rw [List.take_length] at h0 h1 h2 h3
   have HP := Lib.hid (And.intro h0 (And.intro h1 (And.intro h2 h3)))
   clear h0 h1 h2 h3
   go_wp2
   refine bodyPost_ret (v := .agg #[.int .u64 p0, .int .u64 p1, .int .u64 p2, .int .u64 p3]) (by simp [results, Tryz.results95, go_sem, *]) rfl ⟨(by rw [HP.out.1, HP.out.2.1, HP.out.2.2.1, HP.out.2.2.2]), blb⟩
end Go.Proofs.YtffaahipgabkhaaGreat
end
section
namespace Go.Proofs.YtffaahipgabkhaaGreat
open Go.RowKit Fg Reg
attribute [local irreducible] Reg.wE
theorem rslope_c (l : List Cv) (a : Option Addr) (c : Nat) (hn : l.length ≤ 100) (hok : ∀ k (h : k < l.length), l[k].ok) (w : World) (hR : RwV Cv.cells 3 w a l) :
  Calls Tryz.prog 96 #[.slice a l.length c, .bool false] w fun ee w' => ee = .returned (.agg #[.int .u64 (d0 (tots csl l)), .int .u64 (d1 (tots csl l)), .int .u64 (d2 (tots csl l)), .int .u64 (d3 (tots csl l))]) ∧ Below w.heap.size w w' := by
 have HR := Lib.hid hR
 have HO := Lib.hid hok
 clear hR hok
 go_enter Tryz.func96, Tryz.ntmps96
 go_wp2
 go_loopw [12] (fun ii wr => ∃ (k : Nat) (p0 p1 p2 p3 : Int), k ≤ l.length ∧ ii = .int .i64 k ∧ p0 = d0 (tots csl (l.take k)) ∧ p1 = d1 (tots csl (l.take k)) ∧ p2 = d2 (tots csl (l.take k)) ∧ p3 = d3 (tots csl (l.take k)) ∧ (wr.cell? ⟨w.heap.size + 1, 0, none⟩ = some (.int .u64 (p0)) ∧ wr.cell? ⟨w.heap.size + 1, 1, none⟩ = some (.int .u64 (p1)) ∧ wr.cell? ⟨w.heap.size + 1, 2, none⟩ = some (.int .u64 (p2)) ∧ wr.cell? ⟨w.heap.size + 1, 3, none⟩ = some (.int .u64 (p3)) ∧ w.heap.size + 1 < wr.heap.size) ∧ (wr.frozen? ⟨w.heap.size + 1, 0, none⟩ = false ∧ wr.frozen? ⟨w.heap.size + 1, 1, none⟩ = false ∧ wr.frozen? ⟨w.heap.size + 1, 2, none⟩ = false ∧ wr.frozen? ⟨w.heap.size + 1, 3, none⟩ = false) ∧ (wr.cell? ⟨w.heap.size, 0, none⟩ = some (.int .u64 (0)) ∧ wr.cell? ⟨w.heap.size, 1, none⟩ = some (.int .u64 (0)) ∧ wr.cell? ⟨w.heap.size, 2, none⟩ = some (.int .u64 (0)) ∧ wr.cell? ⟨w.heap.size, 3, none⟩ = some (.int .u64 (0)) ∧ w.heap.size < wr.heap.size) ∧ (wr.frozen? ⟨w.heap.size, 0, none⟩ = false ∧ wr.frozen? ⟨w.heap.size, 1, none⟩ = false ∧ wr.frozen? ⟨w.heap.size, 2, none⟩ = false ∧ wr.frozen? ⟨w.heap.size, 3, none⟩ = false) ∧ Below w.heap.size w wr) (fun ii _ => l.length - (intOf ii).toNat)
 case atStart => exact ⟨0, 0, 0, 0, 0, Nat.zero_le _, rfl, by simp [tots, d0], by simp [tots, d1], by simp [tots, d2], by simp [tots, d3], by exact kpb, by exact kpb, by exact kpb, by exact kpb, by exact kpb⟩
 case round =>
  obtain ⟨k, p0, p1, p2, p3, hk, rfl, h0, h1, h2, h3, ha, hfa, hr, hfr, hB⟩ := hrel
  by_cases hlt : k < l.length
  ·obtain ⟨b, o, rfl, hbl, hrr⟩ := (HR.out.below hB) k hlt
   have hc := HO.out k hlt
   have hbd := tots_bd csl 79228162532711081662980096000 (l.take k) (fun cv hcv => by
    obtain ⟨j, hj, rfl⟩ := List.getElem_of_mem hcv
    rw [List.getElem_take]
    exact (fun h => ⟨h.1, by omega⟩) (csl_bd (HO.out j (by simp at hj; omega))))
   have hsucc := tots_succ csl l k hlt
   have hfb := csl_bd hc
   have hlen : (l.take k).length = k := by rw [List.length_take]; omega
   rw [hlen] at hbd
   have hmul : (k : Int) * 79228162532711081662980096000 ≤ 100 * 79228162532711081662980096000 := Int.mul_le_mul_of_nonneg_right (by omega) (by omega)
   have HS := Lib.hid hsucc
   clear hsucc
   generalize l[k] = cv at *
   obtain ⟨m1, d, m2⟩ := cv
   have e0 : wr.cell? ⟨b, o + k * 3, none⟩ = some (.int .u64 m1) := hrr 0 _ rfl
   have e1 : wr.cell? ⟨b, o + k * 3 + 1, none⟩ = some (.int .u64 d) := hrr 1 _ rfl
   have e2 : wr.cell? ⟨b, o + k * 3 + 2, none⟩ = some (.int .u64 m2) := hrr 2 _ rfl
   clear hrr
   have i1 : In m1 := hc.h1
   have i2 : In d := hc.h2
   have i3 : In m2 := hc.h3
   have hBs := hB.size
   have HSX := HS.out
   clear HS
   have hk := rkof_c m1 d m2 i1 i2 i3
   by_cases hk0 : kind m1 d m2 = 0
   ·rw [show csl ⟨m1, d, m2⟩ = 0 from if_pos hk0, Int.add_zero] at HSX
    rw [hk0] at hk
    have KO := Lib.hid hk
    have HS := Lib.hid HSX
    have HP := Lib.hid (And.intro h0 (And.intro h1 (And.intro h2 h3)))
    clear HSX hk hk0 h0 h1 h2 h3 hbd hfb hlen hmul hc
    generalize hgt : decide (m2 < m1) = gt
    cases gt
    all_goals
     go_wp2_with (go_at_call 63; ((with_reducible refine (KO.out _).mono ?_); rintro e w1 ⟨rfl, hbel⟩; obtain ⟨hcc, hff⟩ := bcell hbel; have hsz := hbel.size; (try simp at hsz); have hF : (((w1.cell? ⟨w.heap.size + 1, 0, none⟩ = some (.int .u64 (p0)) ∧ w1.cell? ⟨w.heap.size + 1, 1, none⟩ = some (.int .u64 (p1)) ∧ w1.cell? ⟨w.heap.size + 1, 2, none⟩ = some (.int .u64 (p2)) ∧ w1.cell? ⟨w.heap.size + 1, 3, none⟩ = some (.int .u64 (p3)) ∧ w.heap.size + 1 < w1.heap.size)) ∧ ((w1.frozen? ⟨w.heap.size + 1, 0, none⟩ = false ∧ w1.frozen? ⟨w.heap.size + 1, 1, none⟩ = false ∧ w1.frozen? ⟨w.heap.size + 1, 2, none⟩ = false ∧ w1.frozen? ⟨w.heap.size + 1, 3, none⟩ = false)) ∧ ((w1.cell? ⟨w.heap.size, 0, none⟩ = some (.int .u64 (0)) ∧ w1.cell? ⟨w.heap.size, 1, none⟩ = some (.int .u64 (0)) ∧ w1.cell? ⟨w.heap.size, 2, none⟩ = some (.int .u64 (0)) ∧ w1.cell? ⟨w.heap.size, 3, none⟩ = some (.int .u64 (0)) ∧ w.heap.size < w1.heap.size)) ∧ ((w1.frozen? ⟨w.heap.size, 0, none⟩ = false ∧ w1.frozen? ⟨w.heap.size, 1, none⟩ = false ∧ w1.frozen? ⟨w.heap.size, 2, none⟩ = false ∧ w1.frozen? ⟨w.heap.size, 3, none⟩ = false)) ∧ w.heap.size + 1 < wr.heap.size ∧ wr.heap.size ≤ w1.heap.size ∧ Below w.heap.size w w1) := (by exact kpb); go_split_ands; clear hcc hff hbel))
     go_roundw
     case rel =>
      refine ⟨k + 1, p0, p1, p2, p3, by omega, by go_num, ?_, ?_, ?_, ?_, by exact kpb, by exact kpb, by exact kpb, by exact kpb, by assumption⟩
      ·rw [HS.out, ← HP.out.1]
      ·rw [HS.out, ← HP.out.2.1]
      ·rw [HS.out, ← HP.out.2.2.1]
      ·rw [HS.out, ← HP.out.2.2.2]
     case measure => simp [intOf]; omega
   have hkb : (kind m1 d m2 == 0) = false := by simpa using hk0
   obtain ⟨F, hF, hFI⟩ : ∃ F, csl ⟨m1, d, m2⟩ = F ∧ In F := ⟨_, rfl, by have h1 := hfb.1; have h2 := hfb.2; unfold In; omega⟩
   have hFm : F = m2 := by rw [← hF]; exact if_neg hk0
   rw [hF] at HSX hfb
   have HS := Lib.hid HSX
   have kc := fun z => refof_c F hFI z
   have hwF : Wd F := in_wd hFI
   generalize kind m1 d m2 = kd at *
   have KO := Lib.hid hk
   clear HSX hk hk0 hF hFI
   skip
   have HFM := Lib.hid hFm
   generalize tots csl (l.take k) = S at *
   have hwS : Wd S := by unfold Wd; omega
   have ka := fun z => refplus_d S F hwS hwF z
   rw [← h0, ← h1, ← h2, ← h3] at ka
   have HP := Lib.hid (And.intro h0 (And.intro h1 (And.intro h2 h3)))
   clear hwS hwF h0 h1 h2 h3 hmul hlen hbd hfb
   generalize hq0 : d0 (S + F) = q0 at ka
   generalize hq1 : d1 (S + F) = q1 at ka
   generalize hq2 : d2 (S + F) = q2 at ka
   generalize hq3 : d3 (S + F) = q3 at ka
   have HQ := Lib.hid (And.intro hq0 (And.intro hq1 (And.intro hq2 hq3)))
   clear hq0 hq1 hq2 hq3
   generalize d0 F = f0 at *
   generalize d1 F = f1 at *
   generalize d2 F = f2 at *
   generalize d3 F = f3 at *
   have KA := Lib.hid ka
   clear ka hc
   rw [hFm] at kc
   have KC := Lib.hid kc
   clear kc hFm
   go_wp2_with (go_at_call 63; ((with_reducible refine (KO.out _).mono ?_); rintro e w1 ⟨rfl, hbel⟩; obtain ⟨hcc, hff⟩ := bcell hbel; have hsz := hbel.size; (try simp at hsz); have hF : (((w1.cell? ⟨w.heap.size + 1, 0, none⟩ = some (.int .u64 (p0)) ∧ w1.cell? ⟨w.heap.size + 1, 1, none⟩ = some (.int .u64 (p1)) ∧ w1.cell? ⟨w.heap.size + 1, 2, none⟩ = some (.int .u64 (p2)) ∧ w1.cell? ⟨w.heap.size + 1, 3, none⟩ = some (.int .u64 (p3)) ∧ w.heap.size + 1 < w1.heap.size)) ∧ ((w1.frozen? ⟨w.heap.size + 1, 0, none⟩ = false ∧ w1.frozen? ⟨w.heap.size + 1, 1, none⟩ = false ∧ w1.frozen? ⟨w.heap.size + 1, 2, none⟩ = false ∧ w1.frozen? ⟨w.heap.size + 1, 3, none⟩ = false)) ∧ ((w1.cell? ⟨w.heap.size, 0, none⟩ = some (.int .u64 (0)) ∧ w1.cell? ⟨w.heap.size, 1, none⟩ = some (.int .u64 (0)) ∧ w1.cell? ⟨w.heap.size, 2, none⟩ = some (.int .u64 (0)) ∧ w1.cell? ⟨w.heap.size, 3, none⟩ = some (.int .u64 (0)) ∧ w.heap.size < w1.heap.size)) ∧ ((w1.frozen? ⟨w.heap.size, 0, none⟩ = false ∧ w1.frozen? ⟨w.heap.size, 1, none⟩ = false ∧ w1.frozen? ⟨w.heap.size, 2, none⟩ = false ∧ w1.frozen? ⟨w.heap.size, 3, none⟩ = false)) ∧ w.heap.size + 1 < wr.heap.size ∧ wr.heap.size ≤ w1.heap.size ∧ Below w.heap.size w w1) := (by exact kpb); go_split_ands; clear hcc hff hbel))
   obtain ⟨Cl, HCl⟩ := zH (α := List Value → World → Prop) ((fun ps wz => (match ps with | [] => (wz.cell? ⟨w.heap.size + 1, 0, none⟩ = some (.int .u64 (p0)) ∧ wz.cell? ⟨w.heap.size + 1, 1, none⟩ = some (.int .u64 (p1)) ∧ wz.cell? ⟨w.heap.size + 1, 2, none⟩ = some (.int .u64 (p2)) ∧ wz.cell? ⟨w.heap.size + 1, 3, none⟩ = some (.int .u64 (p3)) ∧ w.heap.size + 1 < wz.heap.size) | _ => (wz.cell? ⟨w.heap.size + 1, 0, none⟩ = some (.int .u64 (q0)) ∧ wz.cell? ⟨w.heap.size + 1, 1, none⟩ = some (.int .u64 (q1)) ∧ wz.cell? ⟨w.heap.size + 1, 2, none⟩ = some (.int .u64 (q2)) ∧ wz.cell? ⟨w.heap.size + 1, 3, none⟩ = some (.int .u64 (q3)) ∧ w.heap.size + 1 < wz.heap.size)) ∧ (wz.frozen? ⟨w.heap.size + 1, 0, none⟩ = false ∧ wz.frozen? ⟨w.heap.size + 1, 1, none⟩ = false ∧ wz.frozen? ⟨w.heap.size + 1, 2, none⟩ = false ∧ wz.frozen? ⟨w.heap.size + 1, 3, none⟩ = false) ∧ (wz.cell? ⟨w.heap.size, 0, none⟩ = some (.int .u64 (0)) ∧ wz.cell? ⟨w.heap.size, 1, none⟩ = some (.int .u64 (0)) ∧ wz.cell? ⟨w.heap.size, 2, none⟩ = some (.int .u64 (0)) ∧ wz.cell? ⟨w.heap.size, 3, none⟩ = some (.int .u64 (0)) ∧ w.heap.size < wz.heap.size) ∧ (wz.frozen? ⟨w.heap.size, 0, none⟩ = false ∧ wz.frozen? ⟨w.heap.size, 1, none⟩ = false ∧ wz.frozen? ⟨w.heap.size, 2, none⟩ = false ∧ wz.frozen? ⟨w.heap.size, 3, none⟩ = false) ∧ w.heap.size + 1 < wr.heap.size ∧ wr.heap.size ≤ wz.heap.size ∧ Below w.heap.size w wz)); refine wp_region_eff [4] Cl (by kernel_rfl) (by kernel_rfl) (by simp only [HCl.out, zD, zE]; exact kpb) ?_
   (repeat ((first | (refine wE_skip (by rfl) ?_) | (refine wE_open (by rfl) (by rfl) ?_; apply Exists.intro; refine ⟨fun vs wq hw => ?_, ?_⟩; (focus (simp only [HCl.out, zD, zE] at hw; go_split_ands; go_simp <;> exact ebb))) | (refine wE_seal (by rfl) (by rfl) (by kernel_rfl) ?_; apply Exists.intro; refine ⟨fun wq hw => ?_, ?_⟩; (focus (simp only [HCl.out, zD, zE] at hw; go_split_ands; go_simp <;> (try go_bits) <;> exact rfl))) | (refine wE_seal (by rfl) (by rfl) (by kernel_rfl) ?_; apply Exists.intro; refine ⟨fun wq hw => ?_, ?_⟩; (focus (simp only [HCl.out, zD, zE] at hw; go_split_ands; go_simp; (first | (go_at_call 122; ((with_reducible refine (KC.out _).mono ?_); rintro e w' ⟨rfl, hbel⟩; obtain ⟨hcc, hff⟩ := bcell hbel; have hsz := hbel.size; (try simp at hsz); refine ⟨rfl, ?_⟩; simp only [HCl.out, zD, zE]; exact kpb)) | (go_at_call 120; ((with_reducible refine (KA.out _).mono ?_); rintro e w' ⟨rfl, hbel⟩; obtain ⟨hcc, hff⟩ := bcell hbel; have hsz := hbel.size; (try simp at hsz); refine ⟨rfl, ?_⟩; simp only [HCl.out, zD, zE]; exact kpb)))))) | (refine wE_eff (by rfl) (by rfl) (fun wq hw => ?_) (fun u hu => ?_); (focus (simp only [HCl.out, zD, zE] at hw; go_split_ands; go_simp; simp only [HCl.out, zD, zE]; skip; exact kpb)); clear hu)); simp only [Act.put, Nat.reduceAdd, zA, zB, zC, zD, zE]))
   refine wE_nil ?_; intro w' hw; simp only [HCl.out, zD, zE] at hw; clear HCl
   go_split_ands
   go_wp2
   go_roundw
   case rel =>
    refine ⟨k + 1, q0, q1, q2, q3, by omega, by go_num, ?_, ?_, ?_, ?_, by exact kpb, by exact kpb, by exact kpb, by exact kpb, by assumption⟩
    ·rw [HS.out, ← HQ.out.1]
    ·rw [HS.out, ← HQ.out.2.1]
    ·rw [HS.out, ← HQ.out.2.2.1]
    ·rw [HS.out, ← HQ.out.2.2.2]
   case measure => simp [intOf]; omega
  ·obtain rfl : k = l.length := by omega
   rw [List.take_length] at h0 h1 h2 h3
   have HP := Lib.hid (And.intro h0 (And.intro h1 (And.intro h2 h3)))
   clear h0 h1 h2 h3
   go_wp2
   refine bodyPost_ret (v := .agg #[.int .u64 p0, .int .u64 p1, .int .u64 p2, .int .u64 p3]) (by simp [results, Tryz.results96, go_sem, *]) rfl ⟨(by rw [HP.out.1, HP.out.2.1, HP.out.2.2.1, HP.out.2.2.2]), blb⟩
end Go.Proofs.YtffaahipgabkhaaGreat
end
