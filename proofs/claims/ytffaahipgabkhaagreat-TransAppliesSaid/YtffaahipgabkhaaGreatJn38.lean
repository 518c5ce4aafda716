/- Joined texts. -/
import Derived.Test.YtffaahipgabkhaaGreatJn0
import Derived.Test.YtffaahipgabkhaaGreatJn23
import Derived.Test.YtffaahipgabkhaaGreatJn37
set_option linter.unusedVariables false
set_option linter.unusedSimpArgs false
set_option maxRecDepth 100000
set_option maxHeartbeats 16000000
section
namespace Go.Proofs.YtffaahipgabkhaaGreat
open Go.RowKit Fg Reg Go.Sort
attribute [local irreducible] Reg.wE Holds QS
theorem find_no (p : Int → Bool) : ∀ (K : List Int), (∀ i, i < K.length → p (K.getD i 0) = false) → K.find? p = none
 | [], _ => rfl
 | x :: K, h => by
  rw [List.find?_cons_of_neg (by have := h 0 (by simp); simp [List.getD] at this; simp [this])]
  exact find_no p K fun i hi => by have := h (i + 1) (by simpa using hi); simpa [List.getD] using this
theorem find_at (p : Int → Bool) : ∀ (K : List Int) (j : Nat), j < K.length → (∀ i, i < j → p (K.getD i 0) = false) → p (K.getD j 0) = true → K.find? p = some (K.getD j 0)
 | [], j, hj, _, _ => absurd hj (by simp)
 | x :: K, 0, _, _, h => by
  rw [List.find?_cons_of_pos (by simpa [List.getD] using h)]
  simp [List.getD]
 | x :: K, j + 1, hj, hn, h => by
  rw [List.find?_cons_of_neg (by have := hn 0 (by omega); simp [List.getD] at this; simp [this])]
  rw [find_at p K j (by simpa using hj) (fun i hi => by have := hn (i + 1) (by omega); simpa [List.getD] using this) (by simpa [List.getD] using h)]
  simp [List.getD]
theorem ifu_c (T : Int) (h1 : 1 ≤ T) (h2 : T ≤ 65536) (l : List Cv) (a : Option Addr) (c : Nat) (hn : l.length ≤ 100) (hok : (∀ k (h : k < l.length), l[k].ok)) (x2 x3 : Nat) (K : List Int) (hKl : K.length ≤ 100) (hK : ∀ k ∈ K, 0 < k ∧ k ≤ 1048576) (p : Option Addr) (cp : Nat) (w : World) (hR : RwV Cv.cells 3 w a l) (hc : (w.cell? ⟨x3, 0, none⟩ = some (.slice a l.length c) ∧ w.cell? ⟨x2, 0, none⟩ = some (.int .i64 T) ∧ x3 < w.heap.size ∧ x2 < w.heap.size)) (hV : KV w p K) :
  Calls Tryz.prog 84 #[.slice p K.length cp, .func (.func 85) #[] #[.pointer (some ⟨x3, 0, none⟩), .pointer (some ⟨x2, 0, none⟩)]] w fun e w' => (∃ r : Int, e = .returned (.int .i64 r) ∧ ((r = -1 ∧ K.find? (fk T l) = none) ∨ ∃ j : Nat, r = j ∧ j < K.length ∧ K.find? (fk T l) = some (K.getD j 0))) ∧ Below w.heap.size w w' := by
 have KF := Lib.hid (fun (k : Int) (hk : 0 < k ∧ k ≤ 1048576) (z : World) (hz : Below w.heap.size w z) => af1_c T k h1 h2 (by omega) hk.2 l a c hn hok x2 x3 z (hR.below hz) (by
  obtain ⟨c3, c2, l3, l2⟩ := hc
  obtain ⟨hcc, hff⟩ := bcell hz
  have := hz.size
  exact ⟨(hcc _ _ l3).trans c3, (hcc _ _ l2).trans c2, by omega, by omega⟩))
 have HV := Lib.hid hV
 have HK := Lib.hid hK
 clear hR hok hc hV hK
 go_enter Tryz.func84, Tryz.ntmps84
 go_wp2
 go_loopw [8] (fun ii wr => ∃ k : Nat, k ≤ K.length ∧ ii = .int .i64 k ∧ (∀ i, i < k → fk T l (K.getD i 0) = false) ∧ Below w.heap.size w wr) (fun ii _ => K.length - (intOf ii).toNat)
 case atStart => exact ⟨0, Nat.zero_le _, rfl, fun _ h => absurd h (by omega), by exact kpb⟩
 case round =>
  obtain ⟨k, hk, rfl, hno, hB⟩ := hrel
  have HNO := Lib.hid hno
  clear hno
  have hBs := hB.size
  by_cases hlt : k < K.length
  ·obtain ⟨b1, o1, rfl, hbl1, hu1⟩ := (HV.out.below hB).at hlt
   have e1 := hu1 k hlt
   have kf := KF.out (K.getD k 0) (HK.out _ (by rw [show K.getD k 0 = K[k] by simp [List.getD, hlt]]; exact List.getElem_mem hlt)) wr hB
   clear hu1
   cases hfv : fk T l (K.getD k 0) with
   | true =>
    have HE := Lib.hid (find_at (fk T l) K k hlt HNO.out hfv)
    rw [hfv] at kf
    obtain ⟨y, hy⟩ : ∃ y, K.getD k 0 = y := ⟨_, rfl⟩
    rw [hy] at e1 kf
    have KFF := Lib.hid kf
    clear kf hfv hy
    go_wp2_with (go_at_call 85; ((with_reducible refine (KFF.out).mono ?_); rintro e w1 ⟨rfl, hbel⟩; obtain ⟨hcc, hff⟩ := bcell hbel; have hsz := hbel.size; (try simp at hsz); have hF : Below w.heap.size w w1 := (by exact kpb); go_split_ands; clear hcc hff hbel))
    go_ret
    exact ⟨⟨k, rfl, .inr ⟨k, rfl, hlt, HE.out⟩⟩, by assumption⟩
   | false =>
    have HNO2 := Lib.hid (fun i (h : i < k + 1) => show fk T l (K.getD i 0) = false from by
     by_cases hik : i = k
     ·subst hik; exact hfv
     ·exact HNO.out i (by omega))
    rw [hfv] at kf
    obtain ⟨y, hy⟩ : ∃ y, K.getD k 0 = y := ⟨_, rfl⟩
    rw [hy] at e1 kf
    have KFF := Lib.hid kf
    clear kf hfv hy
    go_wp2_with (go_at_call 85; ((with_reducible refine (KFF.out).mono ?_); rintro e w1 ⟨rfl, hbel⟩; obtain ⟨hcc, hff⟩ := bcell hbel; have hsz := hbel.size; (try simp at hsz); have hF : Below w.heap.size w w1 := (by exact kpb); go_split_ands; clear hcc hff hbel))
    go_roundw
    case rel => exact ⟨k + 1, by omega, by go_num, HNO2.out, by assumption⟩
    case measure => simp [intOf]; omega
  ·obtain rfl : k = K.length := by omega
   have HE := Lib.hid (find_no (fk T l) K HNO.out)
   go_wp2
   go_ret
   exact ⟨⟨-1, rfl, .inl ⟨rfl, HE.out⟩⟩, hB⟩
theorem fullr_no1 {T : Int} {l : List Cv} (h : tok T = false) : fullr T l = (0, false) := by unfold fullr; rw [if_neg (by simp [h])]
theorem fullr_no2 {T : Int} {l : List Cv} (h : lok l = false) : fullr T l = (0, false) := by unfold fullr; rw [if_neg (by simp [h])]
theorem fullr_ok {T : Int} {l : List Cv} (h : tok T = true) (h2 : lok l = true) : fullr T l = fullv T l := by unfold fullr; rw [if_pos (by simp [h, h2])]
theorem full_c (T : Int) (l : List Cv) (a : Option Addr) (c : Nat) (hn : l.length ≤ 100) (hok : (∀ k (h : k < l.length), l[k].ok)) (w : World) (hR : RwV Cv.cells 3 w a l) :
  Calls Tryz.prog 59 #[.int .i64 T, .slice a l.length c] w fun ee w' => ee = .returned (.tuple #[.int .u64 (fullr T l).1, .bool (fullr T l).2]) ∧ Below w.heap.size w w' := by
 have k1 := fun (z : World) => ticks_c T z
 have k2 := fun (z : World) (hz : Below w.heap.size w z) => aright_c l a c hn hok z (hR.below hz)
 cases ht : tok T with
 | false =>
  rw [fullr_no1 ht]
  rw [ht] at k1
  have K1 := Lib.hid k1
  clear k1 k2 hR hok ht
  go_enter Tryz.func59, Tryz.ntmps59
  go_wp2_with (first | go_guarded | (go_at_call 57; ((with_reducible refine (K1.out _).mono ?_); rintro e w1 ⟨rfl, hbel⟩; obtain ⟨hcc, hff⟩ := bcell hbel; have hsz := hbel.size; (try simp at hsz); have hF : Below w.heap.size w w1 := (by exact kpb); go_split_ands; clear hcc hff hbel)))
  (go_ret2; refine ⟨?_, ?_⟩; (focus (exact rfl)); exact blb)
 | true =>
  cases hlk : lok l with
  | false =>
   rw [fullr_no2 hlk]
   rw [ht] at k1
   rw [hlk] at k2
   have K1 := Lib.hid k1
   have K2 := Lib.hid k2
   clear k1 k2 hR hok ht hlk
   go_enter Tryz.func59, Tryz.ntmps59
   go_wp2_with (first
    | go_guarded
    | (go_at_call 57; ((with_reducible refine (K1.out _).mono ?_); rintro e w1 ⟨rfl, hbel⟩; obtain ⟨hcc, hff⟩ := bcell hbel; have hsz := hbel.size; (try simp at hsz); have hF : (w1.cell? ⟨w.heap.size + 1, 0, none⟩ = some (.slice a l.length c) ∧ w1.cell? ⟨w.heap.size, 0, none⟩ = some (.int .i64 T) ∧ w.heap.size < w1.heap.size ∧ w.heap.size + 1 < w1.heap.size) ∧ Below w.heap.size w w1 := (by exact kpb); go_split_ands; clear hcc hff hbel))
    | (go_at_call 58; ((with_reducible refine (K2.out _ blb).mono ?_); rintro e w2 ⟨rfl, hbel⟩; obtain ⟨hcc, hff⟩ := bcell hbel; have hsz := hbel.size; (try simp at hsz); have hF : Below w.heap.size w w2 := (by exact kpb); go_split_ands; clear hcc hff hbel)))
   (go_ret2; refine ⟨?_, ?_⟩; (focus (exact rfl)); exact blb)
  | true =>
   rw [fullr_ok ht hlk]
   have hT : 1 ≤ T ∧ T ≤ 65536 := by unfold tok at ht; simpa using ht
   obtain ⟨h1, h2⟩ := hT
   rw [ht] at k1
   rw [hlk] at k2
   have hmem : ∀ cv ∈ l, cv.ok := fun cv hcv => by
    obtain ⟨j, hj, rfl⟩ := List.getElem_of_mem hcv
    exact hok j hj
   have k3 := fun (z : World) (hz : Below w.heap.size w z) => kneesA_c l a c hn hok z (hR.below hz)
   have k4 := fun (p : Option Addr) (cp : Nat) (z : World) (hz : Below w.heap.size w z) hc hV => ifu_c T h1 h2 l a c hn hok w.heap.size (w.heap.size + 1) (kns l) (by have := kns_len l; omega) (fun k hk => kns_pos hmem hk) p cp z (hR.below hz) hc hV
   have k5 := fun (z : World) (hz : Below w.heap.size w z) => slope_c l a c hn hok z (hR.below hz)
   have k6 := fun (z : World) => ksc_ok T h1 (by omega) z
   have hL := slc_in hn hok
   have hfe := fe_cmp (T := T) (l := l) h1
   have hKl := kns_len l
   have hfv : fullv T l = ((kns l).find? (fk T l)).elim (0, fe T l) (fun k => (k, true)) := rfl
   rw [hfv]
   have hC : In (65536 / T) := by
    have q1 := Int.ediv_nonneg (show (0 : Int) ≤ 65536 by omega) (show 0 ≤ T by omega)
    have q2 := Int.ediv_le_self T (show (0 : Int) ≤ 65536 by omega)
    unfold In; omega
   obtain ⟨FD, hFD⟩ : ∃ FD, FD = (kns l).find? (fk T l) := ⟨_, rfl⟩
   rw [← hFD] at k4 ⊢
   generalize fe T l = FE at *
   generalize tots csl l = S at *
   generalize 65536 / T = C at *
   generalize kns l = K at *
   have hS : Wd S := by unfold Wd; omega
   have k7 := fun (z : World) => compare_c (hi S) (lo S) 0 C (hi_in _) (lo_in _) (by unfold In; omega) hC z
   rw [val_wd hS, show val 0 C = C by unfold val; omega] at k7
   generalize cmp S C = X at *
   generalize hi S = p at *
   generalize lo S = q at *
   have K1 := Lib.hid k1
   have K2 := Lib.hid k2
   have K3 := Lib.hid k3
   have K4 := Lib.hid k4
   have K5 := Lib.hid k5
   have K6 := Lib.hid k6
   have K7 := Lib.hid k7
   have K8 := Lib.hid of_c
   clear k1 k2 k3 k4 k5 k6 k7 hS hC hL hmem hR hok ht hlk hFD hfv
   go_enter Tryz.func59, Tryz.ntmps59
   go_wp2_with (first
    | go_guarded
    | (go_at_call 57; ((with_reducible refine (K1.out _).mono ?_); rintro e w1 ⟨rfl, hbel⟩; obtain ⟨hcc, hff⟩ := bcell hbel; have hsz := hbel.size; (try simp at hsz); have hF : (w1.cell? ⟨w.heap.size + 1, 0, none⟩ = some (.slice a l.length c) ∧ w1.cell? ⟨w.heap.size, 0, none⟩ = some (.int .i64 T) ∧ w.heap.size < w1.heap.size ∧ w.heap.size + 1 < w1.heap.size) ∧ Below w.heap.size w w1 := (by exact kpb); go_split_ands; clear hcc hff hbel))
    | (go_at_call 58; ((with_reducible refine (K2.out _ blb).mono ?_); rintro e w2 ⟨rfl, hbel⟩; obtain ⟨hcc, hff⟩ := bcell hbel; have hsz := hbel.size; (try simp at hsz); have hF : (w2.cell? ⟨w.heap.size + 1, 0, none⟩ = some (.slice a l.length c) ∧ w2.cell? ⟨w.heap.size, 0, none⟩ = some (.int .i64 T) ∧ w.heap.size < w2.heap.size ∧ w.heap.size + 1 < w2.heap.size) ∧ Below w.heap.size w w2 := (by exact kpb); go_split_ands; clear hcc hff hbel))
    | (go_at_call 83; ((with_reducible refine (K3.out _ blb).mono ?_); rintro e w3 ⟨⟨kp, kc, rfl, hk3⟩, hbel⟩; obtain ⟨hcc, hff⟩ := bcell hbel; have hsz := hbel.size; (try simp at hsz); have hF : (w3.cell? ⟨w.heap.size + 1, 0, none⟩ = some (.slice a l.length c) ∧ w3.cell? ⟨w.heap.size, 0, none⟩ = some (.int .i64 T) ∧ w.heap.size < w3.heap.size ∧ w.heap.size + 1 < w3.heap.size) ∧ Below w.heap.size w w3 := (by exact kpb); go_split_ands; clear hcc hff hbel)))
   with_reducible refine (K4.out _ _ _ (by with_reducible assumption) ⟨by with_reducible assumption, by with_reducible assumption, by omega, by omega⟩ hk3).mono ?_
   rintro e w4 ⟨⟨r, rfl, hr⟩, hbel⟩
   obtain ⟨hcc, hff⟩ := bcell hbel
   have hsz := hbel.size
   have hk4 := hk3.below hbel
   have hF : (w4.cell? ⟨w.heap.size + 1, 0, none⟩ = some (.slice a l.length c) ∧ w4.cell? ⟨w.heap.size, 0, none⟩ = some (.int .i64 T) ∧ w.heap.size < w4.heap.size ∧ w.heap.size + 1 < w4.heap.size) ∧ Below w.heap.size w w4 := (by exact kpb); go_split_ands
   clear hcc hff hbel hk3
   rcases hr with ⟨rfl, rfl⟩ | ⟨j, rfl, hj, rfl⟩
   ·clear hk4
    dsimp only [Option.elim]
    go_wp2_with go_guarded
    obtain ⟨Cl, HCl⟩ := zH (α := List Value → World → Prop) ((fun ps wz => wz.cell? ⟨w.heap.size + 1, 0, none⟩ = some (.slice a l.length c) ∧ wz.cell? ⟨w.heap.size, 0, none⟩ = some (.int .i64 T) ∧ w.heap.size < wz.heap.size ∧ w.heap.size + 1 < wz.heap.size ∧ w.heap.size + 1 < w4.heap.size ∧ w4.heap.size ≤ wz.heap.size ∧ Below w.heap.size w wz)); refine wp_region_eff [] Cl (by kernel_rfl) (by kernel_rfl) (by simp only [HCl.out, zD, zE]; exact kpb) ?_
    (repeat ((first | (refine wE_skip (by rfl) ?_) | (refine wE_open (by rfl) (by rfl) ?_; apply Exists.intro; refine ⟨fun vs wq hw => ?_, ?_⟩; (focus (simp only [HCl.out, zD, zE] at hw; go_split_ands; go_simp <;> exact ebb))) | (refine wE_seal (by rfl) (by rfl) (by kernel_rfl) ?_; apply Exists.intro; refine ⟨fun wq hw => ?_, ?_⟩; (focus (simp only [HCl.out, zD, zE] at hw; go_split_ands; go_simp <;> (try go_bits) <;> exact rfl))) | (refine wE_seal (by rfl) (by rfl) (by kernel_rfl) ?_; apply Exists.intro; refine ⟨fun wq hw => ?_, ?_⟩; (focus (simp only [HCl.out, zD, zE] at hw; go_split_ands; go_simp; (first | (go_at_call 90; ((with_reducible refine (K5.out _ (by with_reducible assumption)).mono ?_); rintro e w' ⟨rfl, hbel⟩; obtain ⟨hcc, hff⟩ := bcell hbel; have hsz := hbel.size; (try simp at hsz); refine ⟨rfl, ?_⟩; simp only [HCl.out, zD, zE]; exact kpb)) | (go_at_call 91; ((with_reducible refine (K6.out _).mono ?_); rintro e w' ⟨rfl, hbel⟩; obtain ⟨hcc, hff⟩ := bcell hbel; have hsz := hbel.size; (try simp at hsz); refine ⟨rfl, ?_⟩; simp only [HCl.out, zD, zE]; exact kpb)) | (go_at_call 88; ((with_reducible refine (K8.out _ _).mono ?_); rintro e w' ⟨rfl, hbel⟩; obtain ⟨hcc, hff⟩ := bcell hbel; have hsz := hbel.size; (try simp at hsz); refine ⟨rfl, ?_⟩; simp only [HCl.out, zD, zE]; exact kpb)) | (go_at_call 86; ((with_reducible refine (K7.out _).mono ?_); rintro e w' ⟨rfl, hbel⟩; obtain ⟨hcc, hff⟩ := bcell hbel; have hsz := hbel.size; (try simp at hsz); refine ⟨rfl, ?_⟩; simp only [HCl.out, zD, zE]; exact kpb)))))) | (refine wE_eff (by rfl) (by rfl) (fun wq hw => ?_) (fun u hu => ?_); (focus (simp only [HCl.out, zD, zE] at hw; go_split_ands; go_simp; simp only [HCl.out, zD, zE]; skip; exact kpb)); clear hu)); simp only [Act.put, Nat.reduceAdd, zA, zB, zC, zD, zE]))
    refine wE_nil ?_; intro w' hw; simp only [HCl.out, zD, zE] at hw; clear HCl
    go_split_ands
    go_wp2
    (go_ret2; refine ⟨?_, ?_⟩; (focus (exact rfl)); exact blb)
   ·obtain ⟨b1, o1, rfl, hbl1, hu1⟩ := hk4.at hj
    have e1 := hu1 j hj
    clear hu1 hk4
    obtain ⟨y, hy⟩ : ∃ y, K.getD j 0 = y := ⟨_, rfl⟩
    rw [hy] at e1
    have HY := Lib.hid hy
    clear hy
    go_wp2_with go_guarded
    go_ret2
    refine ⟨?_, ?_⟩
    focus (rw [HY.out]; rfl)
    exact blb
theorem fits_c (T : Int) (l : List Cv) (a : Option Addr) (c : Nat) (hn : l.length ≤ 100) (hok : (∀ k (h : k < l.length), l[k].ok)) (w : World) (hR : RwV Cv.cells 3 w a l) :
  Calls Tryz.prog 26 #[.int .i64 T, .slice a l.length c] w fun ee w' => ee = .returned (.int .i64 (fitr T l)) ∧ Below w.heap.size w w' := by
 have k1 := fun (z : World) => ticks_c T z
 have k2 := fun (z : World) (hz : Below w.heap.size w z) => aright_c l a c hn hok z (hR.below hz)
 have k3 := fun (z : World) (hz : Below w.heap.size w z) => full_c T l a c hn hok z (hR.below hz)
 have hft : fitr T l = if tok T = false then 1 else if lok l = false then 21 else if (fullr T l).2 = true then 22 else 0 := by
  unfold fitr
  cases ht : tok T
  ·rfl
  ·cases hl : lok l
   ·rfl
   ·rw [fullr_ok ht hl]
 rw [hft]
 generalize fullr T l = FR at *
 obtain ⟨fa, fb⟩ := FR
 dsimp only at k3 ⊢
 generalize tok T = tk at *
 generalize lok l = lk at *
 have K1 := Lib.hid k1
 have K2 := Lib.hid k2
 have K3 := Lib.hid k3
 clear k1 k2 k3 hR hok hft
 cases tk <;> cases lk <;> cases fb
 all_goals
  go_enter Tryz.func26, Tryz.ntmps26
  go_wp2_with (first
   | go_guarded
   | (go_at_call 57; ((with_reducible refine (K1.out _).mono ?_); rintro e w1 ⟨rfl, hbel⟩; obtain ⟨hcc, hff⟩ := bcell hbel; have hsz := hbel.size; (try simp at hsz); have hF : Below w.heap.size w w1 := (by exact kpb); go_split_ands; clear hcc hff hbel))
   | (go_at_call 58; ((with_reducible refine (K2.out _ blb).mono ?_); rintro e w2 ⟨rfl, hbel⟩; obtain ⟨hcc, hff⟩ := bcell hbel; have hsz := hbel.size; (try simp at hsz); have hF : Below w.heap.size w w2 := (by exact kpb); go_split_ands; clear hcc hff hbel))
   | (go_at_call 59; ((with_reducible refine (K3.out _ blb).mono ?_); rintro e w3 ⟨rfl, hbel⟩; obtain ⟨hcc, hff⟩ := bcell hbel; have hsz := hbel.size; (try simp at hsz); have hF : Below w.heap.size w w3 := (by exact kpb); go_split_ands; clear hcc hff hbel)))
  (go_ret; refine ⟨?_, ?_⟩; (focus (exact rfl)); exact blb)
end Go.Proofs.YtffaahipgabkhaaGreat
end
section
namespace Go.Proofs.YtffaahipgabkhaaGreat
open Go.RowKit Fg Reg Go.Maps Go.Shelf
attribute [local irreducible] Reg.wE VR
def cvo (c : Cls) : Cv := ⟨c.ra, c.rb, c.rc⟩
def ftg (T : Int) (F : Int → Option Cls) (M : List Int) : Int := fitr T ((rls F (M.filter (sel F Cls.leaf))).map cvo)
theorem rls_in {F : Int → Option Cls} {M : List Int} (I : TI F M) (K : List Int) : ∀ c ∈ rls F K, CIn c := fun c hc => by
 obtain ⟨h, _⟩ := List.mem_filter.1 hc
 obtain ⟨x, _, rfl⟩ := List.mem_map.1 h
 exact gcl_in I x
theorem kf_c (T : Int) : ∀ F M, TI F M → ∀ (z : World) (base : Nat) (v : Value), z.ownsRow base 46 3 v (rls F (M.filter (sel F Cls.leaf))).length ((rls F (M.filter (sel F Cls.leaf))).flatMap crt) → Calls Tryz.prog 26 #[.int .i64 T, v] z fun ee w' => ee = .returned (.int .i64 (ftg T F M)) ∧ Below z.heap.size z w' := fun F M I z base v h => by
 obtain ⟨ao, cap, rfl⟩ := row_form h
 have hin := rls_in I (M.filter (sel F Cls.leaf))
 have hle := Nat.le_trans (rls_len F (M.filter (sel F Cls.leaf))) (Nat.le_trans (List.length_filter_le _ _) I.len)
 unfold ftg
 obtain ⟨R, hR⟩ : ∃ R, rls F (M.filter (sel F Cls.leaf)) = R := ⟨_, rfl⟩
 rw [hR] at h hin hle ⊢
 have hX : (R.map cvo).flatMap Cv.cells = R.flatMap crt := by rw [List.flatMap_map]; rfl
 rw [← hX] at h
 have hl : (R.map cvo).length = R.length := List.length_map _
 have hr := own_rwv (cells := Cv.cells) (s := 3) (fun _ => rfl) h hl
 rw [← hl]
 exact fits_c T _ ao cap (by omega) (fun k hk => by
  rw [List.getElem_map]
  have := hin _ (List.getElem_mem (by rw [← hl]; exact hk))
  exact ⟨this.ra, this.rb, this.rc⟩) z hr
end Go.Proofs.YtffaahipgabkhaaGreat
end
