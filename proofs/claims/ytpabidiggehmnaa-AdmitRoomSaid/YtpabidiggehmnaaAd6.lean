/- Room; the laws' example. -/
import Derived.Test.YtpabidiggehmnaaAd5
import Derived.Test.YtpabidiggehmnaaRatioA
namespace Go.Proofs.Ytpabidiggehmnaa
set_option linter.unusedVariables false
set_option linter.unusedSimpArgs false
set_option maxRecDepth 100000
open Go.RowKit Fg Reg Go.Sort
attribute [local irreducible] Reg.wE Holds QS

theorem run_mn (a b : Int) (w : World) : (Builtin.min_ #[23, 23] 23 #[.int .u64 a, .int .u64 b]).run Try.prog w = .ok (.int .u64 (mn a b)) w := by
  unfold mn; simp [Builtin.min_, Builtin.min2]
theorem room_succ (T : Int) (l : List Cv) (K : List Int) (k : Nat) (h : k < K.length) : room T l (K.take (k + 1)) = mn (room T l (K.take k)) (rest T l (K.getD k 0)) := by
  unfold room
  rw [List.take_succ_eq_append_getElem h, List.foldl_append, show K.getD k 0 = K[k] by simp [List.getD, h]]; rfl
theorem room_bd {T : Int} {l : List Cv} (hok : ∀ c ∈ l, c.ok) (h : Adm T l) (k : Nat) : 0 ≤ room T l ((kns l).take k) ∧ room T l ((kns l).take k) ≤ 65536 := by
  have hT := h.t1
  have hr := room_le T l ((kns l).take k) (65536 / T - tots csl l)
  have hrm : room T l ((kns l).take k) = ((kns l).take k).foldl (fun r k => mn r (rest T l k)) (65536 / T - tots csl l) := rfl
  dsimp only at hr
  rw [← hrm] at hr
  obtain ⟨r1, r2, r3⟩ := hr
  have hSn := tots_nn csl l (fun c hc => (csl_bd (hok c hc)).1)
  have hS : tots csl l ≤ 65536 / T := (le_div (by omega)).2 h.en
  have hT6 : 65536 / T ≤ 65536 := Int.ediv_le_self _ (by omega)
  refine ⟨?_, by omega⟩
  rcases r3 with r3 | ⟨q, hq, r3⟩
  · omega
  · rw [r3]
    have hq2 := List.mem_of_mem_take hq
    have hp := (kns_pos hok hq2).1
    have := (le_div (a := tots (csv q) l) (b := 65536 * q) (show 0 < T by omega)).2 (h.kn q hq2)
    exact Int.ediv_nonneg (by omega) (by omega)
theorem hi_small {x : Int} (h0 : 0 ≤ x) (h1 : x ≤ 18446744073709551615) : hi x = 0 ∧ lo x = x := by unfold hi lo; omega
set_option maxHeartbeats 8000000 in
theorem room_c (T : Int) (l : List Cv) (a : Option Addr) (c : Nat) (hn : l.length ≤ 100) (hok : (∀ k (h : k < l.length), l[k].ok)) (w : World) (hR : RwV Cv.cells 3 w a l) :
    Calls Try.prog 29 #[.int .i64 T, .slice a l.length c] w fun ee w' => ee = .returned (.tuple #[.int .u64 ((if fitr T l = 0 then room T l (kns l) else 0)), .int .i64 (fitr T l)]) ∧ Below w.heap.size w w' := by
  have k1 := fun (z : World) (hz : Below w.heap.size w z) => fits_c T l a c hn hok z (hR.below hz)
  by_cases hf : fitr T l = 0
  · rw [if_pos hf, hf]
    rw [hf] at k1
    have hA := fit_adm.1 hf
    have h1 := hA.t1
    have h2 := hA.t2
    have hmem : ∀ cv ∈ l, cv.ok := fun cv hcv => by
      obtain ⟨j, hj, rfl⟩ := List.getElem_of_mem hcv
      exact hok j hj
    have k2 := fun (z : World) => ksc_ok T h1 (by omega) z
    have k3 := fun (z : World) (hz : Below w.heap.size w z) => slope_c l a c hn hok z (hR.below hz)
    have k4 := fun (z : World) (hz : Below w.heap.size w z) => kneesA_c l a c hn hok z (hR.below hz)
    have hS0 := tots_nn csl l (fun c hc => (csl_bd (hmem c hc)).1)
    have hS : tots csl l ≤ 65536 / T := (le_div (by omega)).2 hA.en
    have hT6 : 65536 / T ≤ 65536 := Int.ediv_le_self _ (by omega)
    obtain ⟨e1, e2⟩ := hi_small hS0 (by omega)
    rw [e1, e2] at k3
    have hF : ∀ (p q : Int) (z : World), (Instr.field 29 (.agg #[.int .u64 p, .int .u64 q]) 1).run Try.prog z = .ok (.int .u64 q) z := fun p q z => by kernel_rfl
    have hMN := run_mn
    have W1 : IntKind.u64.wrap (65536 / T - tots csl l) = 65536 / T - tots csl l := by rw [IntKind.wrap_u64]; omega
    have hr0 : room T l ((kns l).take 0) = 65536 / T - tots csl l := rfl
    have hKl := kns_len l
    have HRS := Lib.hid (fun k => room_succ T l (kns l) k)
    have HRB := Lib.hid (fun k => room_bd hmem hA k)
    have HKP := Lib.hid (fun k hk => kns_pos hmem (k := k) hk)
    have HKN := Lib.hid (fun k (hk : k ∈ kns l) => (le_div (a := tots (csv k) l) (b := 65536 * k) (show 0 < T by omega)).2 (hA.kn k hk))
    have HSV := Lib.hid (fun (k : Int) (hk : 0 < k ∧ k ≤ 1048576) (z : World) (hz : Below w.heap.size w z) => service_c k (by unfold In; omega) l a c hn hok z (hR.below hz))
    have HCA := Lib.hid (fun (k : Int) (hk : 0 < k ∧ k ≤ 1048576) (z : World) => carried_c T k h1 h2 (by omega) hk.2 z)
    have HVN := Lib.hid (fun (k : Int) (hk : 0 < k) => tots_nn (csv k) l (fun c hc => csv_nn (hmem c hc) (t := k) (by omega)))
    have hE0 : room T l (kns l) = room T l ((kns l).take (kns l).length) := by rw [List.take_length]
    obtain ⟨RR, hRR⟩ : ∃ RR, room T l (kns l) = RR := ⟨_, rfl⟩
    rw [hRR]
    have HE := Lib.hid (hRR.symm.trans hE0)
    generalize kns l = K at *
    have K1 := Lib.hid k1
    have K2 := Lib.hid k2
    have K3 := Lib.hid k3
    have K4 := Lib.hid k4
    have K8 := Lib.hid of_c
    obtain ⟨D, hD⟩ : ∃ D, 65536 / T = D := ⟨_, rfl⟩
    obtain ⟨S, hSS⟩ : ∃ S, tots csl l = S := ⟨_, rfl⟩
    rw [hD, hSS] at hr0 W1
    rw [hD] at K2
    rw [hSS] at K3
    rw [hSS] at hS0
    rw [hD, hSS] at hS
    rw [hD] at hT6
    have HR0 := Lib.hid hr0
    clear hf hA hmem hok hR hr0 hD hSS e1 e2 k1 k2 k3 k4 hRR hE0
    go_enter Try.func29, Try.ntmps29
    go_wp2_with (first
      | (go_at_call 26; ((with_reducible refine (K1.out _ (by repeat' (first | with_reducible exact Below.refl _ _ | with_reducible assumption | ((with_reducible refine Below.drew ?_)) | ((with_reducible refine below_drewN ?_ _)) | ((with_reducible refine Below.alloc ?_ ?_ _); rotate_left; focus (first | omega | (simp; done) | (simp; omega))) | ((with_reducible refine Below.setCell ?_ ?_ _); rotate_left; focus (first | omega | (simp; done) | (simp; omega))) | ((with_reducible refine Below.trans ?_ (Below.mono (by with_reducible assumption) ?_)); rotate_left; focus (first | omega | (simp; done) | (simp; omega)))))).mono ?_); rintro e w1 ⟨rfl, hbel⟩; obtain ⟨hcc, hff⟩ := bcell hbel; have hsz := hbel.size; (try simp at hsz); have hF : Below w.heap.size w w1 := (by ((repeat' apply And.intro) <;> first | (simp [go_sem, *]; done) | omega | (repeat' (first | with_reducible exact Below.refl _ _ | with_reducible assumption | ((with_reducible refine Below.drew ?_)) | ((with_reducible refine below_drewN ?_ _)) | ((with_reducible refine Below.alloc ?_ ?_ _); rotate_left; focus (first | omega | (simp; done) | (simp; omega))) | ((with_reducible refine Below.setCell ?_ ?_ _); rotate_left; focus (first | omega | (simp; done) | (simp; omega))) | ((with_reducible refine Below.trans ?_ (Below.mono (by with_reducible assumption) ?_)); rotate_left; focus (first | omega | (simp; done) | (simp; omega))))))); go_split_ands; clear hcc hff hbel))
      | (go_at_call 54; ((with_reducible refine (K2.out _).mono ?_); rintro e w2 ⟨rfl, hbel⟩; obtain ⟨hcc, hff⟩ := bcell hbel; have hsz := hbel.size; (try simp at hsz); have hF : Below w.heap.size w w2 := (by ((repeat' apply And.intro) <;> first | (simp [go_sem, *]; done) | omega | (repeat' (first | with_reducible exact Below.refl _ _ | with_reducible assumption | ((with_reducible refine Below.drew ?_)) | ((with_reducible refine below_drewN ?_ _)) | ((with_reducible refine Below.alloc ?_ ?_ _); rotate_left; focus (first | omega | (simp; done) | (simp; omega))) | ((with_reducible refine Below.setCell ?_ ?_ _); rotate_left; focus (first | omega | (simp; done) | (simp; omega))) | ((with_reducible refine Below.trans ?_ (Below.mono (by with_reducible assumption) ?_)); rotate_left; focus (first | omega | (simp; done) | (simp; omega))))))); go_split_ands; clear hcc hff hbel))
      | (go_at_call 15; ((with_reducible refine (K3.out _ (by repeat' (first | with_reducible exact Below.refl _ _ | with_reducible assumption | ((with_reducible refine Below.drew ?_)) | ((with_reducible refine below_drewN ?_ _)) | ((with_reducible refine Below.alloc ?_ ?_ _); rotate_left; focus (first | omega | (simp; done) | (simp; omega))) | ((with_reducible refine Below.setCell ?_ ?_ _); rotate_left; focus (first | omega | (simp; done) | (simp; omega))) | ((with_reducible refine Below.trans ?_ (Below.mono (by with_reducible assumption) ?_)); rotate_left; focus (first | omega | (simp; done) | (simp; omega)))))).mono ?_); rintro e w3 ⟨rfl, hbel⟩; obtain ⟨hcc, hff⟩ := bcell hbel; have hsz := hbel.size; (try simp at hsz); have hF : Below w.heap.size w w3 := (by ((repeat' apply And.intro) <;> first | (simp [go_sem, *]; done) | omega | (repeat' (first | with_reducible exact Below.refl _ _ | with_reducible assumption | ((with_reducible refine Below.drew ?_)) | ((with_reducible refine below_drewN ?_ _)) | ((with_reducible refine Below.alloc ?_ ?_ _); rotate_left; focus (first | omega | (simp; done) | (simp; omega))) | ((with_reducible refine Below.setCell ?_ ?_ _); rotate_left; focus (first | omega | (simp; done) | (simp; omega))) | ((with_reducible refine Below.trans ?_ (Below.mono (by with_reducible assumption) ?_)); rotate_left; focus (first | omega | (simp; done) | (simp; omega))))))); go_split_ands; clear hcc hff hbel))
      | (go_at_call 18; ((with_reducible refine (K4.out _ (by repeat' (first | with_reducible exact Below.refl _ _ | with_reducible assumption | ((with_reducible refine Below.drew ?_)) | ((with_reducible refine below_drewN ?_ _)) | ((with_reducible refine Below.alloc ?_ ?_ _); rotate_left; focus (first | omega | (simp; done) | (simp; omega))) | ((with_reducible refine Below.setCell ?_ ?_ _); rotate_left; focus (first | omega | (simp; done) | (simp; omega))) | ((with_reducible refine Below.trans ?_ (Below.mono (by with_reducible assumption) ?_)); rotate_left; focus (first | omega | (simp; done) | (simp; omega)))))).mono ?_); rintro e w4 ⟨⟨kp, kc, rfl, hk4⟩, hbel⟩; obtain ⟨hcc, hff⟩ := bcell hbel; have hsz := hbel.size; (try simp at hsz); have hF : Below w.heap.size w w4 := (by ((repeat' apply And.intro) <;> first | (simp [go_sem, *]; done) | omega | (repeat' (first | with_reducible exact Below.refl _ _ | with_reducible assumption | ((with_reducible refine Below.drew ?_)) | ((with_reducible refine below_drewN ?_ _)) | ((with_reducible refine Below.alloc ?_ ?_ _); rotate_left; focus (first | omega | (simp; done) | (simp; omega))) | ((with_reducible refine Below.setCell ?_ ?_ _); rotate_left; focus (first | omega | (simp; done) | (simp; omega))) | ((with_reducible refine Below.trans ?_ (Below.mono (by with_reducible assumption) ?_)); rotate_left; focus (first | omega | (simp; done) | (simp; omega))))))); go_split_ands; clear hcc hff hbel)))
    have HK4 := Lib.hid hk4
    have hs4 : w.heap.size ≤ w4.heap.size := (show Below w.heap.size w w4 by assumption).size
    clear hk4
    go_loopw [7, 27] (fun rv jv wr => ∃ j : Nat, j ≤ K.length ∧ jv = .int .i64 j ∧ rv = .int .u64 (room T l (K.take j)) ∧ w4.heap.size ≤ wr.heap.size ∧ Below w4.heap.size w4 wr ∧ Below w.heap.size w wr) (fun _ jv _ => K.length - (intOf jv).toNat)
    case atStart => exact ⟨0, Nat.zero_le _, rfl, by rw [HR0.out], Nat.le_refl _, Below.refl _ _, by assumption⟩
    case round =>
      obtain ⟨j, hj, rfl, rfl, hsw, hB4, hB⟩ := hrel
      by_cases hlt : j < K.length
      · obtain ⟨b1, o1, rfl, hbl1, hu1⟩ := (HK4.out.below hB4).at hlt
        have e1 := hu1 j hlt
        have hmj : K.getD j 0 ∈ K := by rw [show K.getD j 0 = K[j] by simp [List.getD, hlt]]; exact List.getElem_mem hlt
        have hyK := HKP.out _ hmj
        have hyN := HKN.out _ hmj
        have hrs := HRS.out j hlt
        have hrb := HRB.out j
        have hV0 := HVN.out _ hyK.1
        unfold rest at hrs
        clear hu1 hmj
        generalize K.getD j 0 = y at *
        have g1 := HSV.out y hyK
        have g2 := HCA.out y hyK
        rw [show y * 65536 = 65536 * y by omega] at g2
        have hC0 : 65536 * y / T ≤ 65536 * y := Int.ediv_le_self _ (by omega)
        generalize tots (csv y) l = V at *
        generalize 65536 * y / T = C at *
        obtain ⟨q1, q2⟩ := hi_small (x := V) hV0 (by omega)
        rw [q1, q2] at g1
        have g3 := fun (z : World) => floor_c 0 (C - V) y (by unfold In; omega) (by unfold In; omega) (by unfold In; omega) (by omega) z
        rw [show val 0 (C - V) = C - V by unfold val; omega] at g3
        have hQ0 := Int.ediv_nonneg (show 0 ≤ C - V by omega) (show 0 ≤ y by omega)
        have hQ1 : (C - V) / y ≤ C - V := Int.ediv_le_self _ (by omega)
        generalize (C - V) / y = Q at *
        obtain ⟨p1, p2⟩ := hi_small (x := Q) hQ0 (by omega)
        rw [show nv Q = Q by unfold nv; rw [if_pos p1, p2], show ne Q = 0 by unfold ne; rw [if_pos p1]] at g3
        have W2 : IntKind.u64.wrap (C - V) = C - V := by rw [IntKind.wrap_u64]; omega
        have HS2 := Lib.hid hrs
        have G1 := Lib.hid g1
        have G2 := Lib.hid g2
        have G3 := Lib.hid g3
        generalize room T l (K.take j) = R at *
        clear g1 g2 g3 hrs q1 q2 p1 p2
        go_wp2_with (first
          | (go_at_call 53; ((with_reducible refine (G2.out _).mono ?_); rintro e w5 ⟨rfl, hbel⟩; obtain ⟨hcc, hff⟩ := bcell hbel; have hsz := hbel.size; (try simp at hsz); have hF : w4.heap.size ≤ w5.heap.size ∧ Below w4.heap.size w4 w5 ∧ Below w.heap.size w w5 := (by ((repeat' apply And.intro) <;> first | (simp [go_sem, *]; done) | omega | (repeat' (first | with_reducible exact Below.refl _ _ | with_reducible assumption | ((with_reducible refine Below.drew ?_)) | ((with_reducible refine below_drewN ?_ _)) | ((with_reducible refine Below.alloc ?_ ?_ _); rotate_left; focus (first | omega | (simp; done) | (simp; omega))) | ((with_reducible refine Below.setCell ?_ ?_ _); rotate_left; focus (first | omega | (simp; done) | (simp; omega))) | ((with_reducible refine Below.trans ?_ (Below.mono (by with_reducible assumption) ?_)); rotate_left; focus (first | omega | (simp; done) | (simp; omega))))))); go_split_ands; clear hcc hff hbel))
          | (go_at_call 13; ((with_reducible refine (G1.out _ (by repeat' (first | with_reducible exact Below.refl _ _ | with_reducible assumption | ((with_reducible refine Below.drew ?_)) | ((with_reducible refine below_drewN ?_ _)) | ((with_reducible refine Below.alloc ?_ ?_ _); rotate_left; focus (first | omega | (simp; done) | (simp; omega))) | ((with_reducible refine Below.setCell ?_ ?_ _); rotate_left; focus (first | omega | (simp; done) | (simp; omega))) | ((with_reducible refine Below.trans ?_ (Below.mono (by with_reducible assumption) ?_)); rotate_left; focus (first | omega | (simp; done) | (simp; omega)))))).mono ?_); rintro e w6 ⟨rfl, hbel⟩; obtain ⟨hcc, hff⟩ := bcell hbel; have hsz := hbel.size; (try simp at hsz); have hF : w4.heap.size ≤ w6.heap.size ∧ Below w4.heap.size w4 w6 ∧ Below w.heap.size w w6 := (by ((repeat' apply And.intro) <;> first | (simp [go_sem, *]; done) | omega | (repeat' (first | with_reducible exact Below.refl _ _ | with_reducible assumption | ((with_reducible refine Below.drew ?_)) | ((with_reducible refine below_drewN ?_ _)) | ((with_reducible refine Below.alloc ?_ ?_ _); rotate_left; focus (first | omega | (simp; done) | (simp; omega))) | ((with_reducible refine Below.setCell ?_ ?_ _); rotate_left; focus (first | omega | (simp; done) | (simp; omega))) | ((with_reducible refine Below.trans ?_ (Below.mono (by with_reducible assumption) ?_)); rotate_left; focus (first | omega | (simp; done) | (simp; omega))))))); go_split_ands; clear hcc hff hbel))
          | (go_at_call 30; ((with_reducible refine (K8.out _ _).mono ?_); rintro e w7 ⟨rfl, hbel⟩; obtain ⟨hcc, hff⟩ := bcell hbel; have hsz := hbel.size; (try simp at hsz); have hF : w4.heap.size ≤ w7.heap.size ∧ Below w4.heap.size w4 w7 ∧ Below w.heap.size w w7 := (by ((repeat' apply And.intro) <;> first | (simp [go_sem, *]; done) | omega | (repeat' (first | with_reducible exact Below.refl _ _ | with_reducible assumption | ((with_reducible refine Below.drew ?_)) | ((with_reducible refine below_drewN ?_ _)) | ((with_reducible refine Below.alloc ?_ ?_ _); rotate_left; focus (first | omega | (simp; done) | (simp; omega))) | ((with_reducible refine Below.setCell ?_ ?_ _); rotate_left; focus (first | omega | (simp; done) | (simp; omega))) | ((with_reducible refine Below.trans ?_ (Below.mono (by with_reducible assumption) ?_)); rotate_left; focus (first | omega | (simp; done) | (simp; omega))))))); go_split_ands; clear hcc hff hbel))
          | (go_at_call 59; ((with_reducible refine (G3.out _).mono ?_); rintro e w8 ⟨rfl, hbel⟩; obtain ⟨hcc, hff⟩ := bcell hbel; have hsz := hbel.size; (try simp at hsz); have hF : w4.heap.size ≤ w8.heap.size ∧ Below w4.heap.size w4 w8 ∧ Below w.heap.size w w8 := (by ((repeat' apply And.intro) <;> first | (simp [go_sem, *]; done) | omega | (repeat' (first | with_reducible exact Below.refl _ _ | with_reducible assumption | ((with_reducible refine Below.drew ?_)) | ((with_reducible refine below_drewN ?_ _)) | ((with_reducible refine Below.alloc ?_ ?_ _); rotate_left; focus (first | omega | (simp; done) | (simp; omega))) | ((with_reducible refine Below.setCell ?_ ?_ _); rotate_left; focus (first | omega | (simp; done) | (simp; omega))) | ((with_reducible refine Below.trans ?_ (Below.mono (by with_reducible assumption) ?_)); rotate_left; focus (first | omega | (simp; done) | (simp; omega))))))); go_split_ands; clear hcc hff hbel)))
        go_roundw
        case rel => exact ⟨j + 1, by omega, by go_num, by rw [HS2.out], by assumption, by assumption, by assumption⟩
        case measure => simp [intOf]; omega
      · obtain rfl : j = K.length := by omega
        go_wp2
        go_ret2
        refine ⟨?_, hB⟩
        rw [HE.out]; rfl
  · rw [if_neg hf]
    have hfb : (fitr T l != 0) = true := by simpa using hf
    have hfb2 : (fitr T l == 0) = false := by simpa using hf
    generalize fitr T l = F at *
    have K1 := Lib.hid k1
    clear k1 hR hok hf
    go_enter Try.func29, Try.ntmps29
    go_wp2_with (go_at_call 26; ((with_reducible refine (K1.out _ (by repeat' (first | with_reducible exact Below.refl _ _ | with_reducible assumption | ((with_reducible refine Below.drew ?_)) | ((with_reducible refine below_drewN ?_ _)) | ((with_reducible refine Below.alloc ?_ ?_ _); rotate_left; focus (first | omega | (simp; done) | (simp; omega))) | ((with_reducible refine Below.setCell ?_ ?_ _); rotate_left; focus (first | omega | (simp; done) | (simp; omega))) | ((with_reducible refine Below.trans ?_ (Below.mono (by with_reducible assumption) ?_)); rotate_left; focus (first | omega | (simp; done) | (simp; omega)))))).mono ?_); rintro e w1 ⟨rfl, hbel⟩; obtain ⟨hcc, hff⟩ := bcell hbel; have hsz := hbel.size; (try simp at hsz); have hF : Below w.heap.size w w1 := (by ((repeat' apply And.intro) <;> first | (simp [go_sem, *]; done) | omega | (repeat' (first | with_reducible exact Below.refl _ _ | with_reducible assumption | ((with_reducible refine Below.drew ?_)) | ((with_reducible refine below_drewN ?_ _)) | ((with_reducible refine Below.alloc ?_ ?_ _); rotate_left; focus (first | omega | (simp; done) | (simp; omega))) | ((with_reducible refine Below.setCell ?_ ?_ _); rotate_left; focus (first | omega | (simp; done) | (simp; omega))) | ((with_reducible refine Below.trans ?_ (Below.mono (by with_reducible assumption) ?_)); rotate_left; focus (first | omega | (simp; done) | (simp; omega))))))); go_split_ands; clear hcc hff hbel))
    (go_ret2; refine ⟨?_, ?_⟩; (focus (exact rfl)); ((repeat' (first | with_reducible exact Below.refl _ _ | with_reducible assumption | ((with_reducible refine Below.drew ?_)) | ((with_reducible refine below_drewN ?_ _)) | ((with_reducible refine Below.alloc ?_ ?_ _); rotate_left; focus (first | omega | (simp; done) | (simp; omega))) | ((with_reducible refine Below.setCell ?_ ?_ _); rotate_left; focus (first | omega | (simp; done) | (simp; omega))) | ((with_reducible refine Below.trans ?_ (Below.mono (by with_reducible assumption) ?_)); rotate_left; focus (first | omega | (simp; done) | (simp; omega))))); done))

/-! ### The laws' example. -/
theorem rw_one {z : World} {q : Nat} {a b c : Int} (h : (z.cell? ⟨q, 0, none⟩ = some (.int .u64 a) ∧ z.cell? ⟨q, 1, none⟩ = some (.int .u64 b) ∧ z.cell? ⟨q, 2, none⟩ = some (.int .u64 c) ∧ q < z.heap.size)) : RwV Cv.cells 3 z (some ⟨q, 0, none⟩) [⟨a, b, c⟩] := fun k hk => by
  obtain ⟨h0, h1, h2, h3⟩ := h
  have : k = 0 := by simpa using hk
  subst this
  refine ⟨q, 0, rfl, h3, fun j v hv => ?_⟩
  rcases j with _ | _ | _ | j <;> simp [Cv.cells] at hv <;> subst hv <;> assumption
theorem ok_one {a b c : Int} (ha : In a) (hb : In b) (hc : In c) : ∀ k (h : k < ([⟨a, b, c⟩] : List Cv).length), ([⟨a, b, c⟩] : List Cv)[k].ok := fun k hk => by
  have : k = 0 := by simpa using hk
  subst this
  exact ⟨ha, hb, hc⟩
theorem kns_lin (n : Int) : kns [⟨n, 0, n⟩] = [] := by
  refine ss_eq _ _ (kns_ss _) (by simp) fun x => ?_
  rw [mem_kns]
  constructor
  · rintro ⟨c, hc, hb, h⟩
    simp at hc
    subst hc
    have := (bend_d hb (by simp)).1
    simp at this
  · intro h; simp at h
theorem kns_ten (m : Int) (h0 : 0 < m) (h1 : m ≤ 65536) : kns [⟨m, 10, 0⟩] = [10] := by
  refine ss_eq _ _ (kns_ss _) (by simp) fun x => ?_
  rw [mem_kns]
  have hb : bend ⟨m, 10, 0⟩ = true := by
    unfold bend kind
    simp
    rw [if_neg (by omega), if_pos (by omega)]
    omega
  constructor
  · rintro ⟨c, hc, _, h⟩
    simp at hc
    subst hc
    simp [← h]
  · intro h
    simp at h
    exact ⟨⟨m, 10, 0⟩, by simp, hb, h.symm⟩
theorem tot_ten (m : Int) (h0 : 0 < m) (h1 : m ≤ 65536) : tots (csv 10) [⟨m, 10, 0⟩] = m * 10 ∧ tots csl [⟨m, 10, 0⟩] = 0 ∧ lok [⟨m, 10, 0⟩] = true := by
  have hk : kind m 10 0 = 3 := by
    unfold kind
    rw [if_neg (by omega), if_neg (by omega), if_neg (by omega), if_pos (by omega)]
  refine ⟨?_, ?_, ?_⟩
  · simp only [tots, csv]
    rw [srv_ok (by omega)]
    unfold sv
    rw [if_pos (by omega)]; omega
  · simp [tots, csl]
  · simp [lok, hk]
theorem tot_lin (m : Int) (h0 : 0 < m) (h1 : m ≤ 65537) : tots csl [⟨m, 0, m⟩] = m ∧ lok [⟨m, 0, m⟩] = true := by
  have hk : kind m 0 m = 2 := by
    unfold kind
    rw [if_neg (by omega), if_neg (by omega), if_pos (by omega)]
  exact ⟨by simp [tots, csl, hk], by simp [lok, hk]⟩
theorem ex1 : fitr 1 [⟨65536, 0, 65536⟩] = 0 := fit_adm.2 ⟨by omega, by omega, (tot_lin 65536 (by omega) (by omega)).2, fun k hk => by rw [kns_lin] at hk; simp at hk, by rw [(tot_lin 65536 (by omega) (by omega)).1]; omega⟩
theorem ex2 : fitr 1 [⟨65537, 0, 65537⟩] = 22 := by
  refine fit_22 rfl (tot_lin 65537 (by omega) (by omega)).2 ?_
  rw [fullv_none (fun k hk => by rw [kns_lin] at hk; simp at hk)]
  show fe 1 [⟨65537, 0, 65537⟩] = true
  unfold fe
  rw [(tot_lin 65537 (by omega) (by omega)).1]; rfl
theorem ex3 : fullr 2 [⟨40000, 10, 0⟩] = (10, true) := by
  obtain ⟨t1, t2, t3⟩ := tot_ten 40000 (by omega) (by omega)
  rw [fullr_ok rfl t3]
  unfold fullv
  rw [kns_ten 40000 (by omega) (by omega), List.find?_cons_of_pos (by unfold fk; rw [t1]; rfl)]
  rfl
theorem ex4 : fitr 2 [⟨20000, 10, 0⟩] = 0 ∧ room 2 [⟨20000, 10, 0⟩] (kns [⟨20000, 10, 0⟩]) = 12768 := by
  obtain ⟨t1, t2, t3⟩ := tot_ten 20000 (by omega) (by omega)
  refine ⟨fit_adm.2 ⟨by omega, by omega, t3, fun k hk => ?_, by rw [t2]; omega⟩, ?_⟩
  · rw [kns_ten 20000 (by omega) (by omega)] at hk
    simp at hk
    subst hk
    rw [t1]; omega
  · rw [kns_ten 20000 (by omega) (by omega)]
    simp only [room, List.foldl_cons, List.foldl_nil, rest, t1, t2]
    decide
set_option maxHeartbeats 4000000 in
theorem whole_c (w : World) : Calls Try.prog 23 #[] w fun ee w' => ee = .returned (.bool true) ∧ Below w.heap.size w w' := by
  have K1 := Lib.hid (fun (q : Nat) (z : World) (h : (z.cell? ⟨q, 0, none⟩ = some (.int .u64 65536) ∧ z.cell? ⟨q, 1, none⟩ = some (.int .u64 0) ∧ z.cell? ⟨q, 2, none⟩ = some (.int .u64 65536) ∧ q < z.heap.size)) => (show Calls Try.prog 26 #[.int .i64 1, .slice (some ⟨q, 0, none⟩) 1 1] z (fun ee w' => ee = .returned (.int .i64 0) ∧ Below z.heap.size z w') from by
    have := fits_c 1 [⟨65536, 0, 65536⟩] (some ⟨q, 0, none⟩) 1 (by decide) (ok_one (by unfold In; omega) (by unfold In; omega) (by unfold In; omega)) z (rw_one h)
    rw [ex1] at this
    exact this))
  have K2 := Lib.hid (fun (q : Nat) (z : World) (h : (z.cell? ⟨q, 0, none⟩ = some (.int .u64 65537) ∧ z.cell? ⟨q, 1, none⟩ = some (.int .u64 0) ∧ z.cell? ⟨q, 2, none⟩ = some (.int .u64 65537) ∧ q < z.heap.size)) => (show Calls Try.prog 26 #[.int .i64 1, .slice (some ⟨q, 0, none⟩) 1 1] z (fun ee w' => ee = .returned (.int .i64 22) ∧ Below z.heap.size z w') from by
    have := fits_c 1 [⟨65537, 0, 65537⟩] (some ⟨q, 0, none⟩) 1 (by decide) (ok_one (by unfold In; omega) (by unfold In; omega) (by unfold In; omega)) z (rw_one h)
    rw [ex2] at this
    exact this))
  have K3 := Lib.hid (fun (q : Nat) (z : World) (h : (z.cell? ⟨q, 0, none⟩ = some (.int .u64 40000) ∧ z.cell? ⟨q, 1, none⟩ = some (.int .u64 10) ∧ z.cell? ⟨q, 2, none⟩ = some (.int .u64 0) ∧ q < z.heap.size)) => (show Calls Try.prog 24 #[.int .i64 2, .slice (some ⟨q, 0, none⟩) 1 1] z (fun ee w' => ee = .returned (.tuple #[.int .u64 10, .bool true]) ∧ Below z.heap.size z w') from by
    have := full_c 2 [⟨40000, 10, 0⟩] (some ⟨q, 0, none⟩) 1 (by decide) (ok_one (by unfold In; omega) (by unfold In; omega) (by unfold In; omega)) z (rw_one h)
    rw [ex3] at this
    exact this))
  have K4 := Lib.hid (fun (q : Nat) (z : World) (h : (z.cell? ⟨q, 0, none⟩ = some (.int .u64 20000) ∧ z.cell? ⟨q, 1, none⟩ = some (.int .u64 10) ∧ z.cell? ⟨q, 2, none⟩ = some (.int .u64 0) ∧ q < z.heap.size)) => (show Calls Try.prog 29 #[.int .i64 2, .slice (some ⟨q, 0, none⟩) 1 1] z (fun ee w' => ee = .returned (.tuple #[.int .u64 (12768), .int .i64 (0)]) ∧ Below z.heap.size z w') from by
    have := room_c 2 [⟨20000, 10, 0⟩] (some ⟨q, 0, none⟩) 1 (by decide) (ok_one (by unfold In; omega) (by unfold In; omega) (by unfold In; omega)) z (rw_one h)
    rw [ex4.1, if_pos rfl, ex4.2] at this
    exact this))
  go_enter Try.func23, Try.ntmps23
  go_wp2_with (first
    | (go_at_call 26; ((with_reducible refine (K1.out _ _ ?_).mono ?_); (focus (((repeat' apply And.intro) <;> first | (simp [go_sem, *]; done) | omega | (repeat' (first | with_reducible exact Below.refl _ _ | with_reducible assumption | ((with_reducible refine Below.drew ?_)) | ((with_reducible refine below_drewN ?_ _)) | ((with_reducible refine Below.alloc ?_ ?_ _); rotate_left; focus (first | omega | (simp; done) | (simp; omega))) | ((with_reducible refine Below.setCell ?_ ?_ _); rotate_left; focus (first | omega | (simp; done) | (simp; omega))) | ((with_reducible refine Below.trans ?_ (Below.mono (by with_reducible assumption) ?_)); rotate_left; focus (first | omega | (simp; done) | (simp; omega)))))))); rintro e w1 ⟨rfl, hbel⟩; obtain ⟨hcc, hff⟩ := bcell hbel; have hsz := hbel.size; (try simp at hsz); have hF : Below w.heap.size w w1 := (by ((repeat' apply And.intro) <;> first | (simp [go_sem, *]; done) | omega | (repeat' (first | with_reducible exact Below.refl _ _ | with_reducible assumption | ((with_reducible refine Below.drew ?_)) | ((with_reducible refine below_drewN ?_ _)) | ((with_reducible refine Below.alloc ?_ ?_ _); rotate_left; focus (first | omega | (simp; done) | (simp; omega))) | ((with_reducible refine Below.setCell ?_ ?_ _); rotate_left; focus (first | omega | (simp; done) | (simp; omega))) | ((with_reducible refine Below.trans ?_ (Below.mono (by with_reducible assumption) ?_)); rotate_left; focus (first | omega | (simp; done) | (simp; omega))))))); go_split_ands; clear hcc hff hbel))
    | (go_at_call 26; ((with_reducible refine (K2.out _ _ ?_).mono ?_); (focus (((repeat' apply And.intro) <;> first | (simp [go_sem, *]; done) | omega | (repeat' (first | with_reducible exact Below.refl _ _ | with_reducible assumption | ((with_reducible refine Below.drew ?_)) | ((with_reducible refine below_drewN ?_ _)) | ((with_reducible refine Below.alloc ?_ ?_ _); rotate_left; focus (first | omega | (simp; done) | (simp; omega))) | ((with_reducible refine Below.setCell ?_ ?_ _); rotate_left; focus (first | omega | (simp; done) | (simp; omega))) | ((with_reducible refine Below.trans ?_ (Below.mono (by with_reducible assumption) ?_)); rotate_left; focus (first | omega | (simp; done) | (simp; omega)))))))); rintro e w2 ⟨rfl, hbel⟩; obtain ⟨hcc, hff⟩ := bcell hbel; have hsz := hbel.size; (try simp at hsz); have hF : Below w.heap.size w w2 := (by ((repeat' apply And.intro) <;> first | (simp [go_sem, *]; done) | omega | (repeat' (first | with_reducible exact Below.refl _ _ | with_reducible assumption | ((with_reducible refine Below.drew ?_)) | ((with_reducible refine below_drewN ?_ _)) | ((with_reducible refine Below.alloc ?_ ?_ _); rotate_left; focus (first | omega | (simp; done) | (simp; omega))) | ((with_reducible refine Below.setCell ?_ ?_ _); rotate_left; focus (first | omega | (simp; done) | (simp; omega))) | ((with_reducible refine Below.trans ?_ (Below.mono (by with_reducible assumption) ?_)); rotate_left; focus (first | omega | (simp; done) | (simp; omega))))))); go_split_ands; clear hcc hff hbel))
    | (go_at_call 24; ((with_reducible refine (K3.out _ _ ?_).mono ?_); (focus (((repeat' apply And.intro) <;> first | (simp [go_sem, *]; done) | omega | (repeat' (first | with_reducible exact Below.refl _ _ | with_reducible assumption | ((with_reducible refine Below.drew ?_)) | ((with_reducible refine below_drewN ?_ _)) | ((with_reducible refine Below.alloc ?_ ?_ _); rotate_left; focus (first | omega | (simp; done) | (simp; omega))) | ((with_reducible refine Below.setCell ?_ ?_ _); rotate_left; focus (first | omega | (simp; done) | (simp; omega))) | ((with_reducible refine Below.trans ?_ (Below.mono (by with_reducible assumption) ?_)); rotate_left; focus (first | omega | (simp; done) | (simp; omega)))))))); rintro e w3 ⟨rfl, hbel⟩; obtain ⟨hcc, hff⟩ := bcell hbel; have hsz := hbel.size; (try simp at hsz); have hF : Below w.heap.size w w3 := (by ((repeat' apply And.intro) <;> first | (simp [go_sem, *]; done) | omega | (repeat' (first | with_reducible exact Below.refl _ _ | with_reducible assumption | ((with_reducible refine Below.drew ?_)) | ((with_reducible refine below_drewN ?_ _)) | ((with_reducible refine Below.alloc ?_ ?_ _); rotate_left; focus (first | omega | (simp; done) | (simp; omega))) | ((with_reducible refine Below.setCell ?_ ?_ _); rotate_left; focus (first | omega | (simp; done) | (simp; omega))) | ((with_reducible refine Below.trans ?_ (Below.mono (by with_reducible assumption) ?_)); rotate_left; focus (first | omega | (simp; done) | (simp; omega))))))); go_split_ands; clear hcc hff hbel))
    | (go_at_call 29; ((with_reducible refine (K4.out _ _ ?_).mono ?_); (focus (((repeat' apply And.intro) <;> first | (simp [go_sem, *]; done) | omega | (repeat' (first | with_reducible exact Below.refl _ _ | with_reducible assumption | ((with_reducible refine Below.drew ?_)) | ((with_reducible refine below_drewN ?_ _)) | ((with_reducible refine Below.alloc ?_ ?_ _); rotate_left; focus (first | omega | (simp; done) | (simp; omega))) | ((with_reducible refine Below.setCell ?_ ?_ _); rotate_left; focus (first | omega | (simp; done) | (simp; omega))) | ((with_reducible refine Below.trans ?_ (Below.mono (by with_reducible assumption) ?_)); rotate_left; focus (first | omega | (simp; done) | (simp; omega)))))))); rintro e w4 ⟨rfl, hbel⟩; obtain ⟨hcc, hff⟩ := bcell hbel; have hsz := hbel.size; (try simp at hsz); have hF : Below w.heap.size w w4 := (by ((repeat' apply And.intro) <;> first | (simp [go_sem, *]; done) | omega | (repeat' (first | with_reducible exact Below.refl _ _ | with_reducible assumption | ((with_reducible refine Below.drew ?_)) | ((with_reducible refine below_drewN ?_ _)) | ((with_reducible refine Below.alloc ?_ ?_ _); rotate_left; focus (first | omega | (simp; done) | (simp; omega))) | ((with_reducible refine Below.setCell ?_ ?_ _); rotate_left; focus (first | omega | (simp; done) | (simp; omega))) | ((with_reducible refine Below.trans ?_ (Below.mono (by with_reducible assumption) ?_)); rotate_left; focus (first | omega | (simp; done) | (simp; omega))))))); go_split_ands; clear hcc hff hbel)))
  (go_ret; refine ⟨?_, ?_⟩; (focus (exact rfl)); ((repeat' (first | with_reducible exact Below.refl _ _ | with_reducible assumption | ((with_reducible refine Below.drew ?_)) | ((with_reducible refine below_drewN ?_ _)) | ((with_reducible refine Below.alloc ?_ ?_ _); rotate_left; focus (first | omega | (simp; done) | (simp; omega))) | ((with_reducible refine Below.setCell ?_ ?_ _); rotate_left; focus (first | omega | (simp; done) | (simp; omega))) | ((with_reducible refine Below.trans ?_ (Below.mono (by with_reducible assumption) ?_)); rotate_left; focus (first | omega | (simp; done) | (simp; omega))))); done))
end Go.Proofs.Ytpabidiggehmnaa
