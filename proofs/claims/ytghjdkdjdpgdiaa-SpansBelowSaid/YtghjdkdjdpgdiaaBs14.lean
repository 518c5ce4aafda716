/- Joined texts. -/
import Derived.Test.YtghjdkdjdpgdiaaBs0
import Derived.Test.YtghjdkdjdpgdiaaBs9
import Derived.Test.YtghjdkdjdpgdiaaBs12
import Derived.Test.YtghjdkdjdpgdiaaBs13
set_option linter.unusedVariables false
set_option linter.unusedSimpArgs false
set_option maxRecDepth 100000
set_option maxHeartbeats 16000000
section
namespace Go.Proofs.Ytghjdkdjdpgdiaa
open Go.RowKit Fg Reg Go.Maps Go.Shelf
attribute [local irreducible] Reg.wE VR
def bel (f : Int → Option Cls) (num x : Int) : Bool := !(num == 0) && !(has (upl f 16 x) num)
theorem sb1_c {W0 z : World} {B ca cb tb mb : Nat} {f : Int → Option Cls} {L : List Int} {num : Int} (h : HT W0 tb mb f) (I : TI f L) (hB : W0.heap.size ≤ B) (c1 : W0.cell? ⟨ca, 0, none⟩ = some (.int .i64 num)) (c2 : W0.cell? ⟨cb, 0, none⟩ = some (.pointer (some ⟨tb, 0, none⟩))) (l1 : ca < W0.heap.size) (l2 : cb < W0.heap.size) (ho : Only (fun k => B ≤ k) W0 z) {x : Int} (hx : iok x) :
  Calls Try.prog 60 #[.int .i64 x, .pointer (some ⟨ca, 0, none⟩), .pointer (some ⟨cb, 0, none⟩)] z fun ee w' => ee = .returned (.bool (bel f num x)) ∧ Below z.heap.size z w' := by
 have h2 := h.onlyB ho (by have := h.lt; omega) (by have := h.mlt; omega)
 have d1 := (ho.cell l1 (by omega)).trans c1
 have d2 := (ho.cell l2 (by omega)).trans c2
 have m1 := Nat.lt_of_lt_of_le l1 ho.size
 have m2 := Nat.lt_of_lt_of_le l2 ho.size
 have HBz := Lib.hid (Below.refl z.heap.size z)
 have hbq : Below z.heap.size z z.drew := Below.drew (Below.refl _ _)
 have e1 := (hbq.cell (p := ⟨ca, 0, none⟩) m1).trans d1
 have e2 := (hbq.cell (p := ⟨cb, 0, none⟩) m2).trans d2
 have n1 : ca < z.drew.heap.size := m1
 have n2 : cb < z.drew.heap.size := m2
 by_cases h0 : num = 0
 ·subst h0
  have e : bel f 0 x = false := rfl
  rw [e]
  clear h h2 c1 c2 l1 l2 hB ho e I d1 d2
  go_enter Try.func60, Try.ntmps60
  go_wp2
  obtain ⟨Cl, hCl⟩ : ∃ Cl : List (Nat × Value) → World → Prop, Cl = ((fun ps wz => (Below z.heap.size z wz ∧ wz.cell? ⟨ca, 0, none⟩ = some (.int .i64 0) ∧ ca < wz.heap.size) ∧ True)) := ⟨_, rfl⟩; have HCl := Lib.hid hCl; clear hCl; refine Reg2.wp_region_lineS [(0, false), (1, false), (2, false), (3, false), (4, false), (6, false), (5, false), (7, false), (8, false), (9, false), (10, false)] [5, 7] Cl (by kernel_rfl) (by kernel_rfl) (by kernel_rfl) (by simp only [HCl.out, zD, zE]; exact ⟨⟨hbq, e1, n1⟩, trivial⟩) ?_
  (repeat ((first | (refine Reg2.wS_skip gtb (by rfl) ?_) | (refine Reg2.wS_open gtb (by rfl) (by rfl) ?_; apply Exists.intro; refine ⟨fun vs wq hw => ?_, ?_⟩; (focus (simp only [HCl.out, zD, zE] at hw; go_split_ands; go_simp <;> exact ebb)))); simp only [Act.put, Nat.reduceAdd, zA, zB, zC, zD, zE]))
  refine Reg2.wS_nil ?_; intro w' hw; simp only [HCl.out, zD, zE] at hw; clear HCl
  obtain ⟨⟨hb9, -⟩, -⟩ := hw
  have HB9 := Lib.hid hb9
  clear hb9
  go_wp2
  go_ret
  exact ⟨rfl, HB9.out⟩
 ·have q0 : (num == 0) = false := by simpa using h0
  have q1 : (num != 0) = true := by simpa using h0
  obtain ⟨U, hU⟩ : ∃ U, upl f 16 x = U := ⟨_, rfl⟩
  obtain ⟨u, hu⟩ : ∃ u, U.length = u := ⟨_, rfl⟩
  obtain ⟨r, hr⟩ : ∃ r, has U num = r := ⟨_, rfl⟩
  have hU16 : u ≤ 16 := by rw [← hu, ← hU]; exact upl_len f 16 x
  have e : bel f num x = !r := by unfold bel; rw [q0, hU, hr]; rfl
  rw [e]
  have KU : Hid (∀ w, Below z.heap.size z w → Calls Try.prog 62 #[.pointer (some ⟨tb, 0, none⟩), .int .i64 x] w fun e z' => ∃ ao cap, e = .returned (.slice ao u cap) ∧ IntsV z' ao U ∧ Below w.heap.size w z') := Lib.hid (fun w hw => by
   refine (hup_c (h2.below hw) (fun x c hc => ⟨(I.cls x c hc).1, (I.cls x c hc).2.1.par⟩) 16 (by decide) x hx (I.dep x)).mono ?_
   rintro e z' ⟨v, rfl, hrr, hb⟩
   rw [hU, hu] at hrr
   obtain ⟨ao, cap, rfl⟩ := row_form hrr
   exact ⟨ao, cap, rfl, (own_ints hrr).2, hb⟩)
  have KC : Hid (∀ (z : World) ao cap, IntsV z ao U → Calls Try.prog 61 #[.slice ao u cap, .int .i64 num] z fun ee w' => ee = .returned (.bool r) ∧ Below z.heap.size z w') := Lib.hid (fun z ao cap hz => by
   have := con_c U ao cap num (by omega) z hz
   rw [hu, hr] at this
   exact this.mono (fun e w' ⟨he, hw⟩ => ⟨he, by subst hw; exact Below.refl _ _⟩))
  clear h h2 c1 c2 l1 l2 hB ho e I hU hu hr h0 d1 d2
  go_enter Try.func60, Try.ntmps60
  go_wp2
  obtain ⟨Cl, hCl⟩ : ∃ Cl : List (Nat × Value) → World → Prop, Cl = ((fun ps wz => (Below z.heap.size z wz ∧ wz.cell? ⟨ca, 0, none⟩ = some (.int .i64 num) ∧ wz.cell? ⟨cb, 0, none⟩ = some (.pointer (some ⟨tb, 0, none⟩)) ∧ ca < wz.heap.size ∧ cb < wz.heap.size) ∧ (match ps with
   | [(_, v)] => ∃ ao cap, v = .slice ao u cap ∧ IntsV wz ao U
   | [_, (_, v)] => v = .bool r
   | _ => True))) := ⟨_, rfl⟩; have HCl := Lib.hid hCl; clear hCl; refine Reg2.wp_region_lineS [(0, false), (1, false), (2, false), (3, false), (4, false), (6, false), (5, false), (7, false), (8, false), (9, false), (10, false)] [5, 7] Cl (by kernel_rfl) (by kernel_rfl) (by kernel_rfl) (by simp only [HCl.out, zD, zE]; exact ⟨⟨hbq, e1, e2, n1, n2⟩, trivial⟩) ?_
  clear hbq e1 e2 n1 n2
  (repeat ((first | (refine Reg2.wS_skip gtb (by rfl) ?_) | (refine Reg2.wS_open gtb (by rfl) (by rfl) ?_; apply Exists.intro; refine ⟨fun vs wq hw => ?_, ?_⟩; (focus (simp only [HCl.out, zD, zE] at hw; go_split_ands; go_simp <;> exact ebb)))); simp only [Act.put, Nat.reduceAdd, zA, zB, zC, zD, zE]))
  refine Reg2.wS_eff gtb (by rfl) (by rfl) (fun wq hw => ?_) (fun u9 hu => ?_)
  focus
   simp only [HCl.out, zD, zE] at hw
   obtain ⟨⟨b0, k1, k2, t1, t2⟩, -⟩ := hw
   go_simp
   go_at_call 62
   (with_reducible refine (KU.out _ b0).mono ?_)
   rintro e w9 ⟨ao9, cp9, rfl, hv, hbel⟩
   refine ⟨_, rfl, ?_⟩
   simp only [HCl.out, zD, zE]
   exact ⟨⟨b0.trans (hbel.mono b0.size), (hbel.cell (p := ⟨ca, 0, none⟩) t1).trans k1, (hbel.cell (p := ⟨cb, 0, none⟩) t2).trans k2, Nat.lt_of_lt_of_le t1 hbel.size, Nat.lt_of_lt_of_le t2 hbel.size⟩, (by first | exact ⟨ao9, cp9, rfl, hv⟩ | simp [hv])⟩
  (obtain ⟨wz, hz⟩ := hu; rw [HCl.out] at hz; (try simp only [List.nil_append, List.cons_append] at hz); (try dsimp only at hz))
  obtain ⟨-, ao1, cp1, rfl, -⟩ := hz
  clear wz
  simp only [Act.put, Nat.reduceAdd, zA, zB, zC, zD, zE]
  (repeat ((first | (refine Reg2.wS_skip gtb (by rfl) ?_) | (refine Reg2.wS_open gtb (by rfl) (by rfl) ?_; apply Exists.intro; refine ⟨fun vs wq hw => ?_, ?_⟩; (focus (simp only [HCl.out, zD, zE] at hw; go_split_ands; go_simp <;> exact ebb)))); simp only [Act.put, Nat.reduceAdd, zA, zB, zC, zD, zE]))
  refine Reg2.wS_eff gtb (by rfl) (by rfl) (fun wq hw => ?_) (fun u9 hu => ?_)
  focus
   simp only [HCl.out, zD, zE] at hw
   obtain ⟨⟨b0, k1, k2, t1, t2⟩, ao2, cp2, he, hv⟩ := hw
   injection he with he1 he2 he3
   subst he1 he3
   go_simp
   go_at_call 61
   (with_reducible refine (KC.out _ _ _ hv).mono ?_)
   rintro e w9 ⟨rfl, hbel⟩
   refine ⟨_, rfl, ?_⟩
   simp only [HCl.out, zD, zE]
   exact ⟨⟨b0.trans (hbel.mono b0.size), (hbel.cell (p := ⟨ca, 0, none⟩) t1).trans k1, (hbel.cell (p := ⟨cb, 0, none⟩) t2).trans k2, Nat.lt_of_lt_of_le t1 hbel.size, Nat.lt_of_lt_of_le t2 hbel.size⟩, (by first | rfl | trivial)⟩
  (obtain ⟨wz, hz⟩ := hu; rw [HCl.out] at hz; (try simp only [List.nil_append, List.cons_append] at hz); (try dsimp only at hz))
  obtain ⟨-, rfl⟩ := hz
  clear wz
  simp only [Act.put, Nat.reduceAdd, zA, zB, zC, zD, zE]
  (repeat ((first | (refine Reg2.wS_skip gtb (by rfl) ?_) | (refine Reg2.wS_open gtb (by rfl) (by rfl) ?_; apply Exists.intro; refine ⟨fun vs wq hw => ?_, ?_⟩; (focus (simp only [HCl.out, zD, zE] at hw; go_split_ands; go_simp <;> exact ebb)))); simp only [Act.put, Nat.reduceAdd, zA, zB, zC, zD, zE]))
  refine Reg2.wS_nil ?_; intro w' hw; simp only [HCl.out, zD, zE] at hw; clear HCl
  obtain ⟨⟨hb9, -⟩, -⟩ := hw
  have HB9 := Lib.hid hb9
  clear hb9
  go_wp2
  go_ret
  exact ⟨rfl, HB9.out⟩
theorem ixT_c {W0 : World} {B ca cb : Nat} {p : Int → Bool} (D : List Int) (K : ∀ x ∈ D, ∀ z, Only (fun k => B ≤ k) W0 z → Calls Try.prog 60 #[.int .i64 x, .pointer (some ⟨ca, 0, none⟩), .pointer (some ⟨cb, 0, none⟩)] z fun ee w' => ee = .returned (.bool (p x)) ∧ Below z.heap.size z w') (n : Nat) (hn : D.length = n) (hle : n ≤ 1000) (b cap : Nat) (w : World) (hO : Only (fun k => B ≤ k) W0 w) (hI : WI w b D) (hb : b < w.heap.size) :
  Calls Try.prog 80 #[.slice (some ⟨b, 0, none⟩) n cap, .func (.func 60) #[] #[.pointer (some ⟨ca, 0, none⟩), .pointer (some ⟨cb, 0, none⟩)]] w fun e w' => (∃ i : Int, e = .returned (.int .i64 i) ∧ decide (0 ≤ i) = D.any p ∧ ((i = -1 ∧ ∀ x ∈ D, p x = false) ∨ ∃ k : Nat, i = (k : Int) ∧ k < n ∧ (∀ x ∈ D.take k, p x = false) ∧ p (D.getD k 0) = true)) ∧ Below w.heap.size w w' := by
 have HK := Lib.hid K
 have HN := Lib.hid hn
 have HO := Lib.hid hO
 have HI := Lib.hid hI
 have HBL := Lib.hid hb
 clear K hn hO hI hb
 go_enter Try.func80, Try.ntmps80
 go_wp2_with fail
 go_loopg [8] n (fun k9 s8 wr => ∃ k : Nat, s8 = .int .i64 k ∧ k ≤ n ∧ (∀ x ∈ D.take k, p x = false) ∧ Below w.heap.size w wr ∧ n - k ≤ k9)
 case atStart => exact ⟨0, rfl, Nat.zero_le _, fun x hx => by simp at hx, Below.refl _ _, by omega⟩
 case round =>
  obtain ⟨k, rfl, hk, hno, hB, hk9⟩ := hrel
  have HB := Lib.hid hB
  have HNO := Lib.hid hno
  by_cases hlt : k < n
  ·have hlC : k < D.length := by rw [HN.out]; exact hlt
   have hce := ((HI.out.below hB HBL.out) k hlC).1
   have hb2 := Nat.lt_of_lt_of_le HBL.out hB.size
   have hts := take_snoc'' D k hlC
   have hgd : D.getD k 0 = D[k] := by simp [List.getD, hlC]
   have hmem : D[k] ∈ D := List.getElem_mem hlC
   obtain ⟨x, hxe⟩ : ∃ x, D[k] = x := ⟨_, rfl⟩
   rw [hxe] at hce hts hgd hmem
   have KX := Lib.hid (HK.out x hmem wr (HO.out.trans (Only.of_below hB)))
   have HMEM := Lib.hid hmem
   have HGD := Lib.hid hgd
   have HTS := Lib.hid hts
   clear hno hB hts hgd hmem hxe hlC
   cases hp : p x with
   | true =>
    rw [hp] at KX
    have HP := Lib.hid hp
    clear hp
    go_wp2_with (first | go_guarded | (go_at_call 60; (with_reducible refine KX.out.mono ?_); rintro _ w1 ⟨rfl, hbel⟩; have HB1 := Lib.hid (HB.out.trans (hbel.mono HB.out.size)); clear hbel))
    go_ret
    have h1 : D.any p = true := List.any_eq_true.2 ⟨x, HMEM.out, HP.out⟩
    exact ⟨⟨_, rfl, by rw [h1]; simp, .inr ⟨k, rfl, hlt, HNO.out, by rw [HGD.out]; exact HP.out⟩⟩, HB1.out⟩
   | false =>
    rw [hp] at KX
    have HN2 : Hid (∀ y ∈ D.take (k + 1), p y = false) := Lib.hid (by rw [HTS.out]; intro y hy; rcases List.mem_append.1 hy with h | h; exact HNO.out y h; rw [List.mem_singleton] at h; subst h; exact hp)
    clear hp
    go_wp2_with (first | go_guarded | (go_at_call 60; (with_reducible refine KX.out.mono ?_); rintro _ w1 ⟨rfl, hbel⟩; have HB1 := Lib.hid (HB.out.trans (hbel.mono HB.out.size)); clear hbel))
    go_roundg (n - (k + 1))
    case rel => exact ⟨k + 1, by go_num, by omega, HN2.out, HB1.out, Nat.le_refl _⟩
    case measure => omega
  ·obtain rfl : k = n := by omega
   have hall : ∀ x ∈ D, p x = false := by rw [← HN.out, List.take_length] at hno; exact hno
   have HA := Lib.hid hall
   clear hno hB hlt hall
   go_wp2_with (first | go_guarded)
   go_ret
   have h1 : D.any p = false := List.any_eq_false.2 fun x hx => by rw [HA.out x hx]; simp
   exact ⟨⟨_, rfl, by rw [h1]; rfl, .inl ⟨rfl, HA.out⟩⟩, HB.out⟩
theorem delf_c {W0 : World} {B ca cb : Nat} {p : Int → Bool} (D : List Int) (K : ∀ x ∈ D, ∀ z, Only (fun k => B ≤ k) W0 z → Calls Try.prog 60 #[.int .i64 x, .pointer (some ⟨ca, 0, none⟩), .pointer (some ⟨cb, 0, none⟩)] z fun ee w' => ee = .returned (.bool (p x)) ∧ Below z.heap.size z w') (n : Nat) (hn : D.length = n) (hle : n ≤ 1000) (b cap : Nat) (hcap : n ≤ cap) (hcm : cap ≤ maxLen) (hBb : B ≤ b) (w : World) (hO : Only (fun k => B ≤ k) W0 w) (hI : WI w b D) (hb : b < w.heap.size) :
  Calls Try.prog 59 #[.slice (some ⟨b, 0, none⟩) n cap, .func (.func 60) #[] #[.pointer (some ⟨ca, 0, none⟩), .pointer (some ⟨cb, 0, none⟩)]] w fun e w' => e = .returned (.slice (some ⟨b, 0, none⟩) (D.filter (fun x => !p x)).length cap) ∧ WI w' b (D.filter (fun x => !p x)) ∧ Only (fun k => B ≤ k) W0 w' ∧ b < w'.heap.size := by
 have KI := Lib.hid (ixT_c D K n hn hle b cap w hO hI hb)
 have HK := Lib.hid K
 have HN := Lib.hid hn
 have HO := Lib.hid hO
 have HI := Lib.hid hI
 have HBL := Lib.hid hb
 have hcm2 : cap ≤ 9223372036854775807 := by unfold maxLen at hcm; omega
 clear K hn hO hI hb
 go_enter Try.func59, Try.ntmps59
 go_wp2_with (first | go_guarded | (go_at_call 80; (with_reducible refine KI.out.mono ?_); rintro _ w1 ⟨⟨i0, rfl, -, hii⟩, hbel⟩; have HII := Lib.hid hii; have HB1 := Lib.hid hbel; clear hii hbel; rcases HII.out with ⟨rfl, hall⟩ | ⟨k, rfl, hkn, hpre, hpk⟩))
 ·-- nothing is struck
  have hf := filt_all hall
  have HF := Lib.hid hf
  have HW1 := Lib.hid (HI.out.below HB1.out HBL.out)
  have HO1 := Lib.hid (HO.out.trans (Only.of_below HB1.out))
  clear hall hf
  go_wp2_with (first | go_guarded)
  go_ret
  exact ⟨by rw [HF.out, HN.out]; rfl, by rw [HF.out]; exact HW1.out, HO1.out, Nat.lt_of_lt_of_le HBL.out HB1.out.size⟩
 ·have hkD : k < D.length := by rw [HN.out]; exact hkn
  have hgd : D.getD k 0 = D[k] := by simp [List.getD, hkD]
  have hts := take_snoc'' D k hkD
  have hfk : (D.take k).filter (fun x => !p x) = D.take k := filt_all hpre
  have hf1 : (D.take (k + 1)).filter (fun x => !p x) = D.take k := by
   rw [hts, List.filter_append, hfk, List.filter_cons, ← hgd, hpk]; simp
  have HF1 := Lib.hid hf1
  have HW1 := Lib.hid (HI.out.below HB1.out HBL.out)
  have HO1 := Lib.hid (HO.out.trans (Only.of_below HB1.out))
  have HL1 := Lib.hid (Nat.lt_of_lt_of_le HBL.out HB1.out.size)
  have hkm : ((k : Int) == -1) = false := by simp
  clear hgd hts hfk hf1 hpre hpk hkD
  go_wp2_with (first | go_guarded)
  try go_frame
  go_loopg [5, 6] n (fun k9 s5 s6 wr => ∃ (j i : Nat) (R : List Int), s5 = .int .i64 i ∧ s6 = .int .i64 j ∧ j ≤ n ∧ i < j ∧ R.length = n ∧ R.take i = (D.take j).filter (fun x => !p x) ∧ (∀ m, j ≤ m → R[m]? = D[m]?) ∧ WI wr b R ∧ Only (fun k => B ≤ k) W0 wr ∧ b < wr.heap.size ∧ n - j ≤ k9)
  case atStart => exact ⟨k + 1, k, D, rfl, by go_num, by omega, by omega, HN.out, HF1.out.symm, fun m _ => rfl, HW1.out, HO1.out, HL1.out, by omega⟩
  case round =>
   obtain ⟨j, i, R, rfl, rfl, hj, hij, hRl, hRt, hRd, hW, hOr, hbl, hk9⟩ := hrel
   have HRL := Lib.hid hRl
   have HRT := Lib.hid hRt
   have HRD := Lib.hid hRd
   have HW := Lib.hid hW
   have HOR := Lib.hid hOr
   by_cases hlt : j < n
   ·have hjD : j < D.length := by rw [HN.out]; exact hlt
    have hjR : j < R.length := by rw [hRl]; exact hlt
    have hiR : i < R.length := by omega
    have hRj : R[j] = D[j] := by have := hRd j (Nat.le_refl _); rw [List.getElem?_eq_getElem hjR, List.getElem?_eq_getElem hjD] at this; injection this
    have hce := (hW j hjR).1
    have hci := (hW i hiR).1
    have hfi := (hW i hiR).2
    have hts := take_snoc'' D j hjD
    have hmem : D[j] ∈ D := List.getElem_mem hjD
    rw [hRj] at hce
    obtain ⟨x, hxe⟩ : ∃ x, D[j] = x := ⟨_, rfl⟩
    rw [hxe] at hce hts hmem
    obtain ⟨y, hye⟩ : ∃ y, R[i] = y := ⟨_, rfl⟩
    rw [hye] at hci
    have KX := Lib.hid (HK.out x hmem wr HOR.out)
    have HTS := Lib.hid hts
    have HIR := Lib.hid hiR
    have HCI := Lib.hid hci
    have HFI := Lib.hid hfi
    clear hRl hRt hRd hW hOr hjD hjR hiR hRj hts hmem hxe hci hfi hye
    cases hp : p x with
    | true =>
     rw [hp] at KX
     have HFJ : Hid (R.take i = (D.take (j + 1)).filter (fun x => !p x)) := Lib.hid (by rw [HTS.out, List.filter_append, ← HRT.out, List.filter_cons, hp]; simp)
     clear hp
     go_wp2_with (first | go_guarded | (go_at_call 60; (with_reducible refine KX.out.mono ?_); rintro _ w2 ⟨rfl, hbel⟩; have HB2 := Lib.hid hbel; clear hbel))
     go_roundg (n - (j + 1))
     case rel => exact ⟨j + 1, i, R, rfl, by go_num, by omega, by omega, HRL.out, HFJ.out, fun m hm => HRD.out m (by omega), HW.out.below HB2.out hbl, HOR.out.trans (Only.of_below HB2.out), Nat.lt_of_lt_of_le hbl HB2.out.size, Nat.le_refl _⟩
     case measure => omega
    | false =>
     rw [hp] at KX
     have HFJ : Hid ((R.set i x).take (i + 1) = (D.take (j + 1)).filter (fun x => !p x)) := Lib.hid (by
      rw [HTS.out, List.filter_append, ← HRT.out, List.filter_cons, hp]
      have h9 := HIR.out
      rw [List.take_succ_eq_append_getElem (by simpa using h9)]
      simp
      refine List.ext_getElem? fun m => ?_
      rw [List.getElem?_take, List.getElem?_take]
      split
      ·exact List.getElem?_set_ne (by omega)
      ·rfl)
     have HRD2 : Hid (∀ m, j + 1 ≤ m → (R.set i x)[m]? = D[m]?) := Lib.hid (fun m hm => by rw [List.getElem?_set_ne (by omega)]; exact HRD.out m (by omega))
     clear hp
     go_wp2_with (first | go_guarded | (go_at_call 60; (with_reducible refine KX.out.mono ?_); rintro _ w2 ⟨rfl, hbel⟩; have HB2 := Lib.hid hbel; have HW2 := Lib.hid (HW.out.below hbel hbl); have c2 := (HW2.out i HIR.out).1; have f2 := (HW2.out i HIR.out).2; have l2 := Nat.lt_of_lt_of_le hbl hbel.size; clear hbel))
     go_roundg (n - (j + 1))
     case rel => exact ⟨j + 1, i + 1, R.set i x, by go_num, by go_num, by omega, by omega, by rw [List.length_set]; exact HRL.out, HFJ.out, HRD2.out, HW2.out.set i x HIR.out, (HOR.out.trans (Only.of_below HB2.out)).setCell (.inl hBb) _, by simpa using l2, Nat.le_refl _⟩
     case measure => omega
   ·obtain rfl : j = n := by omega
    have hft : R.take i = D.filter (fun x => !p x) := by rw [hRt, ← HN.out, List.take_length]
    have hfl : (D.filter (fun x => !p x)).length = i := by rw [← hft, List.length_take]; omega
    have HFT := Lib.hid hft
    have HFL := Lib.hid hfl
    have hcl : ∀ ty, (Builtin.clear_ #[31] ty #[.slice (some ⟨b, i, none⟩) (j - i) (cap - i)]).run Try.prog wr = .ok (.tuple #[]) (wr.setCells b i (List.replicate (j - i) (.int .i64 0))) :=
     fun ty => Lib.run_clear_slice wr _ _ ty _ Try.underlying31 (fun w => by kernel_rfl) rfl rfl b i _ _ (by omega) (fun t ht => by rw [(hW (i + t) (by omega)).1]; rfl) (fun t ht => (hW (i + t) (by omega)).2)
    have hci : (cap == i) = false := by simp; omega
    have hci2 : ¬ cap = i := by omega
    have hWf : WI (wr.setCells b i (List.replicate (j - i) (.int .i64 0))) b (D.filter (fun x => !p x)) := fun m hm => by
     rw [hfl] at hm
     have hmR : m < R.length := by omega
     have h1 := hW m hmR
     rw [World.frozen?_setCells, World.cell?_setCells_out b _ i wr ⟨b, m, none⟩ (fun _ _ => .inl hm)]
     refine ⟨?_, h1.2⟩
     rw [h1.1]
     have h2 : (D.filter (fun x => !p x))[m]? = some R[m] := by rw [← hft, List.getElem?_take, if_pos hm]; exact List.getElem?_eq_getElem hmR
     rw [List.getElem?_eq_getElem (by omega)] at h2
     injection h2 with h2
     rw [h2]
    have HWF := Lib.hid hWf
    have hOn := setCells_only b (List.replicate (j - i) (Value.int .i64 0)) i wr
    have HOF : Hid (Only (fun k => B ≤ k) W0 (wr.setCells b i (List.replicate (j - i) (.int .i64 0)))) := Lib.hid (hOr.trans (hOn.mono fun k hk => by subst hk; exact hBb))
    have HSF := Lib.hid (Nat.lt_of_lt_of_le hbl hOn.size)
    clear hRl hRt hRd hW hOr hft hfl hWf hOn hlt
    go_wp2
    go_ret
    exact ⟨by rw [HFL.out]; rfl, HWF.out, HOF.out, HSF.out⟩
end Go.Proofs.Ytghjdkdjdpgdiaa
end
