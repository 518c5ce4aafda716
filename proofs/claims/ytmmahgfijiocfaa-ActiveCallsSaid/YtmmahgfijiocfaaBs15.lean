/- Joined texts. -/
import Derived.Test.YtmmahgfijiocfaaBs0
import Derived.Test.YtmmahgfijiocfaaBs7
import Derived.Test.YtmmahgfijiocfaaBs12
set_option linter.unusedVariables false
set_option linter.unusedSimpArgs false
set_option maxRecDepth 100000
set_option maxHeartbeats 16000000
section
namespace Go.Proofs.Ytmmahgfijiocfaa
open Go.RowKit Fg Reg
def ww (i p : Int) (lf : Bool) (k1 k2 k3 q y : Int) : Int :=
 if i < 1 ∨ 65536 < i ∨ p < 0 ∨ 65536 < p ∨ i = p then 1 else if k1 = 0 ∨ k2 = 0 ∨ k3 = 0 ∨ k2 = 4 ∨ k3 = 4 then 21 else if 1 < k3 ∧ k2 = 1 then 29
 else if lf = true then (if q < 1 ∨ 64 < q ∨ y < 1 ∨ 1048576 < y ∨ (k1 = 1 ∧ k2 = 1) then 29 else 0) else if ¬ q = 0 ∨ ¬ y = 0 ∨ ¬ k1 = 1 then 29 else 0
theorem wrong_c (i p : Int) (lf : Bool) (a1 a2 a3 b1 b2 b3 c1 c2 c3 q y : Int) (k1 k2 k3 : Int) (h1 : ∀ w, Calls Try.prog 66 #[.agg #[.int .u64 (a1), .int .u64 (a2), .int .u64 (a3)]] w fun ee w' => ee = .returned (.int .i64 k1) ∧ Below w.heap.size w w') (h2 : ∀ w, Calls Try.prog 66 #[.agg #[.int .u64 (b1), .int .u64 (b2), .int .u64 (b3)]] w fun ee w' => ee = .returned (.int .i64 k2) ∧ Below w.heap.size w w') (h3 : ∀ w, Calls Try.prog 66 #[.agg #[.int .u64 (c1), .int .u64 (c2), .int .u64 (c3)]] w fun ee w' => ee = .returned (.int .i64 k3) ∧ Below w.heap.size w w') (w : World) : Calls Try.prog 76 #[.agg #[.int .i64 i, .int .i64 p, .bool lf, .int .u64 a1, .int .u64 a2, .int .u64 a3, .int .u64 b1, .int .u64 b2, .int .u64 b3, .int .u64 c1, .int .u64 c2, .int .u64 c3, .int .i64 q, .int .i64 y]] w fun ee w' => ee = .returned (.int .i64 (ww i p lf k1 k2 k3 q y)) ∧ Below w.heap.size w w' := by
 have K1 := Lib.hid h1
 have K2 := Lib.hid h2
 have K3 := Lib.hid h3
 clear h1 h2 h3
 go_enter Try.func76, Try.ntmps76
 go_wp2_with (go_at_call 66; first | ((with_reducible refine (K1.out _).mono ?_); rintro e w1 ⟨rfl, hbel⟩; obtain ⟨hcc, hff⟩ := bcell hbel; have hsz := hbel.size; (try simp at hsz); have hF : (w1.cell? ⟨w.heap.size, 0, none⟩ = some (.int .i64 i) ∧ w1.cell? ⟨w.heap.size, 1, none⟩ = some (.int .i64 p) ∧ w1.cell? ⟨w.heap.size, 2, none⟩ = some (.bool lf) ∧ w1.cell? ⟨w.heap.size, 3, none⟩ = some (.int .u64 a1) ∧ w1.cell? ⟨w.heap.size, 4, none⟩ = some (.int .u64 a2) ∧ w1.cell? ⟨w.heap.size, 5, none⟩ = some (.int .u64 a3) ∧ w1.cell? ⟨w.heap.size, 6, none⟩ = some (.int .u64 b1) ∧ w1.cell? ⟨w.heap.size, 7, none⟩ = some (.int .u64 b2) ∧ w1.cell? ⟨w.heap.size, 8, none⟩ = some (.int .u64 b3) ∧ w1.cell? ⟨w.heap.size, 9, none⟩ = some (.int .u64 c1) ∧ w1.cell? ⟨w.heap.size, 10, none⟩ = some (.int .u64 c2) ∧ w1.cell? ⟨w.heap.size, 11, none⟩ = some (.int .u64 c3) ∧ w1.cell? ⟨w.heap.size, 12, none⟩ = some (.int .i64 q) ∧ w1.cell? ⟨w.heap.size, 13, none⟩ = some (.int .i64 y) ∧ w.heap.size < w1.heap.size) ∧ Below w.heap.size w w1 := (by exact kpb); go_split_ands; clear hcc hff hbel) | ((with_reducible refine (K2.out _).mono ?_); rintro e w2 ⟨rfl, hbel⟩; obtain ⟨hcc, hff⟩ := bcell hbel; have hsz := hbel.size; (try simp at hsz); have hF : (w2.cell? ⟨w.heap.size, 0, none⟩ = some (.int .i64 i) ∧ w2.cell? ⟨w.heap.size, 1, none⟩ = some (.int .i64 p) ∧ w2.cell? ⟨w.heap.size, 2, none⟩ = some (.bool lf) ∧ w2.cell? ⟨w.heap.size, 3, none⟩ = some (.int .u64 a1) ∧ w2.cell? ⟨w.heap.size, 4, none⟩ = some (.int .u64 a2) ∧ w2.cell? ⟨w.heap.size, 5, none⟩ = some (.int .u64 a3) ∧ w2.cell? ⟨w.heap.size, 6, none⟩ = some (.int .u64 b1) ∧ w2.cell? ⟨w.heap.size, 7, none⟩ = some (.int .u64 b2) ∧ w2.cell? ⟨w.heap.size, 8, none⟩ = some (.int .u64 b3) ∧ w2.cell? ⟨w.heap.size, 9, none⟩ = some (.int .u64 c1) ∧ w2.cell? ⟨w.heap.size, 10, none⟩ = some (.int .u64 c2) ∧ w2.cell? ⟨w.heap.size, 11, none⟩ = some (.int .u64 c3) ∧ w2.cell? ⟨w.heap.size, 12, none⟩ = some (.int .i64 q) ∧ w2.cell? ⟨w.heap.size, 13, none⟩ = some (.int .i64 y) ∧ w.heap.size < w2.heap.size) ∧ Below w.heap.size w w2 := (by exact kpb); go_split_ands; clear hcc hff hbel) | ((with_reducible refine (K3.out _).mono ?_); rintro e w3 ⟨rfl, hbel⟩; obtain ⟨hcc, hff⟩ := bcell hbel; have hsz := hbel.size; (try simp at hsz); have hF : (w3.cell? ⟨w.heap.size, 0, none⟩ = some (.int .i64 i) ∧ w3.cell? ⟨w.heap.size, 1, none⟩ = some (.int .i64 p) ∧ w3.cell? ⟨w.heap.size, 2, none⟩ = some (.bool lf) ∧ w3.cell? ⟨w.heap.size, 3, none⟩ = some (.int .u64 a1) ∧ w3.cell? ⟨w.heap.size, 4, none⟩ = some (.int .u64 a2) ∧ w3.cell? ⟨w.heap.size, 5, none⟩ = some (.int .u64 a3) ∧ w3.cell? ⟨w.heap.size, 6, none⟩ = some (.int .u64 b1) ∧ w3.cell? ⟨w.heap.size, 7, none⟩ = some (.int .u64 b2) ∧ w3.cell? ⟨w.heap.size, 8, none⟩ = some (.int .u64 b3) ∧ w3.cell? ⟨w.heap.size, 9, none⟩ = some (.int .u64 c1) ∧ w3.cell? ⟨w.heap.size, 10, none⟩ = some (.int .u64 c2) ∧ w3.cell? ⟨w.heap.size, 11, none⟩ = some (.int .u64 c3) ∧ w3.cell? ⟨w.heap.size, 12, none⟩ = some (.int .i64 q) ∧ w3.cell? ⟨w.heap.size, 13, none⟩ = some (.int .i64 y) ∧ w.heap.size < w3.heap.size) ∧ Below w.heap.size w w3 := (by exact kpb); go_split_ands; clear hcc hff hbel))
 all_goals
  clear K1 K2 K3
  go_ret
  refine ⟨ret_int ?_, blb⟩
  unfold ww
  (repeat' split) <;> first | rfl | omega | (simp_all; done) | (exfalso; simp_all; omega)
end Go.Proofs.Ytmmahgfijiocfaa
end
section
namespace Go.Proofs.Ytmmahgfijiocfaa
open Go.RowKit Fg Reg Go.Maps
attribute [local irreducible] Reg.wE VR
theorem sh_of (lf : Bool) (k1 k2 k3 q y : Int) (h2 : ¬ k2 = 0) (h1 : ¬ k1 = 0) (r1 : 0 ≤ k1) (r2 : 0 ≤ k2) :
  (sh lf (decide (1 < k1)) (decide (1 < k2)) (decide (1 < k3)) q y = false) ↔ ((1 < k3 ∧ k2 = 1) ∨ (lf = true ∧ (q < 1 ∨ 64 < q ∨ y < 1 ∨ 1048576 < y ∨ (k1 = 1 ∧ k2 = 1))) ∨ (lf = false ∧ (¬ q = 0 ∨ ¬ y = 0 ∨ ¬ k1 = 1))) := by
 unfold sh
 cases lf
 ·split
  ·simp_all; omega
  ·simp_all; omega
 ·split
  ·simp_all; omega
  ·simp_all; omega
theorem wr_ww (i p : Int) (lf : Bool) (k1 k2 k3 q y : Int) (r1 : 0 ≤ k1) (r2 : 0 ≤ k2) :
  wr i p (cr k1 k2 k3) (sh lf (decide (1 < k1)) (decide (1 < k2)) (decide (1 < k3)) q y) = ww i p lf k1 k2 k3 q y := by
 unfold wr ww
 by_cases hw : i < 1 ∨ 65536 < i ∨ p < 0 ∨ 65536 < p ∨ i = p
 ·rw [if_pos hw, if_pos (by unfold who; simp; omega)]
 ·rw [if_neg hw, if_neg (by unfold who; simp; omega)]
  by_cases hc : k1 = 0 ∨ k2 = 0 ∨ k3 = 0 ∨ k2 = 4 ∨ k3 = 4
  ·rw [if_pos hc, if_pos (by unfold cr; simp; omega)]
  ·rw [if_neg hc, if_neg (by unfold cr; simp; omega)]
   have hs := sh_of lf k1 k2 k3 q y (by omega) (by omega) r1 r2
   by_cases h3 : 1 < k3 ∧ k2 = 1
   ·rw [if_pos h3, if_pos (hs.2 (.inl h3))]
   ·rw [if_neg h3]
    cases lf
    ·rw [if_neg (show ¬ (false = true) by simp)]
     by_cases h4 : ¬ q = 0 ∨ ¬ y = 0 ∨ ¬ k1 = 1
     ·rw [if_pos h4, if_pos (hs.2 (.inr (.inr ⟨rfl, h4⟩)))]
     ·rw [if_neg h4, if_neg (fun h => by rcases hs.1 h with h | h | h; exact h3 h; exact absurd h.1 (by simp); exact h4 h.2)]
    ·rw [if_pos (show true = true from rfl)]
     by_cases h4 : q < 1 ∨ 64 < q ∨ y < 1 ∨ 1048576 < y ∨ (k1 = 1 ∧ k2 = 1)
     ·rw [if_pos h4, if_pos (hs.2 (.inr (.inl ⟨rfl, h4⟩)))]
     ·rw [if_neg h4, if_neg (fun h => by rcases hs.1 h with h | h | h; exact h3 h; exact h4 h.2; exact absurd h.1 (by simp))]
theorem rwrong_c {c : Cls} (h : CIn c) (w : World) : Calls Try.prog 76 #[.agg #[.int .i64 c.id, .int .i64 c.par, .bool c.leaf, .int .u64 c.ra, .int .u64 c.rb, .int .u64 c.rc, .int .u64 c.la, .int .u64 c.lb, .int .u64 c.lc, .int .u64 c.ua, .int .u64 c.ub, .int .u64 c.uc, .int .i64 c.pk, .int .i64 c.bt]] w fun ee w' => ee = .returned (.int .i64 (wrC c)) ∧ Below w.heap.size w w' := by
 have := wrong_c c.id c.par c.leaf c.ra c.rb c.rc c.la c.lb c.lc c.ua c.ub c.uc c.pk c.bt _ _ _ (srof_c _ _ _ h.ra h.rb h.rc) (srof_c _ _ _ h.la h.lb h.lc) (srof_c _ _ _ h.ua h.ub h.uc) w
 rw [← wr_ww c.id c.par c.leaf _ _ _ c.pk c.bt (kind_range _ _ _).1 (kind_range _ _ _).1] at this
 exact this
instance : Inhabited Cls := ⟨clz⟩
def crow (c : Cls) : List Value := [.int .i64 c.id, .int .i64 c.par, .bool c.leaf, .int .u64 c.ra, .int .u64 c.rb, .int .u64 c.rc, .int .u64 c.la, .int .u64 c.lb, .int .u64 c.lc, .int .u64 c.ua, .int .u64 c.ub, .int .u64 c.uc, .int .i64 c.pk, .int .i64 c.bt]
def rowsX (f : Int → Option Cls) (L : List Int) : List Cls := L.map (fun x => gcl (f x))
theorem rowsX_len (f : Int → Option Cls) (L : List Int) : (rowsX f L).length = L.length := by simp [rowsX]
theorem rx_at {f : Int → Option Cls} {L : List Int} (I : TI f L) {i : Nat} (h : i < L.length) : f L[i] = some ((rowsX f L)[i]'(by rw [rowsX_len]; exact h)) ∧ ((rowsX f L)[i]'(by rw [rowsX_len]; exact h)).id = L[i] := by
 obtain ⟨c, hc⟩ := Option.isSome_iff_exists.1 ((I.mem L[i]).2 (List.getElem_mem h))
 have he : (rowsX f L)[i]'(by rw [rowsX_len]; exact h) = c := by simp [rowsX, hc, gcl]
 rw [he]
 exact ⟨hc, (I.cls _ c hc).1⟩
def fidx (X : List Cls) (x : Int) : Int := match X.findIdx? (fun c => c.id == x) with | some i => i | none => -1
theorem fidx_of {X : List Cls} {x : Int} {k : Nat} (h : k < X.length) (he : X[k].id = x) (hno : ∀ c ∈ X.take k, c.id ≠ x) : fidx X x = k := by
 have : X.findIdx? (fun c => c.id == x) = some k := by
  rw [List.findIdx?_eq_some_iff_getElem]
  refine ⟨h, by simpa using he, fun j hj => ?_⟩
  have := hno X[j] (by rw [List.mem_take_iff_getElem]; exact ⟨j, by omega, rfl⟩)
  simpa using this
 unfold fidx
 rw [this]
theorem fidx_no {X : List Cls} {x : Int} (hno : ∀ c ∈ X, c.id ≠ x) : fidx X x = -1 := by
 have : X.findIdx? (fun c => c.id == x) = none := by
  rw [List.findIdx?_eq_none_iff]
  intro c hc
  simpa using hno c hc
 unfold fidx
 rw [this]
theorem fidx_none {f : Int → Option Cls} {L : List Int} (I : TI f L) {x : Int} (h : f x = none) : fidx (rowsX f L) x = -1 := by
 refine fidx_no fun c hc he => ?_
 obtain ⟨i, hi, rfl⟩ := List.getElem_of_mem hc
 rw [rowsX_len] at hi
 have := rx_at I hi
 rw [this.2] at he
 have h1 := this.1
 rw [he, h] at h1
 cases h1
theorem fidx_some {f : Int → Option Cls} {L : List Int} (I : TI f L) {x : Int} {c : Cls} (h : f x = some c) : ∃ (i : Nat) (hi : i < (rowsX f L).length), fidx (rowsX f L) x = i ∧ (rowsX f L)[i] = c := by
 obtain ⟨i, hi, hx⟩ := List.getElem_of_mem ((I.mem x).1 (by rw [h]; rfl))
 have h1 := rx_at I hi
 have hl : i < (rowsX f L).length := by rw [rowsX_len]; exact hi
 have hc : (rowsX f L)[i] = c := by
  have := h1.1
  rw [hx, h] at this
  injection this with this
  exact this.symm
 refine ⟨i, hl, fidx_of hl (by rw [h1.2, hx]) fun d hd he => ?_, hc⟩
 obtain ⟨j, hj, rfl⟩ := List.mem_take_iff_getElem.1 hd
 have hj2 : j < L.length := by rw [rowsX_len] at hj; omega
 have h2 := (rx_at I hj2).2
 rw [h2] at he
 have := List.pairwise_iff_getElem.1 I.srt j i hj2 hi (by omega)
 omega
theorem rfind_c (X : List Cls) (n : Nat) (hX : X.length = n) (hn : n ≤ 1000) (x : Int) (ao : Option Addr) (cap : Nat) (w : World) (hR : RwV crow 14 w ao X) :
  Calls Try.prog 36 #[.slice ao n cap, .int .i64 x] w fun ee w' => ee = .returned (.int .i64 (fidx X x)) ∧ Below w.heap.size w w' := by
 have HX := Lib.hid hX
 have HR := Lib.hid hR
 have ALL := Lib.hid cl_alloc
 have INF := Lib.hid cl_info
 have ONE := Lib.hid cla_one
 obtain ⟨r, hr⟩ : ∃ r, fidx X x = r := ⟨_, rfl⟩
 rw [hr]
 have HRR := Lib.hid hr
 clear hX hR hr
 go_enter Try.func36, Try.ntmps36
 go_wp2_with fail
 go_loopg [9] n (fun k9 s9 wr => ∃ k : Nat, s9 = .int .i64 k ∧ k ≤ n ∧ (∀ c ∈ X.take k, c.id ≠ x) ∧ Below w.heap.size w wr ∧ n - k ≤ k9)
 case atStart => exact ⟨0, rfl, Nat.zero_le _, fun c hc => by simp at hc, Below.refl _ _, by omega⟩
 case round =>
  obtain ⟨k, rfl, hk, hno, hB, hk9⟩ := hrel
  have HNO := Lib.hid hno
  have HB := Lib.hid hB
  by_cases hlt : k < n
  ·have hlC : k < X.length := by rw [HX.out]; exact hlt
   obtain ⟨b, o, rfl, hb, hra⟩ := (HR.out.below hB) k hlC
   have hof := fidx_of (x := x) hlC
   have hts := take_snoc'' X k hlC
   obtain ⟨c, hce⟩ : ∃ c, X[k] = c := ⟨_, rfl⟩
   rw [hce] at hra hof hts
   have HR1 := Lib.hid (show wr.rangeAt b (o + k * 14) (#[.int .i64 c.id, .int .i64 c.par, .bool c.leaf, .int .u64 c.ra, .int .u64 c.rb, .int .u64 c.rc, .int .u64 c.la, .int .u64 c.lb, .int .u64 c.lc, .int .u64 c.ua, .int .u64 c.ub, .int .u64 c.uc, .int .i64 c.pk, .int .i64 c.bt] : Array Value).toList from hra)
   have HOF := Lib.hid hof
   have HTS := Lib.hid hts
   clear hno hB hra hof hts hce
   by_cases he : c.id = x
   ·have hv : fidx X x = (k : Int) := HOF.out he HNO.out
    rw [HRR.out] at hv
    have HV := Lib.hid hv
    have he2 : (c.id == x) = true := by simpa using he
    clear hv he
    go_wp2_with (first
     | go_guarded
     | (refine wpList_var_new3 rfl rfl rfl 54 #[.int .i64 0, .int .i64 0, .bool false, .int .u64 0, .int .u64 0, .int .u64 0, .int .u64 0, .int .u64 0, .int .u64 0, .int .u64 0, .int .u64 0, .int .u64 0, .int .i64 0, .int .i64 0] ALL.out rfl _ rfl _ _ rfl #[.int .i64 c.id, .int .i64 c.par, .bool c.leaf, .int .u64 c.ra, .int .u64 c.rb, .int .u64 c.rc, .int .u64 c.la, .int .u64 c.lb, .int .u64 c.lc, .int .u64 c.ua, .int .u64 c.ub, .int .u64 c.uc, .int .i64 c.pk, .int .i64 c.bt] _ rfl rfl rfl INF.out rfl (ONE.out _) ?_; intro w5 hs5 hb5 hv5; have f5 := hv5.cell 0 rfl; have l5 := hv5.lt; have HB5 := Lib.hid (HB.out.trans (hb5.mono HB.out.size)); clear hb5 hv5)
     | (refine wpList_part_get rfl 54 _ rfl b (o + k * 14) #[.int .i64 c.id, .int .i64 c.par, .bool c.leaf, .int .u64 c.ra, .int .u64 c.rb, .int .u64 c.rc, .int .u64 c.la, .int .u64 c.lb, .int .u64 c.lc, .int .u64 c.ua, .int .u64 c.ub, .int .u64 c.uc, .int .i64 c.pk, .int .i64 c.bt] _ HR1.out rfl Try.underlying54 rfl INF.out ?_))
    go_ret
    exact ⟨by rw [HV.out]; rfl, HB5.out⟩
   ·have he2 : (c.id == x) = false := by simpa using he
    have HN2 : Hid (∀ d ∈ X.take (k + 1), d.id ≠ x) := Lib.hid (by rw [HTS.out]; intro d hd; rcases List.mem_append.1 hd with h | h; exact HNO.out d h; rw [List.mem_singleton] at h; subst h; exact he)
    clear he
    go_wp2_with (first
     | go_guarded
     | (refine wpList_var_new3 rfl rfl rfl 54 #[.int .i64 0, .int .i64 0, .bool false, .int .u64 0, .int .u64 0, .int .u64 0, .int .u64 0, .int .u64 0, .int .u64 0, .int .u64 0, .int .u64 0, .int .u64 0, .int .i64 0, .int .i64 0] ALL.out rfl _ rfl _ _ rfl #[.int .i64 c.id, .int .i64 c.par, .bool c.leaf, .int .u64 c.ra, .int .u64 c.rb, .int .u64 c.rc, .int .u64 c.la, .int .u64 c.lb, .int .u64 c.lc, .int .u64 c.ua, .int .u64 c.ub, .int .u64 c.uc, .int .i64 c.pk, .int .i64 c.bt] _ rfl rfl rfl INF.out rfl (ONE.out _) ?_; intro w5 hs5 hb5 hv5; have f5 := hv5.cell 0 rfl; have l5 := hv5.lt; have HB5 := Lib.hid (HB.out.trans (hb5.mono HB.out.size)); clear hb5 hv5)
     | (refine wpList_part_get rfl 54 _ rfl b (o + k * 14) #[.int .i64 c.id, .int .i64 c.par, .bool c.leaf, .int .u64 c.ra, .int .u64 c.rb, .int .u64 c.rc, .int .u64 c.la, .int .u64 c.lb, .int .u64 c.lc, .int .u64 c.ua, .int .u64 c.ub, .int .u64 c.uc, .int .i64 c.pk, .int .i64 c.bt] _ HR1.out rfl Try.underlying54 rfl INF.out ?_))
    go_roundg (n - (k + 1))
    case rel => exact ⟨k + 1, by go_num, by omega, HN2.out, HB5.out, Nat.le_refl _⟩
    case measure => omega
  ·obtain rfl : k = n := by omega
   have hv : fidx X x = -1 := fidx_no (by rw [← HX.out, List.take_length] at hno; exact hno)
   rw [HRR.out] at hv
   have HV := Lib.hid hv
   clear hno hB hlt hv
   go_wp2_with (first | go_guarded)
   go_ret
   exact ⟨by rw [HV.out]; rfl, HB.out⟩
end Go.Proofs.Ytmmahgfijiocfaa
end
