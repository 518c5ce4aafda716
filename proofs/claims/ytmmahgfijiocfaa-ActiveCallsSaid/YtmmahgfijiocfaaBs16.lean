/- Joined texts. -/
import Derived.Test.YtmmahgfijiocfaaBs0
import Derived.Test.YtmmahgfijiocfaaBs15
set_option linter.unusedVariables false
set_option linter.unusedSimpArgs false
set_option maxRecDepth 100000
set_option maxHeartbeats 16000000
section
namespace Go.Proofs.Ytmmahgfijiocfaa
open Go.RowKit Fg Reg Go.Maps
attribute [local irreducible] Reg.wE VR
theorem rof_c {a b d : Int} (h1 : In a) (h2 : In b) (h3 : In d) {r : Bool} (hr : decide (1 < kind a b d) = r) (w : World) : Calls Try.prog 66 #[.agg #[.int .u64 a, .int .u64 b, .int .u64 d]] w fun e w' => ∃ k : Int, e = .returned (.int .i64 k) ∧ decide (1 < k) = r ∧ Below w.heap.size w w' :=
 (srof_c a b d h1 h2 h3 w).mono fun _ _ ⟨h, hb⟩ => ⟨_, h, hr, hb⟩
theorem rshares_c {f : Int → Option Cls} {L : List Int} (I : TI f L) (n : Nat) (hn : L.length = n) (num : Int) (ao : Option Addr) (cap : Nat) (w : World) (hR : RwV crow 14 w ao (rowsX f L)) :
  Calls Try.prog 77 #[.slice ao n cap, .int .i64 num] w fun ee w' => ee = .returned (.bool (shA f num)) ∧ Below w.heap.size w w' := by
 have hl : (rowsX f L).length = n := by rw [rowsX_len]; exact hn
 have hn64 : n ≤ 64 := by rw [← hn]; exact I.len
 have KF := Lib.hid (fun z (hz : RwV crow 14 z ao (rowsX f L)) => rfind_c (rowsX f L) n hl (by omega) num ao cap z hz)
 by_cases h0 : num = 0
 ·subst h0
  have e1 : shA f 0 = true := rfl
  rw [e1]
  have HR := Lib.hid hR
  rw [fidx_none I I.zero] at KF
  clear hR hl hn I e1
  go_enter Try.func77, Try.ntmps77
  go_wp2_with (first | go_guarded | (go_at_call 36; (with_reducible refine (KF.out _ HR.out).mono ?_); rintro _ w1 ⟨rfl, hbel⟩; have HB := Lib.hid hbel; clear hbel))
  go_ret
  exact ⟨rfl, HB.out⟩
 ·have q0 : (num == 0) = false := by simpa using h0
  cases hc : f num with
  | none =>
   have e1 : shA f num = false := by unfold shA; rw [q0, hc]; rfl
   rw [e1]
   rw [fidx_none I hc] at KF
   have HR := Lib.hid hR
   clear hR hl hn I e1 hc h0
   go_enter Try.func77, Try.ntmps77
   go_wp2_with (first | go_guarded | (go_at_call 36; (with_reducible refine (KF.out _ HR.out).mono ?_); rintro _ w1 ⟨rfl, hbel⟩; have HB := Lib.hid hbel; clear hbel))
   go_ret
   exact ⟨rfl, HB.out⟩
  | some c =>
   have e1 : shA f num = sh1 c := by unfold shA; rw [q0, hc]; rfl
   obtain ⟨i, hi, hfi, hci⟩ := fidx_some I hc
   rw [hfi] at KF
   have hin := (I.cls num c hc).2.1
   have KR := Lib.hid (fun z => rof_c hin.la hin.lb hin.lc (r := sh1 c) rfl z)
   obtain ⟨b, o, rfl, hb, hra⟩ := hR i hi
   rw [hci] at hra
   have HRA := Lib.hid hra
   have HR := Lib.hid hR
   have hin2 : i < n := by omega
   have HBL := Lib.hid hb
   obtain ⟨r, hr⟩ : ∃ r, sh1 c = r := ⟨_, rfl⟩
   rw [e1, hr]
   rw [hr] at KR
   clear hR hl hn I e1 hc h0 hfi hci hi hra hin hr hb
   go_enter Try.func77, Try.ntmps77
   go_wp2_with (first
    | go_guarded
    | (go_at_call 66; (with_reducible refine (KR.out _).mono ?_); rintro _ w2 ⟨k, rfl, hk, hbel⟩; have HB2 := Lib.hid (HB.out.trans (hbel.mono HB.out.size)); clear hbel)
    | (go_at_call 36; (with_reducible refine (KF.out _ HR.out).mono ?_); rintro _ w1 ⟨rfl, hbel⟩; have g6 := (hbel.cell (p := ⟨b, o + i * 14 + 6, none⟩) HBL.out).trans (HRA.out 6 _ rfl); have g7 := (hbel.cell (p := ⟨b, o + i * 14 + 7, none⟩) HBL.out).trans (HRA.out 7 _ rfl); have g8 := (hbel.cell (p := ⟨b, o + i * 14 + 8, none⟩) HBL.out).trans (HRA.out 8 _ rfl); have gl := Nat.lt_of_lt_of_le HBL.out hbel.size; have HB := Lib.hid hbel; clear hbel))
   go_ret
   exact ⟨rfl, HB2.out⟩
theorem rup_c {f : Int → Option Cls} {L : List Int} (I : TI f L) (n : Nat) (hn : L.length = n) (num : Int) (hnum : iok num) (ao : Option Addr) (cap : Nat) (w : World) (hR : RwV crow 14 w ao (rowsX f L)) :
  Calls Try.prog 34 #[.slice ao n cap, .int .i64 num] w fun e w' => ∃ v, e = .returned v ∧ w'.ownsRow w.heap.size 3 1 v (upl f 16 num).length ((upl f 16 num).map (Value.int .i64)) ∧ Below w.heap.size w w' := by
 obtain ⟨ii, ci0, cz0, cz1, cz2⟩ := int_partsH
 have CI0 := Lib.hid ci0
 have CZ0 := Lib.hid cz0
 have CZ1 := Lib.hid cz1
 have CZ2 := Lib.hid cz2
 have hl : (rowsX f L).length = n := by rw [rowsX_len]; exact hn
 have hn64 : n ≤ 64 := by rw [← hn]; exact I.len
 have KF := Lib.hid (fun (x : Int) z (hz : RwV crow 14 z ao (rowsX f L)) => rfind_c (rowsX f L) n hl (by omega) x ao cap z hz)
 have HR := Lib.hid hR
 have HI := Lib.hid I
 have HN := Lib.hid hnum
 have HLN := Lib.hid hn
 clear ci0 cz0 cz1 cz2 hR I hn hl hnum
 go_enter Try.func34, Try.ntmps34
 go_wp2_with fail
 go_loopg [5, 6, 9] 17 (fun k9 s5 s6 s9 wr => ∃ (i : Int) (done : List Int) (m k : Nat) (oo : Option Addr) (c : Nat), s5 = .slice oo k c ∧ s6 = .int .i64 i ∧ s9 = .int .i64 k ∧ done.length = k ∧ upl f 16 num = done ++ upl f m i ∧ m + k = 16 ∧ fin f m i = true ∧ iok i ∧ wr.ownsRow w.heap.size 3 1 (.slice oo k c) k (done.map (Value.int .i64)) ∧ Below w.heap.size w wr ∧ m ≤ k9)
 case atStart => exact ⟨num, [], 16, 0, none, 0, rfl, rfl, rfl, rfl, rfl, rfl, HI.out.dep num, HN.out, World.ownsRow_nil _ _ _ _, Below.refl _ _, by omega⟩
 case round =>
  obtain ⟨i, done, m, k, oo, c, rfl, rfl, rfl, hd, hup, hmk, hfi, hi, hO, hB, hk9⟩ := hrel
  have HD := Lib.hid hd
  have HUP := Lib.hid hup
  have HO := Lib.hid hO
  have HB := Lib.hid hB
  have hk70 : k < 70 := by omega
  cases hc : f i with
  | none =>
   have HU : Hid (upl f 16 num = done) := Lib.hid (by rw [hup, upl_none hc m, List.append_nil])
   have hx := fidx_none HI.out hc
   have KF2 := Lib.hid (fun z (hz : RwV crow 14 z ao (rowsX f L)) => (by have := KF.out i z hz; rw [hx] at this; exact this : Calls Try.prog 36 #[.slice ao n cap, .int .i64 i] z fun ee w' => ee = .returned (.int .i64 (-1)) ∧ Below z.heap.size z w'))
   clear hd hup hfi hi hO hB hc hx
   go_wp2_with (first | go_guarded | (go_at_call 36; (with_reducible refine (KF2.out _ (HR.out.below HB.out)).mono ?_); rintro _ w1 ⟨rfl, hbel⟩; have HB1 := Lib.hid (HB.out.trans (hbel.mono HB.out.size)); have HO1 := Lib.hid (row_bel HO.out hbel); clear hbel))
   go_ret
   exact ⟨_, rfl, by rw [HU.out, HD.out]; exact HO1.out, HB1.out⟩
  | some cc =>
   cases m with
   | zero => unfold fin at hfi; rw [hc] at hfi; cases hfi
   | succ m =>
    rw [fin_some hc] at hfi
    rw [upl_some hc] at hup
    have HF1 := Lib.hid hfi
    have HU1 : Hid (upl f 16 num = (done ++ [i]) ++ upl f m cc.par) := Lib.hid (by rw [hup]; simp)
    have HD1 : Hid ((done ++ [i]).length = k + 1) := Lib.hid (by rw [List.length_append, hd]; rfl)
    have HP := Lib.hid (HI.out.cls i cc hc).2.1.par
    obtain ⟨j, hj, hfj, hcj⟩ := fidx_some HI.out hc
    have KF2 := Lib.hid (fun z (hz : RwV crow 14 z ao (rowsX f L)) => (by have := KF.out i z hz; rw [hfj] at this; exact this : Calls Try.prog 36 #[.slice ao n cap, .int .i64 i] z fun ee w' => ee = .returned (.int .i64 (j : Int)) ∧ Below z.heap.size z w'))
    obtain ⟨b, o, rfl, hb, hra⟩ := HR.out j hj
    rw [hcj] at hra
    have hcp := hra 1 _ rfl
    have HCP := Lib.hid hcp
    have HBL := Lib.hid hb
    have hjn : j < n := by have h8 := HLN.out; rw [rowsX_len] at hj; omega
    clear hd hup hfi hi hO hB hc hfj hcj hra hcp hb hj
    go_wp2_with (first
     | go_guarded
     | (at_builtin; refine wpList_append_own _ rfl _ _ 31 rfl w.heap.size 3 ii _ 1 8 Try.underlying31 CI0.out CZ0.out CZ1.out CZ2.out rfl (by decide) (.slice oo k c) _ _ rfl (World.ownsRow.alloc HO1.out _) ⟨_, 0, none⟩ 1 1 [.int .i64 i] rfl rfl ?c1 ?c2 ?c3 ?c4 ?c5 ?_; (case c1 => (intro q u hu; (rcases q with _ | q <;> simp at hu <;> (try subst hu) <;> simp [Addr.add, go_sem, *]))); (case c2 => (intro v hv; simp at hv; (first | (subst hv; rfl) | (rcases hv with rfl <;> rfl)))); (case c3 => (unfold maxLen; omega)); (case c4 => omega); (case c5 => (have := HB1.out.size; simp; omega)); intro v2 z2 hown2 hg2 _; (have HB2 : Hid (Below w.heap.size w z2) := Lib.hid (HB1.out.trans ((Below.alloc (Below.refl _ _) HB1.out.size _).grown hg2 (by have := HB1.out.size; simp; omega) (fun q hq => (HO1.out.lt q hq).1)))); have hc2 := (HB2.out.cell (p := ⟨b, o + j * 14 + 1, none⟩) HBL.out).trans HCP.out; have hb2 := Nat.lt_of_lt_of_le HBL.out HB2.out.size; obtain ⟨a2, c2, rfl⟩ := row_form hown2; (have HO2 := Lib.hid hown2); clear hown2 hg2)
     | (go_at_call 36; (with_reducible refine (KF2.out _ (HR.out.below HB.out)).mono ?_); rintro _ w1 ⟨rfl, hbel⟩; have HB1 := Lib.hid (HB.out.trans (hbel.mono HB.out.size)); have HO1 := Lib.hid (row_bel HO.out hbel); clear hbel))
    go_roundg m
    case rel => exact ⟨cc.par, done ++ [i], m, k + 1, a2, c2, rfl, rfl, by go_num, HD1.out, HU1.out, by omega, HF1.out, HP.out, by rw [List.map_append]; exact HO2.out, HB2.out, Nat.le_refl _⟩
    case measure => omega
theorem chl_eq {f : Int → Option Cls} (num : Int) : ∀ {L : List Int}, (∀ x ∈ L, ∃ c, f x = some c ∧ c.id = x) → ((rowsX f L).filter (fun c => c.par == num)).map Cls.id = L.filter (sel f (fun c => c.par == num))
 | [], _ => rfl
 | x :: L, h => by
  obtain ⟨c, hc, hi⟩ := h x List.mem_cons_self
  have ih := chl_eq num (L := L) fun y hy => h y (List.mem_cons_of_mem _ hy)
  unfold rowsX at ih ⊢
  rw [List.map_cons, List.filter_cons, List.filter_cons]
  have h1 : sel f (fun c => c.par == num) x = (c.par == num) := by unfold sel; rw [hc]
  have h2 : gcl (f x) = c := by rw [hc]; rfl
  rw [h1, h2]
  cases hp : (c.par == num)
  ·simpa using ih
  ·simp [ih, hi]
theorem TI.rows {f : Int → Option Cls} {L : List Int} (I : TI f L) : ∀ x ∈ L, ∃ c, f x = some c ∧ c.id = x ∧ wrC c = 0 ∧ CIn c := fun x hx => by
 obtain ⟨c, hc⟩ := Option.isSome_iff_exists.1 ((I.mem x).2 hx)
 have := I.cls x c hc
 exact ⟨c, hc, this.1, this.2.2, this.2.1⟩
theorem TI.rin {f : Int → Option Cls} {L : List Int} (I : TI f L) : ∀ c ∈ rowsX f L, CIn c := fun c hc => by
 obtain ⟨x, hx, rfl⟩ := List.mem_map.1 hc
 obtain ⟨c, h1, _, _, h2⟩ := I.rows x hx
 rw [h1]
 exact h2
theorem filt_yes {α : Type} (p : α → Bool) {X : List α} {k : Nat} (h : k < X.length) (hp : p X[k] = true) : (X.take (k + 1)).filter p = (X.take k).filter p ++ [X[k]] := by
 rw [take_snoc'' X k h, List.filter_append]; simp [hp]
theorem filt_no {α : Type} (p : α → Bool) {X : List α} {k : Nat} (h : k < X.length) (hp : p X[k] = false) : (X.take (k + 1)).filter p = (X.take k).filter p := by
 rw [take_snoc'' X k h, List.filter_append]; simp [hp]
theorem rchi_c (X : List Cls) (n : Nat) (hX : X.length = n) (hn : n ≤ 1000) (num : Int) (ao : Option Addr) (cap : Nat) (w : World) (hR : RwV crow 14 w ao X) :
  Calls Try.prog 79 #[.slice ao n cap, .int .i64 num] w fun e w' => ∃ v, e = .returned v ∧ w'.ownsRow w.heap.size 3 1 v (X.filter (fun c => c.par == num)).length ((X.filter (fun c => c.par == num)).map (fun c => Value.int .i64 c.id)) ∧ Below w.heap.size w w' := by
 obtain ⟨ii, ci0, cz0, cz1, cz2⟩ := int_partsH
 have CI0 := Lib.hid ci0
 have CZ0 := Lib.hid cz0
 have CZ1 := Lib.hid cz1
 have CZ2 := Lib.hid cz2
 have HX := Lib.hid hX
 have HR := Lib.hid hR
 have ALL := Lib.hid cl_alloc
 have INF := Lib.hid cl_info
 have ONE := Lib.hid cla_one
 clear ci0 cz0 cz1 cz2 hX hR
 go_enter Try.func79, Try.ntmps79
 go_wp2_with fail
 go_loopg [5, 10] n (fun k9 s5 s10 wr => ∃ (k m : Nat) (oo : Option Addr) (cp : Nat), s5 = .slice oo m cp ∧ s10 = .int .i64 k ∧ k ≤ n ∧ ((X.take k).filter (fun c => c.par == num)).length = m ∧ wr.ownsRow w.heap.size 3 1 (.slice oo m cp) m (((X.take k).filter (fun c => c.par == num)).map (fun c => Value.int .i64 c.id)) ∧ Below w.heap.size w wr ∧ n - k ≤ k9)
 case atStart => exact ⟨0, 0, none, 0, rfl, rfl, Nat.zero_le _, rfl, World.ownsRow_nil _ _ _ _, Below.refl _ _, by omega⟩
 case round =>
  obtain ⟨k, m, oo, cp, rfl, rfl, hk, hm, hO, hB, hk9⟩ := hrel
  have HM := Lib.hid hm
  have HO := Lib.hid hO
  have HB := Lib.hid hB
  have hmk : m ≤ 1000 := by rw [← hm]; exact Nat.le_trans (List.length_filter_le _ _) (by simp; omega)
  by_cases hlt : k < n
  ·have hlC : k < X.length := by rw [HX.out]; exact hlt
   obtain ⟨b, o, rfl, hb, hra⟩ := (HR.out.below hB) k hlC
   have hy := filt_yes (fun c : Cls => c.par == num) hlC
   have hno := filt_no (fun c : Cls => c.par == num) hlC
   obtain ⟨c, hce⟩ : ∃ c, X[k] = c := ⟨_, rfl⟩
   rw [hce] at hra hy hno
   have HR1 := Lib.hid (show wr.rangeAt b (o + k * 14) (#[.int .i64 c.id, .int .i64 c.par, .bool c.leaf, .int .u64 c.ra, .int .u64 c.rb, .int .u64 c.rc, .int .u64 c.la, .int .u64 c.lb, .int .u64 c.lc, .int .u64 c.ua, .int .u64 c.ub, .int .u64 c.uc, .int .i64 c.pk, .int .i64 c.bt] : Array Value).toList from hra)
   clear hB hra hce hm hO
   cases hp : (c.par == num) with
   | false =>
    have HN2 := Lib.hid (hno hp)
    clear hy hno
    go_wp2_with (first
     | go_guarded
     | (refine wpList_var_new rfl rfl 54 #[.int .i64 0, .int .i64 0, .bool false, .int .u64 0, .int .u64 0, .int .u64 0, .int .u64 0, .int .u64 0, .int .u64 0, .int .u64 0, .int .u64 0, .int .u64 0, .int .i64 0, .int .i64 0] ALL.out rfl _ _ rfl #[.int .i64 c.id, .int .i64 c.par, .bool c.leaf, .int .u64 c.ra, .int .u64 c.rb, .int .u64 c.rc, .int .u64 c.la, .int .u64 c.lb, .int .u64 c.lc, .int .u64 c.ua, .int .u64 c.ub, .int .u64 c.uc, .int .i64 c.pk, .int .i64 c.bt] rfl rfl INF.out rfl (ONE.out _) ?_; intro w5 hs5 hb5 hv5; have f5 := hv5.cell 1 rfl; have l5 := hv5.lt; have HB5 := Lib.hid (HB.out.trans (hb5.mono HB.out.size)); have HO5 := Lib.hid (row_bel HO.out hb5); clear hb5 hv5)
     | (refine wpList_part_get rfl 54 _ rfl b (o + k * 14) #[.int .i64 c.id, .int .i64 c.par, .bool c.leaf, .int .u64 c.ra, .int .u64 c.rb, .int .u64 c.rc, .int .u64 c.la, .int .u64 c.lb, .int .u64 c.lc, .int .u64 c.ua, .int .u64 c.ub, .int .u64 c.uc, .int .i64 c.pk, .int .i64 c.bt] _ HR1.out rfl Try.underlying54 rfl INF.out ?_))
    go_roundg (n - (k + 1))
    case rel => exact ⟨k + 1, m, oo, cp, rfl, by go_num, by omega, by rw [HN2.out]; exact HM.out, by rw [HN2.out]; exact HO5.out, HB5.out, Nat.le_refl _⟩
    case measure => omega
   | true =>
    have HN2 := Lib.hid (hy hp)
    clear hy hno
    go_wp2_with (first
     | go_guarded
     | (at_builtin; refine wpList_append_own _ rfl _ _ 31 rfl w.heap.size 3 ii _ 1 8 Try.underlying31 CI0.out CZ0.out CZ1.out CZ2.out rfl (by decide) (.slice oo m cp) _ _ rfl (World.ownsRow.alloc HO5.out _) ⟨_, 0, none⟩ 1 1 [.int .i64 c.id] rfl rfl ?c1 ?c2 ?c3 ?c4 ?c5 ?_; (case c1 => (intro q u hu; (rcases q with _ | q <;> simp at hu <;> (try subst hu) <;> simp [Addr.add, go_sem, *]))); (case c2 => (intro v hv; simp at hv; (first | (subst hv; rfl) | (rcases hv with rfl <;> rfl)))); (case c3 => (unfold maxLen; omega)); (case c4 => omega); (case c5 => (have := HB5.out.size; simp; omega)); intro v2 z2 hown2 hg2 _; (have HB2 : Hid (Below w.heap.size w z2) := Lib.hid (HB5.out.trans ((Below.alloc (Below.refl _ _) HB5.out.size _).grown hg2 (by have := HB5.out.size; simp; omega) (fun q hq => (HO5.out.lt q hq).1)))); obtain ⟨a2, c2, rfl⟩ := row_form hown2; (have HO2 := Lib.hid hown2); clear hown2 hg2)
     | (refine wpList_var_new rfl rfl 54 #[.int .i64 0, .int .i64 0, .bool false, .int .u64 0, .int .u64 0, .int .u64 0, .int .u64 0, .int .u64 0, .int .u64 0, .int .u64 0, .int .u64 0, .int .u64 0, .int .i64 0, .int .i64 0] ALL.out rfl _ _ rfl #[.int .i64 c.id, .int .i64 c.par, .bool c.leaf, .int .u64 c.ra, .int .u64 c.rb, .int .u64 c.rc, .int .u64 c.la, .int .u64 c.lb, .int .u64 c.lc, .int .u64 c.ua, .int .u64 c.ub, .int .u64 c.uc, .int .i64 c.pk, .int .i64 c.bt] rfl rfl INF.out rfl (ONE.out _) ?_; intro w5 hs5 hb5 hv5; have e5 := hv5.cell 0 rfl; have f5 := hv5.cell 1 rfl; have l5 := hv5.lt; have HB5 := Lib.hid (HB.out.trans (hb5.mono HB.out.size)); have HO5 := Lib.hid (row_bel HO.out hb5); clear hb5 hv5)
     | (refine wpList_part_get rfl 54 _ rfl b (o + k * 14) #[.int .i64 c.id, .int .i64 c.par, .bool c.leaf, .int .u64 c.ra, .int .u64 c.rb, .int .u64 c.rc, .int .u64 c.la, .int .u64 c.lb, .int .u64 c.lc, .int .u64 c.ua, .int .u64 c.ub, .int .u64 c.uc, .int .i64 c.pk, .int .i64 c.bt] _ HR1.out rfl Try.underlying54 rfl INF.out ?_))
    go_roundg (n - (k + 1))
    case rel => exact ⟨k + 1, m + 1, a2, c2, rfl, by go_num, by omega, by rw [HN2.out, List.length_append, HM.out]; rfl, by rw [HN2.out, List.map_append]; exact HO2.out, HB2.out, Nat.le_refl _⟩
    case measure => omega
  ·obtain rfl : k = n := by omega
   have hfin : X.take k = X := by rw [← HX.out, List.take_length]
   have HF := Lib.hid hfin
   clear hB hm hO hlt hfin
   go_wp2_with (first | go_guarded)
   go_ret
   have ho := HO.out
   have hm := HM.out
   rw [HF.out] at ho hm
   rw [hm]
   exact ⟨_, rfl, ho, HB.out⟩
end Go.Proofs.Ytmmahgfijiocfaa
end
