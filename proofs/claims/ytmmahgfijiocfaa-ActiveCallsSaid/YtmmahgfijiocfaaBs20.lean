/- Joined texts. -/
import Derived.Test.YtmmahgfijiocfaaBs0
import Derived.Test.YtmmahgfijiocfaaBs19
set_option linter.unusedVariables false
set_option linter.unusedSimpArgs false
set_option maxRecDepth 100000
set_option maxHeartbeats 16000000
section
namespace Go.Proofs.Ytmmahgfijiocfaa
open Go.RowKit Fg Reg Go.Maps
attribute [local irreducible] Reg.wE VR
theorem del_rows {f : Int → Option Cls} {L : List Int} (I : TI f L) (i : Int) : (rowsX f L).filter (fun c => c.id != i) = rowsX (mdel f i) (L.filter (fun y => decide (y ≠ i))) := by
 have hid : ∀ x ∈ L, (gcl (f x)).id = x := fun x hx => by
  obtain ⟨d, h1, h2, _⟩ := I.rows x hx
  rw [h1]; exact h2
 unfold rowsX
 rw [List.filter_map, List.filter_congr (q := fun y => decide (y ≠ i)) (fun x hx => by show ((gcl (f x)).id != i) = decide (x ≠ i); rw [hid x hx]; by_cases h : x = i <;> simp [h])]
 exact List.map_congr_left fun x hx => by
  have h1 := (List.mem_filter.1 hx).2
  have h2 : x ≠ i := by simpa using h1
  unfold mdel; rw [if_neg h2]
theorem del_z (w : World) : VR (w.alloc (.cells #[.slice none 0 0, .int .i64 0] 59)) w.heap.size 59 #[.slice none 0 0, .int .i64 0] := VR.new _ _ _
theorem rdel_none {f : Int → Option Cls} {L : List Int} (I : TI f L) {i : Int} (n : Nat) (hn : L.length = n) (ao : Option Addr) (cap : Nat) (w : World) (hR : RwV crow 14 w ao (rowsX f L)) (hs : f i = none) :
  Calls Try.prog 57 #[.slice ao n cap, .int .i64 i] w (DidP w 6 f L) := by
 have hl : (rowsX f L).length = n := by rw [rowsX_len]; exact hn
 have hn64 : n ≤ 64 := by rw [← hn]; exact I.len
 have HLN := Lib.hid hn
 have KF1 : Hid (∀ z, RwV crow 14 z ao (rowsX f L) → Calls Try.prog 36 #[.slice ao n cap, .int .i64 i] z fun ee w' => ee = .returned (.int .i64 (-1)) ∧ Below z.heap.size z w') := Lib.hid (fun z hz => by have := rfind_c (rowsX f L) n hl (by omega) i ao cap z hz; rw [fidx_none I hs] at this; exact this)
 have hB0 : Below w.heap.size w (w.alloc (.cells #[.slice none 0 0, .int .i64 0] 59)) := bub
 have HQ0 := Lib.hid (del_z w)
 have HB0 := Lib.hid hB0
 have INF := Lib.hid cl_info
 have DINF := Lib.hid dd_info
 have DONE := Lib.hid dd_one
 have HRS := Lib.hid (fun (z : World) (h : Below w.heap.size w z) => hR.below h)
 clear hB0
 clear I hn hl hR hs
 go_enter Try.func57, Try.ntmps57
 go_wp2_with (first
  | go_guarded
  | (refine wpList_var_set rfl 59 _ _ rfl w.heap.size #[.slice none 0 0, .int .i64 0] #[.slice ao n cap, .int .i64 6] HQ1.out rfl rfl DINF.out rfl (DONE.out _ _ _ _) ?_; intro w20 hs20 ho20 hv20; have HVF := Lib.hid hv20; have HBF : Hid (Below w.heap.size w w20) := Lib.hid (HB1.out.trans ⟨ho20.1, ho20.2, ho20.3, ho20.4, fun k hk => ho20.5 k (Nat.lt_of_lt_of_le hk HB1.out.size) (by omega)⟩); have HOF := Lib.hid ho20; clear ho20 hv20)
  | (go_at_call 36; (have mk := HB0); (with_reducible refine (KF1.out _ (HRS.out _ HB0.out)).mono ?_); rintro _ w1 ⟨rfl, hbel⟩; have HQ1 := Lib.hid (HQ0.out.bel hbel); have HB1 : Hid (Below w.heap.size w w1) := Lib.hid (HB0.out.trans (hbel.mono HB0.out.size)); clear hbel))
 refine bodyPost_ret (v := .agg #[.slice ao n cap, .int .i64 6]) (results_var Try.results57 _ w.heap.size rfl _ _ HVF.out Try.underlying59 rfl DINF.out) rfl ?_
 exact ⟨ao, n, cap, rfl, HLN.out, HRS.out _ HBF.out, HBF.out⟩
theorem rdel_chi {f : Int → Option Cls} {L : List Int} (I : TI f L) {i : Int} (n : Nat) (hn : L.length = n) (ao : Option Addr) (cap : Nat) (w : World) (hR : RwV crow 14 w ao (rowsX f L)) {o : Cls} (hs : f i = some o) (hc : 0 < (L.filter (sel f (fun c => c.par == i))).length) :
  Calls Try.prog 57 #[.slice ao n cap, .int .i64 i] w (DidP w 23 f L) := by
 have hl : (rowsX f L).length = n := by rw [rowsX_len]; exact hn
 have hn64 : n ≤ 64 := by rw [← hn]; exact I.len
 have HLN := Lib.hid hn
 obtain ⟨j1, hj1, hf1, -⟩ := fidx_some I hs
 have KF1 : Hid (∀ z, RwV crow 14 z ao (rowsX f L) → Calls Try.prog 36 #[.slice ao n cap, .int .i64 i] z fun ee w' => ee = .returned (.int .i64 (j1 : Int)) ∧ Below z.heap.size z w') := Lib.hid (fun z hz => by have := rfind_c (rowsX f L) n hl (by omega) i ao cap z hz; rw [hf1] at this; exact this)
 have p3 : decide ((j1 : Int) < 0) = false := decide_eq_false (by omega)
 have hcl : (((rowsX f L).filter (fun y => y.par == i)).map Cls.id) = L.filter (sel f (fun y => y.par == i)) := chl_eq i (fun x hx => by obtain ⟨d, h1, h2, _⟩ := I.rows x hx; exact ⟨d, h1, h2⟩)
 obtain ⟨m, hm⟩ : ∃ m, (L.filter (sel f (fun y => y.par == i))).length = m := ⟨_, rfl⟩
 rw [hm] at hc
 have KC : Hid (∀ z, RwV crow 14 z ao (rowsX f L) → Calls Try.prog 79 #[.slice ao n cap, .int .i64 i] z fun e z' => ∃ co cc, e = .returned (.slice co m cc) ∧ Below z.heap.size z z') := Lib.hid (fun z hz => by
  refine (rchi_c (rowsX f L) n hl (by omega) i ao cap z hz).mono ?_
  rintro e z' ⟨v, rfl, hr, hb⟩
  have h2 : ((rowsX f L).filter (fun y => y.par == i)).length = m := by rw [← hm, ← hcl, List.length_map]
  rw [h2] at hr
  obtain ⟨co, cc, rfl⟩ := row_form hr
  exact ⟨co, cc, rfl, hb⟩)
 have q1 : decide ((0 : Int) < (m : Int)) = true := decide_eq_true (by omega)
 have q2 : decide (0 < m) = true := decide_eq_true hc
 have hB0 : Below w.heap.size w (w.alloc (.cells #[.slice none 0 0, .int .i64 0] 59)) := bub
 have HQ0 := Lib.hid (del_z w)
 have HB0 := Lib.hid hB0
 have INF := Lib.hid cl_info
 have DINF := Lib.hid dd_info
 have DONE := Lib.hid dd_one
 have HRS := Lib.hid (fun (z : World) (h : Below w.heap.size w z) => hR.below h)
 clear hB0
 clear I hn hl hR hs hf1 hj1 hcl hm hc
 go_enter Try.func57, Try.ntmps57
 go_wp2_with (first
  | go_guarded
  | (refine wpList_var_set rfl 59 _ _ rfl w.heap.size #[.slice none 0 0, .int .i64 0] #[.slice ao n cap, .int .i64 23] HQ2.out rfl rfl DINF.out rfl (DONE.out _ _ _ _) ?_; intro w20 hs20 ho20 hv20; have HVF := Lib.hid hv20; have HBF : Hid (Below w.heap.size w w20) := Lib.hid (HB2.out.trans ⟨ho20.1, ho20.2, ho20.3, ho20.4, fun k hk => ho20.5 k (Nat.lt_of_lt_of_le hk HB2.out.size) (by omega)⟩); have HOF := Lib.hid ho20; clear ho20 hv20)
  | (go_at_call 79; (have mk := HB1); (with_reducible refine (KC.out _ (HRS.out _ HB1.out)).mono ?_); rintro _ w2 ⟨co, cc, rfl, hbel⟩; have HQ2 := Lib.hid (HQ1.out.bel hbel); have HB2 : Hid (Below w.heap.size w w2) := Lib.hid (HB1.out.trans (hbel.mono HB1.out.size)); clear hbel)
  | (go_at_call 36; (have mk := HB0); (with_reducible refine (KF1.out _ (HRS.out _ HB0.out)).mono ?_); rintro _ w1 ⟨rfl, hbel⟩; have HQ1 := Lib.hid (HQ0.out.bel hbel); have HB1 : Hid (Below w.heap.size w w1) := Lib.hid (HB0.out.trans (hbel.mono HB0.out.size)); clear hbel))
 refine bodyPost_ret (v := .agg #[.slice ao n cap, .int .i64 23]) (results_var Try.results57 _ w.heap.size rfl _ _ HVF.out Try.underlying59 rfl DINF.out) rfl ?_
 exact ⟨ao, n, cap, rfl, HLN.out, HRS.out _ HBF.out, HBF.out⟩
theorem rdel_ok {f : Int → Option Cls} {L : List Int} (I : TI f L) {i : Int} (n : Nat) (hn : L.length = n) (ao : Option Addr) (cap : Nat) (w : World) (hR : RwV crow 14 w ao (rowsX f L)) {o : Cls} (hs : f i = some o) (hc : ¬ 0 < (L.filter (sel f (fun c => c.par == i))).length) :
  Calls Try.prog 57 #[.slice ao n cap, .int .i64 i] w (DidP w 0 (mdel f i) (L.filter (fun y => decide (y ≠ i)))) := by
 have hl : (rowsX f L).length = n := by rw [rowsX_len]; exact hn
 have hn64 : n ≤ 64 := by rw [← hn]; exact I.len
 have HLN := Lib.hid hn
 obtain ⟨j1, hj1, hf1, -⟩ := fidx_some I hs
 have KF1 : Hid (∀ z, RwV crow 14 z ao (rowsX f L) → Calls Try.prog 36 #[.slice ao n cap, .int .i64 i] z fun ee w' => ee = .returned (.int .i64 (j1 : Int)) ∧ Below z.heap.size z w') := Lib.hid (fun z hz => by have := rfind_c (rowsX f L) n hl (by omega) i ao cap z hz; rw [hf1] at this; exact this)
 have p3 : decide ((j1 : Int) < 0) = false := decide_eq_false (by omega)
 have hcl : (((rowsX f L).filter (fun y => y.par == i)).map Cls.id) = L.filter (sel f (fun y => y.par == i)) := chl_eq i (fun x hx => by obtain ⟨d, h1, h2, _⟩ := I.rows x hx; exact ⟨d, h1, h2⟩)
 obtain ⟨m, hm⟩ : ∃ m, (L.filter (sel f (fun y => y.par == i))).length = m := ⟨_, rfl⟩
 rw [hm] at hc
 have KC : Hid (∀ z, RwV crow 14 z ao (rowsX f L) → Calls Try.prog 79 #[.slice ao n cap, .int .i64 i] z fun e z' => ∃ co cc, e = .returned (.slice co m cc) ∧ Below z.heap.size z z') := Lib.hid (fun z hz => by
  refine (rchi_c (rowsX f L) n hl (by omega) i ao cap z hz).mono ?_
  rintro e z' ⟨v, rfl, hr, hb⟩
  have h2 : ((rowsX f L).filter (fun y => y.par == i)).length = m := by rw [← hm, ← hcl, List.length_map]
  rw [h2] at hr
  obtain ⟨co, cc, rfl⟩ := row_form hr
  exact ⟨co, cc, rfl, hb⟩)
 have q1 : decide ((0 : Int) < (m : Int)) = false := decide_eq_false (by omega)
 have q2 : decide (0 < m) = false := decide_eq_false hc
 obtain ⟨ii, ci0, cz0, cz1, cz2⟩ := clp_parts
 have CI0 := Lib.hid ci0
 have CZ0 := Lib.hid cz0
 have CZ1 := Lib.hid cz1
 have CZ2 := Lib.hid cz2
 have ALL := Lib.hid cl_alloc
 have ONE := Lib.hid cla_one
 have HDR := Lib.hid (del_rows I i)
 obtain ⟨X, hX⟩ : ∃ X, rowsX f L = X := ⟨_, rfl⟩
 obtain ⟨base, hbase⟩ : ∃ base, w.heap.size + 1 = base := ⟨_, rfl⟩
 have HBA := Lib.hid hbase
 rw [hX] at hl hR KF1 KC HDR
 have HX := Lib.hid hl
 have hB0 : Below w.heap.size w (w.alloc (.cells #[.slice none 0 0, .int .i64 0] 59)) := bub
 have HQ0 := Lib.hid (del_z w)
 have HB0 := Lib.hid hB0
 have INF := Lib.hid cl_info
 have DINF := Lib.hid dd_info
 have DONE := Lib.hid dd_one
 have HRS := Lib.hid (fun (z : World) (h : Below w.heap.size w z) => hR.below h)
 clear hB0
 clear I hn hl hR hs hf1 hj1 hcl hm hc ci0 cz0 cz1 cz2 hX hbase
 go_enter Try.func57, Try.ntmps57
 go_wp2_with (first
  | go_guarded
  | (go_at_call 79; (have mk := HB1); (with_reducible refine (KC.out _ (HRS.out _ HB1.out)).mono ?_); rintro _ w2 ⟨co, cc, rfl, hbel⟩; have HQ2 := Lib.hid (HQ1.out.bel hbel); have HB2 : Hid (Below w.heap.size w w2) := Lib.hid (HB1.out.trans (hbel.mono HB1.out.size)); clear hbel)
  | (go_at_call 36; (have mk := HB0); (with_reducible refine (KF1.out _ (HRS.out _ HB0.out)).mono ?_); rintro _ w1 ⟨rfl, hbel⟩; have HQ1 := Lib.hid (HQ0.out.bel hbel); have HB1 : Hid (Below w.heap.size w w1) := Lib.hid (HB0.out.trans (hbel.mono HB0.out.size)); clear hbel))
 try go_frame
 go_loopg [5, 23] n (fun k9 s5 s23 wr => ∃ (k m2 : Nat) (oo : Option Addr) (cp : Nat), s5 = .slice oo m2 cp ∧ s23 = .int .i64 k ∧ k ≤ n ∧ ((X.take k).filter (fun c => c.id != i)).length = m2 ∧ VR wr w.heap.size 59 #[.slice none 0 0, .int .i64 0] ∧ wr.ownsRow base 54 14 (.slice oo m2 cp) m2 (((X.take k).filter (fun c => c.id != i)).flatMap crow) ∧ Below w.heap.size w wr ∧ base ≤ wr.heap.size ∧ n - k ≤ k9)
 case atStart => exact ⟨0, 0, none, 0, rfl, rfl, Nat.zero_le _, rfl, HQ2.out, World.ownsRow_nil _ _ _ _, HB2.out, by rw [← HBA.out]; exact HQ2.out.lt, by omega⟩
 case round =>
  obtain ⟨k, m2, oo, cp, rfl, rfl, hk, hm, hv, hO, hB, hbs, hk9⟩ := hrel
  have HM := Lib.hid hm
  have HV := Lib.hid hv
  have HO := Lib.hid hO
  have HB := Lib.hid hB
  have hmk : m2 ≤ 1000 := by rw [← hm]; exact Nat.le_trans (List.length_filter_le _ _) (by simp; omega)
  have hbx : w.heap.size < base := by have := HBA.out; omega
  by_cases hlt : k < n
  ·have hlC : k < X.length := by rw [HX.out]; exact hlt
   obtain ⟨b, of, rfl, hb, hra⟩ := (HRS.out _ hB) k hlC
   have hy := filt_yes (fun c : Cls => c.id != i) hlC
   have hno := filt_no (fun c : Cls => c.id != i) hlC
   obtain ⟨y, hye⟩ : ∃ y, X[k] = y := ⟨_, rfl⟩
   rw [hye] at hra hy hno
   have HR1 := Lib.hid (show wr.rangeAt b (of + k * 14) (#[.int .i64 y.id, .int .i64 y.par, .bool y.leaf, .int .u64 y.ra, .int .u64 y.rb, .int .u64 y.rc, .int .u64 y.la, .int .u64 y.lb, .int .u64 y.lc, .int .u64 y.ua, .int .u64 y.ub, .int .u64 y.uc, .int .i64 y.pk, .int .i64 y.bt] : Array Value).toList from hra)
   clear hm hB hra hye hv hO hb
   cases he : (y.id != i) with
   | false =>
    have HN2 := Lib.hid (hno he)
    have he2 : (y.id == i) = true := by simpa using he
    clear hy hno
    go_wp2_with (first
     | go_guarded
     | (refine wpList_var_new rfl rfl 54 #[.int .i64 0, .int .i64 0, .bool false, .int .u64 0, .int .u64 0, .int .u64 0, .int .u64 0, .int .u64 0, .int .u64 0, .int .u64 0, .int .u64 0, .int .u64 0, .int .i64 0, .int .i64 0] ALL.out rfl _ _ rfl #[.int .i64 y.id, .int .i64 y.par, .bool y.leaf, .int .u64 y.ra, .int .u64 y.rb, .int .u64 y.rc, .int .u64 y.la, .int .u64 y.lb, .int .u64 y.lc, .int .u64 y.ua, .int .u64 y.ub, .int .u64 y.uc, .int .i64 y.pk, .int .i64 y.bt] rfl rfl INF.out rfl (ONE.out _) ?_; intro w5 hs5 hb5 hv5; have e5 := hv5.cell 0 rfl; have l5 := hv5.lt; have HV5 := Lib.hid hv5; have HB5 := Lib.hid (HB.out.trans (hb5.mono HB.out.size)); have HO5 := Lib.hid (row_bel HO.out hb5); have HG5 := Lib.hid (HV.out.bel hb5); clear hb5 hv5)
     | (refine wpList_part_get rfl 54 _ rfl b (of + k * 14) #[.int .i64 y.id, .int .i64 y.par, .bool y.leaf, .int .u64 y.ra, .int .u64 y.rb, .int .u64 y.rc, .int .u64 y.la, .int .u64 y.lb, .int .u64 y.lc, .int .u64 y.ua, .int .u64 y.ub, .int .u64 y.uc, .int .i64 y.pk, .int .i64 y.bt] _ HR1.out rfl Try.underlying54 rfl INF.out ?_))
    go_roundg (n - (k + 1))
    case rel => exact ⟨k + 1, m2, oo, cp, rfl, by go_num, by omega, by rw [HN2.out]; exact HM.out, HG5.out, by rw [HN2.out]; exact HO5.out, HB5.out, by omega, Nat.le_refl _⟩
    case measure => omega
   | true =>
    have HN2 := Lib.hid (hy he)
    have he2 : (y.id == i) = false := by simpa using he
    clear hy hno
    go_wp2_with (first
     | go_guarded
     | (at_builtin; refine wpList_append_own _ rfl _ _ 26 rfl base 54 ii _ 14 112 Try.underlying26 CI0.out CZ0.out CZ1.out CZ2.out rfl (by decide) (.slice oo m2 cp) _ _ rfl (World.ownsRow.alloc HO5.out _) ⟨_, 0, none⟩ 1 1 (crow y) rfl rfl ?c1 ?c2 ?c3 ?c4 ?c5 ?_; (case c1 => exact news_at w5 (crow y) 54 _ (by omega)); (case c2 => exact crow_one y); (case c3 => (unfold maxLen; omega)); (case c4 => omega); (case c5 => (skip; simp; omega)); intro v2 z6 hown2 hg2 _; (have HB6 : Hid (Below w.heap.size w z6) := Lib.hid (HB5.out.trans ((Below.alloc (Below.refl _ _) HB5.out.size _).grown hg2 (by have := HB5.out.size; simp; omega) (fun q hq => Nat.le_trans (Nat.le_of_lt hbx) (HO5.out.lt q hq).1)))); (have HG6 := Lib.hid ((HG5.out.alloc _).grown hg2 (World.ownsRow.alloc HO5.out _) (by decide))); (have HZ6 : Hid (base ≤ z6.heap.size) := Lib.hid (Nat.le_trans (show base ≤ (World.alloc w5 _).heap.size by simp; omega) hg2.size)); obtain ⟨a2, c2, rfl⟩ := row_form hown2; (have HO6 := Lib.hid hown2); clear hown2 hg2)
     | (refine wpList_var_get rfl 54 _ rfl wr.heap.size #[.int .i64 y.id, .int .i64 y.par, .bool y.leaf, .int .u64 y.ra, .int .u64 y.rb, .int .u64 y.rc, .int .u64 y.la, .int .u64 y.lb, .int .u64 y.lc, .int .u64 y.ua, .int .u64 y.ub, .int .u64 y.uc, .int .i64 y.pk, .int .i64 y.bt] _ HV5.out rfl Try.underlying54 rfl INF.out ?_)
     | (refine wpList_var_new rfl rfl 54 #[.int .i64 0, .int .i64 0, .bool false, .int .u64 0, .int .u64 0, .int .u64 0, .int .u64 0, .int .u64 0, .int .u64 0, .int .u64 0, .int .u64 0, .int .u64 0, .int .i64 0, .int .i64 0] ALL.out rfl _ _ rfl #[.int .i64 y.id, .int .i64 y.par, .bool y.leaf, .int .u64 y.ra, .int .u64 y.rb, .int .u64 y.rc, .int .u64 y.la, .int .u64 y.lb, .int .u64 y.lc, .int .u64 y.ua, .int .u64 y.ub, .int .u64 y.uc, .int .i64 y.pk, .int .i64 y.bt] rfl rfl INF.out rfl (ONE.out _) ?_; intro w5 hs5 hb5 hv5; have e5 := hv5.cell 0 rfl; have l5 := hv5.lt; have HV5 := Lib.hid hv5; have HB5 := Lib.hid (HB.out.trans (hb5.mono HB.out.size)); have HO5 := Lib.hid (row_bel HO.out hb5); have HG5 := Lib.hid (HV.out.bel hb5); clear hb5 hv5)
     | (refine wpList_part_get rfl 54 _ rfl b (of + k * 14) #[.int .i64 y.id, .int .i64 y.par, .bool y.leaf, .int .u64 y.ra, .int .u64 y.rb, .int .u64 y.rc, .int .u64 y.la, .int .u64 y.lb, .int .u64 y.lc, .int .u64 y.ua, .int .u64 y.ub, .int .u64 y.uc, .int .i64 y.pk, .int .i64 y.bt] _ HR1.out rfl Try.underlying54 rfl INF.out ?_))
    go_roundg (n - (k + 1))
    case rel => exact ⟨k + 1, m2 + 1, a2, c2, rfl, by go_num, by omega, by rw [HN2.out, List.length_append, HM.out]; rfl, HG6.out, by rw [HN2.out, List.flatMap_append, List.flatMap_singleton]; exact HO6.out, HB6.out, HZ6.out, Nat.le_refl _⟩
    case measure => omega
  ·obtain rfl : k = n := by omega
   have hX2 : X.take k = X := by rw [← HX.out, List.take_length]
   have ho := HO.out
   have hm2 := HM.out
   rw [hX2, HDR.out] at ho hm2
   have HOR := Lib.hid (own_rwv crow_len ho hm2)
   have HMR : Hid ((L.filter (fun y => decide (y ≠ i))).length = m2) := Lib.hid (by rw [← hm2, rowsX_len])
   have HNB : Hid (∀ a, oo = some a → ¬ a.block = w.heap.size) := Lib.hid (fun a ha g => by have := (ho.lt _ (by rw [ha]; rfl)).1; omega)
   clear hm hB hv hO hlt hX2 ho hm2
   go_wp2_with (first
    | go_guarded
    | (refine wpList_var_set rfl 59 _ _ rfl w.heap.size #[.slice none 0 0, .int .i64 0] #[.slice oo m2 cp, .int .i64 0] HV.out rfl rfl DINF.out rfl (DONE.out _ _ _ _) ?_; intro w20 hs20 ho20 hv20; have HVF := Lib.hid hv20; have HBF : Hid (Below w.heap.size w w20) := Lib.hid (HB.out.trans ⟨ho20.1, ho20.2, ho20.3, ho20.4, fun k hk => ho20.5 k (Nat.lt_of_lt_of_le hk HB.out.size) (by omega)⟩); have HOF := Lib.hid ho20; clear ho20 hv20))
   refine bodyPost_ret (v := .agg #[.slice oo m2 cp, .int .i64 0]) (results_var Try.results57 _ w.heap.size rfl _ _ HVF.out Try.underlying59 rfl DINF.out) rfl ?_
   exact ⟨oo, _, cp, rfl, HMR.out, rwv_only HOR.out HOF.out HNB.out, HBF.out⟩
theorem radd_c {f : Int → Option Cls} {L : List Int} (I : TI f L) {c : Cls} (hi : CIn c) (n : Nat) (hn : L.length = n) (ao : Option Addr) (cap : Nat) (w : World) (hR : RwV crow 14 w ao (rowsX f L)) :
  Calls Try.prog 56 #[.slice ao n cap, .agg #[.int .i64 c.id, .int .i64 c.par, .bool c.leaf, .int .u64 c.ra, .int .u64 c.rb, .int .u64 c.rc, .int .u64 c.la, .int .u64 c.lb, .int .u64 c.lc, .int .u64 c.ua, .int .u64 c.ub, .int .u64 c.uc, .int .i64 c.pk, .int .i64 c.bt]] w (DidP w (addE f L c) (addF f L c) (addL f L c)) := by
 unfold addF addL
 by_cases hw : wrC c = 0
 ·have hwn : ¬ wrC c ≠ 0 := fun g => g hw
  cases hs : f c.id with
  | some c0 =>
   have he : addE f L c = 8 := by unfold addE; rw [if_neg hwn, if_pos (by rw [hs]; rfl)]
   rw [he]
   exact radd_same I hi n hn ao cap w hR hw hs
  | none =>
   have h1 : ¬ (f c.id).isSome = true := by rw [hs]; simp
   by_cases hl : L.length < 64
   ·have h2 : ¬ 64 ≤ L.length := by omega
    by_cases hp0 : c.par = 0
    ·have hho : hol f c.par = true := by unfold hol; rw [hp0]; rfl
     have h3 : ¬ hol f c.par = false := by rw [hho]; simp
     have hsa : shA f c.par = true := by unfold shA; rw [hp0]; rfl
     have h4 : ¬ (sh1 c = true ∧ shA f c.par = false) := by rw [hsa]; simp
     have h5 : ¬ 16 ≤ (upl f 16 c.par).length := by rw [hp0, upl_none I.zero]; simp
     have he : addE f L c = 0 := by unfold addE; rw [if_neg hwn, if_neg h1, if_neg h2, if_neg h3, if_neg h4, if_neg h5]
     rw [if_pos he, if_pos he, he]
     cases hsh : sh1 c with
     | true => exact radd_ok1Z I hi n hn ao cap w hR hw hs hl hp0 hsh
     | false => exact radd_ok0Z I hi n hn ao cap w hR hw hs hl hp0 hsh
    ·have hz : (c.par == 0) = false := by simpa using hp0
     cases hp : f c.par with
     | none =>
      have hho : hol f c.par = false := by unfold hol; rw [hz, hp]; rfl
      have he : addE f L c = 23 := by unfold addE; rw [if_neg hwn, if_neg h1, if_neg h2, if_pos hho]
      rw [he]
      exact radd_clsA I hi n hn ao cap w hR hw hs hl hp0 hp
     | some p =>
      cases hplf : p.leaf with
      | true =>
       have hho : hol f c.par = false := by unfold hol; rw [hz, hp]; simp [hplf]
       have he : addE f L c = 23 := by unfold addE; rw [if_neg hwn, if_neg h1, if_neg h2, if_pos hho]
       rw [he]
       exact radd_clsB I hi n hn ao cap w hR hw hs hl hp0 hp hplf
      | false =>
       have hho : hol f c.par = true := by unfold hol; rw [hz, hp]; simp [hplf]
       have h3 : ¬ hol f c.par = false := by rw [hho]; simp
       cases hsh : sh1 c with
       | false =>
        have h4 : ¬ (sh1 c = true ∧ shA f c.par = false) := by rw [hsh]; simp
        by_cases hd : (upl f 16 c.par).length < 16
        ·have he : addE f L c = 0 := by unfold addE; rw [if_neg hwn, if_neg h1, if_neg h2, if_neg h3, if_neg h4, if_neg (by omega)]
         rw [if_pos he, if_pos he, he]
         exact radd_ok0P I hi n hn ao cap w hR hw hs hl hp0 hp hplf hsh hd
        ·have he : addE f L c = 25 := by unfold addE; rw [if_neg hwn, if_neg h1, if_neg h2, if_neg h3, if_neg h4, if_pos (by omega)]
         rw [he]
         exact radd_dp0 I hi n hn ao cap w hR hw hs hl hp0 hp hplf hsh (by omega)
       | true =>
        cases hsa : shA f c.par with
        | false =>
         have he : addE f L c = 29 := by unfold addE; rw [if_neg hwn, if_neg h1, if_neg h2, if_neg h3, if_pos ⟨hsh, hsa⟩]
         rw [he]
         exact radd_lsh I hi n hn ao cap w hR hw hs hl hp0 hp hplf hsh hsa
        | true =>
         have h4 : ¬ (sh1 c = true ∧ shA f c.par = false) := by rw [hsa]; simp
         by_cases hd : (upl f 16 c.par).length < 16
         ·have he : addE f L c = 0 := by unfold addE; rw [if_neg hwn, if_neg h1, if_neg h2, if_neg h3, if_neg h4, if_neg (by omega)]
          rw [if_pos he, if_pos he, he]
          exact radd_ok1P I hi n hn ao cap w hR hw hs hl hp0 hp hplf hsh hsa hd
         ·have he : addE f L c = 25 := by unfold addE; rw [if_neg hwn, if_neg h1, if_neg h2, if_neg h3, if_neg h4, if_pos (by omega)]
          rw [he]
          exact radd_dp1 I hi n hn ao cap w hR hw hs hl hp0 hp hplf hsh hsa (by omega)
   ·have he : addE f L c = 5 := by unfold addE; rw [if_neg hwn, if_neg h1, if_pos (by omega)]
    rw [he]
    exact radd_full I hi n hn ao cap w hR hw hs (by omega)
 ·have he : addE f L c = wrC c := by unfold addE; rw [if_pos hw]
  rw [he, if_neg hw, if_neg hw]
  exact radd_wr I hi n hn ao cap w hR (wrC c) hw rfl
theorem rset_c {f : Int → Option Cls} {L : List Int} (I : TI f L) {c : Cls} (hi : CIn c) (n : Nat) (hn : L.length = n) (ao : Option Addr) (cap : Nat) (w : World) (hR : RwV crow 14 w ao (rowsX f L)) :
  Calls Try.prog 58 #[.slice ao n cap, .agg #[.int .i64 c.id, .int .i64 c.par, .bool c.leaf, .int .u64 c.ra, .int .u64 c.rb, .int .u64 c.rc, .int .u64 c.la, .int .u64 c.lb, .int .u64 c.lc, .int .u64 c.ua, .int .u64 c.ub, .int .u64 c.uc, .int .i64 c.pk, .int .i64 c.bt]] w (DidP w (setE f L c) (setF f L c) L) := by
 unfold setF
 by_cases hw : wrC c = 0
 ·have hwn : ¬ wrC c ≠ 0 := fun g => g hw
  cases hs : f c.id with
  | none =>
   have he : setE f L c = 6 := by unfold setE; rw [if_neg hwn, hs]
   rw [he]
   exact rset_none I hi n hn ao cap w hR hw hs
  | some o =>
   by_cases hp : o.par = c.par
   ·by_cases hlf : o.leaf = c.leaf
    ·have h1 : ¬ (o.par ≠ c.par ∨ o.leaf ≠ c.leaf) := by simp [hp, hlf]
     cases hsh : sh1 c with
     | true =>
      cases hsa : shA f c.par with
      | false =>
       have he : setE f L c = 29 := by unfold setE; rw [if_neg hwn, hs]; simp only; rw [if_neg h1, if_pos (.inl ⟨hsh, hsa⟩)]
       rw [he]
       exact rset_lsh I hi n hn ao cap w hR hw hs hp hlf hsh hsa
      | true =>
       have he : setE f L c = 0 := by unfold setE; rw [if_neg hwn, hs]; simp only; rw [if_neg h1, if_neg (by rw [hsh, hsa]; simp)]
       rw [if_pos he, he]
       exact rset_ok1 I hi n hn ao cap w hR hw hs hp hlf hsh hsa
     | false =>
      cases hch : chS f L c.id with
      | true =>
       have he : setE f L c = 29 := by unfold setE; rw [if_neg hwn, hs]; simp only; rw [if_neg h1, if_pos (.inr ⟨hsh, hch⟩)]
       rw [he]
       exact rset_csh I hi n hn ao cap w hR hw hs hp hlf hsh hch
      | false =>
       have he : setE f L c = 0 := by unfold setE; rw [if_neg hwn, hs]; simp only; rw [if_neg h1, if_neg (by rw [hsh, hch]; simp)]
       rw [if_pos he, he]
       exact rset_ok0 I hi n hn ao cap w hR hw hs hp hlf hsh hch
    ·have he : setE f L c = 1 := by unfold setE; rw [if_neg hwn, hs]; simp only; rw [if_pos (.inr hlf)]
     rw [he]
     exact rset_leaf I hi n hn ao cap w hR hw hs hp hlf
   ·have he : setE f L c = 1 := by unfold setE; rw [if_neg hwn, hs]; simp only; rw [if_pos (.inl hp)]
    rw [he]
    exact rset_par I hi n hn ao cap w hR hw hs hp
 ·have he : setE f L c = wrC c := by unfold setE; rw [if_pos hw]
  rw [he, if_neg hw]
  exact rset_wr I hi n hn ao cap w hR (wrC c) hw rfl
theorem rdel_c {f : Int → Option Cls} {L : List Int} (I : TI f L) (i : Int) (n : Nat) (hn : L.length = n) (ao : Option Addr) (cap : Nat) (w : World) (hR : RwV crow 14 w ao (rowsX f L)) :
  Calls Try.prog 57 #[.slice ao n cap, .int .i64 i] w (DidP w (delE f L i) (delF f L i) (delL f L i)) := by
 unfold delF delL
 cases hs : f i with
 | none =>
  have he : delE f L i = 6 := by unfold delE; rw [hs]
  rw [he]
  exact rdel_none I n hn ao cap w hR hs
 | some o =>
  by_cases hc : 0 < (L.filter (sel f (fun c => c.par == i))).length
  ·have he : delE f L i = 23 := by unfold delE; rw [hs]; simp only; rw [if_pos hc]
   rw [he]
   exact rdel_chi I n hn ao cap w hR hs hc
  ·have he : delE f L i = 0 := by unfold delE; rw [hs]; simp only; rw [if_neg hc]
   rw [if_pos he, if_pos he, he]
   exact rdel_ok I n hn ao cap w hR hs hc
theorem rwv_var {z z' : World} {p : Nat} {ty : TypeId} {cs : Array Value} {ao : Option Addr} {X : List Cls} (h : RwV crow 14 z ao X) (hv : VR z p ty cs) (hs : cs.size < 14) (ho : Only (fun k => k = p) z z') : RwV crow 14 z' ao X := fun k hk => by
 obtain ⟨b, o, e, h1, h2⟩ := h k hk
 have hne : b ≠ p := by
  rintro rfl
  have h3 := h2 13 _ rfl
  rw [cell_of_row z b (o + k * 14 + 13) cs ty (0, 0) (by unfold VR at hv; exact hv)] at h3
  have := (Array.getElem?_eq_some_iff.1 h3).1
  omega
 exact ⟨b, o, e, Nat.lt_of_lt_of_le h1 ho.size, fun j v hj => by rw [World.cell?_of_block (ho.block b h1 hne)]; exact h2 j v hj⟩
end Go.Proofs.Ytmmahgfijiocfaa
end
