/- Joined texts. -/
import Derived.Test.YtmmahgfijiocfaaBs0
import Derived.Test.YtmmahgfijiocfaaBs18
set_option linter.unusedVariables false
set_option linter.unusedSimpArgs false
set_option maxRecDepth 100000
set_option maxHeartbeats 16000000
section
namespace Go.Proofs.Ytmmahgfijiocfaa
open Go.RowKit Fg Reg Go.Maps
attribute [local irreducible] Reg.wE VR
theorem rset_wr {f : Int → Option Cls} {L : List Int} (I : TI f L) {c : Cls} (hi : CIn c) (n : Nat) (hn : L.length = n) (ao : Option Addr) (cap : Nat) (w : World) (hR : RwV crow 14 w ao (rowsX f L)) (E : Int) (hE : E ≠ 0) (hw : wrC c = E) :
  Calls Try.prog 58 #[.slice ao n cap, .agg #[.int .i64 c.id, .int .i64 c.par, .bool c.leaf, .int .u64 c.ra, .int .u64 c.rb, .int .u64 c.rc, .int .u64 c.la, .int .u64 c.lb, .int .u64 c.lc, .int .u64 c.ua, .int .u64 c.ub, .int .u64 c.uc, .int .i64 c.pk, .int .i64 c.bt]] w (DidP w E f L) := by
 have hl : (rowsX f L).length = n := by rw [rowsX_len]; exact hn
 have hn64 : n ≤ 64 := by rw [← hn]; exact I.len
 have HLN := Lib.hid hn
 have KW := Lib.hid (fun z => by have := rwrong_c hi z; rw [hw] at this; exact this)
 have he1 : (E == 0) = false := by simpa using hE
 have he2 : (E != 0) = true := by simpa using hE
 have hA1 : Below w.heap.size w (w.alloc (.cells #[.int .i64 c.id, .int .i64 c.par, .bool c.leaf, .int .u64 c.ra, .int .u64 c.rb, .int .u64 c.rc, .int .u64 c.la, .int .u64 c.lb, .int .u64 c.lc, .int .u64 c.ua, .int .u64 c.ub, .int .u64 c.uc, .int .i64 c.pk, .int .i64 c.bt] 54)) := bub
 have hV1 : VR (w.alloc (.cells #[.int .i64 c.id, .int .i64 c.par, .bool c.leaf, .int .u64 c.ra, .int .u64 c.rb, .int .u64 c.rc, .int .u64 c.la, .int .u64 c.lb, .int .u64 c.lc, .int .u64 c.ua, .int .u64 c.ub, .int .u64 c.uc, .int .i64 c.pk, .int .i64 c.bt] 54)) w.heap.size 54 #[.int .i64 c.id, .int .i64 c.par, .bool c.leaf, .int .u64 c.ra, .int .u64 c.rb, .int .u64 c.rc, .int .u64 c.la, .int .u64 c.lb, .int .u64 c.lc, .int .u64 c.ua, .int .u64 c.ub, .int .u64 c.uc, .int .i64 c.pk, .int .i64 c.bt] := VR.new _ _ _
 have hQ0 : VR ((w.alloc (.cells #[.int .i64 c.id, .int .i64 c.par, .bool c.leaf, .int .u64 c.ra, .int .u64 c.rb, .int .u64 c.rc, .int .u64 c.la, .int .u64 c.lb, .int .u64 c.lc, .int .u64 c.ua, .int .u64 c.ub, .int .u64 c.uc, .int .i64 c.pk, .int .i64 c.bt] 54)).alloc (.cells #[.slice none 0 0, .int .i64 0] 59)) (w.heap.size + 1) 59 #[.slice none 0 0, .int .i64 0] := by have := VR.new (w.alloc (.cells #[.int .i64 c.id, .int .i64 c.par, .bool c.leaf, .int .u64 c.ra, .int .u64 c.rb, .int .u64 c.rc, .int .u64 c.la, .int .u64 c.lb, .int .u64 c.lc, .int .u64 c.ua, .int .u64 c.ub, .int .u64 c.uc, .int .i64 c.pk, .int .i64 c.bt] 54)) #[.slice none 0 0, .int .i64 0] 59; simpa using this
 have hB0 : Below w.heap.size w ((w.alloc (.cells #[.int .i64 c.id, .int .i64 c.par, .bool c.leaf, .int .u64 c.ra, .int .u64 c.rb, .int .u64 c.rc, .int .u64 c.la, .int .u64 c.lb, .int .u64 c.lc, .int .u64 c.ua, .int .u64 c.ub, .int .u64 c.uc, .int .i64 c.pk, .int .i64 c.bt] 54)).alloc (.cells #[.slice none 0 0, .int .i64 0] 59)) := bub
 have HV0 := Lib.hid (hV1.alloc (.cells #[.slice none 0 0, .int .i64 0] 59))
 have HQ0 := Lib.hid hQ0
 have HB0 := Lib.hid hB0
 have INF := Lib.hid cl_info
 have DINF := Lib.hid dd_info
 have DONE := Lib.hid dd_one
 have HRS := Lib.hid (fun (z : World) (h : Below w.heap.size w z) => hR.below h)
 clear hA1 hV1 hQ0 hB0
 clear I hi hn hl hR hw hE
 go_enter Try.func58, Try.ntmps58
 go_wp2_with (first
  | go_guarded
  | (refine wpList_var_set rfl 59 _ _ rfl (w.heap.size + 1) #[.slice none 0 0, .int .i64 0] #[.slice ao n cap, .int .i64 E] HQ1.out rfl rfl DINF.out rfl (DONE.out _ _ _ _) ?_; intro w20 hs20 ho20 hv20; have HVF := Lib.hid hv20; have HBF : Hid (Below w.heap.size w w20) := Lib.hid (HB1.out.trans ⟨ho20.1, ho20.2, ho20.3, ho20.4, fun k hk => ho20.5 k (Nat.lt_of_lt_of_le hk HB1.out.size) (by omega)⟩); have HOF := Lib.hid ho20; clear ho20 hv20)
  | (go_at_call 76; (have mk := HB0); (with_reducible refine (KW.out _).mono ?_); rintro _ w1 ⟨rfl, hbel⟩; have HV1 := Lib.hid (HV0.out.bel hbel); have HQ1 := Lib.hid (HQ0.out.bel hbel); have HB1 : Hid (Below w.heap.size w w1) := Lib.hid (HB0.out.trans (hbel.mono HB0.out.size)); have f1a := HV1.out.cell 0 rfl; have f1b := HV1.out.cell 1 rfl; have f1x := HV1.out.cell 6 rfl; have f1y := HV1.out.cell 7 rfl; have f1z := HV1.out.cell 8 rfl; have f1l := HV1.out.lt; clear hbel)
  | (refine wpList_var_get rfl 54 _ rfl w.heap.size #[.int .i64 c.id, .int .i64 c.par, .bool c.leaf, .int .u64 c.ra, .int .u64 c.rb, .int .u64 c.rc, .int .u64 c.la, .int .u64 c.lb, .int .u64 c.lc, .int .u64 c.ua, .int .u64 c.ub, .int .u64 c.uc, .int .i64 c.pk, .int .i64 c.bt] _ HV0.out rfl Try.underlying54 rfl INF.out ?_))
 refine bodyPost_ret (v := .agg #[.slice ao n cap, .int .i64 E]) (results_var Try.results58 _ (w.heap.size + 1) rfl _ _ HVF.out Try.underlying59 rfl DINF.out) rfl ?_
 exact ⟨ao, n, cap, rfl, HLN.out, HRS.out _ HBF.out, HBF.out⟩
theorem rset_none {f : Int → Option Cls} {L : List Int} (I : TI f L) {c : Cls} (hi : CIn c) (n : Nat) (hn : L.length = n) (ao : Option Addr) (cap : Nat) (w : World) (hR : RwV crow 14 w ao (rowsX f L)) (hw : wrC c = 0) (hs : f c.id = none) :
  Calls Try.prog 58 #[.slice ao n cap, .agg #[.int .i64 c.id, .int .i64 c.par, .bool c.leaf, .int .u64 c.ra, .int .u64 c.rb, .int .u64 c.rc, .int .u64 c.la, .int .u64 c.lb, .int .u64 c.lc, .int .u64 c.ua, .int .u64 c.ub, .int .u64 c.uc, .int .i64 c.pk, .int .i64 c.bt]] w (DidP w 6 f L) := by
 have hl : (rowsX f L).length = n := by rw [rowsX_len]; exact hn
 have hn64 : n ≤ 64 := by rw [← hn]; exact I.len
 have HLN := Lib.hid hn
 have KW := Lib.hid (fun z => by have := rwrong_c hi z; rw [hw] at this; exact this)
 have KF1 : Hid (∀ z, RwV crow 14 z ao (rowsX f L) → Calls Try.prog 36 #[.slice ao n cap, .int .i64 c.id] z fun ee w' => ee = .returned (.int .i64 (-1)) ∧ Below z.heap.size z w') := Lib.hid (fun z hz => by have := rfind_c (rowsX f L) n hl (by omega) c.id ao cap z hz; rw [fidx_none I hs] at this; exact this)
 have hA1 : Below w.heap.size w (w.alloc (.cells #[.int .i64 c.id, .int .i64 c.par, .bool c.leaf, .int .u64 c.ra, .int .u64 c.rb, .int .u64 c.rc, .int .u64 c.la, .int .u64 c.lb, .int .u64 c.lc, .int .u64 c.ua, .int .u64 c.ub, .int .u64 c.uc, .int .i64 c.pk, .int .i64 c.bt] 54)) := bub
 have hV1 : VR (w.alloc (.cells #[.int .i64 c.id, .int .i64 c.par, .bool c.leaf, .int .u64 c.ra, .int .u64 c.rb, .int .u64 c.rc, .int .u64 c.la, .int .u64 c.lb, .int .u64 c.lc, .int .u64 c.ua, .int .u64 c.ub, .int .u64 c.uc, .int .i64 c.pk, .int .i64 c.bt] 54)) w.heap.size 54 #[.int .i64 c.id, .int .i64 c.par, .bool c.leaf, .int .u64 c.ra, .int .u64 c.rb, .int .u64 c.rc, .int .u64 c.la, .int .u64 c.lb, .int .u64 c.lc, .int .u64 c.ua, .int .u64 c.ub, .int .u64 c.uc, .int .i64 c.pk, .int .i64 c.bt] := VR.new _ _ _
 have hQ0 : VR ((w.alloc (.cells #[.int .i64 c.id, .int .i64 c.par, .bool c.leaf, .int .u64 c.ra, .int .u64 c.rb, .int .u64 c.rc, .int .u64 c.la, .int .u64 c.lb, .int .u64 c.lc, .int .u64 c.ua, .int .u64 c.ub, .int .u64 c.uc, .int .i64 c.pk, .int .i64 c.bt] 54)).alloc (.cells #[.slice none 0 0, .int .i64 0] 59)) (w.heap.size + 1) 59 #[.slice none 0 0, .int .i64 0] := by have := VR.new (w.alloc (.cells #[.int .i64 c.id, .int .i64 c.par, .bool c.leaf, .int .u64 c.ra, .int .u64 c.rb, .int .u64 c.rc, .int .u64 c.la, .int .u64 c.lb, .int .u64 c.lc, .int .u64 c.ua, .int .u64 c.ub, .int .u64 c.uc, .int .i64 c.pk, .int .i64 c.bt] 54)) #[.slice none 0 0, .int .i64 0] 59; simpa using this
 have hB0 : Below w.heap.size w ((w.alloc (.cells #[.int .i64 c.id, .int .i64 c.par, .bool c.leaf, .int .u64 c.ra, .int .u64 c.rb, .int .u64 c.rc, .int .u64 c.la, .int .u64 c.lb, .int .u64 c.lc, .int .u64 c.ua, .int .u64 c.ub, .int .u64 c.uc, .int .i64 c.pk, .int .i64 c.bt] 54)).alloc (.cells #[.slice none 0 0, .int .i64 0] 59)) := bub
 have HV0 := Lib.hid (hV1.alloc (.cells #[.slice none 0 0, .int .i64 0] 59))
 have HQ0 := Lib.hid hQ0
 have HB0 := Lib.hid hB0
 have INF := Lib.hid cl_info
 have DINF := Lib.hid dd_info
 have DONE := Lib.hid dd_one
 have HRS := Lib.hid (fun (z : World) (h : Below w.heap.size w z) => hR.below h)
 clear hA1 hV1 hQ0 hB0
 clear I hi hn hl hR hw hs
 go_enter Try.func58, Try.ntmps58
 go_wp2_with (first
  | go_guarded
  | (refine wpList_var_set rfl 59 _ _ rfl (w.heap.size + 1) #[.slice none 0 0, .int .i64 0] #[.slice ao n cap, .int .i64 6] HQ2.out rfl rfl DINF.out rfl (DONE.out _ _ _ _) ?_; intro w20 hs20 ho20 hv20; have HVF := Lib.hid hv20; have HBF : Hid (Below w.heap.size w w20) := Lib.hid (HB2.out.trans ⟨ho20.1, ho20.2, ho20.3, ho20.4, fun k hk => ho20.5 k (Nat.lt_of_lt_of_le hk HB2.out.size) (by omega)⟩); have HOF := Lib.hid ho20; clear ho20 hv20)
  | (go_at_call 36; (have mk := HB1); (with_reducible refine (KF1.out _ (HRS.out _ HB1.out)).mono ?_); rintro _ w2 ⟨rfl, hbel⟩; have HV2 := Lib.hid (HV1.out.bel hbel); have HQ2 := Lib.hid (HQ1.out.bel hbel); have HB2 : Hid (Below w.heap.size w w2) := Lib.hid (HB1.out.trans (hbel.mono HB1.out.size)); have f2a := HV2.out.cell 0 rfl; have f2b := HV2.out.cell 1 rfl; have f2x := HV2.out.cell 6 rfl; have f2y := HV2.out.cell 7 rfl; have f2z := HV2.out.cell 8 rfl; have f2l := HV2.out.lt; clear hbel)
  | (go_at_call 76; (have mk := HB0); (with_reducible refine (KW.out _).mono ?_); rintro _ w1 ⟨rfl, hbel⟩; have HV1 := Lib.hid (HV0.out.bel hbel); have HQ1 := Lib.hid (HQ0.out.bel hbel); have HB1 : Hid (Below w.heap.size w w1) := Lib.hid (HB0.out.trans (hbel.mono HB0.out.size)); have f1a := HV1.out.cell 0 rfl; have f1b := HV1.out.cell 1 rfl; have f1x := HV1.out.cell 6 rfl; have f1y := HV1.out.cell 7 rfl; have f1z := HV1.out.cell 8 rfl; have f1l := HV1.out.lt; clear hbel)
  | (refine wpList_var_get rfl 54 _ rfl w.heap.size #[.int .i64 c.id, .int .i64 c.par, .bool c.leaf, .int .u64 c.ra, .int .u64 c.rb, .int .u64 c.rc, .int .u64 c.la, .int .u64 c.lb, .int .u64 c.lc, .int .u64 c.ua, .int .u64 c.ub, .int .u64 c.uc, .int .i64 c.pk, .int .i64 c.bt] _ HV0.out rfl Try.underlying54 rfl INF.out ?_))
 refine bodyPost_ret (v := .agg #[.slice ao n cap, .int .i64 6]) (results_var Try.results58 _ (w.heap.size + 1) rfl _ _ HVF.out Try.underlying59 rfl DINF.out) rfl ?_
 exact ⟨ao, n, cap, rfl, HLN.out, HRS.out _ HBF.out, HBF.out⟩
theorem rset_par {f : Int → Option Cls} {L : List Int} (I : TI f L) {c : Cls} (hi : CIn c) (n : Nat) (hn : L.length = n) (ao : Option Addr) (cap : Nat) (w : World) (hR : RwV crow 14 w ao (rowsX f L)) (hw : wrC c = 0) {od : Cls} (hs : f c.id = some od) (hp : od.par ≠ c.par) :
  Calls Try.prog 58 #[.slice ao n cap, .agg #[.int .i64 c.id, .int .i64 c.par, .bool c.leaf, .int .u64 c.ra, .int .u64 c.rb, .int .u64 c.rc, .int .u64 c.la, .int .u64 c.lb, .int .u64 c.lc, .int .u64 c.ua, .int .u64 c.ub, .int .u64 c.uc, .int .i64 c.pk, .int .i64 c.bt]] w (DidP w 1 f L) := by
 have hl : (rowsX f L).length = n := by rw [rowsX_len]; exact hn
 have hn64 : n ≤ 64 := by rw [← hn]; exact I.len
 have HLN := Lib.hid hn
 obtain ⟨j1, hj1, hf1, hc1⟩ := fidx_some I hs
 obtain ⟨b, o, rfl, hb, hra⟩ := hR j1 hj1
 rw [hc1] at hra
 have hop := hra 1 _ rfl
 have hol := hra 2 _ rfl
 have HOP := Lib.hid hop
 have HOL := Lib.hid hol
 have HBL := Lib.hid hb
 have hjn : j1 < n := by omega
 have p3 : decide ((j1 : Int) < 0) = false := decide_eq_false (by omega)
 have KW := Lib.hid (fun z => by have := rwrong_c hi z; rw [hw] at this; exact this)
 have KF1 : Hid (∀ z, RwV crow 14 z (some ⟨b, o, none⟩) (rowsX f L) → Calls Try.prog 36 #[.slice (some ⟨b, o, none⟩) n cap, .int .i64 c.id] z fun ee w' => ee = .returned (.int .i64 (j1 : Int)) ∧ Below z.heap.size z w') := Lib.hid (fun z hz => by have := rfind_c (rowsX f L) n hl (by omega) c.id (some ⟨b, o, none⟩) cap z hz; rw [hf1] at this; exact this)
 have p1 : (od.par == c.par) = false := by simpa using hp
 have p2 : (od.par != c.par) = true := by simpa using hp
 have hA1 : Below w.heap.size w (w.alloc (.cells #[.int .i64 c.id, .int .i64 c.par, .bool c.leaf, .int .u64 c.ra, .int .u64 c.rb, .int .u64 c.rc, .int .u64 c.la, .int .u64 c.lb, .int .u64 c.lc, .int .u64 c.ua, .int .u64 c.ub, .int .u64 c.uc, .int .i64 c.pk, .int .i64 c.bt] 54)) := bub
 have hV1 : VR (w.alloc (.cells #[.int .i64 c.id, .int .i64 c.par, .bool c.leaf, .int .u64 c.ra, .int .u64 c.rb, .int .u64 c.rc, .int .u64 c.la, .int .u64 c.lb, .int .u64 c.lc, .int .u64 c.ua, .int .u64 c.ub, .int .u64 c.uc, .int .i64 c.pk, .int .i64 c.bt] 54)) w.heap.size 54 #[.int .i64 c.id, .int .i64 c.par, .bool c.leaf, .int .u64 c.ra, .int .u64 c.rb, .int .u64 c.rc, .int .u64 c.la, .int .u64 c.lb, .int .u64 c.lc, .int .u64 c.ua, .int .u64 c.ub, .int .u64 c.uc, .int .i64 c.pk, .int .i64 c.bt] := VR.new _ _ _
 have hQ0 : VR ((w.alloc (.cells #[.int .i64 c.id, .int .i64 c.par, .bool c.leaf, .int .u64 c.ra, .int .u64 c.rb, .int .u64 c.rc, .int .u64 c.la, .int .u64 c.lb, .int .u64 c.lc, .int .u64 c.ua, .int .u64 c.ub, .int .u64 c.uc, .int .i64 c.pk, .int .i64 c.bt] 54)).alloc (.cells #[.slice none 0 0, .int .i64 0] 59)) (w.heap.size + 1) 59 #[.slice none 0 0, .int .i64 0] := by have := VR.new (w.alloc (.cells #[.int .i64 c.id, .int .i64 c.par, .bool c.leaf, .int .u64 c.ra, .int .u64 c.rb, .int .u64 c.rc, .int .u64 c.la, .int .u64 c.lb, .int .u64 c.lc, .int .u64 c.ua, .int .u64 c.ub, .int .u64 c.uc, .int .i64 c.pk, .int .i64 c.bt] 54)) #[.slice none 0 0, .int .i64 0] 59; simpa using this
 have hB0 : Below w.heap.size w ((w.alloc (.cells #[.int .i64 c.id, .int .i64 c.par, .bool c.leaf, .int .u64 c.ra, .int .u64 c.rb, .int .u64 c.rc, .int .u64 c.la, .int .u64 c.lb, .int .u64 c.lc, .int .u64 c.ua, .int .u64 c.ub, .int .u64 c.uc, .int .i64 c.pk, .int .i64 c.bt] 54)).alloc (.cells #[.slice none 0 0, .int .i64 0] 59)) := bub
 have HV0 := Lib.hid (hV1.alloc (.cells #[.slice none 0 0, .int .i64 0] 59))
 have HQ0 := Lib.hid hQ0
 have HB0 := Lib.hid hB0
 have INF := Lib.hid cl_info
 have DINF := Lib.hid dd_info
 have DONE := Lib.hid dd_one
 have HRS := Lib.hid (fun (z : World) (h : Below w.heap.size w z) => hR.below h)
 clear hA1 hV1 hQ0 hB0
 clear I hi hn hl hR hw hs hf1 hc1 hra hop hol hb hj1 hp
 go_enter Try.func58, Try.ntmps58
 go_wp2_with (first
  | go_guarded
  | (go_at_call 36; (have mk := HB1); (with_reducible refine (KF1.out _ (HRS.out _ HB1.out)).mono ?_); rintro _ w2 ⟨rfl, hbel⟩; have HV2 := Lib.hid (HV1.out.bel hbel); have HQ2 := Lib.hid (HQ1.out.bel hbel); have HB2 : Hid (Below w.heap.size w w2) := Lib.hid (HB1.out.trans (hbel.mono HB1.out.size)); have f2a := HV2.out.cell 0 rfl; have f2b := HV2.out.cell 1 rfl; have f2x := HV2.out.cell 6 rfl; have f2y := HV2.out.cell 7 rfl; have f2z := HV2.out.cell 8 rfl; have f2l := HV2.out.lt; have o2 := (HB2.out.cell (p := ⟨b, o + j1 * 14 + 1, none⟩) HBL.out).trans HOP.out; have q2 := (HB2.out.cell (p := ⟨b, o + j1 * 14 + 2, none⟩) HBL.out).trans HOL.out; have bl2 := Nat.lt_of_lt_of_le HBL.out HB2.out.size; have f2w := HV2.out.cell 2 rfl; clear hbel)
  | (go_at_call 76; (have mk := HB0); (with_reducible refine (KW.out _).mono ?_); rintro _ w1 ⟨rfl, hbel⟩; have HV1 := Lib.hid (HV0.out.bel hbel); have HQ1 := Lib.hid (HQ0.out.bel hbel); have HB1 : Hid (Below w.heap.size w w1) := Lib.hid (HB0.out.trans (hbel.mono HB0.out.size)); have f1a := HV1.out.cell 0 rfl; have f1b := HV1.out.cell 1 rfl; have f1x := HV1.out.cell 6 rfl; have f1y := HV1.out.cell 7 rfl; have f1z := HV1.out.cell 8 rfl; have f1l := HV1.out.lt; clear hbel)
  | (refine wpList_var_get rfl 54 _ rfl w.heap.size #[.int .i64 c.id, .int .i64 c.par, .bool c.leaf, .int .u64 c.ra, .int .u64 c.rb, .int .u64 c.rc, .int .u64 c.la, .int .u64 c.lb, .int .u64 c.lc, .int .u64 c.ua, .int .u64 c.ub, .int .u64 c.uc, .int .i64 c.pk, .int .i64 c.bt] _ HV0.out rfl Try.underlying54 rfl INF.out ?_))
 go_quiet (fail)
 have hbq : Below w2.heap.size w2 (w2.drewN nq) := below_drewN (Below.refl _ _) _
 have HB2 : Hid (Below w.heap.size w (w2.drewN nq)) := Lib.hid (HB2.out.trans (hbq.mono HB2.out.size))
 have HV2 : Hid (VR (w2.drewN nq) w.heap.size 54 #[.int .i64 c.id, .int .i64 c.par, .bool c.leaf, .int .u64 c.ra, .int .u64 c.rb, .int .u64 c.rc, .int .u64 c.la, .int .u64 c.lb, .int .u64 c.lc, .int .u64 c.ua, .int .u64 c.ub, .int .u64 c.uc, .int .i64 c.pk, .int .i64 c.bt]) := Lib.hid (HV2.out.bel hbq)
 have HQ2 : Hid (VR (w2.drewN nq) (w.heap.size + 1) 59 #[.slice none 0 0, .int .i64 0]) := Lib.hid (HQ2.out.bel hbq)
 go_wp2_with (first
  | go_guarded
  | (refine wpList_var_set rfl 59 _ _ rfl (w.heap.size + 1) #[.slice none 0 0, .int .i64 0] #[.slice (some ⟨b, o, none⟩) n cap, .int .i64 1] HQ2.out rfl rfl DINF.out rfl (DONE.out _ _ _ _) ?_; intro w20 hs20 ho20 hv20; have HVF := Lib.hid hv20; have HBF : Hid (Below w.heap.size w w20) := Lib.hid (HB2.out.trans ⟨ho20.1, ho20.2, ho20.3, ho20.4, fun k hk => ho20.5 k (Nat.lt_of_lt_of_le hk HB2.out.size) (by omega)⟩); have HOF := Lib.hid ho20; clear ho20 hv20))
 refine bodyPost_ret (v := .agg #[.slice (some ⟨b, o, none⟩) n cap, .int .i64 1]) (results_var Try.results58 _ (w.heap.size + 1) rfl _ _ HVF.out Try.underlying59 rfl DINF.out) rfl ?_
 exact ⟨some ⟨b, o, none⟩, n, cap, rfl, HLN.out, HRS.out _ HBF.out, HBF.out⟩
theorem rset_leaf {f : Int → Option Cls} {L : List Int} (I : TI f L) {c : Cls} (hi : CIn c) (n : Nat) (hn : L.length = n) (ao : Option Addr) (cap : Nat) (w : World) (hR : RwV crow 14 w ao (rowsX f L)) (hw : wrC c = 0) {od : Cls} (hs : f c.id = some od) (hp : od.par = c.par) (hlf : od.leaf ≠ c.leaf) :
  Calls Try.prog 58 #[.slice ao n cap, .agg #[.int .i64 c.id, .int .i64 c.par, .bool c.leaf, .int .u64 c.ra, .int .u64 c.rb, .int .u64 c.rc, .int .u64 c.la, .int .u64 c.lb, .int .u64 c.lc, .int .u64 c.ua, .int .u64 c.ub, .int .u64 c.uc, .int .i64 c.pk, .int .i64 c.bt]] w (DidP w 1 f L) := by
 have hl : (rowsX f L).length = n := by rw [rowsX_len]; exact hn
 have hn64 : n ≤ 64 := by rw [← hn]; exact I.len
 have HLN := Lib.hid hn
 obtain ⟨j1, hj1, hf1, hc1⟩ := fidx_some I hs
 obtain ⟨b, o, rfl, hb, hra⟩ := hR j1 hj1
 rw [hc1] at hra
 have hop := hra 1 _ rfl
 have hol := hra 2 _ rfl
 have HOP := Lib.hid hop
 have HOL := Lib.hid hol
 have HBL := Lib.hid hb
 have hjn : j1 < n := by omega
 have p3 : decide ((j1 : Int) < 0) = false := decide_eq_false (by omega)
 have KW := Lib.hid (fun z => by have := rwrong_c hi z; rw [hw] at this; exact this)
 have KF1 : Hid (∀ z, RwV crow 14 z (some ⟨b, o, none⟩) (rowsX f L) → Calls Try.prog 36 #[.slice (some ⟨b, o, none⟩) n cap, .int .i64 c.id] z fun ee w' => ee = .returned (.int .i64 (j1 : Int)) ∧ Below z.heap.size z w') := Lib.hid (fun z hz => by have := rfind_c (rowsX f L) n hl (by omega) c.id (some ⟨b, o, none⟩) cap z hz; rw [hf1] at this; exact this)
 have HP := Lib.hid hp
 have p1 : (od.leaf == c.leaf) = false := by simpa using hlf
 have p2 : (od.leaf != c.leaf) = true := by simpa using hlf
 have hA1 : Below w.heap.size w (w.alloc (.cells #[.int .i64 c.id, .int .i64 c.par, .bool c.leaf, .int .u64 c.ra, .int .u64 c.rb, .int .u64 c.rc, .int .u64 c.la, .int .u64 c.lb, .int .u64 c.lc, .int .u64 c.ua, .int .u64 c.ub, .int .u64 c.uc, .int .i64 c.pk, .int .i64 c.bt] 54)) := bub
 have hV1 : VR (w.alloc (.cells #[.int .i64 c.id, .int .i64 c.par, .bool c.leaf, .int .u64 c.ra, .int .u64 c.rb, .int .u64 c.rc, .int .u64 c.la, .int .u64 c.lb, .int .u64 c.lc, .int .u64 c.ua, .int .u64 c.ub, .int .u64 c.uc, .int .i64 c.pk, .int .i64 c.bt] 54)) w.heap.size 54 #[.int .i64 c.id, .int .i64 c.par, .bool c.leaf, .int .u64 c.ra, .int .u64 c.rb, .int .u64 c.rc, .int .u64 c.la, .int .u64 c.lb, .int .u64 c.lc, .int .u64 c.ua, .int .u64 c.ub, .int .u64 c.uc, .int .i64 c.pk, .int .i64 c.bt] := VR.new _ _ _
 have hQ0 : VR ((w.alloc (.cells #[.int .i64 c.id, .int .i64 c.par, .bool c.leaf, .int .u64 c.ra, .int .u64 c.rb, .int .u64 c.rc, .int .u64 c.la, .int .u64 c.lb, .int .u64 c.lc, .int .u64 c.ua, .int .u64 c.ub, .int .u64 c.uc, .int .i64 c.pk, .int .i64 c.bt] 54)).alloc (.cells #[.slice none 0 0, .int .i64 0] 59)) (w.heap.size + 1) 59 #[.slice none 0 0, .int .i64 0] := by have := VR.new (w.alloc (.cells #[.int .i64 c.id, .int .i64 c.par, .bool c.leaf, .int .u64 c.ra, .int .u64 c.rb, .int .u64 c.rc, .int .u64 c.la, .int .u64 c.lb, .int .u64 c.lc, .int .u64 c.ua, .int .u64 c.ub, .int .u64 c.uc, .int .i64 c.pk, .int .i64 c.bt] 54)) #[.slice none 0 0, .int .i64 0] 59; simpa using this
 have hB0 : Below w.heap.size w ((w.alloc (.cells #[.int .i64 c.id, .int .i64 c.par, .bool c.leaf, .int .u64 c.ra, .int .u64 c.rb, .int .u64 c.rc, .int .u64 c.la, .int .u64 c.lb, .int .u64 c.lc, .int .u64 c.ua, .int .u64 c.ub, .int .u64 c.uc, .int .i64 c.pk, .int .i64 c.bt] 54)).alloc (.cells #[.slice none 0 0, .int .i64 0] 59)) := bub
 have HV0 := Lib.hid (hV1.alloc (.cells #[.slice none 0 0, .int .i64 0] 59))
 have HQ0 := Lib.hid hQ0
 have HB0 := Lib.hid hB0
 have INF := Lib.hid cl_info
 have DINF := Lib.hid dd_info
 have DONE := Lib.hid dd_one
 have HRS := Lib.hid (fun (z : World) (h : Below w.heap.size w z) => hR.below h)
 clear hA1 hV1 hQ0 hB0
 clear I hi hn hl hR hw hs hf1 hc1 hra hop hol hb hj1 hp hlf
 go_enter Try.func58, Try.ntmps58
 go_wp2_with (first
  | go_guarded
  | (go_at_call 36; (have mk := HB1); (with_reducible refine (KF1.out _ (HRS.out _ HB1.out)).mono ?_); rintro _ w2 ⟨rfl, hbel⟩; have HV2 := Lib.hid (HV1.out.bel hbel); have HQ2 := Lib.hid (HQ1.out.bel hbel); have HB2 : Hid (Below w.heap.size w w2) := Lib.hid (HB1.out.trans (hbel.mono HB1.out.size)); have f2a := HV2.out.cell 0 rfl; have f2b := HV2.out.cell 1 rfl; have f2x := HV2.out.cell 6 rfl; have f2y := HV2.out.cell 7 rfl; have f2z := HV2.out.cell 8 rfl; have f2l := HV2.out.lt; have o2 := (HB2.out.cell (p := ⟨b, o + j1 * 14 + 1, none⟩) HBL.out).trans HOP.out; have q2 := (HB2.out.cell (p := ⟨b, o + j1 * 14 + 2, none⟩) HBL.out).trans HOL.out; have bl2 := Nat.lt_of_lt_of_le HBL.out HB2.out.size; have f2w := HV2.out.cell 2 rfl; rw [HP.out] at o2; clear hbel)
  | (go_at_call 76; (have mk := HB0); (with_reducible refine (KW.out _).mono ?_); rintro _ w1 ⟨rfl, hbel⟩; have HV1 := Lib.hid (HV0.out.bel hbel); have HQ1 := Lib.hid (HQ0.out.bel hbel); have HB1 : Hid (Below w.heap.size w w1) := Lib.hid (HB0.out.trans (hbel.mono HB0.out.size)); have f1a := HV1.out.cell 0 rfl; have f1b := HV1.out.cell 1 rfl; have f1x := HV1.out.cell 6 rfl; have f1y := HV1.out.cell 7 rfl; have f1z := HV1.out.cell 8 rfl; have f1l := HV1.out.lt; clear hbel)
  | (refine wpList_var_get rfl 54 _ rfl w.heap.size #[.int .i64 c.id, .int .i64 c.par, .bool c.leaf, .int .u64 c.ra, .int .u64 c.rb, .int .u64 c.rc, .int .u64 c.la, .int .u64 c.lb, .int .u64 c.lc, .int .u64 c.ua, .int .u64 c.ub, .int .u64 c.uc, .int .i64 c.pk, .int .i64 c.bt] _ HV0.out rfl Try.underlying54 rfl INF.out ?_))
 go_quiet (fail)
 have hbq : Below w2.heap.size w2 (w2.drewN nq) := below_drewN (Below.refl _ _) _
 have HB2 : Hid (Below w.heap.size w (w2.drewN nq)) := Lib.hid (HB2.out.trans (hbq.mono HB2.out.size))
 have HV2 : Hid (VR (w2.drewN nq) w.heap.size 54 #[.int .i64 c.id, .int .i64 c.par, .bool c.leaf, .int .u64 c.ra, .int .u64 c.rb, .int .u64 c.rc, .int .u64 c.la, .int .u64 c.lb, .int .u64 c.lc, .int .u64 c.ua, .int .u64 c.ub, .int .u64 c.uc, .int .i64 c.pk, .int .i64 c.bt]) := Lib.hid (HV2.out.bel hbq)
 have HQ2 : Hid (VR (w2.drewN nq) (w.heap.size + 1) 59 #[.slice none 0 0, .int .i64 0]) := Lib.hid (HQ2.out.bel hbq)
 go_wp2_with (first
  | go_guarded
  | (refine wpList_var_set rfl 59 _ _ rfl (w.heap.size + 1) #[.slice none 0 0, .int .i64 0] #[.slice (some ⟨b, o, none⟩) n cap, .int .i64 1] HQ2.out rfl rfl DINF.out rfl (DONE.out _ _ _ _) ?_; intro w20 hs20 ho20 hv20; have HVF := Lib.hid hv20; have HBF : Hid (Below w.heap.size w w20) := Lib.hid (HB2.out.trans ⟨ho20.1, ho20.2, ho20.3, ho20.4, fun k hk => ho20.5 k (Nat.lt_of_lt_of_le hk HB2.out.size) (by omega)⟩); have HOF := Lib.hid ho20; clear ho20 hv20))
 refine bodyPost_ret (v := .agg #[.slice (some ⟨b, o, none⟩) n cap, .int .i64 1]) (results_var Try.results58 _ (w.heap.size + 1) rfl _ _ HVF.out Try.underlying59 rfl DINF.out) rfl ?_
 exact ⟨some ⟨b, o, none⟩, n, cap, rfl, HLN.out, HRS.out _ HBF.out, HBF.out⟩
theorem rset_lsh {f : Int → Option Cls} {L : List Int} (I : TI f L) {c : Cls} (hi : CIn c) (n : Nat) (hn : L.length = n) (ao : Option Addr) (cap : Nat) (w : World) (hR : RwV crow 14 w ao (rowsX f L)) (hw : wrC c = 0) {od : Cls} (hs : f c.id = some od) (hp : od.par = c.par) (hlf : od.leaf = c.leaf) (hsh : sh1 c = true) (hsa : shA f c.par = false) :
  Calls Try.prog 58 #[.slice ao n cap, .agg #[.int .i64 c.id, .int .i64 c.par, .bool c.leaf, .int .u64 c.ra, .int .u64 c.rb, .int .u64 c.rc, .int .u64 c.la, .int .u64 c.lb, .int .u64 c.lc, .int .u64 c.ua, .int .u64 c.ub, .int .u64 c.uc, .int .i64 c.pk, .int .i64 c.bt]] w (DidP w 29 f L) := by
 have hl : (rowsX f L).length = n := by rw [rowsX_len]; exact hn
 have hn64 : n ≤ 64 := by rw [← hn]; exact I.len
 have HLN := Lib.hid hn
 obtain ⟨j1, hj1, hf1, hc1⟩ := fidx_some I hs
 obtain ⟨b, o, rfl, hb, hra⟩ := hR j1 hj1
 rw [hc1] at hra
 have hop := hra 1 _ rfl
 have hol := hra 2 _ rfl
 have HOP := Lib.hid hop
 have HOL := Lib.hid hol
 have HBL := Lib.hid hb
 have hjn : j1 < n := by omega
 have p3 : decide ((j1 : Int) < 0) = false := decide_eq_false (by omega)
 have KW := Lib.hid (fun z => by have := rwrong_c hi z; rw [hw] at this; exact this)
 have KF1 : Hid (∀ z, RwV crow 14 z (some ⟨b, o, none⟩) (rowsX f L) → Calls Try.prog 36 #[.slice (some ⟨b, o, none⟩) n cap, .int .i64 c.id] z fun ee w' => ee = .returned (.int .i64 (j1 : Int)) ∧ Below z.heap.size z w') := Lib.hid (fun z hz => by have := rfind_c (rowsX f L) n hl (by omega) c.id (some ⟨b, o, none⟩) cap z hz; rw [hf1] at this; exact this)
 have HP := Lib.hid hp
 have HLF := Lib.hid hlf
 have KO := Lib.hid (fun z => rof_c hi.la hi.lb hi.lc (r := true) (by unfold sh1 at hsh; exact hsh) z)
 have KS : Hid (∀ z, RwV crow 14 z (some ⟨b, o, none⟩) (rowsX f L) → Calls Try.prog 77 #[.slice (some ⟨b, o, none⟩) n cap, .int .i64 c.par] z fun ee w' => ee = .returned (.bool false) ∧ Below z.heap.size z w') := Lib.hid (fun z hz => by have := rshares_c I n hn c.par (some ⟨b, o, none⟩) cap z hz; rw [hsa] at this; exact this)
 have hA1 : Below w.heap.size w (w.alloc (.cells #[.int .i64 c.id, .int .i64 c.par, .bool c.leaf, .int .u64 c.ra, .int .u64 c.rb, .int .u64 c.rc, .int .u64 c.la, .int .u64 c.lb, .int .u64 c.lc, .int .u64 c.ua, .int .u64 c.ub, .int .u64 c.uc, .int .i64 c.pk, .int .i64 c.bt] 54)) := bub
 have hV1 : VR (w.alloc (.cells #[.int .i64 c.id, .int .i64 c.par, .bool c.leaf, .int .u64 c.ra, .int .u64 c.rb, .int .u64 c.rc, .int .u64 c.la, .int .u64 c.lb, .int .u64 c.lc, .int .u64 c.ua, .int .u64 c.ub, .int .u64 c.uc, .int .i64 c.pk, .int .i64 c.bt] 54)) w.heap.size 54 #[.int .i64 c.id, .int .i64 c.par, .bool c.leaf, .int .u64 c.ra, .int .u64 c.rb, .int .u64 c.rc, .int .u64 c.la, .int .u64 c.lb, .int .u64 c.lc, .int .u64 c.ua, .int .u64 c.ub, .int .u64 c.uc, .int .i64 c.pk, .int .i64 c.bt] := VR.new _ _ _
 have hQ0 : VR ((w.alloc (.cells #[.int .i64 c.id, .int .i64 c.par, .bool c.leaf, .int .u64 c.ra, .int .u64 c.rb, .int .u64 c.rc, .int .u64 c.la, .int .u64 c.lb, .int .u64 c.lc, .int .u64 c.ua, .int .u64 c.ub, .int .u64 c.uc, .int .i64 c.pk, .int .i64 c.bt] 54)).alloc (.cells #[.slice none 0 0, .int .i64 0] 59)) (w.heap.size + 1) 59 #[.slice none 0 0, .int .i64 0] := by have := VR.new (w.alloc (.cells #[.int .i64 c.id, .int .i64 c.par, .bool c.leaf, .int .u64 c.ra, .int .u64 c.rb, .int .u64 c.rc, .int .u64 c.la, .int .u64 c.lb, .int .u64 c.lc, .int .u64 c.ua, .int .u64 c.ub, .int .u64 c.uc, .int .i64 c.pk, .int .i64 c.bt] 54)) #[.slice none 0 0, .int .i64 0] 59; simpa using this
 have hB0 : Below w.heap.size w ((w.alloc (.cells #[.int .i64 c.id, .int .i64 c.par, .bool c.leaf, .int .u64 c.ra, .int .u64 c.rb, .int .u64 c.rc, .int .u64 c.la, .int .u64 c.lb, .int .u64 c.lc, .int .u64 c.ua, .int .u64 c.ub, .int .u64 c.uc, .int .i64 c.pk, .int .i64 c.bt] 54)).alloc (.cells #[.slice none 0 0, .int .i64 0] 59)) := bub
 have HV0 := Lib.hid (hV1.alloc (.cells #[.slice none 0 0, .int .i64 0] 59))
 have HQ0 := Lib.hid hQ0
 have HB0 := Lib.hid hB0
 have INF := Lib.hid cl_info
 have DINF := Lib.hid dd_info
 have DONE := Lib.hid dd_one
 have HRS := Lib.hid (fun (z : World) (h : Below w.heap.size w z) => hR.below h)
 clear hA1 hV1 hQ0 hB0
 clear I hi hn hl hR hw hs hf1 hc1 hra hop hol hb hj1 hp hlf hsh hsa
 go_enter Try.func58, Try.ntmps58
 go_wp2_with (first
  | go_guarded
  | (go_at_call 36; (have mk := HB1); (with_reducible refine (KF1.out _ (HRS.out _ HB1.out)).mono ?_); rintro _ w2 ⟨rfl, hbel⟩; have HV2 := Lib.hid (HV1.out.bel hbel); have HQ2 := Lib.hid (HQ1.out.bel hbel); have HB2 : Hid (Below w.heap.size w w2) := Lib.hid (HB1.out.trans (hbel.mono HB1.out.size)); have f2a := HV2.out.cell 0 rfl; have f2b := HV2.out.cell 1 rfl; have f2x := HV2.out.cell 6 rfl; have f2y := HV2.out.cell 7 rfl; have f2z := HV2.out.cell 8 rfl; have f2l := HV2.out.lt; have o2 := (HB2.out.cell (p := ⟨b, o + j1 * 14 + 1, none⟩) HBL.out).trans HOP.out; have q2 := (HB2.out.cell (p := ⟨b, o + j1 * 14 + 2, none⟩) HBL.out).trans HOL.out; have bl2 := Nat.lt_of_lt_of_le HBL.out HB2.out.size; have f2w := HV2.out.cell 2 rfl; rw [HP.out] at o2; rw [HLF.out] at q2; clear hbel)
  | (go_at_call 76; (have mk := HB0); (with_reducible refine (KW.out _).mono ?_); rintro _ w1 ⟨rfl, hbel⟩; have HV1 := Lib.hid (HV0.out.bel hbel); have HQ1 := Lib.hid (HQ0.out.bel hbel); have HB1 : Hid (Below w.heap.size w w1) := Lib.hid (HB0.out.trans (hbel.mono HB0.out.size)); have f1a := HV1.out.cell 0 rfl; have f1b := HV1.out.cell 1 rfl; have f1x := HV1.out.cell 6 rfl; have f1y := HV1.out.cell 7 rfl; have f1z := HV1.out.cell 8 rfl; have f1l := HV1.out.lt; clear hbel)
  | (refine wpList_var_get rfl 54 _ rfl w.heap.size #[.int .i64 c.id, .int .i64 c.par, .bool c.leaf, .int .u64 c.ra, .int .u64 c.rb, .int .u64 c.rc, .int .u64 c.la, .int .u64 c.lb, .int .u64 c.lc, .int .u64 c.ua, .int .u64 c.ub, .int .u64 c.uc, .int .i64 c.pk, .int .i64 c.bt] _ HV0.out rfl Try.underlying54 rfl INF.out ?_))
 go_quiet (fail)
 have hbq : Below w2.heap.size w2 (w2.drewN nq) := below_drewN (Below.refl _ _) _
 have HB2 : Hid (Below w.heap.size w (w2.drewN nq)) := Lib.hid (HB2.out.trans (hbq.mono HB2.out.size))
 have HV2 : Hid (VR (w2.drewN nq) w.heap.size 54 #[.int .i64 c.id, .int .i64 c.par, .bool c.leaf, .int .u64 c.ra, .int .u64 c.rb, .int .u64 c.rc, .int .u64 c.la, .int .u64 c.lb, .int .u64 c.lc, .int .u64 c.ua, .int .u64 c.ub, .int .u64 c.uc, .int .i64 c.pk, .int .i64 c.bt]) := Lib.hid (HV2.out.bel hbq)
 have HQ2 : Hid (VR (w2.drewN nq) (w.heap.size + 1) 59 #[.slice none 0 0, .int .i64 0]) := Lib.hid (HQ2.out.bel hbq)
 go_wp2_with (first
  | go_guarded
  | (refine wpList_var_set rfl 59 _ _ rfl (w.heap.size + 1) #[.slice none 0 0, .int .i64 0] #[.slice (some ⟨b, o, none⟩) n cap, .int .i64 29] HQ4.out rfl rfl DINF.out rfl (DONE.out _ _ _ _) ?_; intro w20 hs20 ho20 hv20; have HVF := Lib.hid hv20; have HBF : Hid (Below w.heap.size w w20) := Lib.hid (HB4.out.trans ⟨ho20.1, ho20.2, ho20.3, ho20.4, fun k hk => ho20.5 k (Nat.lt_of_lt_of_le hk HB4.out.size) (by omega)⟩); have HOF := Lib.hid ho20; clear ho20 hv20)
  | (go_at_call 77; (have mk := HB3); (with_reducible refine (KS.out _ (HRS.out _ HB3.out)).mono ?_); rintro _ w4 ⟨rfl, hbel⟩; have HV4 := Lib.hid (HV3.out.bel hbel); have HQ4 := Lib.hid (HQ3.out.bel hbel); have HB4 : Hid (Below w.heap.size w w4) := Lib.hid (HB3.out.trans (hbel.mono HB3.out.size)); have f4a := HV4.out.cell 0 rfl; have f4b := HV4.out.cell 1 rfl; have f4x := HV4.out.cell 6 rfl; have f4y := HV4.out.cell 7 rfl; have f4z := HV4.out.cell 8 rfl; have f4l := HV4.out.lt; clear hbel)
  | (go_at_call 66; (have mk := HB2); (with_reducible refine (KO.out _).mono ?_); rintro _ w3 ⟨ko, rfl, hko, hbel⟩; have HV3 := Lib.hid (HV2.out.bel hbel); have HQ3 := Lib.hid (HQ2.out.bel hbel); have HB3 : Hid (Below w.heap.size w w3) := Lib.hid (HB2.out.trans (hbel.mono HB2.out.size)); have f3a := HV3.out.cell 0 rfl; have f3b := HV3.out.cell 1 rfl; have f3x := HV3.out.cell 6 rfl; have f3y := HV3.out.cell 7 rfl; have f3z := HV3.out.cell 8 rfl; have f3l := HV3.out.lt; clear hbel))
 refine bodyPost_ret (v := .agg #[.slice (some ⟨b, o, none⟩) n cap, .int .i64 29]) (results_var Try.results58 _ (w.heap.size + 1) rfl _ _ HVF.out Try.underlying59 rfl DINF.out) rfl ?_
 exact ⟨some ⟨b, o, none⟩, n, cap, rfl, HLN.out, HRS.out _ HBF.out, HBF.out⟩
theorem rset_ok1 {f : Int → Option Cls} {L : List Int} (I : TI f L) {c : Cls} (hi : CIn c) (n : Nat) (hn : L.length = n) (ao : Option Addr) (cap : Nat) (w : World) (hR : RwV crow 14 w ao (rowsX f L)) (hw : wrC c = 0) {od : Cls} (hs : f c.id = some od) (hp : od.par = c.par) (hlf : od.leaf = c.leaf) (hsh : sh1 c = true) (hsa : shA f c.par = true) :
  Calls Try.prog 58 #[.slice ao n cap, .agg #[.int .i64 c.id, .int .i64 c.par, .bool c.leaf, .int .u64 c.ra, .int .u64 c.rb, .int .u64 c.rc, .int .u64 c.la, .int .u64 c.lb, .int .u64 c.lc, .int .u64 c.ua, .int .u64 c.ub, .int .u64 c.uc, .int .i64 c.pk, .int .i64 c.bt]] w (DidP w 0 (upd f c.id c) L) := by
 have hl : (rowsX f L).length = n := by rw [rowsX_len]; exact hn
 have hn64 : n ≤ 64 := by rw [← hn]; exact I.len
 have HLN := Lib.hid hn
 obtain ⟨j1, hj1, hf1, hc1⟩ := fidx_some I hs
 obtain ⟨b, o, rfl, hb, hra⟩ := hR j1 hj1
 rw [hc1] at hra
 have hop := hra 1 _ rfl
 have hol := hra 2 _ rfl
 have HOP := Lib.hid hop
 have HOL := Lib.hid hol
 have HBL := Lib.hid hb
 have hjn : j1 < n := by omega
 have p3 : decide ((j1 : Int) < 0) = false := decide_eq_false (by omega)
 have KW := Lib.hid (fun z => by have := rwrong_c hi z; rw [hw] at this; exact this)
 have KF1 : Hid (∀ z, RwV crow 14 z (some ⟨b, o, none⟩) (rowsX f L) → Calls Try.prog 36 #[.slice (some ⟨b, o, none⟩) n cap, .int .i64 c.id] z fun ee w' => ee = .returned (.int .i64 (j1 : Int)) ∧ Below z.heap.size z w') := Lib.hid (fun z hz => by have := rfind_c (rowsX f L) n hl (by omega) c.id (some ⟨b, o, none⟩) cap z hz; rw [hf1] at this; exact this)
 have HP := Lib.hid hp
 have HLF := Lib.hid hlf
 have KO := Lib.hid (fun z => rof_c hi.la hi.lb hi.lc (r := true) (by unfold sh1 at hsh; exact hsh) z)
 have KS : Hid (∀ z, RwV crow 14 z (some ⟨b, o, none⟩) (rowsX f L) → Calls Try.prog 77 #[.slice (some ⟨b, o, none⟩) n cap, .int .i64 c.par] z fun ee w' => ee = .returned (.bool true) ∧ Below z.heap.size z w') := Lib.hid (fun z hz => by have := rshares_c I n hn c.par (some ⟨b, o, none⟩) cap z hz; rw [hsa] at this; exact this)
 have hcl : (((rowsX f L).filter (fun y => y.par == c.id)).map Cls.id) = L.filter (sel f (fun y => y.par == c.id)) := chl_eq c.id (fun x hx => by obtain ⟨d, h1, h2, _⟩ := I.rows x hx; exact ⟨d, h1, h2⟩)
 obtain ⟨C, hC⟩ : ∃ C, L.filter (sel f (fun y => y.par == c.id)) = C := ⟨_, rfl⟩
 obtain ⟨m, hm⟩ : ∃ m, C.length = m := ⟨_, rfl⟩
 have hm64 : m ≤ 64 := by rw [← hm, ← hC]; exact Nat.le_trans (List.length_filter_le _ _) I.len
 rw [hC] at hcl
 have KC : Hid (∀ z, RwV crow 14 z (some ⟨b, o, none⟩) (rowsX f L) → Calls Try.prog 79 #[.slice (some ⟨b, o, none⟩) n cap, .int .i64 c.id] z fun e z' => ∃ co cc, e = .returned (.slice co m cc) ∧ IntsV z' co C ∧ Below z.heap.size z z') := Lib.hid (fun z hz => by
  refine (rchi_c (rowsX f L) n hl (by omega) c.id (some ⟨b, o, none⟩) cap z hz).mono ?_
  rintro e z' ⟨v, rfl, hr, hb⟩
  have h1 : ((rowsX f L).filter (fun y => y.par == c.id)).map (fun y => Value.int .i64 y.id) = C.map (Value.int .i64) := by rw [← hcl, List.map_map]; rfl
  have h2 : ((rowsX f L).filter (fun y => y.par == c.id)).length = m := by rw [← hm, ← hcl, List.length_map]
  rw [h1, h2] at hr
  obtain ⟨co, cc, rfl⟩ := row_form hr
  exact ⟨co, cc, rfl, (own_ints hr).2, hb⟩)
 have HMC := Lib.hid hm
 have KP : Hid (∀ z, RwV crow 14 z (some ⟨b, o, none⟩) (rowsX f L) → Calls Try.prog 78 #[.slice (some ⟨b, o, none⟩) n cap, .agg #[.int .i64 c.id, .int .i64 c.par, .bool c.leaf, .int .u64 c.ra, .int .u64 c.rb, .int .u64 c.rc, .int .u64 c.la, .int .u64 c.lb, .int .u64 c.lc, .int .u64 c.ua, .int .u64 c.ub, .int .u64 c.uc, .int .i64 c.pk, .int .i64 c.bt]] z fun e z' => ∃ po pc, e = .returned (.slice po n pc) ∧ RwV crow 14 z' po (rowsX (upd f c.id c) L) ∧ (∀ q, po = some q → z.heap.size ≤ q.block ∧ True) ∧ Below z.heap.size z z') := Lib.hid (fun z hz => by
  refine (rput_c (rowsX f L) n hl (by omega) c (some ⟨b, o, none⟩) cap z hz).mono ?_
  rintro e z' ⟨v, rfl, hr, hb⟩
  have hil : ins c.id L = L := ins_same I.srt ((I.mem c.id).1 (by rw [hs]; rfl))
  rw [put_rows I c, hil] at hr
  have h1 : (rowsX (upd f c.id c) L).length = n := by rw [rowsX_len]; exact hn
  rw [h1] at hr
  obtain ⟨po, pc, rfl⟩ := row_form hr
  exact ⟨po, pc, rfl, own_rwv crow_len hr h1, fun q hq => ⟨(hr.lt _ (by rw [hq]; rfl)).1, trivial⟩, hb⟩)
 have hA1 : Below w.heap.size w (w.alloc (.cells #[.int .i64 c.id, .int .i64 c.par, .bool c.leaf, .int .u64 c.ra, .int .u64 c.rb, .int .u64 c.rc, .int .u64 c.la, .int .u64 c.lb, .int .u64 c.lc, .int .u64 c.ua, .int .u64 c.ub, .int .u64 c.uc, .int .i64 c.pk, .int .i64 c.bt] 54)) := bub
 have hV1 : VR (w.alloc (.cells #[.int .i64 c.id, .int .i64 c.par, .bool c.leaf, .int .u64 c.ra, .int .u64 c.rb, .int .u64 c.rc, .int .u64 c.la, .int .u64 c.lb, .int .u64 c.lc, .int .u64 c.ua, .int .u64 c.ub, .int .u64 c.uc, .int .i64 c.pk, .int .i64 c.bt] 54)) w.heap.size 54 #[.int .i64 c.id, .int .i64 c.par, .bool c.leaf, .int .u64 c.ra, .int .u64 c.rb, .int .u64 c.rc, .int .u64 c.la, .int .u64 c.lb, .int .u64 c.lc, .int .u64 c.ua, .int .u64 c.ub, .int .u64 c.uc, .int .i64 c.pk, .int .i64 c.bt] := VR.new _ _ _
 have hQ0 : VR ((w.alloc (.cells #[.int .i64 c.id, .int .i64 c.par, .bool c.leaf, .int .u64 c.ra, .int .u64 c.rb, .int .u64 c.rc, .int .u64 c.la, .int .u64 c.lb, .int .u64 c.lc, .int .u64 c.ua, .int .u64 c.ub, .int .u64 c.uc, .int .i64 c.pk, .int .i64 c.bt] 54)).alloc (.cells #[.slice none 0 0, .int .i64 0] 59)) (w.heap.size + 1) 59 #[.slice none 0 0, .int .i64 0] := by have := VR.new (w.alloc (.cells #[.int .i64 c.id, .int .i64 c.par, .bool c.leaf, .int .u64 c.ra, .int .u64 c.rb, .int .u64 c.rc, .int .u64 c.la, .int .u64 c.lb, .int .u64 c.lc, .int .u64 c.ua, .int .u64 c.ub, .int .u64 c.uc, .int .i64 c.pk, .int .i64 c.bt] 54)) #[.slice none 0 0, .int .i64 0] 59; simpa using this
 have hB0 : Below w.heap.size w ((w.alloc (.cells #[.int .i64 c.id, .int .i64 c.par, .bool c.leaf, .int .u64 c.ra, .int .u64 c.rb, .int .u64 c.rc, .int .u64 c.la, .int .u64 c.lb, .int .u64 c.lc, .int .u64 c.ua, .int .u64 c.ub, .int .u64 c.uc, .int .i64 c.pk, .int .i64 c.bt] 54)).alloc (.cells #[.slice none 0 0, .int .i64 0] 59)) := bub
 have HV0 := Lib.hid (hV1.alloc (.cells #[.slice none 0 0, .int .i64 0] 59))
 have HQ0 := Lib.hid hQ0
 have HB0 := Lib.hid hB0
 have INF := Lib.hid cl_info
 have DINF := Lib.hid dd_info
 have DONE := Lib.hid dd_one
 have HRS := Lib.hid (fun (z : World) (h : Below w.heap.size w z) => hR.below h)
 clear hA1 hV1 hQ0 hB0
 clear I hi hn hl hR hw hs hf1 hc1 hra hop hol hb hj1 hp hlf hsh hsa hC hcl hm
 go_enter Try.func58, Try.ntmps58
 go_wp2_with (first
  | go_guarded
  | (go_at_call 36; (have mk := HB1); (with_reducible refine (KF1.out _ (HRS.out _ HB1.out)).mono ?_); rintro _ w2 ⟨rfl, hbel⟩; have HV2 := Lib.hid (HV1.out.bel hbel); have HQ2 := Lib.hid (HQ1.out.bel hbel); have HB2 : Hid (Below w.heap.size w w2) := Lib.hid (HB1.out.trans (hbel.mono HB1.out.size)); have f2a := HV2.out.cell 0 rfl; have f2b := HV2.out.cell 1 rfl; have f2x := HV2.out.cell 6 rfl; have f2y := HV2.out.cell 7 rfl; have f2z := HV2.out.cell 8 rfl; have f2l := HV2.out.lt; have o2 := (HB2.out.cell (p := ⟨b, o + j1 * 14 + 1, none⟩) HBL.out).trans HOP.out; have q2 := (HB2.out.cell (p := ⟨b, o + j1 * 14 + 2, none⟩) HBL.out).trans HOL.out; have bl2 := Nat.lt_of_lt_of_le HBL.out HB2.out.size; have f2w := HV2.out.cell 2 rfl; rw [HP.out] at o2; rw [HLF.out] at q2; clear hbel)
  | (go_at_call 76; (have mk := HB0); (with_reducible refine (KW.out _).mono ?_); rintro _ w1 ⟨rfl, hbel⟩; have HV1 := Lib.hid (HV0.out.bel hbel); have HQ1 := Lib.hid (HQ0.out.bel hbel); have HB1 : Hid (Below w.heap.size w w1) := Lib.hid (HB0.out.trans (hbel.mono HB0.out.size)); have f1a := HV1.out.cell 0 rfl; have f1b := HV1.out.cell 1 rfl; have f1x := HV1.out.cell 6 rfl; have f1y := HV1.out.cell 7 rfl; have f1z := HV1.out.cell 8 rfl; have f1l := HV1.out.lt; clear hbel)
  | (refine wpList_var_get rfl 54 _ rfl w.heap.size #[.int .i64 c.id, .int .i64 c.par, .bool c.leaf, .int .u64 c.ra, .int .u64 c.rb, .int .u64 c.rc, .int .u64 c.la, .int .u64 c.lb, .int .u64 c.lc, .int .u64 c.ua, .int .u64 c.ub, .int .u64 c.uc, .int .i64 c.pk, .int .i64 c.bt] _ HV0.out rfl Try.underlying54 rfl INF.out ?_))
 go_quiet (fail)
 have hbq : Below w2.heap.size w2 (w2.drewN nq) := below_drewN (Below.refl _ _) _
 have HB2 : Hid (Below w.heap.size w (w2.drewN nq)) := Lib.hid (HB2.out.trans (hbq.mono HB2.out.size))
 have HV2 : Hid (VR (w2.drewN nq) w.heap.size 54 #[.int .i64 c.id, .int .i64 c.par, .bool c.leaf, .int .u64 c.ra, .int .u64 c.rb, .int .u64 c.rc, .int .u64 c.la, .int .u64 c.lb, .int .u64 c.lc, .int .u64 c.ua, .int .u64 c.ub, .int .u64 c.uc, .int .i64 c.pk, .int .i64 c.bt]) := Lib.hid (HV2.out.bel hbq)
 have HQ2 : Hid (VR (w2.drewN nq) (w.heap.size + 1) 59 #[.slice none 0 0, .int .i64 0]) := Lib.hid (HQ2.out.bel hbq)
 go_wp2_with (first
  | go_guarded
  | (go_at_call 79; (have mk := HB4); (with_reducible refine (KC.out _ (HRS.out _ HB4.out)).mono ?_); rintro _ w5 ⟨co, cc, rfl, hci, hbel⟩; have HCI := Lib.hid hci; have HV5 := Lib.hid (HV4.out.bel hbel); have HQ5 := Lib.hid (HQ4.out.bel hbel); have HB5 : Hid (Below w.heap.size w w5) := Lib.hid (HB4.out.trans (hbel.mono HB4.out.size)); have f5a := HV5.out.cell 0 rfl; have f5b := HV5.out.cell 1 rfl; have f5x := HV5.out.cell 6 rfl; have f5y := HV5.out.cell 7 rfl; have f5z := HV5.out.cell 8 rfl; have f5l := HV5.out.lt; clear hbel hci)
  | (go_at_call 77; (have mk := HB3); (with_reducible refine (KS.out _ (HRS.out _ HB3.out)).mono ?_); rintro _ w4 ⟨rfl, hbel⟩; have HV4 := Lib.hid (HV3.out.bel hbel); have HQ4 := Lib.hid (HQ3.out.bel hbel); have HB4 : Hid (Below w.heap.size w w4) := Lib.hid (HB3.out.trans (hbel.mono HB3.out.size)); have f4a := HV4.out.cell 0 rfl; have f4b := HV4.out.cell 1 rfl; have f4x := HV4.out.cell 6 rfl; have f4y := HV4.out.cell 7 rfl; have f4z := HV4.out.cell 8 rfl; have f4l := HV4.out.lt; clear hbel)
  | (go_at_call 66; (have mk := HB2); (with_reducible refine (KO.out _).mono ?_); rintro _ w3 ⟨ko, rfl, hko, hbel⟩; have HV3 := Lib.hid (HV2.out.bel hbel); have HQ3 := Lib.hid (HQ2.out.bel hbel); have HB3 : Hid (Below w.heap.size w w3) := Lib.hid (HB2.out.trans (hbel.mono HB2.out.size)); have f3a := HV3.out.cell 0 rfl; have f3b := HV3.out.cell 1 rfl; have f3x := HV3.out.cell 6 rfl; have f3y := HV3.out.cell 7 rfl; have f3z := HV3.out.cell 8 rfl; have f3l := HV3.out.lt; clear hbel))
 try go_frame
 go_loopg [64] m (fun k9 s64 wr => ∃ i : Nat, s64 = .int .i64 i ∧ i ≤ m ∧ (True) ∧ Below w5.heap.size w5 wr ∧ m - i ≤ k9)
 case atStart => exact ⟨0, rfl, Nat.zero_le _, trivial, Below.refl _ _, by omega⟩
 case round =>
  obtain ⟨i, rfl, hi, hno, hBz, hi9⟩ := hrel
  have HB6 : Hid (Below w5.heap.size w5 wr) := Lib.hid hBz
  have HB7 : Hid (Below w.heap.size w wr) := Lib.hid (HB5.out.trans (hBz.mono HB5.out.size))
  have HV7 := Lib.hid (HV5.out.bel hBz)
  have HQ7 := Lib.hid (HQ5.out.bel hBz)
  have HNO := Lib.hid hno
  have fa := HV7.out.cell 0 rfl
  have fl := HV7.out.lt
  by_cases hlt : i < m
  ·have hlC : i < C.length := by rw [HMC.out]; exact hlt
   obtain ⟨cb, cofs, rfl, hcb, hcell⟩ := HCI.out i hlC
   have hce := (hBz.cell (p := ⟨cb, cofs + i, none⟩) hcb).trans hcell
   have hcl2 := Nat.lt_of_lt_of_le hcb hBz.size
   obtain ⟨x, hxe⟩ : ∃ x, C[i] = x := ⟨_, rfl⟩
   rw [hxe] at hce
   clear hno hBz hcell hcb hxe hlC
   go_wp2_with (first | go_guarded)
   go_roundg (m - (i + 1))
   case rel => exact ⟨i + 1, by go_num, by omega, trivial, HB6.out, Nat.le_refl _⟩
   case measure => omega
  ·obtain rfl : i = m := by omega
   clear hno hBz hlt
   have HB8 := HB7
   have HV8 := HV7
   have HQ8 := HQ7
   go_wp2_with (first
    | go_guarded
    | (refine wpList_var_set rfl 59 _ _ rfl (w.heap.size + 1) #[.slice none 0 0, .int .i64 0] #[.slice po n pc, .int .i64 0] HQ9.out rfl rfl DINF.out rfl (DONE.out _ _ _ _) ?_; intro w20 hs20 ho20 hv20; have HVF := Lib.hid hv20; have HBF : Hid (Below w.heap.size w w20) := Lib.hid (HB9.out.trans ⟨ho20.1, ho20.2, ho20.3, ho20.4, fun k hk => ho20.5 k (Nat.lt_of_lt_of_le hk HB9.out.size) (by omega)⟩); have HOF := Lib.hid ho20; clear ho20 hv20)
    | (go_at_call 78; (have mk := HB8); (with_reducible refine (KP.out _ (HRS.out _ HB8.out)).mono ?_); rintro _ w9 ⟨po, pc, rfl, hpr, hpn, hbel⟩; have HPR := Lib.hid hpr; have HPN : Hid (∀ q, po = some q → ¬ q.block = w.heap.size + 1) := Lib.hid (fun q hq g => by have h1 := (hpn q hq).1; have h2 := HQ8.out.lt; omega); have HV9 := Lib.hid (HV8.out.bel hbel); have HQ9 := Lib.hid (HQ8.out.bel hbel); have HB9 : Hid (Below w.heap.size w w9) := Lib.hid (HB8.out.trans (hbel.mono HB8.out.size)); have f9a := HV9.out.cell 0 rfl; have f9b := HV9.out.cell 1 rfl; have f9x := HV9.out.cell 6 rfl; have f9y := HV9.out.cell 7 rfl; have f9z := HV9.out.cell 8 rfl; have f9l := HV9.out.lt; clear hbel hpr hpn)
    | (refine wpList_var_get rfl 54 _ rfl w.heap.size #[.int .i64 c.id, .int .i64 c.par, .bool c.leaf, .int .u64 c.ra, .int .u64 c.rb, .int .u64 c.rc, .int .u64 c.la, .int .u64 c.lb, .int .u64 c.lc, .int .u64 c.ua, .int .u64 c.ub, .int .u64 c.uc, .int .i64 c.pk, .int .i64 c.bt] _ HV8.out rfl Try.underlying54 rfl INF.out ?_))
   refine bodyPost_ret (v := .agg #[.slice po n pc, .int .i64 0]) (results_var Try.results58 _ (w.heap.size + 1) rfl _ _ HVF.out Try.underlying59 rfl DINF.out) rfl ?_
   exact ⟨po, _, pc, rfl, HLN.out, rwv_only HPR.out HOF.out HPN.out, HBF.out⟩
theorem rset_csh {f : Int → Option Cls} {L : List Int} (I : TI f L) {c : Cls} (hi : CIn c) (n : Nat) (hn : L.length = n) (ao : Option Addr) (cap : Nat) (w : World) (hR : RwV crow 14 w ao (rowsX f L)) (hw : wrC c = 0) {od : Cls} (hs : f c.id = some od) (hp : od.par = c.par) (hlf : od.leaf = c.leaf) (hsh : sh1 c = false) (hch : chS f L c.id = true) :
  Calls Try.prog 58 #[.slice ao n cap, .agg #[.int .i64 c.id, .int .i64 c.par, .bool c.leaf, .int .u64 c.ra, .int .u64 c.rb, .int .u64 c.rc, .int .u64 c.la, .int .u64 c.lb, .int .u64 c.lc, .int .u64 c.ua, .int .u64 c.ub, .int .u64 c.uc, .int .i64 c.pk, .int .i64 c.bt]] w (DidP w 29 f L) := by
 have hl : (rowsX f L).length = n := by rw [rowsX_len]; exact hn
 have hn64 : n ≤ 64 := by rw [← hn]; exact I.len
 have HLN := Lib.hid hn
 obtain ⟨j1, hj1, hf1, hc1⟩ := fidx_some I hs
 obtain ⟨b, o, rfl, hb, hra⟩ := hR j1 hj1
 rw [hc1] at hra
 have hop := hra 1 _ rfl
 have hol := hra 2 _ rfl
 have HOP := Lib.hid hop
 have HOL := Lib.hid hol
 have HBL := Lib.hid hb
 have hjn : j1 < n := by omega
 have p3 : decide ((j1 : Int) < 0) = false := decide_eq_false (by omega)
 have KW := Lib.hid (fun z => by have := rwrong_c hi z; rw [hw] at this; exact this)
 have KF1 : Hid (∀ z, RwV crow 14 z (some ⟨b, o, none⟩) (rowsX f L) → Calls Try.prog 36 #[.slice (some ⟨b, o, none⟩) n cap, .int .i64 c.id] z fun ee w' => ee = .returned (.int .i64 (j1 : Int)) ∧ Below z.heap.size z w') := Lib.hid (fun z hz => by have := rfind_c (rowsX f L) n hl (by omega) c.id (some ⟨b, o, none⟩) cap z hz; rw [hf1] at this; exact this)
 have HP := Lib.hid hp
 have HLF := Lib.hid hlf
 have KO := Lib.hid (fun z => rof_c hi.la hi.lb hi.lc (r := false) (by unfold sh1 at hsh; exact hsh) z)
 have hcl : (((rowsX f L).filter (fun y => y.par == c.id)).map Cls.id) = L.filter (sel f (fun y => y.par == c.id)) := chl_eq c.id (fun x hx => by obtain ⟨d, h1, h2, _⟩ := I.rows x hx; exact ⟨d, h1, h2⟩)
 obtain ⟨C, hC⟩ : ∃ C, L.filter (sel f (fun y => y.par == c.id)) = C := ⟨_, rfl⟩
 obtain ⟨m, hm⟩ : ∃ m, C.length = m := ⟨_, rfl⟩
 have hm64 : m ≤ 64 := by rw [← hm, ← hC]; exact Nat.le_trans (List.length_filter_le _ _) I.len
 rw [hC] at hcl
 have KC : Hid (∀ z, RwV crow 14 z (some ⟨b, o, none⟩) (rowsX f L) → Calls Try.prog 79 #[.slice (some ⟨b, o, none⟩) n cap, .int .i64 c.id] z fun e z' => ∃ co cc, e = .returned (.slice co m cc) ∧ IntsV z' co C ∧ Below z.heap.size z z') := Lib.hid (fun z hz => by
  refine (rchi_c (rowsX f L) n hl (by omega) c.id (some ⟨b, o, none⟩) cap z hz).mono ?_
  rintro e z' ⟨v, rfl, hr, hb⟩
  have h1 : ((rowsX f L).filter (fun y => y.par == c.id)).map (fun y => Value.int .i64 y.id) = C.map (Value.int .i64) := by rw [← hcl, List.map_map]; rfl
  have h2 : ((rowsX f L).filter (fun y => y.par == c.id)).length = m := by rw [← hm, ← hcl, List.length_map]
  rw [h1, h2] at hr
  obtain ⟨co, cc, rfl⟩ := row_form hr
  exact ⟨co, cc, rfl, (own_ints hr).2, hb⟩)
 have HMC := Lib.hid hm
 have KSX : Hid (∀ x ∈ C, ∀ z, RwV crow 14 z (some ⟨b, o, none⟩) (rowsX f L) → Calls Try.prog 77 #[.slice (some ⟨b, o, none⟩) n cap, .int .i64 x] z fun ee w' => ee = .returned (.bool (shx f x)) ∧ Below z.heap.size z w') := Lib.hid (fun x hx z hz => by
  have h0 := rshares_c I n hn x (some ⟨b, o, none⟩) cap z hz
  have hxL : x ∈ L := by rw [← hC] at hx; exact (List.mem_filter.1 hx).1
  obtain ⟨d, hd, hdi, hdw, _⟩ := I.rows x hxL
  have he : shA f x = shx f x := by
   unfold shA shx
   have hz0 : (x == 0) = false := by have := (wrC_zero hdw).1; simp; omega
   rw [hz0, hd]; rfl
  rw [he] at h0
  exact h0)
 have HCH : Hid (C.any (shx f) = true) := Lib.hid (by unfold chS at hch; rw [hC] at hch; exact hch)
 have hA1 : Below w.heap.size w (w.alloc (.cells #[.int .i64 c.id, .int .i64 c.par, .bool c.leaf, .int .u64 c.ra, .int .u64 c.rb, .int .u64 c.rc, .int .u64 c.la, .int .u64 c.lb, .int .u64 c.lc, .int .u64 c.ua, .int .u64 c.ub, .int .u64 c.uc, .int .i64 c.pk, .int .i64 c.bt] 54)) := bub
 have hV1 : VR (w.alloc (.cells #[.int .i64 c.id, .int .i64 c.par, .bool c.leaf, .int .u64 c.ra, .int .u64 c.rb, .int .u64 c.rc, .int .u64 c.la, .int .u64 c.lb, .int .u64 c.lc, .int .u64 c.ua, .int .u64 c.ub, .int .u64 c.uc, .int .i64 c.pk, .int .i64 c.bt] 54)) w.heap.size 54 #[.int .i64 c.id, .int .i64 c.par, .bool c.leaf, .int .u64 c.ra, .int .u64 c.rb, .int .u64 c.rc, .int .u64 c.la, .int .u64 c.lb, .int .u64 c.lc, .int .u64 c.ua, .int .u64 c.ub, .int .u64 c.uc, .int .i64 c.pk, .int .i64 c.bt] := VR.new _ _ _
 have hQ0 : VR ((w.alloc (.cells #[.int .i64 c.id, .int .i64 c.par, .bool c.leaf, .int .u64 c.ra, .int .u64 c.rb, .int .u64 c.rc, .int .u64 c.la, .int .u64 c.lb, .int .u64 c.lc, .int .u64 c.ua, .int .u64 c.ub, .int .u64 c.uc, .int .i64 c.pk, .int .i64 c.bt] 54)).alloc (.cells #[.slice none 0 0, .int .i64 0] 59)) (w.heap.size + 1) 59 #[.slice none 0 0, .int .i64 0] := by have := VR.new (w.alloc (.cells #[.int .i64 c.id, .int .i64 c.par, .bool c.leaf, .int .u64 c.ra, .int .u64 c.rb, .int .u64 c.rc, .int .u64 c.la, .int .u64 c.lb, .int .u64 c.lc, .int .u64 c.ua, .int .u64 c.ub, .int .u64 c.uc, .int .i64 c.pk, .int .i64 c.bt] 54)) #[.slice none 0 0, .int .i64 0] 59; simpa using this
 have hB0 : Below w.heap.size w ((w.alloc (.cells #[.int .i64 c.id, .int .i64 c.par, .bool c.leaf, .int .u64 c.ra, .int .u64 c.rb, .int .u64 c.rc, .int .u64 c.la, .int .u64 c.lb, .int .u64 c.lc, .int .u64 c.ua, .int .u64 c.ub, .int .u64 c.uc, .int .i64 c.pk, .int .i64 c.bt] 54)).alloc (.cells #[.slice none 0 0, .int .i64 0] 59)) := bub
 have HV0 := Lib.hid (hV1.alloc (.cells #[.slice none 0 0, .int .i64 0] 59))
 have HQ0 := Lib.hid hQ0
 have HB0 := Lib.hid hB0
 have INF := Lib.hid cl_info
 have DINF := Lib.hid dd_info
 have DONE := Lib.hid dd_one
 have HRS := Lib.hid (fun (z : World) (h : Below w.heap.size w z) => hR.below h)
 clear hA1 hV1 hQ0 hB0
 clear I hi hn hl hR hw hs hf1 hc1 hra hop hol hb hj1 hp hlf hsh hch hC hcl hm
 go_enter Try.func58, Try.ntmps58
 go_wp2_with (first
  | go_guarded
  | (go_at_call 36; (have mk := HB1); (with_reducible refine (KF1.out _ (HRS.out _ HB1.out)).mono ?_); rintro _ w2 ⟨rfl, hbel⟩; have HV2 := Lib.hid (HV1.out.bel hbel); have HQ2 := Lib.hid (HQ1.out.bel hbel); have HB2 : Hid (Below w.heap.size w w2) := Lib.hid (HB1.out.trans (hbel.mono HB1.out.size)); have f2a := HV2.out.cell 0 rfl; have f2b := HV2.out.cell 1 rfl; have f2x := HV2.out.cell 6 rfl; have f2y := HV2.out.cell 7 rfl; have f2z := HV2.out.cell 8 rfl; have f2l := HV2.out.lt; have o2 := (HB2.out.cell (p := ⟨b, o + j1 * 14 + 1, none⟩) HBL.out).trans HOP.out; have q2 := (HB2.out.cell (p := ⟨b, o + j1 * 14 + 2, none⟩) HBL.out).trans HOL.out; have bl2 := Nat.lt_of_lt_of_le HBL.out HB2.out.size; have f2w := HV2.out.cell 2 rfl; rw [HP.out] at o2; rw [HLF.out] at q2; clear hbel)
  | (go_at_call 76; (have mk := HB0); (with_reducible refine (KW.out _).mono ?_); rintro _ w1 ⟨rfl, hbel⟩; have HV1 := Lib.hid (HV0.out.bel hbel); have HQ1 := Lib.hid (HQ0.out.bel hbel); have HB1 : Hid (Below w.heap.size w w1) := Lib.hid (HB0.out.trans (hbel.mono HB0.out.size)); have f1a := HV1.out.cell 0 rfl; have f1b := HV1.out.cell 1 rfl; have f1x := HV1.out.cell 6 rfl; have f1y := HV1.out.cell 7 rfl; have f1z := HV1.out.cell 8 rfl; have f1l := HV1.out.lt; clear hbel)
  | (refine wpList_var_get rfl 54 _ rfl w.heap.size #[.int .i64 c.id, .int .i64 c.par, .bool c.leaf, .int .u64 c.ra, .int .u64 c.rb, .int .u64 c.rc, .int .u64 c.la, .int .u64 c.lb, .int .u64 c.lc, .int .u64 c.ua, .int .u64 c.ub, .int .u64 c.uc, .int .i64 c.pk, .int .i64 c.bt] _ HV0.out rfl Try.underlying54 rfl INF.out ?_))
 go_quiet (fail)
 have hbq : Below w2.heap.size w2 (w2.drewN nq) := below_drewN (Below.refl _ _) _
 have HB2 : Hid (Below w.heap.size w (w2.drewN nq)) := Lib.hid (HB2.out.trans (hbq.mono HB2.out.size))
 have HV2 : Hid (VR (w2.drewN nq) w.heap.size 54 #[.int .i64 c.id, .int .i64 c.par, .bool c.leaf, .int .u64 c.ra, .int .u64 c.rb, .int .u64 c.rc, .int .u64 c.la, .int .u64 c.lb, .int .u64 c.lc, .int .u64 c.ua, .int .u64 c.ub, .int .u64 c.uc, .int .i64 c.pk, .int .i64 c.bt]) := Lib.hid (HV2.out.bel hbq)
 have HQ2 : Hid (VR (w2.drewN nq) (w.heap.size + 1) 59 #[.slice none 0 0, .int .i64 0]) := Lib.hid (HQ2.out.bel hbq)
 go_wp2_with (first
  | go_guarded
  | (go_at_call 79; (have mk := HB3); (with_reducible refine (KC.out _ (HRS.out _ HB3.out)).mono ?_); rintro _ w5 ⟨co, cc, rfl, hci, hbel⟩; have HCI := Lib.hid hci; have HV5 := Lib.hid (HV3.out.bel hbel); have HQ5 := Lib.hid (HQ3.out.bel hbel); have HB5 : Hid (Below w.heap.size w w5) := Lib.hid (HB3.out.trans (hbel.mono HB3.out.size)); have f5a := HV5.out.cell 0 rfl; have f5b := HV5.out.cell 1 rfl; have f5x := HV5.out.cell 6 rfl; have f5y := HV5.out.cell 7 rfl; have f5z := HV5.out.cell 8 rfl; have f5l := HV5.out.lt; clear hbel hci)
  | (go_at_call 66; (have mk := HB2); (with_reducible refine (KO.out _).mono ?_); rintro _ w3 ⟨ko, rfl, hko, hbel⟩; have HV3 := Lib.hid (HV2.out.bel hbel); have HQ3 := Lib.hid (HQ2.out.bel hbel); have HB3 : Hid (Below w.heap.size w w3) := Lib.hid (HB2.out.trans (hbel.mono HB2.out.size)); have f3a := HV3.out.cell 0 rfl; have f3b := HV3.out.cell 1 rfl; have f3x := HV3.out.cell 6 rfl; have f3y := HV3.out.cell 7 rfl; have f3z := HV3.out.cell 8 rfl; have f3l := HV3.out.lt; clear hbel))
 try go_frame
 go_loopg [64] m (fun k9 s64 wr => ∃ i : Nat, s64 = .int .i64 i ∧ i ≤ m ∧ ((C.take i).any (shx f) = false) ∧ Below w5.heap.size w5 wr ∧ m - i ≤ k9)
 case atStart => exact ⟨0, rfl, Nat.zero_le _, rfl, Below.refl _ _, by omega⟩
 case round =>
  obtain ⟨i, rfl, hi, hno, hBz, hi9⟩ := hrel
  have HB6 : Hid (Below w5.heap.size w5 wr) := Lib.hid hBz
  have HB7 : Hid (Below w.heap.size w wr) := Lib.hid (HB5.out.trans (hBz.mono HB5.out.size))
  have HV7 := Lib.hid (HV5.out.bel hBz)
  have HQ7 := Lib.hid (HQ5.out.bel hBz)
  have HNO := Lib.hid hno
  have fa := HV7.out.cell 0 rfl
  have fl := HV7.out.lt
  by_cases hlt : i < m
  ·have hlC : i < C.length := by rw [HMC.out]; exact hlt
   obtain ⟨cb, cofs, rfl, hcb, hcell⟩ := HCI.out i hlC
   have hce := (hBz.cell (p := ⟨cb, cofs + i, none⟩) hcb).trans hcell
   have hcl2 := Nat.lt_of_lt_of_le hcb hBz.size
   obtain ⟨x, hxe⟩ : ∃ x, C[i] = x := ⟨_, rfl⟩
   have hat := any_take (shx f) C i hlC hno
   have hof := any_of (shx f) hlC
   have hxC : C[i] ∈ C := List.getElem_mem hlC
   rw [hxe] at hce hat hof hxC
   have KX := Lib.hid (KSX.out x hxC)
   have HAT := Lib.hid hat
   have HOF0 := Lib.hid hof
   clear hno hBz hcell hcb hxe hlC hat hof hxC
   cases hsx : shx f x with
   | false =>
    rw [hsx] at KX
    have HA2 : Hid ((C.take (i + 1)).any (shx f) = false) := Lib.hid (by rw [HAT.out, hsx])
    go_wp2_with (first | go_guarded | (go_at_call 77; (have mk := HB7); (with_reducible refine (KX.out _ (HRS.out _ HB7.out)).mono ?_); rintro _ w8 ⟨rfl, hbel⟩; have HB8 : Hid (Below w.heap.size w w8) := Lib.hid (HB7.out.trans (hbel.mono HB7.out.size)); have HV8 := Lib.hid (HV7.out.bel hbel); have HQ8 := Lib.hid (HQ7.out.bel hbel); have HB6b := Lib.hid (HB6.out.trans (hbel.mono HB6.out.size)); clear hbel))
    go_roundg (m - (i + 1))
    case rel => exact ⟨i + 1, by go_num, by omega, HA2.out, HB6b.out, Nat.le_refl _⟩
    case measure => omega
   | true =>
    rw [hsx] at KX
    go_wp2_with (first
     | go_guarded
     | (refine wpList_var_set rfl 59 _ _ rfl (w.heap.size + 1) #[.slice none 0 0, .int .i64 0] #[.slice (some ⟨b, o, none⟩) n cap, .int .i64 29] HQ8.out rfl rfl DINF.out rfl (DONE.out _ _ _ _) ?_; intro w20 hs20 ho20 hv20; have HVF := Lib.hid hv20; have HBF : Hid (Below w.heap.size w w20) := Lib.hid (HB8.out.trans ⟨ho20.1, ho20.2, ho20.3, ho20.4, fun k hk => ho20.5 k (Nat.lt_of_lt_of_le hk HB8.out.size) (by omega)⟩); have HOF := Lib.hid ho20; clear ho20 hv20)
     | (go_at_call 77; (have mk := HB7); (with_reducible refine (KX.out _ (HRS.out _ HB7.out)).mono ?_); rintro _ w8 ⟨rfl, hbel⟩; have HB8 : Hid (Below w.heap.size w w8) := Lib.hid (HB7.out.trans (hbel.mono HB7.out.size)); have HV8 := Lib.hid (HV7.out.bel hbel); have HQ8 := Lib.hid (HQ7.out.bel hbel); have HB6b := Lib.hid (HB6.out.trans (hbel.mono HB6.out.size)); clear hbel))
    refine bodyPost_ret (v := .agg #[.slice (some ⟨b, o, none⟩) n cap, .int .i64 29]) (results_var Try.results58 _ (w.heap.size + 1) rfl _ _ HVF.out Try.underlying59 rfl DINF.out) rfl ?_
    exact ⟨some ⟨b, o, none⟩, n, cap, rfl, HLN.out, HRS.out _ HBF.out, HBF.out⟩
  ·obtain rfl : i = m := by omega
   have hany : C.any (shx f) = false := by rw [← HMC.out, List.take_length] at hno; exact hno
   clear hno hBz hlt
   exfalso
   have h1 := HCH.out
   rw [hany] at h1
   cases h1
theorem rset_ok0 {f : Int → Option Cls} {L : List Int} (I : TI f L) {c : Cls} (hi : CIn c) (n : Nat) (hn : L.length = n) (ao : Option Addr) (cap : Nat) (w : World) (hR : RwV crow 14 w ao (rowsX f L)) (hw : wrC c = 0) {od : Cls} (hs : f c.id = some od) (hp : od.par = c.par) (hlf : od.leaf = c.leaf) (hsh : sh1 c = false) (hch : chS f L c.id = false) :
  Calls Try.prog 58 #[.slice ao n cap, .agg #[.int .i64 c.id, .int .i64 c.par, .bool c.leaf, .int .u64 c.ra, .int .u64 c.rb, .int .u64 c.rc, .int .u64 c.la, .int .u64 c.lb, .int .u64 c.lc, .int .u64 c.ua, .int .u64 c.ub, .int .u64 c.uc, .int .i64 c.pk, .int .i64 c.bt]] w (DidP w 0 (upd f c.id c) L) := by
 have hl : (rowsX f L).length = n := by rw [rowsX_len]; exact hn
 have hn64 : n ≤ 64 := by rw [← hn]; exact I.len
 have HLN := Lib.hid hn
 obtain ⟨j1, hj1, hf1, hc1⟩ := fidx_some I hs
 obtain ⟨b, o, rfl, hb, hra⟩ := hR j1 hj1
 rw [hc1] at hra
 have hop := hra 1 _ rfl
 have hol := hra 2 _ rfl
 have HOP := Lib.hid hop
 have HOL := Lib.hid hol
 have HBL := Lib.hid hb
 have hjn : j1 < n := by omega
 have p3 : decide ((j1 : Int) < 0) = false := decide_eq_false (by omega)
 have KW := Lib.hid (fun z => by have := rwrong_c hi z; rw [hw] at this; exact this)
 have KF1 : Hid (∀ z, RwV crow 14 z (some ⟨b, o, none⟩) (rowsX f L) → Calls Try.prog 36 #[.slice (some ⟨b, o, none⟩) n cap, .int .i64 c.id] z fun ee w' => ee = .returned (.int .i64 (j1 : Int)) ∧ Below z.heap.size z w') := Lib.hid (fun z hz => by have := rfind_c (rowsX f L) n hl (by omega) c.id (some ⟨b, o, none⟩) cap z hz; rw [hf1] at this; exact this)
 have HP := Lib.hid hp
 have HLF := Lib.hid hlf
 have KO := Lib.hid (fun z => rof_c hi.la hi.lb hi.lc (r := false) (by unfold sh1 at hsh; exact hsh) z)
 have hcl : (((rowsX f L).filter (fun y => y.par == c.id)).map Cls.id) = L.filter (sel f (fun y => y.par == c.id)) := chl_eq c.id (fun x hx => by obtain ⟨d, h1, h2, _⟩ := I.rows x hx; exact ⟨d, h1, h2⟩)
 obtain ⟨C, hC⟩ : ∃ C, L.filter (sel f (fun y => y.par == c.id)) = C := ⟨_, rfl⟩
 obtain ⟨m, hm⟩ : ∃ m, C.length = m := ⟨_, rfl⟩
 have hm64 : m ≤ 64 := by rw [← hm, ← hC]; exact Nat.le_trans (List.length_filter_le _ _) I.len
 rw [hC] at hcl
 have KC : Hid (∀ z, RwV crow 14 z (some ⟨b, o, none⟩) (rowsX f L) → Calls Try.prog 79 #[.slice (some ⟨b, o, none⟩) n cap, .int .i64 c.id] z fun e z' => ∃ co cc, e = .returned (.slice co m cc) ∧ IntsV z' co C ∧ Below z.heap.size z z') := Lib.hid (fun z hz => by
  refine (rchi_c (rowsX f L) n hl (by omega) c.id (some ⟨b, o, none⟩) cap z hz).mono ?_
  rintro e z' ⟨v, rfl, hr, hb⟩
  have h1 : ((rowsX f L).filter (fun y => y.par == c.id)).map (fun y => Value.int .i64 y.id) = C.map (Value.int .i64) := by rw [← hcl, List.map_map]; rfl
  have h2 : ((rowsX f L).filter (fun y => y.par == c.id)).length = m := by rw [← hm, ← hcl, List.length_map]
  rw [h1, h2] at hr
  obtain ⟨co, cc, rfl⟩ := row_form hr
  exact ⟨co, cc, rfl, (own_ints hr).2, hb⟩)
 have HMC := Lib.hid hm
 have KP : Hid (∀ z, RwV crow 14 z (some ⟨b, o, none⟩) (rowsX f L) → Calls Try.prog 78 #[.slice (some ⟨b, o, none⟩) n cap, .agg #[.int .i64 c.id, .int .i64 c.par, .bool c.leaf, .int .u64 c.ra, .int .u64 c.rb, .int .u64 c.rc, .int .u64 c.la, .int .u64 c.lb, .int .u64 c.lc, .int .u64 c.ua, .int .u64 c.ub, .int .u64 c.uc, .int .i64 c.pk, .int .i64 c.bt]] z fun e z' => ∃ po pc, e = .returned (.slice po n pc) ∧ RwV crow 14 z' po (rowsX (upd f c.id c) L) ∧ (∀ q, po = some q → z.heap.size ≤ q.block ∧ True) ∧ Below z.heap.size z z') := Lib.hid (fun z hz => by
  refine (rput_c (rowsX f L) n hl (by omega) c (some ⟨b, o, none⟩) cap z hz).mono ?_
  rintro e z' ⟨v, rfl, hr, hb⟩
  have hil : ins c.id L = L := ins_same I.srt ((I.mem c.id).1 (by rw [hs]; rfl))
  rw [put_rows I c, hil] at hr
  have h1 : (rowsX (upd f c.id c) L).length = n := by rw [rowsX_len]; exact hn
  rw [h1] at hr
  obtain ⟨po, pc, rfl⟩ := row_form hr
  exact ⟨po, pc, rfl, own_rwv crow_len hr h1, fun q hq => ⟨(hr.lt _ (by rw [hq]; rfl)).1, trivial⟩, hb⟩)
 have KSX : Hid (∀ x ∈ C, ∀ z, RwV crow 14 z (some ⟨b, o, none⟩) (rowsX f L) → Calls Try.prog 77 #[.slice (some ⟨b, o, none⟩) n cap, .int .i64 x] z fun ee w' => ee = .returned (.bool (shx f x)) ∧ Below z.heap.size z w') := Lib.hid (fun x hx z hz => by
  have h0 := rshares_c I n hn x (some ⟨b, o, none⟩) cap z hz
  have hxL : x ∈ L := by rw [← hC] at hx; exact (List.mem_filter.1 hx).1
  obtain ⟨d, hd, hdi, hdw, _⟩ := I.rows x hxL
  have he : shA f x = shx f x := by
   unfold shA shx
   have hz0 : (x == 0) = false := by have := (wrC_zero hdw).1; simp; omega
   rw [hz0, hd]; rfl
  rw [he] at h0
  exact h0)
 have HCH : Hid (C.any (shx f) = false) := Lib.hid (by unfold chS at hch; rw [hC] at hch; exact hch)
 have hA1 : Below w.heap.size w (w.alloc (.cells #[.int .i64 c.id, .int .i64 c.par, .bool c.leaf, .int .u64 c.ra, .int .u64 c.rb, .int .u64 c.rc, .int .u64 c.la, .int .u64 c.lb, .int .u64 c.lc, .int .u64 c.ua, .int .u64 c.ub, .int .u64 c.uc, .int .i64 c.pk, .int .i64 c.bt] 54)) := bub
 have hV1 : VR (w.alloc (.cells #[.int .i64 c.id, .int .i64 c.par, .bool c.leaf, .int .u64 c.ra, .int .u64 c.rb, .int .u64 c.rc, .int .u64 c.la, .int .u64 c.lb, .int .u64 c.lc, .int .u64 c.ua, .int .u64 c.ub, .int .u64 c.uc, .int .i64 c.pk, .int .i64 c.bt] 54)) w.heap.size 54 #[.int .i64 c.id, .int .i64 c.par, .bool c.leaf, .int .u64 c.ra, .int .u64 c.rb, .int .u64 c.rc, .int .u64 c.la, .int .u64 c.lb, .int .u64 c.lc, .int .u64 c.ua, .int .u64 c.ub, .int .u64 c.uc, .int .i64 c.pk, .int .i64 c.bt] := VR.new _ _ _
 have hQ0 : VR ((w.alloc (.cells #[.int .i64 c.id, .int .i64 c.par, .bool c.leaf, .int .u64 c.ra, .int .u64 c.rb, .int .u64 c.rc, .int .u64 c.la, .int .u64 c.lb, .int .u64 c.lc, .int .u64 c.ua, .int .u64 c.ub, .int .u64 c.uc, .int .i64 c.pk, .int .i64 c.bt] 54)).alloc (.cells #[.slice none 0 0, .int .i64 0] 59)) (w.heap.size + 1) 59 #[.slice none 0 0, .int .i64 0] := by have := VR.new (w.alloc (.cells #[.int .i64 c.id, .int .i64 c.par, .bool c.leaf, .int .u64 c.ra, .int .u64 c.rb, .int .u64 c.rc, .int .u64 c.la, .int .u64 c.lb, .int .u64 c.lc, .int .u64 c.ua, .int .u64 c.ub, .int .u64 c.uc, .int .i64 c.pk, .int .i64 c.bt] 54)) #[.slice none 0 0, .int .i64 0] 59; simpa using this
 have hB0 : Below w.heap.size w ((w.alloc (.cells #[.int .i64 c.id, .int .i64 c.par, .bool c.leaf, .int .u64 c.ra, .int .u64 c.rb, .int .u64 c.rc, .int .u64 c.la, .int .u64 c.lb, .int .u64 c.lc, .int .u64 c.ua, .int .u64 c.ub, .int .u64 c.uc, .int .i64 c.pk, .int .i64 c.bt] 54)).alloc (.cells #[.slice none 0 0, .int .i64 0] 59)) := bub
 have HV0 := Lib.hid (hV1.alloc (.cells #[.slice none 0 0, .int .i64 0] 59))
 have HQ0 := Lib.hid hQ0
 have HB0 := Lib.hid hB0
 have INF := Lib.hid cl_info
 have DINF := Lib.hid dd_info
 have DONE := Lib.hid dd_one
 have HRS := Lib.hid (fun (z : World) (h : Below w.heap.size w z) => hR.below h)
 clear hA1 hV1 hQ0 hB0
 clear I hi hn hl hR hw hs hf1 hc1 hra hop hol hb hj1 hp hlf hsh hch hC hcl hm
 go_enter Try.func58, Try.ntmps58
 go_wp2_with (first
  | go_guarded
  | (go_at_call 36; (have mk := HB1); (with_reducible refine (KF1.out _ (HRS.out _ HB1.out)).mono ?_); rintro _ w2 ⟨rfl, hbel⟩; have HV2 := Lib.hid (HV1.out.bel hbel); have HQ2 := Lib.hid (HQ1.out.bel hbel); have HB2 : Hid (Below w.heap.size w w2) := Lib.hid (HB1.out.trans (hbel.mono HB1.out.size)); have f2a := HV2.out.cell 0 rfl; have f2b := HV2.out.cell 1 rfl; have f2x := HV2.out.cell 6 rfl; have f2y := HV2.out.cell 7 rfl; have f2z := HV2.out.cell 8 rfl; have f2l := HV2.out.lt; have o2 := (HB2.out.cell (p := ⟨b, o + j1 * 14 + 1, none⟩) HBL.out).trans HOP.out; have q2 := (HB2.out.cell (p := ⟨b, o + j1 * 14 + 2, none⟩) HBL.out).trans HOL.out; have bl2 := Nat.lt_of_lt_of_le HBL.out HB2.out.size; have f2w := HV2.out.cell 2 rfl; rw [HP.out] at o2; rw [HLF.out] at q2; clear hbel)
  | (go_at_call 76; (have mk := HB0); (with_reducible refine (KW.out _).mono ?_); rintro _ w1 ⟨rfl, hbel⟩; have HV1 := Lib.hid (HV0.out.bel hbel); have HQ1 := Lib.hid (HQ0.out.bel hbel); have HB1 : Hid (Below w.heap.size w w1) := Lib.hid (HB0.out.trans (hbel.mono HB0.out.size)); have f1a := HV1.out.cell 0 rfl; have f1b := HV1.out.cell 1 rfl; have f1x := HV1.out.cell 6 rfl; have f1y := HV1.out.cell 7 rfl; have f1z := HV1.out.cell 8 rfl; have f1l := HV1.out.lt; clear hbel)
  | (refine wpList_var_get rfl 54 _ rfl w.heap.size #[.int .i64 c.id, .int .i64 c.par, .bool c.leaf, .int .u64 c.ra, .int .u64 c.rb, .int .u64 c.rc, .int .u64 c.la, .int .u64 c.lb, .int .u64 c.lc, .int .u64 c.ua, .int .u64 c.ub, .int .u64 c.uc, .int .i64 c.pk, .int .i64 c.bt] _ HV0.out rfl Try.underlying54 rfl INF.out ?_))
 go_quiet (fail)
 have hbq : Below w2.heap.size w2 (w2.drewN nq) := below_drewN (Below.refl _ _) _
 have HB2 : Hid (Below w.heap.size w (w2.drewN nq)) := Lib.hid (HB2.out.trans (hbq.mono HB2.out.size))
 have HV2 : Hid (VR (w2.drewN nq) w.heap.size 54 #[.int .i64 c.id, .int .i64 c.par, .bool c.leaf, .int .u64 c.ra, .int .u64 c.rb, .int .u64 c.rc, .int .u64 c.la, .int .u64 c.lb, .int .u64 c.lc, .int .u64 c.ua, .int .u64 c.ub, .int .u64 c.uc, .int .i64 c.pk, .int .i64 c.bt]) := Lib.hid (HV2.out.bel hbq)
 have HQ2 : Hid (VR (w2.drewN nq) (w.heap.size + 1) 59 #[.slice none 0 0, .int .i64 0]) := Lib.hid (HQ2.out.bel hbq)
 go_wp2_with (first
  | go_guarded
  | (go_at_call 79; (have mk := HB3); (with_reducible refine (KC.out _ (HRS.out _ HB3.out)).mono ?_); rintro _ w5 ⟨co, cc, rfl, hci, hbel⟩; have HCI := Lib.hid hci; have HV5 := Lib.hid (HV3.out.bel hbel); have HQ5 := Lib.hid (HQ3.out.bel hbel); have HB5 : Hid (Below w.heap.size w w5) := Lib.hid (HB3.out.trans (hbel.mono HB3.out.size)); have f5a := HV5.out.cell 0 rfl; have f5b := HV5.out.cell 1 rfl; have f5x := HV5.out.cell 6 rfl; have f5y := HV5.out.cell 7 rfl; have f5z := HV5.out.cell 8 rfl; have f5l := HV5.out.lt; clear hbel hci)
  | (go_at_call 66; (have mk := HB2); (with_reducible refine (KO.out _).mono ?_); rintro _ w3 ⟨ko, rfl, hko, hbel⟩; have HV3 := Lib.hid (HV2.out.bel hbel); have HQ3 := Lib.hid (HQ2.out.bel hbel); have HB3 : Hid (Below w.heap.size w w3) := Lib.hid (HB2.out.trans (hbel.mono HB2.out.size)); have f3a := HV3.out.cell 0 rfl; have f3b := HV3.out.cell 1 rfl; have f3x := HV3.out.cell 6 rfl; have f3y := HV3.out.cell 7 rfl; have f3z := HV3.out.cell 8 rfl; have f3l := HV3.out.lt; clear hbel))
 try go_frame
 go_loopg [64] m (fun k9 s64 wr => ∃ i : Nat, s64 = .int .i64 i ∧ i ≤ m ∧ ((C.take i).any (shx f) = false) ∧ Below w5.heap.size w5 wr ∧ m - i ≤ k9)
 case atStart => exact ⟨0, rfl, Nat.zero_le _, rfl, Below.refl _ _, by omega⟩
 case round =>
  obtain ⟨i, rfl, hi, hno, hBz, hi9⟩ := hrel
  have HB6 : Hid (Below w5.heap.size w5 wr) := Lib.hid hBz
  have HB7 : Hid (Below w.heap.size w wr) := Lib.hid (HB5.out.trans (hBz.mono HB5.out.size))
  have HV7 := Lib.hid (HV5.out.bel hBz)
  have HQ7 := Lib.hid (HQ5.out.bel hBz)
  have HNO := Lib.hid hno
  have fa := HV7.out.cell 0 rfl
  have fl := HV7.out.lt
  by_cases hlt : i < m
  ·have hlC : i < C.length := by rw [HMC.out]; exact hlt
   obtain ⟨cb, cofs, rfl, hcb, hcell⟩ := HCI.out i hlC
   have hce := (hBz.cell (p := ⟨cb, cofs + i, none⟩) hcb).trans hcell
   have hcl2 := Nat.lt_of_lt_of_le hcb hBz.size
   obtain ⟨x, hxe⟩ : ∃ x, C[i] = x := ⟨_, rfl⟩
   have hat := any_take (shx f) C i hlC hno
   have hof := any_of (shx f) hlC
   have hxC : C[i] ∈ C := List.getElem_mem hlC
   rw [hxe] at hce hat hof hxC
   have KX := Lib.hid (KSX.out x hxC)
   have HAT := Lib.hid hat
   have HOF0 := Lib.hid hof
   clear hno hBz hcell hcb hxe hlC hat hof hxC
   cases hsx : shx f x with
   | false =>
    rw [hsx] at KX
    have HA2 : Hid ((C.take (i + 1)).any (shx f) = false) := Lib.hid (by rw [HAT.out, hsx])
    go_wp2_with (first | go_guarded | (go_at_call 77; (have mk := HB7); (with_reducible refine (KX.out _ (HRS.out _ HB7.out)).mono ?_); rintro _ w8 ⟨rfl, hbel⟩; have HB8 : Hid (Below w.heap.size w w8) := Lib.hid (HB7.out.trans (hbel.mono HB7.out.size)); have HV8 := Lib.hid (HV7.out.bel hbel); have HQ8 := Lib.hid (HQ7.out.bel hbel); have HB6b := Lib.hid (HB6.out.trans (hbel.mono HB6.out.size)); clear hbel))
    go_roundg (m - (i + 1))
    case rel => exact ⟨i + 1, by go_num, by omega, HA2.out, HB6b.out, Nat.le_refl _⟩
    case measure => omega
   | true =>
    exfalso
    have h1 := HOF0.out hsx
    rw [HCH.out] at h1
    cases h1
  ·obtain rfl : i = m := by omega
   have hany : C.any (shx f) = false := by rw [← HMC.out, List.take_length] at hno; exact hno
   clear hno hBz hlt
   have HB8 := HB7
   have HV8 := HV7
   have HQ8 := HQ7
   clear hany
   go_wp2_with (first
    | go_guarded
    | (refine wpList_var_set rfl 59 _ _ rfl (w.heap.size + 1) #[.slice none 0 0, .int .i64 0] #[.slice po n pc, .int .i64 0] HQ9.out rfl rfl DINF.out rfl (DONE.out _ _ _ _) ?_; intro w20 hs20 ho20 hv20; have HVF := Lib.hid hv20; have HBF : Hid (Below w.heap.size w w20) := Lib.hid (HB9.out.trans ⟨ho20.1, ho20.2, ho20.3, ho20.4, fun k hk => ho20.5 k (Nat.lt_of_lt_of_le hk HB9.out.size) (by omega)⟩); have HOF := Lib.hid ho20; clear ho20 hv20)
    | (go_at_call 78; (have mk := HB8); (with_reducible refine (KP.out _ (HRS.out _ HB8.out)).mono ?_); rintro _ w9 ⟨po, pc, rfl, hpr, hpn, hbel⟩; have HPR := Lib.hid hpr; have HPN : Hid (∀ q, po = some q → ¬ q.block = w.heap.size + 1) := Lib.hid (fun q hq g => by have h1 := (hpn q hq).1; have h2 := HQ8.out.lt; omega); have HV9 := Lib.hid (HV8.out.bel hbel); have HQ9 := Lib.hid (HQ8.out.bel hbel); have HB9 : Hid (Below w.heap.size w w9) := Lib.hid (HB8.out.trans (hbel.mono HB8.out.size)); have f9a := HV9.out.cell 0 rfl; have f9b := HV9.out.cell 1 rfl; have f9x := HV9.out.cell 6 rfl; have f9y := HV9.out.cell 7 rfl; have f9z := HV9.out.cell 8 rfl; have f9l := HV9.out.lt; clear hbel hpr hpn)
    | (refine wpList_var_get rfl 54 _ rfl w.heap.size #[.int .i64 c.id, .int .i64 c.par, .bool c.leaf, .int .u64 c.ra, .int .u64 c.rb, .int .u64 c.rc, .int .u64 c.la, .int .u64 c.lb, .int .u64 c.lc, .int .u64 c.ua, .int .u64 c.ub, .int .u64 c.uc, .int .i64 c.pk, .int .i64 c.bt] _ HV8.out rfl Try.underlying54 rfl INF.out ?_))
   refine bodyPost_ret (v := .agg #[.slice po n pc, .int .i64 0]) (results_var Try.results58 _ (w.heap.size + 1) rfl _ _ HVF.out Try.underlying59 rfl DINF.out) rfl ?_
   exact ⟨po, _, pc, rfl, HLN.out, rwv_only HPR.out HOF.out HPN.out, HBF.out⟩
end Go.Proofs.Ytmmahgfijiocfaa
end
