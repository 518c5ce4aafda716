/- Joined texts. -/
import Derived.Test.YtmmahgfijiocfaaBs0
import Derived.Test.YtmmahgfijiocfaaBs10
set_option linter.unusedVariables false
set_option linter.unusedSimpArgs false
set_option maxRecDepth 100000
set_option maxHeartbeats 16000000
section
namespace Go.Proofs.Ytmmahgfijiocfaa
open Go.RowKit Fg Reg Go.Maps
attribute [local irreducible] Reg.wE VR
def chS (f : Int → Option Cls) (L : List Int) (i : Int) : Bool := (L.filter (sel f (fun c => c.par == i))).any (shx f)
def setE (f : Int → Option Cls) (L : List Int) (c : Cls) : Int :=
 if wrC c ≠ 0 then wrC c else match f c.id with | none => 6 | some o => if o.par ≠ c.par ∨ o.leaf ≠ c.leaf then 1 else if (sh1 c = true ∧ shA f c.par = false) ∨ (sh1 c = false ∧ chS f L c.id = true) then 29 else 0
def delE (f : Int → Option Cls) (L : List Int) (i : Int) : Int :=
 match f i with | none => 6 | some _ => if 0 < (L.filter (sel f (fun c => c.par == i))).length then 23 else 0
theorem set_wr {w : World} {tb mb : Nat} {f : Int → Option Cls} (h : HT w tb mb f) {c : Cls} (e : Int) (he : e ≠ 0) (hi : CIn c) (hr : ∀ z, Calls Try.prog 51 #[.agg #[.int .i64 c.id, .int .i64 c.par, .bool c.leaf, .int .u64 c.ra, .int .u64 c.rb, .int .u64 c.rc, .int .u64 c.la, .int .u64 c.lb, .int .u64 c.lc, .int .u64 c.ua, .int .u64 c.ub, .int .u64 c.uc, .int .i64 c.pk, .int .i64 c.bt]] z fun ee w' => ee = .returned (.int .i64 e) ∧ Below z.heap.size z w') :
  Calls Try.prog 27 #[.pointer (some ⟨tb, 0, none⟩), .agg #[.int .i64 c.id, .int .i64 c.par, .bool c.leaf, .int .u64 c.ra, .int .u64 c.rb, .int .u64 c.rc, .int .u64 c.la, .int .u64 c.lb, .int .u64 c.lc, .int .u64 c.ua, .int .u64 c.ub, .int .u64 c.uc, .int .i64 c.pk, .int .i64 c.bt]] w fun ee w' => ee = .returned (.int .i64 e) ∧ Below w.heap.size w w' := by
 have he1 : (e == 0) = false := by simpa using he
 have he2 : (e != 0) = true := by simpa using he
 have hW0 : VR (w.alloc (.cells #[.int .i64 c.id, .int .i64 c.par, .bool c.leaf, .int .u64 c.ra, .int .u64 c.rb, .int .u64 c.rc, .int .u64 c.la, .int .u64 c.lb, .int .u64 c.lc, .int .u64 c.ua, .int .u64 c.ub, .int .u64 c.uc, .int .i64 c.pk, .int .i64 c.bt] 54)) w.heap.size 54 #[.int .i64 c.id, .int .i64 c.par, .bool c.leaf, .int .u64 c.ra, .int .u64 c.rb, .int .u64 c.rc, .int .u64 c.la, .int .u64 c.lb, .int .u64 c.lc, .int .u64 c.ua, .int .u64 c.ub, .int .u64 c.uc, .int .i64 c.pk, .int .i64 c.bt] := VR.new _ _ _
 have hB0 : Below w.heap.size w (w.alloc (.cells #[.int .i64 c.id, .int .i64 c.par, .bool c.leaf, .int .u64 c.ra, .int .u64 c.rb, .int .u64 c.rc, .int .u64 c.la, .int .u64 c.lb, .int .u64 c.lc, .int .u64 c.ua, .int .u64 c.ub, .int .u64 c.uc, .int .i64 c.pk, .int .i64 c.bt] 54)) := bub
 have HV0 := Lib.hid hW0
 have HB0 := Lib.hid hB0
 have H := Lib.hid h
 have HI := Lib.hid hi
 have INF := Lib.hid cl_info
 have ONE := Lib.hid cla_one
 have KR := Lib.hid (fun z => hr z)
 clear hW0 hB0 hr
 clear h hi he
 go_enter Try.func27, Try.ntmps27
 go_wp2_with (first
  | go_guarded
  | (refine wpList_var_get rfl 54 _ rfl w.heap.size #[.int .i64 c.id, .int .i64 c.par, .bool c.leaf, .int .u64 c.ra, .int .u64 c.rb, .int .u64 c.rc, .int .u64 c.la, .int .u64 c.lb, .int .u64 c.lc, .int .u64 c.ua, .int .u64 c.ub, .int .u64 c.uc, .int .i64 c.pk, .int .i64 c.bt] _ HV0.out rfl Try.underlying54 rfl INF.out ?_)
  | (go_at_call 51; (with_reducible refine (KR.out _).mono ?_); rintro _ w1 ⟨rfl, hbel⟩; have HV1 := Lib.hid (HV0.out.bel hbel); have HB1 : Hid (Below w.heap.size w w1) := Lib.hid (HB0.out.trans (hbel.mono HB0.out.size)); have c1 := HV1.out.cell 0 rfl; have l1 := HV1.out.lt; clear hbel))
 go_ret
 exact ⟨rfl, HB1.out⟩
theorem set_none {w : World} {tb mb : Nat} {f : Int → Option Cls} {L : List Int} (h : HT w tb mb f) (I : TI f L) {c : Cls} (hi : CIn c) (hr : ∀ z, Calls Try.prog 51 #[.agg #[.int .i64 c.id, .int .i64 c.par, .bool c.leaf, .int .u64 c.ra, .int .u64 c.rb, .int .u64 c.rc, .int .u64 c.la, .int .u64 c.lb, .int .u64 c.lc, .int .u64 c.ua, .int .u64 c.ub, .int .u64 c.uc, .int .i64 c.pk, .int .i64 c.bt]] z fun ee w' => ee = .returned (.int .i64 0) ∧ Below z.heap.size z w') (hs : f c.id = none) :
  Calls Try.prog 27 #[.pointer (some ⟨tb, 0, none⟩), .agg #[.int .i64 c.id, .int .i64 c.par, .bool c.leaf, .int .u64 c.ra, .int .u64 c.rb, .int .u64 c.rc, .int .u64 c.la, .int .u64 c.lb, .int .u64 c.lc, .int .u64 c.ua, .int .u64 c.ub, .int .u64 c.uc, .int .i64 c.pk, .int .i64 c.bt]] w fun ee w' => ee = .returned (.int .i64 6) ∧ Below w.heap.size w w' := by
 have hkg : ∀ z, Below w.heap.size w z → Calls Try.prog 32 #[.pointer (some ⟨tb, 0, none⟩), .int .i64 c.id] z fun ee w' => ee = .returned (.tuple #[.agg #[.int .i64 ((clz)).id, .int .i64 ((clz)).par, .bool ((clz)).leaf, .int .u64 ((clz)).ra, .int .u64 ((clz)).rb, .int .u64 ((clz)).rc, .int .u64 ((clz)).la, .int .u64 ((clz)).lb, .int .u64 ((clz)).lc, .int .u64 ((clz)).ua, .int .u64 ((clz)).ub, .int .u64 ((clz)).uc, .int .i64 ((clz)).pk, .int .i64 ((clz)).bt], .int .i64 6]) ∧ Below z.heap.size z w' := fun z hz => by
  have := hget_c (h.below hz) hi.id
  rw [hs] at this
  exact this
 have KG := Lib.hid hkg
 have ALL := Lib.hid cl_alloc
 clear hkg
 have hW0 : VR (w.alloc (.cells #[.int .i64 c.id, .int .i64 c.par, .bool c.leaf, .int .u64 c.ra, .int .u64 c.rb, .int .u64 c.rc, .int .u64 c.la, .int .u64 c.lb, .int .u64 c.lc, .int .u64 c.ua, .int .u64 c.ub, .int .u64 c.uc, .int .i64 c.pk, .int .i64 c.bt] 54)) w.heap.size 54 #[.int .i64 c.id, .int .i64 c.par, .bool c.leaf, .int .u64 c.ra, .int .u64 c.rb, .int .u64 c.rc, .int .u64 c.la, .int .u64 c.lb, .int .u64 c.lc, .int .u64 c.ua, .int .u64 c.ub, .int .u64 c.uc, .int .i64 c.pk, .int .i64 c.bt] := VR.new _ _ _
 have hB0 : Below w.heap.size w (w.alloc (.cells #[.int .i64 c.id, .int .i64 c.par, .bool c.leaf, .int .u64 c.ra, .int .u64 c.rb, .int .u64 c.rc, .int .u64 c.la, .int .u64 c.lb, .int .u64 c.lc, .int .u64 c.ua, .int .u64 c.ub, .int .u64 c.uc, .int .i64 c.pk, .int .i64 c.bt] 54)) := bub
 have HV0 := Lib.hid hW0
 have HB0 := Lib.hid hB0
 have H := Lib.hid h
 have HI := Lib.hid hi
 have INF := Lib.hid cl_info
 have ONE := Lib.hid cla_one
 have KR := Lib.hid (fun z => hr z)
 clear hW0 hB0 hr
 clear h hi hs I
 go_enter Try.func27, Try.ntmps27
 go_wp2_with (first
  | go_guarded
  | (refine wpList_var_new rfl rfl 54 #[.int .i64 0, .int .i64 0, .bool false, .int .u64 0, .int .u64 0, .int .u64 0, .int .u64 0, .int .u64 0, .int .u64 0, .int .u64 0, .int .u64 0, .int .u64 0, .int .i64 0, .int .i64 0] ALL.out rfl _ _ rfl #[.int .i64 clz.id, .int .i64 clz.par, .bool clz.leaf, .int .u64 clz.ra, .int .u64 clz.rb, .int .u64 clz.rc, .int .u64 clz.la, .int .u64 clz.lb, .int .u64 clz.lc, .int .u64 clz.ua, .int .u64 clz.ub, .int .u64 clz.uc, .int .i64 clz.pk, .int .i64 clz.bt] rfl rfl INF.out rfl (ONE.out _) ?_; intro w3 hs3 hb3 hv3; have HV3 := Lib.hid (HV2.out.bel hb3); have HB3 : Hid (Below w.heap.size w w3) := Lib.hid (HB2.out.trans (hb3.mono HB2.out.size)); have a3 := HV3.out.cell 0 rfl; have b3 := HV3.out.cell 1 rfl; have d3 := HV3.out.cell 2 rfl; have l3 := HV3.out.lt; have e3 := hv3.cell 1 rfl; have g3 := hv3.cell 2 rfl; have m3 := hv3.lt; clear hb3 hv3)
  | (go_at_call 32; (with_reducible refine (KG.out _ HB1.out).mono ?_); rintro _ w2 ⟨rfl, hbel⟩; have HV2 := Lib.hid (HV1.out.bel hbel); have HB2 : Hid (Below w.heap.size w w2) := Lib.hid (HB1.out.trans (hbel.mono HB1.out.size)); clear hbel)
  | (refine wpList_var_get rfl 54 _ rfl w.heap.size #[.int .i64 c.id, .int .i64 c.par, .bool c.leaf, .int .u64 c.ra, .int .u64 c.rb, .int .u64 c.rc, .int .u64 c.la, .int .u64 c.lb, .int .u64 c.lc, .int .u64 c.ua, .int .u64 c.ub, .int .u64 c.uc, .int .i64 c.pk, .int .i64 c.bt] _ HV0.out rfl Try.underlying54 rfl INF.out ?_)
  | (go_at_call 51; (with_reducible refine (KR.out _).mono ?_); rintro _ w1 ⟨rfl, hbel⟩; have HV1 := Lib.hid (HV0.out.bel hbel); have HB1 : Hid (Below w.heap.size w w1) := Lib.hid (HB0.out.trans (hbel.mono HB0.out.size)); have c1 := HV1.out.cell 0 rfl; have l1 := HV1.out.lt; clear hbel))
 go_ret
 exact ⟨rfl, HB3.out⟩
theorem set_par {w : World} {tb mb : Nat} {f : Int → Option Cls} {L : List Int} (h : HT w tb mb f) (I : TI f L) {c : Cls} (hi : CIn c) (hr : ∀ z, Calls Try.prog 51 #[.agg #[.int .i64 c.id, .int .i64 c.par, .bool c.leaf, .int .u64 c.ra, .int .u64 c.rb, .int .u64 c.rc, .int .u64 c.la, .int .u64 c.lb, .int .u64 c.lc, .int .u64 c.ua, .int .u64 c.ub, .int .u64 c.uc, .int .i64 c.pk, .int .i64 c.bt]] z fun ee w' => ee = .returned (.int .i64 0) ∧ Below z.heap.size z w') {o : Cls} (hs : f c.id = some o) (hp : o.par ≠ c.par) :
  Calls Try.prog 27 #[.pointer (some ⟨tb, 0, none⟩), .agg #[.int .i64 c.id, .int .i64 c.par, .bool c.leaf, .int .u64 c.ra, .int .u64 c.rb, .int .u64 c.rc, .int .u64 c.la, .int .u64 c.lb, .int .u64 c.lc, .int .u64 c.ua, .int .u64 c.ub, .int .u64 c.uc, .int .i64 c.pk, .int .i64 c.bt]] w fun ee w' => ee = .returned (.int .i64 1) ∧ Below w.heap.size w w' := by
 have hkg : ∀ z, Below w.heap.size w z → Calls Try.prog 32 #[.pointer (some ⟨tb, 0, none⟩), .int .i64 c.id] z fun ee w' => ee = .returned (.tuple #[.agg #[.int .i64 ((o)).id, .int .i64 ((o)).par, .bool ((o)).leaf, .int .u64 ((o)).ra, .int .u64 ((o)).rb, .int .u64 ((o)).rc, .int .u64 ((o)).la, .int .u64 ((o)).lb, .int .u64 ((o)).lc, .int .u64 ((o)).ua, .int .u64 ((o)).ub, .int .u64 ((o)).uc, .int .i64 ((o)).pk, .int .i64 ((o)).bt], .int .i64 0]) ∧ Below z.heap.size z w' := fun z hz => by
  have := hget_c (h.below hz) hi.id
  rw [hs] at this
  exact this
 have KG := Lib.hid hkg
 have ALL := Lib.hid cl_alloc
 clear hkg
 have p1 : (o.par == c.par) = false := by simpa using hp
 have p2 : (o.par != c.par) = true := by simpa using hp
 have hW0 : VR (w.alloc (.cells #[.int .i64 c.id, .int .i64 c.par, .bool c.leaf, .int .u64 c.ra, .int .u64 c.rb, .int .u64 c.rc, .int .u64 c.la, .int .u64 c.lb, .int .u64 c.lc, .int .u64 c.ua, .int .u64 c.ub, .int .u64 c.uc, .int .i64 c.pk, .int .i64 c.bt] 54)) w.heap.size 54 #[.int .i64 c.id, .int .i64 c.par, .bool c.leaf, .int .u64 c.ra, .int .u64 c.rb, .int .u64 c.rc, .int .u64 c.la, .int .u64 c.lb, .int .u64 c.lc, .int .u64 c.ua, .int .u64 c.ub, .int .u64 c.uc, .int .i64 c.pk, .int .i64 c.bt] := VR.new _ _ _
 have hB0 : Below w.heap.size w (w.alloc (.cells #[.int .i64 c.id, .int .i64 c.par, .bool c.leaf, .int .u64 c.ra, .int .u64 c.rb, .int .u64 c.rc, .int .u64 c.la, .int .u64 c.lb, .int .u64 c.lc, .int .u64 c.ua, .int .u64 c.ub, .int .u64 c.uc, .int .i64 c.pk, .int .i64 c.bt] 54)) := bub
 have HV0 := Lib.hid hW0
 have HB0 := Lib.hid hB0
 have H := Lib.hid h
 have HI := Lib.hid hi
 have INF := Lib.hid cl_info
 have ONE := Lib.hid cla_one
 have KR := Lib.hid (fun z => hr z)
 clear hW0 hB0 hr
 clear h hi hs I hp
 go_enter Try.func27, Try.ntmps27
 go_wp2_with (first
  | go_guarded
  | (refine wpList_var_new rfl rfl 54 #[.int .i64 0, .int .i64 0, .bool false, .int .u64 0, .int .u64 0, .int .u64 0, .int .u64 0, .int .u64 0, .int .u64 0, .int .u64 0, .int .u64 0, .int .u64 0, .int .i64 0, .int .i64 0] ALL.out rfl _ _ rfl #[.int .i64 o.id, .int .i64 o.par, .bool o.leaf, .int .u64 o.ra, .int .u64 o.rb, .int .u64 o.rc, .int .u64 o.la, .int .u64 o.lb, .int .u64 o.lc, .int .u64 o.ua, .int .u64 o.ub, .int .u64 o.uc, .int .i64 o.pk, .int .i64 o.bt] rfl rfl INF.out rfl (ONE.out _) ?_; intro w3 hs3 hb3 hv3; have HV3 := Lib.hid (HV2.out.bel hb3); have HB3 : Hid (Below w.heap.size w w3) := Lib.hid (HB2.out.trans (hb3.mono HB2.out.size)); have a3 := HV3.out.cell 0 rfl; have b3 := HV3.out.cell 1 rfl; have d3 := HV3.out.cell 2 rfl; have l3 := HV3.out.lt; have e3 := hv3.cell 1 rfl; have g3 := hv3.cell 2 rfl; have m3 := hv3.lt; clear hb3 hv3)
  | (go_at_call 32; (with_reducible refine (KG.out _ HB1.out).mono ?_); rintro _ w2 ⟨rfl, hbel⟩; have HV2 := Lib.hid (HV1.out.bel hbel); have HB2 : Hid (Below w.heap.size w w2) := Lib.hid (HB1.out.trans (hbel.mono HB1.out.size)); clear hbel)
  | (refine wpList_var_get rfl 54 _ rfl w.heap.size #[.int .i64 c.id, .int .i64 c.par, .bool c.leaf, .int .u64 c.ra, .int .u64 c.rb, .int .u64 c.rc, .int .u64 c.la, .int .u64 c.lb, .int .u64 c.lc, .int .u64 c.ua, .int .u64 c.ub, .int .u64 c.uc, .int .i64 c.pk, .int .i64 c.bt] _ HV0.out rfl Try.underlying54 rfl INF.out ?_)
  | (go_at_call 51; (with_reducible refine (KR.out _).mono ?_); rintro _ w1 ⟨rfl, hbel⟩; have HV1 := Lib.hid (HV0.out.bel hbel); have HB1 : Hid (Below w.heap.size w w1) := Lib.hid (HB0.out.trans (hbel.mono HB0.out.size)); have c1 := HV1.out.cell 0 rfl; have l1 := HV1.out.lt; clear hbel))
 go_ret
 exact ⟨rfl, HB3.out⟩
theorem set_leaf {w : World} {tb mb : Nat} {f : Int → Option Cls} {L : List Int} (h : HT w tb mb f) (I : TI f L) {c : Cls} (hi : CIn c) (hr : ∀ z, Calls Try.prog 51 #[.agg #[.int .i64 c.id, .int .i64 c.par, .bool c.leaf, .int .u64 c.ra, .int .u64 c.rb, .int .u64 c.rc, .int .u64 c.la, .int .u64 c.lb, .int .u64 c.lc, .int .u64 c.ua, .int .u64 c.ub, .int .u64 c.uc, .int .i64 c.pk, .int .i64 c.bt]] z fun ee w' => ee = .returned (.int .i64 0) ∧ Below z.heap.size z w') {o : Cls} (hs : f c.id = some o) (hp : o.par = c.par) (hlf : o.leaf ≠ c.leaf) :
  Calls Try.prog 27 #[.pointer (some ⟨tb, 0, none⟩), .agg #[.int .i64 c.id, .int .i64 c.par, .bool c.leaf, .int .u64 c.ra, .int .u64 c.rb, .int .u64 c.rc, .int .u64 c.la, .int .u64 c.lb, .int .u64 c.lc, .int .u64 c.ua, .int .u64 c.ub, .int .u64 c.uc, .int .i64 c.pk, .int .i64 c.bt]] w fun ee w' => ee = .returned (.int .i64 1) ∧ Below w.heap.size w w' := by
 have hkg : ∀ z, Below w.heap.size w z → Calls Try.prog 32 #[.pointer (some ⟨tb, 0, none⟩), .int .i64 c.id] z fun ee w' => ee = .returned (.tuple #[.agg #[.int .i64 ((o)).id, .int .i64 ((o)).par, .bool ((o)).leaf, .int .u64 ((o)).ra, .int .u64 ((o)).rb, .int .u64 ((o)).rc, .int .u64 ((o)).la, .int .u64 ((o)).lb, .int .u64 ((o)).lc, .int .u64 ((o)).ua, .int .u64 ((o)).ub, .int .u64 ((o)).uc, .int .i64 ((o)).pk, .int .i64 ((o)).bt], .int .i64 0]) ∧ Below z.heap.size z w' := fun z hz => by
  have := hget_c (h.below hz) hi.id
  rw [hs] at this
  exact this
 have KG := Lib.hid hkg
 have ALL := Lib.hid cl_alloc
 clear hkg
 have HP := Lib.hid hp
 have p1 : (o.leaf == c.leaf) = false := by simpa using hlf
 have p2 : (o.leaf != c.leaf) = true := by simpa using hlf
 have hW0 : VR (w.alloc (.cells #[.int .i64 c.id, .int .i64 c.par, .bool c.leaf, .int .u64 c.ra, .int .u64 c.rb, .int .u64 c.rc, .int .u64 c.la, .int .u64 c.lb, .int .u64 c.lc, .int .u64 c.ua, .int .u64 c.ub, .int .u64 c.uc, .int .i64 c.pk, .int .i64 c.bt] 54)) w.heap.size 54 #[.int .i64 c.id, .int .i64 c.par, .bool c.leaf, .int .u64 c.ra, .int .u64 c.rb, .int .u64 c.rc, .int .u64 c.la, .int .u64 c.lb, .int .u64 c.lc, .int .u64 c.ua, .int .u64 c.ub, .int .u64 c.uc, .int .i64 c.pk, .int .i64 c.bt] := VR.new _ _ _
 have hB0 : Below w.heap.size w (w.alloc (.cells #[.int .i64 c.id, .int .i64 c.par, .bool c.leaf, .int .u64 c.ra, .int .u64 c.rb, .int .u64 c.rc, .int .u64 c.la, .int .u64 c.lb, .int .u64 c.lc, .int .u64 c.ua, .int .u64 c.ub, .int .u64 c.uc, .int .i64 c.pk, .int .i64 c.bt] 54)) := bub
 have HV0 := Lib.hid hW0
 have HB0 := Lib.hid hB0
 have H := Lib.hid h
 have HI := Lib.hid hi
 have INF := Lib.hid cl_info
 have ONE := Lib.hid cla_one
 have KR := Lib.hid (fun z => hr z)
 clear hW0 hB0 hr
 clear h hi hs I hp hlf
 go_enter Try.func27, Try.ntmps27
 go_wp2_with (first
  | go_guarded
  | (refine wpList_var_new rfl rfl 54 #[.int .i64 0, .int .i64 0, .bool false, .int .u64 0, .int .u64 0, .int .u64 0, .int .u64 0, .int .u64 0, .int .u64 0, .int .u64 0, .int .u64 0, .int .u64 0, .int .i64 0, .int .i64 0] ALL.out rfl _ _ rfl #[.int .i64 o.id, .int .i64 o.par, .bool o.leaf, .int .u64 o.ra, .int .u64 o.rb, .int .u64 o.rc, .int .u64 o.la, .int .u64 o.lb, .int .u64 o.lc, .int .u64 o.ua, .int .u64 o.ub, .int .u64 o.uc, .int .i64 o.pk, .int .i64 o.bt] rfl rfl INF.out rfl (ONE.out _) ?_; intro w3 hs3 hb3 hv3; have HV3 := Lib.hid (HV2.out.bel hb3); have HB3 : Hid (Below w.heap.size w w3) := Lib.hid (HB2.out.trans (hb3.mono HB2.out.size)); have a3 := HV3.out.cell 0 rfl; have b3 := HV3.out.cell 1 rfl; have d3 := HV3.out.cell 2 rfl; have l3 := HV3.out.lt; have e3 := hv3.cell 1 rfl; have g3 := hv3.cell 2 rfl; have m3 := hv3.lt; clear hb3 hv3; rw [HP.out] at e3)
  | (go_at_call 32; (with_reducible refine (KG.out _ HB1.out).mono ?_); rintro _ w2 ⟨rfl, hbel⟩; have HV2 := Lib.hid (HV1.out.bel hbel); have HB2 : Hid (Below w.heap.size w w2) := Lib.hid (HB1.out.trans (hbel.mono HB1.out.size)); clear hbel)
  | (refine wpList_var_get rfl 54 _ rfl w.heap.size #[.int .i64 c.id, .int .i64 c.par, .bool c.leaf, .int .u64 c.ra, .int .u64 c.rb, .int .u64 c.rc, .int .u64 c.la, .int .u64 c.lb, .int .u64 c.lc, .int .u64 c.ua, .int .u64 c.ub, .int .u64 c.uc, .int .i64 c.pk, .int .i64 c.bt] _ HV0.out rfl Try.underlying54 rfl INF.out ?_)
  | (go_at_call 51; (with_reducible refine (KR.out _).mono ?_); rintro _ w1 ⟨rfl, hbel⟩; have HV1 := Lib.hid (HV0.out.bel hbel); have HB1 : Hid (Below w.heap.size w w1) := Lib.hid (HB0.out.trans (hbel.mono HB0.out.size)); have c1 := HV1.out.cell 0 rfl; have l1 := HV1.out.lt; clear hbel))
 go_ret
 exact ⟨rfl, HB3.out⟩
theorem set_lsh {w : World} {tb mb : Nat} {f : Int → Option Cls} {L : List Int} (h : HT w tb mb f) (I : TI f L) {c : Cls} (hi : CIn c) (hr : ∀ z, Calls Try.prog 51 #[.agg #[.int .i64 c.id, .int .i64 c.par, .bool c.leaf, .int .u64 c.ra, .int .u64 c.rb, .int .u64 c.rc, .int .u64 c.la, .int .u64 c.lb, .int .u64 c.lc, .int .u64 c.ua, .int .u64 c.ub, .int .u64 c.uc, .int .i64 c.pk, .int .i64 c.bt]] z fun ee w' => ee = .returned (.int .i64 0) ∧ Below z.heap.size z w') {o : Cls} (hs : f c.id = some o) (hp : o.par = c.par) (hlf : o.leaf = c.leaf) (hsh : sh1 c = true) (hsa : shA f c.par = false) :
  Calls Try.prog 27 #[.pointer (some ⟨tb, 0, none⟩), .agg #[.int .i64 c.id, .int .i64 c.par, .bool c.leaf, .int .u64 c.ra, .int .u64 c.rb, .int .u64 c.rc, .int .u64 c.la, .int .u64 c.lb, .int .u64 c.lc, .int .u64 c.ua, .int .u64 c.ub, .int .u64 c.uc, .int .i64 c.pk, .int .i64 c.bt]] w fun ee w' => ee = .returned (.int .i64 29) ∧ Below w.heap.size w w' := by
 have hkg : ∀ z, Below w.heap.size w z → Calls Try.prog 32 #[.pointer (some ⟨tb, 0, none⟩), .int .i64 c.id] z fun ee w' => ee = .returned (.tuple #[.agg #[.int .i64 ((o)).id, .int .i64 ((o)).par, .bool ((o)).leaf, .int .u64 ((o)).ra, .int .u64 ((o)).rb, .int .u64 ((o)).rc, .int .u64 ((o)).la, .int .u64 ((o)).lb, .int .u64 ((o)).lc, .int .u64 ((o)).ua, .int .u64 ((o)).ub, .int .u64 ((o)).uc, .int .i64 ((o)).pk, .int .i64 ((o)).bt], .int .i64 0]) ∧ Below z.heap.size z w' := fun z hz => by
  have := hget_c (h.below hz) hi.id
  rw [hs] at this
  exact this
 have KG := Lib.hid hkg
 have ALL := Lib.hid cl_alloc
 clear hkg
 have HP := Lib.hid hp
 have HLF := Lib.hid hlf
 have KS := Lib.hid (fun z => by have := cshares_c hi z; rw [hsh] at this; exact this)
 have hka : ∀ z, Below w.heap.size w z → Calls Try.prog 53 #[.pointer (some ⟨tb, 0, none⟩), .int .i64 c.par] z fun ee w' => ee = .returned (.bool false) ∧ Below z.heap.size z w' := fun z hz => by
  have := sharesAt_c (h.below hz) hi.par (fun hne => by
   obtain ⟨p, hpp, _⟩ := I.par c.id o hs (by rw [hp]; exact hne)
   rw [hp] at hpp
   exact ⟨p, hpp, (I.cls _ _ hpp).2.1⟩)
  rw [hsa] at this
  exact this
 have KA := Lib.hid hka
 clear hka
 have hW0 : VR (w.alloc (.cells #[.int .i64 c.id, .int .i64 c.par, .bool c.leaf, .int .u64 c.ra, .int .u64 c.rb, .int .u64 c.rc, .int .u64 c.la, .int .u64 c.lb, .int .u64 c.lc, .int .u64 c.ua, .int .u64 c.ub, .int .u64 c.uc, .int .i64 c.pk, .int .i64 c.bt] 54)) w.heap.size 54 #[.int .i64 c.id, .int .i64 c.par, .bool c.leaf, .int .u64 c.ra, .int .u64 c.rb, .int .u64 c.rc, .int .u64 c.la, .int .u64 c.lb, .int .u64 c.lc, .int .u64 c.ua, .int .u64 c.ub, .int .u64 c.uc, .int .i64 c.pk, .int .i64 c.bt] := VR.new _ _ _
 have hB0 : Below w.heap.size w (w.alloc (.cells #[.int .i64 c.id, .int .i64 c.par, .bool c.leaf, .int .u64 c.ra, .int .u64 c.rb, .int .u64 c.rc, .int .u64 c.la, .int .u64 c.lb, .int .u64 c.lc, .int .u64 c.ua, .int .u64 c.ub, .int .u64 c.uc, .int .i64 c.pk, .int .i64 c.bt] 54)) := bub
 have HV0 := Lib.hid hW0
 have HB0 := Lib.hid hB0
 have H := Lib.hid h
 have HI := Lib.hid hi
 have INF := Lib.hid cl_info
 have ONE := Lib.hid cla_one
 have KR := Lib.hid (fun z => hr z)
 clear hW0 hB0 hr
 clear h hi hs I hp hlf hsh hsa
 go_enter Try.func27, Try.ntmps27
 go_wp2_with (first
  | go_guarded
  | (go_at_call 53; (with_reducible refine (KA.out _ HB4.out).mono ?_); rintro _ w5 ⟨rfl, hbel⟩; have HV5 := Lib.hid (HV4.out.bel hbel); have HB5 : Hid (Below w.heap.size w w5) := Lib.hid (HB4.out.trans (hbel.mono HB4.out.size)); have a5 := HV5.out.cell 0 rfl; have b5 := HV5.out.cell 1 rfl; have l5 := HV5.out.lt; have HT5 := Lib.hid (H.out.below HB5.out); have t5 := HT5.out.c0; have lt5 := HT5.out.lt; clear hbel)
  | (go_at_call 33; (have mk3 := HV3); (with_reducible refine (KS.out _).mono ?_); rintro _ w4 ⟨rfl, hbel⟩; have HV4 := Lib.hid (HV3.out.bel hbel); have HB4 : Hid (Below w.heap.size w w4) := Lib.hid (HB3.out.trans (hbel.mono HB3.out.size)); have a4 := HV4.out.cell 0 rfl; have b4 := HV4.out.cell 1 rfl; have l4 := HV4.out.lt; have HT4 := Lib.hid (H.out.below HB4.out); have t4 := HT4.out.c0; have lt4 := HT4.out.lt; clear hbel)
  | (refine wpList_var_get rfl 54 _ rfl w.heap.size #[.int .i64 c.id, .int .i64 c.par, .bool c.leaf, .int .u64 c.ra, .int .u64 c.rb, .int .u64 c.rc, .int .u64 c.la, .int .u64 c.lb, .int .u64 c.lc, .int .u64 c.ua, .int .u64 c.ub, .int .u64 c.uc, .int .i64 c.pk, .int .i64 c.bt] _ HV3.out rfl Try.underlying54 rfl INF.out ?_)
  | (refine wpList_var_new rfl rfl 54 #[.int .i64 0, .int .i64 0, .bool false, .int .u64 0, .int .u64 0, .int .u64 0, .int .u64 0, .int .u64 0, .int .u64 0, .int .u64 0, .int .u64 0, .int .u64 0, .int .i64 0, .int .i64 0] ALL.out rfl _ _ rfl #[.int .i64 o.id, .int .i64 o.par, .bool o.leaf, .int .u64 o.ra, .int .u64 o.rb, .int .u64 o.rc, .int .u64 o.la, .int .u64 o.lb, .int .u64 o.lc, .int .u64 o.ua, .int .u64 o.ub, .int .u64 o.uc, .int .i64 o.pk, .int .i64 o.bt] rfl rfl INF.out rfl (ONE.out _) ?_; intro w3 hs3 hb3 hv3; have HV3 := Lib.hid (HV2.out.bel hb3); have HB3 : Hid (Below w.heap.size w w3) := Lib.hid (HB2.out.trans (hb3.mono HB2.out.size)); have a3 := HV3.out.cell 0 rfl; have b3 := HV3.out.cell 1 rfl; have d3 := HV3.out.cell 2 rfl; have l3 := HV3.out.lt; have e3 := hv3.cell 1 rfl; have g3 := hv3.cell 2 rfl; have m3 := hv3.lt; clear hb3 hv3; rw [HP.out] at e3; rw [HLF.out] at g3)
  | (go_at_call 32; (with_reducible refine (KG.out _ HB1.out).mono ?_); rintro _ w2 ⟨rfl, hbel⟩; have HV2 := Lib.hid (HV1.out.bel hbel); have HB2 : Hid (Below w.heap.size w w2) := Lib.hid (HB1.out.trans (hbel.mono HB1.out.size)); clear hbel)
  | (refine wpList_var_get rfl 54 _ rfl w.heap.size #[.int .i64 c.id, .int .i64 c.par, .bool c.leaf, .int .u64 c.ra, .int .u64 c.rb, .int .u64 c.rc, .int .u64 c.la, .int .u64 c.lb, .int .u64 c.lc, .int .u64 c.ua, .int .u64 c.ub, .int .u64 c.uc, .int .i64 c.pk, .int .i64 c.bt] _ HV0.out rfl Try.underlying54 rfl INF.out ?_)
  | (go_at_call 51; (with_reducible refine (KR.out _).mono ?_); rintro _ w1 ⟨rfl, hbel⟩; have HV1 := Lib.hid (HV0.out.bel hbel); have HB1 : Hid (Below w.heap.size w w1) := Lib.hid (HB0.out.trans (hbel.mono HB0.out.size)); have c1 := HV1.out.cell 0 rfl; have l1 := HV1.out.lt; clear hbel))
 go_ret
 exact ⟨rfl, HB5.out⟩
theorem set_ok1 {w : World} {tb mb : Nat} {f : Int → Option Cls} {L : List Int} (h : HT w tb mb f) (I : TI f L) {c : Cls} (hi : CIn c) (hr : ∀ z, Calls Try.prog 51 #[.agg #[.int .i64 c.id, .int .i64 c.par, .bool c.leaf, .int .u64 c.ra, .int .u64 c.rb, .int .u64 c.rc, .int .u64 c.la, .int .u64 c.lb, .int .u64 c.lc, .int .u64 c.ua, .int .u64 c.ub, .int .u64 c.uc, .int .i64 c.pk, .int .i64 c.bt]] z fun ee w' => ee = .returned (.int .i64 0) ∧ Below z.heap.size z w') {o : Cls} (hs : f c.id = some o) (hp : o.par = c.par) (hlf : o.leaf = c.leaf) (hsh : sh1 c = true) (hsa : shA f c.par = true) :
  Calls Try.prog 27 #[.pointer (some ⟨tb, 0, none⟩), .agg #[.int .i64 c.id, .int .i64 c.par, .bool c.leaf, .int .u64 c.ra, .int .u64 c.rb, .int .u64 c.rc, .int .u64 c.la, .int .u64 c.lb, .int .u64 c.lc, .int .u64 c.ua, .int .u64 c.ub, .int .u64 c.uc, .int .i64 c.pk, .int .i64 c.bt]] w fun e w' => e = .returned (.int .i64 0) ∧ HT w' tb mb (upd f c.id c) ∧ Only (fun k => k = mb) w w' := by
 have hkg : ∀ z, Below w.heap.size w z → Calls Try.prog 32 #[.pointer (some ⟨tb, 0, none⟩), .int .i64 c.id] z fun ee w' => ee = .returned (.tuple #[.agg #[.int .i64 ((o)).id, .int .i64 ((o)).par, .bool ((o)).leaf, .int .u64 ((o)).ra, .int .u64 ((o)).rb, .int .u64 ((o)).rc, .int .u64 ((o)).la, .int .u64 ((o)).lb, .int .u64 ((o)).lc, .int .u64 ((o)).ua, .int .u64 ((o)).ub, .int .u64 ((o)).uc, .int .i64 ((o)).pk, .int .i64 ((o)).bt], .int .i64 0]) ∧ Below z.heap.size z w' := fun z hz => by
  have := hget_c (h.below hz) hi.id
  rw [hs] at this
  exact this
 have KG := Lib.hid hkg
 have ALL := Lib.hid cl_alloc
 clear hkg
 have HM0 := Lib.hid h.mlt
 have HP := Lib.hid hp
 have HLF := Lib.hid hlf
 have KS := Lib.hid (fun z => by have := cshares_c hi z; rw [hsh] at this; exact this)
 have hka : ∀ z, Below w.heap.size w z → Calls Try.prog 53 #[.pointer (some ⟨tb, 0, none⟩), .int .i64 c.par] z fun ee w' => ee = .returned (.bool true) ∧ Below z.heap.size z w' := fun z hz => by
  have := sharesAt_c (h.below hz) hi.par (fun hne => by
   obtain ⟨p, hpp, _⟩ := I.par c.id o hs (by rw [hp]; exact hne)
   rw [hp] at hpp
   exact ⟨p, hpp, (I.cls _ _ hpp).2.1⟩)
  rw [hsa] at this
  exact this
 have KA := Lib.hid hka
 clear hka
 have hW0 : VR (w.alloc (.cells #[.int .i64 c.id, .int .i64 c.par, .bool c.leaf, .int .u64 c.ra, .int .u64 c.rb, .int .u64 c.rc, .int .u64 c.la, .int .u64 c.lb, .int .u64 c.lc, .int .u64 c.ua, .int .u64 c.ub, .int .u64 c.uc, .int .i64 c.pk, .int .i64 c.bt] 54)) w.heap.size 54 #[.int .i64 c.id, .int .i64 c.par, .bool c.leaf, .int .u64 c.ra, .int .u64 c.rb, .int .u64 c.rc, .int .u64 c.la, .int .u64 c.lb, .int .u64 c.lc, .int .u64 c.ua, .int .u64 c.ub, .int .u64 c.uc, .int .i64 c.pk, .int .i64 c.bt] := VR.new _ _ _
 have hB0 : Below w.heap.size w (w.alloc (.cells #[.int .i64 c.id, .int .i64 c.par, .bool c.leaf, .int .u64 c.ra, .int .u64 c.rb, .int .u64 c.rc, .int .u64 c.la, .int .u64 c.lb, .int .u64 c.lc, .int .u64 c.ua, .int .u64 c.ub, .int .u64 c.uc, .int .i64 c.pk, .int .i64 c.bt] 54)) := bub
 have HV0 := Lib.hid hW0
 have HB0 := Lib.hid hB0
 have H := Lib.hid h
 have HI := Lib.hid hi
 have INF := Lib.hid cl_info
 have ONE := Lib.hid cla_one
 have KR := Lib.hid (fun z => hr z)
 clear hW0 hB0 hr
 clear h hi hs I hp hlf hsh hsa
 go_enter Try.func27, Try.ntmps27
 go_wp2_with (first
  | (refine wpList_var_get_g 54 _ rfl w.heap.size #[.int .i64 c.id, .int .i64 c.par, .bool c.leaf, .int .u64 c.ra, .int .u64 c.rb, .int .u64 c.rc, .int .u64 c.la, .int .u64 c.lb, .int .u64 c.lc, .int .u64 c.ua, .int .u64 c.ub, .int .u64 c.uc, .int .i64 c.pk, .int .i64 c.bt] _ HV5.out rfl Try.underlying54 rfl INF.out (by rfl) ?_)
  | go_guarded
  | (go_at_call 33; (have mk5 := HV5); (with_reducible refine (KS.out _).mono ?_); rintro _ w6 ⟨rfl, hbel⟩; have HV6 := Lib.hid (HV5.out.bel hbel); have HB6 : Hid (Below w.heap.size w w6) := Lib.hid (HB5.out.trans (hbel.mono HB5.out.size)); have a6 := HV6.out.cell 0 rfl; have b6 := HV6.out.cell 1 rfl; have l6 := HV6.out.lt; have HT6 := Lib.hid (H.out.below HB6.out); have t6 := HT6.out.c0; have lt6 := HT6.out.lt; clear hbel)
  | (go_at_call 53; (with_reducible refine (KA.out _ HB4.out).mono ?_); rintro _ w5 ⟨rfl, hbel⟩; have HV5 := Lib.hid (HV4.out.bel hbel); have HB5 : Hid (Below w.heap.size w w5) := Lib.hid (HB4.out.trans (hbel.mono HB4.out.size)); have a5 := HV5.out.cell 0 rfl; have b5 := HV5.out.cell 1 rfl; have l5 := HV5.out.lt; have HT5 := Lib.hid (H.out.below HB5.out); have t5 := HT5.out.c0; have lt5 := HT5.out.lt; clear hbel)
  | (go_at_call 33; (have mk3 := HV3); (with_reducible refine (KS.out _).mono ?_); rintro _ w4 ⟨rfl, hbel⟩; have HV4 := Lib.hid (HV3.out.bel hbel); have HB4 : Hid (Below w.heap.size w w4) := Lib.hid (HB3.out.trans (hbel.mono HB3.out.size)); have a4 := HV4.out.cell 0 rfl; have b4 := HV4.out.cell 1 rfl; have l4 := HV4.out.lt; have HT4 := Lib.hid (H.out.below HB4.out); have t4 := HT4.out.c0; have lt4 := HT4.out.lt; clear hbel)
  | (refine wpList_var_get rfl 54 _ rfl w.heap.size #[.int .i64 c.id, .int .i64 c.par, .bool c.leaf, .int .u64 c.ra, .int .u64 c.rb, .int .u64 c.rc, .int .u64 c.la, .int .u64 c.lb, .int .u64 c.lc, .int .u64 c.ua, .int .u64 c.ub, .int .u64 c.uc, .int .i64 c.pk, .int .i64 c.bt] _ HV3.out rfl Try.underlying54 rfl INF.out ?_)
  | (refine wpList_var_new rfl rfl 54 #[.int .i64 0, .int .i64 0, .bool false, .int .u64 0, .int .u64 0, .int .u64 0, .int .u64 0, .int .u64 0, .int .u64 0, .int .u64 0, .int .u64 0, .int .u64 0, .int .i64 0, .int .i64 0] ALL.out rfl _ _ rfl #[.int .i64 o.id, .int .i64 o.par, .bool o.leaf, .int .u64 o.ra, .int .u64 o.rb, .int .u64 o.rc, .int .u64 o.la, .int .u64 o.lb, .int .u64 o.lc, .int .u64 o.ua, .int .u64 o.ub, .int .u64 o.uc, .int .i64 o.pk, .int .i64 o.bt] rfl rfl INF.out rfl (ONE.out _) ?_; intro w3 hs3 hb3 hv3; have HV3 := Lib.hid (HV2.out.bel hb3); have HB3 : Hid (Below w.heap.size w w3) := Lib.hid (HB2.out.trans (hb3.mono HB2.out.size)); have a3 := HV3.out.cell 0 rfl; have b3 := HV3.out.cell 1 rfl; have d3 := HV3.out.cell 2 rfl; have l3 := HV3.out.lt; have e3 := hv3.cell 1 rfl; have g3 := hv3.cell 2 rfl; have m3 := hv3.lt; clear hb3 hv3; rw [HP.out] at e3; rw [HLF.out] at g3)
  | (go_at_call 32; (with_reducible refine (KG.out _ HB1.out).mono ?_); rintro _ w2 ⟨rfl, hbel⟩; have HV2 := Lib.hid (HV1.out.bel hbel); have HB2 : Hid (Below w.heap.size w w2) := Lib.hid (HB1.out.trans (hbel.mono HB1.out.size)); clear hbel)
  | (refine wpList_var_get rfl 54 _ rfl w.heap.size #[.int .i64 c.id, .int .i64 c.par, .bool c.leaf, .int .u64 c.ra, .int .u64 c.rb, .int .u64 c.rc, .int .u64 c.la, .int .u64 c.lb, .int .u64 c.lc, .int .u64 c.ua, .int .u64 c.ub, .int .u64 c.uc, .int .i64 c.pk, .int .i64 c.bt] _ HV0.out rfl Try.underlying54 rfl INF.out ?_)
  | (go_at_call 51; (with_reducible refine (KR.out _).mono ?_); rintro _ w1 ⟨rfl, hbel⟩; have HV1 := Lib.hid (HV0.out.bel hbel); have HB1 : Hid (Below w.heap.size w w1) := Lib.hid (HB0.out.trans (hbel.mono HB0.out.size)); have c1 := HV1.out.cell 0 rfl; have l1 := HV1.out.lt; clear hbel))
 have ht6 : HT w6.drew tb mb f := H.out.below (HB6.out.drew)
 obtain ⟨Cl, hCl⟩ : ∃ Cl : List (Nat × Value) → World → Prop, Cl = ((fun ps wz => (VR wz w.heap.size 54 #[.int .i64 c.id, .int .i64 c.par, .bool c.leaf, .int .u64 c.ra, .int .u64 c.rb, .int .u64 c.rc, .int .u64 c.la, .int .u64 c.lb, .int .u64 c.lc, .int .u64 c.ua, .int .u64 c.ub, .int .u64 c.uc, .int .i64 c.pk, .int .i64 c.bt] ∧ wz.cell? ⟨w.heap.size, 0, none⟩ = some (.int .i64 c.id) ∧ wz.cell? ⟨w.heap.size, 1, none⟩ = some (.int .i64 c.par) ∧ w.heap.size < wz.heap.size ∧ wz.cell? ⟨tb, 0, none⟩ = some (.map (some mb)) ∧ tb < wz.heap.size) ∧ (match ps with
  | [] => wz = w6.drew
  | [_] => HT wz tb mb (upd f c.id c) ∧ Only (fun k => k = mb) w wz
  | _ => True))) := ⟨_, rfl⟩; have HCl := Lib.hid hCl; clear hCl; refine Reg2.wp_region_lineS [(0, false), (1, false), (2, false), (3, false), (4, false), (5, false), (6, false), (7, false)] [7] Cl (by kernel_rfl) (by kernel_rfl) (by kernel_rfl) (by simp only [HCl.out, zD, zE]; exact ⟨a6_of (HV6.out.frame rfl) ht6, (by first | rfl | trivial)⟩) ?_
 clear ht6
 (repeat ((first | (refine Reg2.wS_skip gtb (by rfl) ?_) | (refine Reg2.wS_open gtb (by rfl) (by rfl) ⟨.agg #[.int .i64 c.id, .int .i64 c.par, .bool c.leaf, .int .u64 c.ra, .int .u64 c.rb, .int .u64 c.rc, .int .u64 c.la, .int .u64 c.lb, .int .u64 c.lc, .int .u64 c.ua, .int .u64 c.ub, .int .u64 c.uc, .int .i64 c.pk, .int .i64 c.bt], fun vs wq hw => ?_, ?_⟩; (focus (simp only [HCl.out, zD, zE] at hw; exact quiet_var 54 _ rfl w.heap.size #[.int .i64 c.id, .int .i64 c.par, .bool c.leaf, .int .u64 c.ra, .int .u64 c.rb, .int .u64 c.rc, .int .u64 c.la, .int .u64 c.lb, .int .u64 c.lc, .int .u64 c.ua, .int .u64 c.ub, .int .u64 c.uc, .int .i64 c.pk, .int .i64 c.bt] _ hw.1.1 rfl Try.underlying54 rfl INF.out))) | (refine Reg2.wS_open gtb (by rfl) (by rfl) ?_; apply Exists.intro; refine ⟨fun vs wq hw => ?_, ?_⟩; (focus (simp only [HCl.out, zD, zE] at hw; go_split_ands; go_simp <;> exact ebb)))); simp only [Act.put, Nat.reduceAdd, zA, zB, zC, zD, zE]))
 refine Reg2.wS_eff gtb (by rfl) (by rfl) (fun wq hw => ?_) (fun u9 hu => ?_)
 focus
  simp only [HCl.out, zD, zE] at hw
  obtain ⟨hA, rfl⟩ := hw
  have ht6 : HT w6.drew tb mb f := H.out.below (HB6.out.drew)
  obtain ⟨nn, hmn⟩ := ht6.mp
  obtain ⟨w11, hrun, hm11, ho11, hs11⟩ := hmn.update (t := 85) (e := 54) ikok Try.underlying85 HI.out.id c
  refine effv_map _ _ _ 85 rfl rfl rfl rfl hrun ?_
  simp only [HCl.out, zD, zE]
  have hmv : mb ≠ w.heap.size := fun g => by have := HM0.out; omega
  have hT11 : HT w11 tb mb (upd f c.id c) := ⟨(ho11.cell ht6.lt (fun g => ht6.ne g.symm)).trans ht6.c0, by rw [hs11]; exact ht6.lt, ht6.ne, _, hm11⟩
  exact ⟨a6_of (hA.1.only ho11 (fun g => hmv g.symm)) hT11, hT11, (Only.of_below HB6.out.drew).trans ho11⟩
 clear hu
 simp only [Act.put, Nat.reduceAdd, zA, zB, zC, zD, zE]
 (repeat ((first | (refine Reg2.wS_skip gtb (by rfl) ?_) | (refine Reg2.wS_open gtb (by rfl) (by rfl) ?_; apply Exists.intro; refine ⟨fun vs wq hw => ?_, ?_⟩; (focus (simp only [HCl.out, zD, zE] at hw; go_split_ands; go_simp <;> exact ebb)))); simp only [Act.put, Nat.reduceAdd, zA, zB, zC, zD, zE]))
 refine Reg2.wS_nil ?_; intro w' hw; simp only [HCl.out, zD, zE] at hw; clear HCl
 obtain ⟨-, hT11, hO11⟩ := hw
 go_wp2
 refine bodyPost_ret (v := .int .i64 0) (by simp [results, Try.results27, go_sem, *]) rfl ⟨rfl, hT11, hO11⟩
theorem set_csh {w : World} {tb mb : Nat} {f : Int → Option Cls} {L : List Int} (h : HT w tb mb f) (I : TI f L) {c : Cls} (hi : CIn c) (hr : ∀ z, Calls Try.prog 51 #[.agg #[.int .i64 c.id, .int .i64 c.par, .bool c.leaf, .int .u64 c.ra, .int .u64 c.rb, .int .u64 c.rc, .int .u64 c.la, .int .u64 c.lb, .int .u64 c.lc, .int .u64 c.ua, .int .u64 c.ub, .int .u64 c.uc, .int .i64 c.pk, .int .i64 c.bt]] z fun ee w' => ee = .returned (.int .i64 0) ∧ Below z.heap.size z w') {o : Cls} (hs : f c.id = some o) (hp : o.par = c.par) (hlf : o.leaf = c.leaf) (hsh : sh1 c = false) (hch : chS f L c.id = true) :
  Calls Try.prog 27 #[.pointer (some ⟨tb, 0, none⟩), .agg #[.int .i64 c.id, .int .i64 c.par, .bool c.leaf, .int .u64 c.ra, .int .u64 c.rb, .int .u64 c.rc, .int .u64 c.la, .int .u64 c.lb, .int .u64 c.lc, .int .u64 c.ua, .int .u64 c.ub, .int .u64 c.uc, .int .i64 c.pk, .int .i64 c.bt]] w fun ee w' => ee = .returned (.int .i64 29) ∧ Below w.heap.size w w' := by
 have hkg : ∀ z, Below w.heap.size w z → Calls Try.prog 32 #[.pointer (some ⟨tb, 0, none⟩), .int .i64 c.id] z fun ee w' => ee = .returned (.tuple #[.agg #[.int .i64 ((o)).id, .int .i64 ((o)).par, .bool ((o)).leaf, .int .u64 ((o)).ra, .int .u64 ((o)).rb, .int .u64 ((o)).rc, .int .u64 ((o)).la, .int .u64 ((o)).lb, .int .u64 ((o)).lc, .int .u64 ((o)).ua, .int .u64 ((o)).ub, .int .u64 ((o)).uc, .int .i64 ((o)).pk, .int .i64 ((o)).bt], .int .i64 0]) ∧ Below z.heap.size z w' := fun z hz => by
  have := hget_c (h.below hz) hi.id
  rw [hs] at this
  exact this
 have KG := Lib.hid hkg
 have ALL := Lib.hid cl_alloc
 clear hkg
 have HP := Lib.hid hp
 have HLF := Lib.hid hlf
 have KS := Lib.hid (fun z => by have := cshares_c hi z; rw [hsh] at this; exact this)
 have hkc : ∀ z, Below w.heap.size w z → Calls Try.prog 55 #[.pointer (some ⟨tb, 0, none⟩), .int .i64 c.id] z fun ee w' => ee = .returned (.bool true) ∧ Below z.heap.size z w' := fun z hz => by
  have := hcs_c (h.below hz) c.id L I.srt I.mem (Nat.le_trans I.len (by decide)) I.iok (fun x cc hcc => (I.cls x cc hcc).2.1)
  have hce : (L.filter (sel f (fun cc => cc.par == c.id))).any (shx f) = true := hch
  rw [hce] at this
  exact this
 have KC := Lib.hid hkc
 clear hkc
 have hW0 : VR (w.alloc (.cells #[.int .i64 c.id, .int .i64 c.par, .bool c.leaf, .int .u64 c.ra, .int .u64 c.rb, .int .u64 c.rc, .int .u64 c.la, .int .u64 c.lb, .int .u64 c.lc, .int .u64 c.ua, .int .u64 c.ub, .int .u64 c.uc, .int .i64 c.pk, .int .i64 c.bt] 54)) w.heap.size 54 #[.int .i64 c.id, .int .i64 c.par, .bool c.leaf, .int .u64 c.ra, .int .u64 c.rb, .int .u64 c.rc, .int .u64 c.la, .int .u64 c.lb, .int .u64 c.lc, .int .u64 c.ua, .int .u64 c.ub, .int .u64 c.uc, .int .i64 c.pk, .int .i64 c.bt] := VR.new _ _ _
 have hB0 : Below w.heap.size w (w.alloc (.cells #[.int .i64 c.id, .int .i64 c.par, .bool c.leaf, .int .u64 c.ra, .int .u64 c.rb, .int .u64 c.rc, .int .u64 c.la, .int .u64 c.lb, .int .u64 c.lc, .int .u64 c.ua, .int .u64 c.ub, .int .u64 c.uc, .int .i64 c.pk, .int .i64 c.bt] 54)) := bub
 have HV0 := Lib.hid hW0
 have HB0 := Lib.hid hB0
 have H := Lib.hid h
 have HI := Lib.hid hi
 have INF := Lib.hid cl_info
 have ONE := Lib.hid cla_one
 have KR := Lib.hid (fun z => hr z)
 clear hW0 hB0 hr
 clear h hi hs I hp hlf hsh hch
 go_enter Try.func27, Try.ntmps27
 go_wp2_with (first
  | (refine wpList_var_get_g 54 _ rfl w.heap.size #[.int .i64 c.id, .int .i64 c.par, .bool c.leaf, .int .u64 c.ra, .int .u64 c.rb, .int .u64 c.rc, .int .u64 c.la, .int .u64 c.lb, .int .u64 c.lc, .int .u64 c.ua, .int .u64 c.ub, .int .u64 c.uc, .int .i64 c.pk, .int .i64 c.bt] _ HV4.out rfl Try.underlying54 rfl INF.out (by rfl) ?_)
  | go_guarded
  | (go_at_call 55; (with_reducible refine (KC.out _ HB5.out).mono ?_); rintro _ w6 ⟨rfl, hbel⟩; have HV6 := Lib.hid (HV5.out.bel hbel); have HB6 : Hid (Below w.heap.size w w6) := Lib.hid (HB5.out.trans (hbel.mono HB5.out.size)); have a6 := HV6.out.cell 0 rfl; have b6 := HV6.out.cell 1 rfl; have l6 := HV6.out.lt; have HT6 := Lib.hid (H.out.below HB6.out); have t6 := HT6.out.c0; have lt6 := HT6.out.lt; clear hbel)
  | (go_at_call 33; (have mk4 := HV4); (with_reducible refine (KS.out _).mono ?_); rintro _ w5 ⟨rfl, hbel⟩; have HV5 := Lib.hid (HV4.out.bel hbel); have HB5 : Hid (Below w.heap.size w w5) := Lib.hid (HB4.out.trans (hbel.mono HB4.out.size)); have a5 := HV5.out.cell 0 rfl; have b5 := HV5.out.cell 1 rfl; have l5 := HV5.out.lt; have HT5 := Lib.hid (H.out.below HB5.out); have t5 := HT5.out.c0; have lt5 := HT5.out.lt; clear hbel)
  | (go_at_call 33; (have mk3 := HV3); (with_reducible refine (KS.out _).mono ?_); rintro _ w4 ⟨rfl, hbel⟩; have HV4 := Lib.hid (HV3.out.bel hbel); have HB4 : Hid (Below w.heap.size w w4) := Lib.hid (HB3.out.trans (hbel.mono HB3.out.size)); have a4 := HV4.out.cell 0 rfl; have b4 := HV4.out.cell 1 rfl; have l4 := HV4.out.lt; have HT4 := Lib.hid (H.out.below HB4.out); have t4 := HT4.out.c0; have lt4 := HT4.out.lt; clear hbel)
  | (refine wpList_var_get rfl 54 _ rfl w.heap.size #[.int .i64 c.id, .int .i64 c.par, .bool c.leaf, .int .u64 c.ra, .int .u64 c.rb, .int .u64 c.rc, .int .u64 c.la, .int .u64 c.lb, .int .u64 c.lc, .int .u64 c.ua, .int .u64 c.ub, .int .u64 c.uc, .int .i64 c.pk, .int .i64 c.bt] _ HV3.out rfl Try.underlying54 rfl INF.out ?_)
  | (refine wpList_var_new rfl rfl 54 #[.int .i64 0, .int .i64 0, .bool false, .int .u64 0, .int .u64 0, .int .u64 0, .int .u64 0, .int .u64 0, .int .u64 0, .int .u64 0, .int .u64 0, .int .u64 0, .int .i64 0, .int .i64 0] ALL.out rfl _ _ rfl #[.int .i64 o.id, .int .i64 o.par, .bool o.leaf, .int .u64 o.ra, .int .u64 o.rb, .int .u64 o.rc, .int .u64 o.la, .int .u64 o.lb, .int .u64 o.lc, .int .u64 o.ua, .int .u64 o.ub, .int .u64 o.uc, .int .i64 o.pk, .int .i64 o.bt] rfl rfl INF.out rfl (ONE.out _) ?_; intro w3 hs3 hb3 hv3; have HV3 := Lib.hid (HV2.out.bel hb3); have HB3 : Hid (Below w.heap.size w w3) := Lib.hid (HB2.out.trans (hb3.mono HB2.out.size)); have a3 := HV3.out.cell 0 rfl; have b3 := HV3.out.cell 1 rfl; have d3 := HV3.out.cell 2 rfl; have l3 := HV3.out.lt; have e3 := hv3.cell 1 rfl; have g3 := hv3.cell 2 rfl; have m3 := hv3.lt; clear hb3 hv3; rw [HP.out] at e3; rw [HLF.out] at g3)
  | (go_at_call 32; (with_reducible refine (KG.out _ HB1.out).mono ?_); rintro _ w2 ⟨rfl, hbel⟩; have HV2 := Lib.hid (HV1.out.bel hbel); have HB2 : Hid (Below w.heap.size w w2) := Lib.hid (HB1.out.trans (hbel.mono HB1.out.size)); clear hbel)
  | (refine wpList_var_get rfl 54 _ rfl w.heap.size #[.int .i64 c.id, .int .i64 c.par, .bool c.leaf, .int .u64 c.ra, .int .u64 c.rb, .int .u64 c.rc, .int .u64 c.la, .int .u64 c.lb, .int .u64 c.lc, .int .u64 c.ua, .int .u64 c.ub, .int .u64 c.uc, .int .i64 c.pk, .int .i64 c.bt] _ HV0.out rfl Try.underlying54 rfl INF.out ?_)
  | (go_at_call 51; (with_reducible refine (KR.out _).mono ?_); rintro _ w1 ⟨rfl, hbel⟩; have HV1 := Lib.hid (HV0.out.bel hbel); have HB1 : Hid (Below w.heap.size w w1) := Lib.hid (HB0.out.trans (hbel.mono HB0.out.size)); have c1 := HV1.out.cell 0 rfl; have l1 := HV1.out.lt; clear hbel))
 go_ret
 exact ⟨rfl, HB6.out⟩
theorem set_ok0 {w : World} {tb mb : Nat} {f : Int → Option Cls} {L : List Int} (h : HT w tb mb f) (I : TI f L) {c : Cls} (hi : CIn c) (hr : ∀ z, Calls Try.prog 51 #[.agg #[.int .i64 c.id, .int .i64 c.par, .bool c.leaf, .int .u64 c.ra, .int .u64 c.rb, .int .u64 c.rc, .int .u64 c.la, .int .u64 c.lb, .int .u64 c.lc, .int .u64 c.ua, .int .u64 c.ub, .int .u64 c.uc, .int .i64 c.pk, .int .i64 c.bt]] z fun ee w' => ee = .returned (.int .i64 0) ∧ Below z.heap.size z w') {o : Cls} (hs : f c.id = some o) (hp : o.par = c.par) (hlf : o.leaf = c.leaf) (hsh : sh1 c = false) (hch : chS f L c.id = false) :
  Calls Try.prog 27 #[.pointer (some ⟨tb, 0, none⟩), .agg #[.int .i64 c.id, .int .i64 c.par, .bool c.leaf, .int .u64 c.ra, .int .u64 c.rb, .int .u64 c.rc, .int .u64 c.la, .int .u64 c.lb, .int .u64 c.lc, .int .u64 c.ua, .int .u64 c.ub, .int .u64 c.uc, .int .i64 c.pk, .int .i64 c.bt]] w fun e w' => e = .returned (.int .i64 0) ∧ HT w' tb mb (upd f c.id c) ∧ Only (fun k => k = mb) w w' := by
 have hkg : ∀ z, Below w.heap.size w z → Calls Try.prog 32 #[.pointer (some ⟨tb, 0, none⟩), .int .i64 c.id] z fun ee w' => ee = .returned (.tuple #[.agg #[.int .i64 ((o)).id, .int .i64 ((o)).par, .bool ((o)).leaf, .int .u64 ((o)).ra, .int .u64 ((o)).rb, .int .u64 ((o)).rc, .int .u64 ((o)).la, .int .u64 ((o)).lb, .int .u64 ((o)).lc, .int .u64 ((o)).ua, .int .u64 ((o)).ub, .int .u64 ((o)).uc, .int .i64 ((o)).pk, .int .i64 ((o)).bt], .int .i64 0]) ∧ Below z.heap.size z w' := fun z hz => by
  have := hget_c (h.below hz) hi.id
  rw [hs] at this
  exact this
 have KG := Lib.hid hkg
 have ALL := Lib.hid cl_alloc
 clear hkg
 have HM0 := Lib.hid h.mlt
 have HP := Lib.hid hp
 have HLF := Lib.hid hlf
 have KS := Lib.hid (fun z => by have := cshares_c hi z; rw [hsh] at this; exact this)
 have hkc : ∀ z, Below w.heap.size w z → Calls Try.prog 55 #[.pointer (some ⟨tb, 0, none⟩), .int .i64 c.id] z fun ee w' => ee = .returned (.bool false) ∧ Below z.heap.size z w' := fun z hz => by
  have := hcs_c (h.below hz) c.id L I.srt I.mem (Nat.le_trans I.len (by decide)) I.iok (fun x cc hcc => (I.cls x cc hcc).2.1)
  have hce : (L.filter (sel f (fun cc => cc.par == c.id))).any (shx f) = false := hch
  rw [hce] at this
  exact this
 have KC := Lib.hid hkc
 clear hkc
 have hW0 : VR (w.alloc (.cells #[.int .i64 c.id, .int .i64 c.par, .bool c.leaf, .int .u64 c.ra, .int .u64 c.rb, .int .u64 c.rc, .int .u64 c.la, .int .u64 c.lb, .int .u64 c.lc, .int .u64 c.ua, .int .u64 c.ub, .int .u64 c.uc, .int .i64 c.pk, .int .i64 c.bt] 54)) w.heap.size 54 #[.int .i64 c.id, .int .i64 c.par, .bool c.leaf, .int .u64 c.ra, .int .u64 c.rb, .int .u64 c.rc, .int .u64 c.la, .int .u64 c.lb, .int .u64 c.lc, .int .u64 c.ua, .int .u64 c.ub, .int .u64 c.uc, .int .i64 c.pk, .int .i64 c.bt] := VR.new _ _ _
 have hB0 : Below w.heap.size w (w.alloc (.cells #[.int .i64 c.id, .int .i64 c.par, .bool c.leaf, .int .u64 c.ra, .int .u64 c.rb, .int .u64 c.rc, .int .u64 c.la, .int .u64 c.lb, .int .u64 c.lc, .int .u64 c.ua, .int .u64 c.ub, .int .u64 c.uc, .int .i64 c.pk, .int .i64 c.bt] 54)) := bub
 have HV0 := Lib.hid hW0
 have HB0 := Lib.hid hB0
 have H := Lib.hid h
 have HI := Lib.hid hi
 have INF := Lib.hid cl_info
 have ONE := Lib.hid cla_one
 have KR := Lib.hid (fun z => hr z)
 clear hW0 hB0 hr
 clear h hi hs I hp hlf hsh hch
 go_enter Try.func27, Try.ntmps27
 go_wp2_with (first
  | (refine wpList_var_get_g 54 _ rfl w.heap.size #[.int .i64 c.id, .int .i64 c.par, .bool c.leaf, .int .u64 c.ra, .int .u64 c.rb, .int .u64 c.rc, .int .u64 c.la, .int .u64 c.lb, .int .u64 c.lc, .int .u64 c.ua, .int .u64 c.ub, .int .u64 c.uc, .int .i64 c.pk, .int .i64 c.bt] _ HV4.out rfl Try.underlying54 rfl INF.out (by rfl) ?_)
  | go_guarded
  | (go_at_call 55; (with_reducible refine (KC.out _ HB5.out).mono ?_); rintro _ w6 ⟨rfl, hbel⟩; have HV6 := Lib.hid (HV5.out.bel hbel); have HB6 : Hid (Below w.heap.size w w6) := Lib.hid (HB5.out.trans (hbel.mono HB5.out.size)); have a6 := HV6.out.cell 0 rfl; have b6 := HV6.out.cell 1 rfl; have l6 := HV6.out.lt; have HT6 := Lib.hid (H.out.below HB6.out); have t6 := HT6.out.c0; have lt6 := HT6.out.lt; clear hbel)
  | (go_at_call 33; (have mk4 := HV4); (with_reducible refine (KS.out _).mono ?_); rintro _ w5 ⟨rfl, hbel⟩; have HV5 := Lib.hid (HV4.out.bel hbel); have HB5 : Hid (Below w.heap.size w w5) := Lib.hid (HB4.out.trans (hbel.mono HB4.out.size)); have a5 := HV5.out.cell 0 rfl; have b5 := HV5.out.cell 1 rfl; have l5 := HV5.out.lt; have HT5 := Lib.hid (H.out.below HB5.out); have t5 := HT5.out.c0; have lt5 := HT5.out.lt; clear hbel)
  | (go_at_call 33; (have mk3 := HV3); (with_reducible refine (KS.out _).mono ?_); rintro _ w4 ⟨rfl, hbel⟩; have HV4 := Lib.hid (HV3.out.bel hbel); have HB4 : Hid (Below w.heap.size w w4) := Lib.hid (HB3.out.trans (hbel.mono HB3.out.size)); have a4 := HV4.out.cell 0 rfl; have b4 := HV4.out.cell 1 rfl; have l4 := HV4.out.lt; have HT4 := Lib.hid (H.out.below HB4.out); have t4 := HT4.out.c0; have lt4 := HT4.out.lt; clear hbel)
  | (refine wpList_var_get rfl 54 _ rfl w.heap.size #[.int .i64 c.id, .int .i64 c.par, .bool c.leaf, .int .u64 c.ra, .int .u64 c.rb, .int .u64 c.rc, .int .u64 c.la, .int .u64 c.lb, .int .u64 c.lc, .int .u64 c.ua, .int .u64 c.ub, .int .u64 c.uc, .int .i64 c.pk, .int .i64 c.bt] _ HV3.out rfl Try.underlying54 rfl INF.out ?_)
  | (refine wpList_var_new rfl rfl 54 #[.int .i64 0, .int .i64 0, .bool false, .int .u64 0, .int .u64 0, .int .u64 0, .int .u64 0, .int .u64 0, .int .u64 0, .int .u64 0, .int .u64 0, .int .u64 0, .int .i64 0, .int .i64 0] ALL.out rfl _ _ rfl #[.int .i64 o.id, .int .i64 o.par, .bool o.leaf, .int .u64 o.ra, .int .u64 o.rb, .int .u64 o.rc, .int .u64 o.la, .int .u64 o.lb, .int .u64 o.lc, .int .u64 o.ua, .int .u64 o.ub, .int .u64 o.uc, .int .i64 o.pk, .int .i64 o.bt] rfl rfl INF.out rfl (ONE.out _) ?_; intro w3 hs3 hb3 hv3; have HV3 := Lib.hid (HV2.out.bel hb3); have HB3 : Hid (Below w.heap.size w w3) := Lib.hid (HB2.out.trans (hb3.mono HB2.out.size)); have a3 := HV3.out.cell 0 rfl; have b3 := HV3.out.cell 1 rfl; have d3 := HV3.out.cell 2 rfl; have l3 := HV3.out.lt; have e3 := hv3.cell 1 rfl; have g3 := hv3.cell 2 rfl; have m3 := hv3.lt; clear hb3 hv3; rw [HP.out] at e3; rw [HLF.out] at g3)
  | (go_at_call 32; (with_reducible refine (KG.out _ HB1.out).mono ?_); rintro _ w2 ⟨rfl, hbel⟩; have HV2 := Lib.hid (HV1.out.bel hbel); have HB2 : Hid (Below w.heap.size w w2) := Lib.hid (HB1.out.trans (hbel.mono HB1.out.size)); clear hbel)
  | (refine wpList_var_get rfl 54 _ rfl w.heap.size #[.int .i64 c.id, .int .i64 c.par, .bool c.leaf, .int .u64 c.ra, .int .u64 c.rb, .int .u64 c.rc, .int .u64 c.la, .int .u64 c.lb, .int .u64 c.lc, .int .u64 c.ua, .int .u64 c.ub, .int .u64 c.uc, .int .i64 c.pk, .int .i64 c.bt] _ HV0.out rfl Try.underlying54 rfl INF.out ?_)
  | (go_at_call 51; (with_reducible refine (KR.out _).mono ?_); rintro _ w1 ⟨rfl, hbel⟩; have HV1 := Lib.hid (HV0.out.bel hbel); have HB1 : Hid (Below w.heap.size w w1) := Lib.hid (HB0.out.trans (hbel.mono HB0.out.size)); have c1 := HV1.out.cell 0 rfl; have l1 := HV1.out.lt; clear hbel))
 have ht6 : HT w6.drew tb mb f := H.out.below (HB6.out.drew)
 obtain ⟨Cl, hCl⟩ : ∃ Cl : List (Nat × Value) → World → Prop, Cl = ((fun ps wz => (VR wz w.heap.size 54 #[.int .i64 c.id, .int .i64 c.par, .bool c.leaf, .int .u64 c.ra, .int .u64 c.rb, .int .u64 c.rc, .int .u64 c.la, .int .u64 c.lb, .int .u64 c.lc, .int .u64 c.ua, .int .u64 c.ub, .int .u64 c.uc, .int .i64 c.pk, .int .i64 c.bt] ∧ wz.cell? ⟨w.heap.size, 0, none⟩ = some (.int .i64 c.id) ∧ wz.cell? ⟨w.heap.size, 1, none⟩ = some (.int .i64 c.par) ∧ w.heap.size < wz.heap.size ∧ wz.cell? ⟨tb, 0, none⟩ = some (.map (some mb)) ∧ tb < wz.heap.size) ∧ (match ps with
  | [] => wz = w6.drew
  | [_] => HT wz tb mb (upd f c.id c) ∧ Only (fun k => k = mb) w wz
  | _ => True))) := ⟨_, rfl⟩; have HCl := Lib.hid hCl; clear hCl; refine Reg2.wp_region_lineS [(0, false), (1, false), (2, false), (3, false), (4, false), (5, false), (6, false), (7, false)] [7] Cl (by kernel_rfl) (by kernel_rfl) (by kernel_rfl) (by simp only [HCl.out, zD, zE]; exact ⟨a6_of (HV6.out.frame rfl) ht6, (by first | rfl | trivial)⟩) ?_
 clear ht6
 (repeat ((first | (refine Reg2.wS_skip gtb (by rfl) ?_) | (refine Reg2.wS_open gtb (by rfl) (by rfl) ⟨.agg #[.int .i64 c.id, .int .i64 c.par, .bool c.leaf, .int .u64 c.ra, .int .u64 c.rb, .int .u64 c.rc, .int .u64 c.la, .int .u64 c.lb, .int .u64 c.lc, .int .u64 c.ua, .int .u64 c.ub, .int .u64 c.uc, .int .i64 c.pk, .int .i64 c.bt], fun vs wq hw => ?_, ?_⟩; (focus (simp only [HCl.out, zD, zE] at hw; exact quiet_var 54 _ rfl w.heap.size #[.int .i64 c.id, .int .i64 c.par, .bool c.leaf, .int .u64 c.ra, .int .u64 c.rb, .int .u64 c.rc, .int .u64 c.la, .int .u64 c.lb, .int .u64 c.lc, .int .u64 c.ua, .int .u64 c.ub, .int .u64 c.uc, .int .i64 c.pk, .int .i64 c.bt] _ hw.1.1 rfl Try.underlying54 rfl INF.out))) | (refine Reg2.wS_open gtb (by rfl) (by rfl) ?_; apply Exists.intro; refine ⟨fun vs wq hw => ?_, ?_⟩; (focus (simp only [HCl.out, zD, zE] at hw; go_split_ands; go_simp <;> exact ebb)))); simp only [Act.put, Nat.reduceAdd, zA, zB, zC, zD, zE]))
 refine Reg2.wS_eff gtb (by rfl) (by rfl) (fun wq hw => ?_) (fun u9 hu => ?_)
 focus
  simp only [HCl.out, zD, zE] at hw
  obtain ⟨hA, rfl⟩ := hw
  have ht6 : HT w6.drew tb mb f := H.out.below (HB6.out.drew)
  obtain ⟨nn, hmn⟩ := ht6.mp
  obtain ⟨w11, hrun, hm11, ho11, hs11⟩ := hmn.update (t := 85) (e := 54) ikok Try.underlying85 HI.out.id c
  refine effv_map _ _ _ 85 rfl rfl rfl rfl hrun ?_
  simp only [HCl.out, zD, zE]
  have hmv : mb ≠ w.heap.size := fun g => by have := HM0.out; omega
  have hT11 : HT w11 tb mb (upd f c.id c) := ⟨(ho11.cell ht6.lt (fun g => ht6.ne g.symm)).trans ht6.c0, by rw [hs11]; exact ht6.lt, ht6.ne, _, hm11⟩
  exact ⟨a6_of (hA.1.only ho11 (fun g => hmv g.symm)) hT11, hT11, (Only.of_below HB6.out.drew).trans ho11⟩
 clear hu
 simp only [Act.put, Nat.reduceAdd, zA, zB, zC, zD, zE]
 (repeat ((first | (refine Reg2.wS_skip gtb (by rfl) ?_) | (refine Reg2.wS_open gtb (by rfl) (by rfl) ?_; apply Exists.intro; refine ⟨fun vs wq hw => ?_, ?_⟩; (focus (simp only [HCl.out, zD, zE] at hw; go_split_ands; go_simp <;> exact ebb)))); simp only [Act.put, Nat.reduceAdd, zA, zB, zC, zD, zE]))
 refine Reg2.wS_nil ?_; intro w' hw; simp only [HCl.out, zD, zE] at hw; clear HCl
 obtain ⟨-, hT11, hO11⟩ := hw
 go_wp2
 refine bodyPost_ret (v := .int .i64 0) (by simp [results, Try.results27, go_sem, *]) rfl ⟨rfl, hT11, hO11⟩
theorem del_none {w : World} {tb mb : Nat} {f : Int → Option Cls} (h : HT w tb mb f) {i : Int} (hi : iok i) (hs : f i = none) : Calls Try.prog 21 #[.pointer (some ⟨tb, 0, none⟩), .int .i64 i] w fun ee w' => ee = .returned (.int .i64 6) ∧ Below w.heap.size w w' := by
 have K := Lib.hid (by have := hget_c h hi; rw [hs] at this; exact this)
 have ALL := Lib.hid cl_alloc
 have INF := Lib.hid cl_info
 have ONE := Lib.hid cla_one
 clear h hi hs
 go_enter Try.func21, Try.ntmps21
 go_wp2_with (first
  | go_guarded
  | (refine wpList_var_new rfl rfl 54 #[.int .i64 0, .int .i64 0, .bool false, .int .u64 0, .int .u64 0, .int .u64 0, .int .u64 0, .int .u64 0, .int .u64 0, .int .u64 0, .int .u64 0, .int .u64 0, .int .i64 0, .int .i64 0] ALL.out rfl _ _ rfl #[.int .i64 clz.id, .int .i64 clz.par, .bool clz.leaf, .int .u64 clz.ra, .int .u64 clz.rb, .int .u64 clz.rc, .int .u64 clz.la, .int .u64 clz.lb, .int .u64 clz.lc, .int .u64 clz.ua, .int .u64 clz.ub, .int .u64 clz.uc, .int .i64 clz.pk, .int .i64 clz.bt] rfl rfl INF.out rfl (ONE.out _) ?_; intro w3 hs3 hb3 hv3; have HB3 : Hid (Below w.heap.size w w3) := Lib.hid (HB2.out.trans (hb3.mono HB2.out.size)); clear hb3 hv3)
  | (go_at_call 32; (with_reducible refine K.out.mono ?_); rintro _ w2 ⟨rfl, hbel⟩; have HB2 := Lib.hid hbel; clear hbel))
 go_ret
 exact ⟨rfl, HB3.out⟩
theorem del_chi {w : World} {tb mb : Nat} {f : Int → Option Cls} {L : List Int} (h : HT w tb mb f) (I : TI f L) {i : Int} (hi : iok i) {o : Cls} (hs : f i = some o) (hc : 0 < (L.filter (sel f (fun c => c.par == i))).length) : Calls Try.prog 21 #[.pointer (some ⟨tb, 0, none⟩), .int .i64 i] w fun ee w' => ee = .returned (.int .i64 23) ∧ Below w.heap.size w w' := by
 have K := Lib.hid (by have := hget_c h hi; rw [hs] at this; exact this)
 have ALL := Lib.hid cl_alloc
 have INF := Lib.hid cl_info
 have ONE := Lib.hid cla_one
 have H := Lib.hid h
 have HI := Lib.hid hi
 have HM0 := Lib.hid h.mlt
 have hkc : ∀ z, Below w.heap.size w z → Calls Try.prog 45 #[.pointer (some ⟨tb, 0, none⟩), .int .i64 i] z fun e w' => ∃ v, e = .returned v ∧ (∃ ao cap, v = .slice ao (L.filter (sel f (fun c => c.par == i))).length cap) ∧ Below z.heap.size z w' := fun z hz => by
  refine (children_c (h.below hz) i L I.srt I.mem (Nat.le_trans I.len (by decide)) I.iok).mono ?_
  rintro e w' ⟨v, rfl, hr, hb⟩
  exact ⟨v, rfl, row_form hr, hb⟩
 obtain ⟨n, hn⟩ : ∃ n, (L.filter (sel f (fun c => c.par == i))).length = n := ⟨_, rfl⟩
 rw [hn] at hkc hc
 have KC := Lib.hid hkc
 have q1 : decide ((0 : Int) < (n : Int)) = true := by simp; omega
 have q2 : decide (0 < n) = true := by simp; omega
 clear h hi hs I hkc hn hc
 go_enter Try.func21, Try.ntmps21
 go_wp2_with (first
  | go_guarded
  | (go_at_call 45; (with_reducible refine (KC.out _ HB3.out).mono ?_); rintro _ w4 ⟨v, rfl, ⟨ao, cap, rfl⟩, hbel⟩; have HB4 : Hid (Below w.heap.size w w4) := Lib.hid (HB3.out.trans (hbel.mono HB3.out.size)); have HT4 := Lib.hid (H.out.below HB4.out); have t4 := HT4.out.c0; have lt4 := HT4.out.lt; clear hbel)
  | (refine wpList_var_new rfl rfl 54 #[.int .i64 0, .int .i64 0, .bool false, .int .u64 0, .int .u64 0, .int .u64 0, .int .u64 0, .int .u64 0, .int .u64 0, .int .u64 0, .int .u64 0, .int .u64 0, .int .i64 0, .int .i64 0] ALL.out rfl _ _ rfl #[.int .i64 o.id, .int .i64 o.par, .bool o.leaf, .int .u64 o.ra, .int .u64 o.rb, .int .u64 o.rc, .int .u64 o.la, .int .u64 o.lb, .int .u64 o.lc, .int .u64 o.ua, .int .u64 o.ub, .int .u64 o.uc, .int .i64 o.pk, .int .i64 o.bt] rfl rfl INF.out rfl (ONE.out _) ?_; intro w3 hs3 hb3 hv3; have HB3 : Hid (Below w.heap.size w w3) := Lib.hid (HB2.out.trans (hb3.mono HB2.out.size)); clear hb3 hv3)
  | (go_at_call 32; (with_reducible refine K.out.mono ?_); rintro _ w2 ⟨rfl, hbel⟩; have HB2 := Lib.hid hbel; clear hbel))
 go_ret
 exact ⟨rfl, HB4.out⟩
theorem del_ok {w : World} {tb mb : Nat} {f : Int → Option Cls} {L : List Int} (h : HT w tb mb f) (I : TI f L) {i : Int} (hi : iok i) {o : Cls} (hs : f i = some o) (hc : ¬ 0 < (L.filter (sel f (fun c => c.par == i))).length) : Calls Try.prog 21 #[.pointer (some ⟨tb, 0, none⟩), .int .i64 i] w fun e w' => e = .returned (.int .i64 0) ∧ HT w' tb mb (mdel f i) ∧ Only (fun k => k = mb) w w' := by
 have K := Lib.hid (by have := hget_c h hi; rw [hs] at this; exact this)
 have ALL := Lib.hid cl_alloc
 have INF := Lib.hid cl_info
 have ONE := Lib.hid cla_one
 have H := Lib.hid h
 have HI := Lib.hid hi
 have HM0 := Lib.hid h.mlt
 have hkc : ∀ z, Below w.heap.size w z → Calls Try.prog 45 #[.pointer (some ⟨tb, 0, none⟩), .int .i64 i] z fun e w' => ∃ v, e = .returned v ∧ (∃ ao cap, v = .slice ao (L.filter (sel f (fun c => c.par == i))).length cap) ∧ Below z.heap.size z w' := fun z hz => by
  refine (children_c (h.below hz) i L I.srt I.mem (Nat.le_trans I.len (by decide)) I.iok).mono ?_
  rintro e w' ⟨v, rfl, hr, hb⟩
  exact ⟨v, rfl, row_form hr, hb⟩
 obtain ⟨n, hn⟩ : ∃ n, (L.filter (sel f (fun c => c.par == i))).length = n := ⟨_, rfl⟩
 rw [hn] at hkc hc
 have KC := Lib.hid hkc
 have q1 : decide ((0 : Int) < (n : Int)) = false := by simp; omega
 have q2 : decide (0 < n) = false := by simp; omega
 clear h hi hs I hkc hn hc
 go_enter Try.func21, Try.ntmps21
 go_wp2_with (first
  | go_guarded
  | (at_delete; obtain ⟨nn, hmn⟩ := HT4.out.mp; refine wpList_delete_mp _ rfl _ _ 85 3 rfl ikok ikv_inj Try.underlying85 mb nn rfl hmn i HI.out rfl ?_; intro w5 hm5 ho5 hs5; have HM5 := Lib.hid hm5; have HO5 := Lib.hid ho5; clear hmn hm5 ho5)
  | (go_at_call 45; (with_reducible refine (KC.out _ HB3.out).mono ?_); rintro _ w4 ⟨v, rfl, ⟨ao, cap, rfl⟩, hbel⟩; have HB4 : Hid (Below w.heap.size w w4) := Lib.hid (HB3.out.trans (hbel.mono HB3.out.size)); have HT4 := Lib.hid (H.out.below HB4.out); have t4 := HT4.out.c0; have lt4 := HT4.out.lt; clear hbel)
  | (refine wpList_var_new rfl rfl 54 #[.int .i64 0, .int .i64 0, .bool false, .int .u64 0, .int .u64 0, .int .u64 0, .int .u64 0, .int .u64 0, .int .u64 0, .int .u64 0, .int .u64 0, .int .u64 0, .int .i64 0, .int .i64 0] ALL.out rfl _ _ rfl #[.int .i64 o.id, .int .i64 o.par, .bool o.leaf, .int .u64 o.ra, .int .u64 o.rb, .int .u64 o.rc, .int .u64 o.la, .int .u64 o.lb, .int .u64 o.lc, .int .u64 o.ua, .int .u64 o.ub, .int .u64 o.uc, .int .i64 o.pk, .int .i64 o.bt] rfl rfl INF.out rfl (ONE.out _) ?_; intro w3 hs3 hb3 hv3; have HB3 : Hid (Below w.heap.size w w3) := Lib.hid (HB2.out.trans (hb3.mono HB2.out.size)); clear hb3 hv3)
  | (go_at_call 32; (with_reducible refine K.out.mono ?_); rintro _ w2 ⟨rfl, hbel⟩; have HB2 := Lib.hid hbel; clear hbel))
 go_ret
 exact ⟨rfl, ⟨(HO5.out.cell HT4.out.lt (fun g => HT4.out.ne g.symm)).trans HT4.out.c0, Nat.lt_of_lt_of_le HT4.out.lt HO5.out.size, HT4.out.ne, _, HM5.out⟩, (Only.of_below HB4.out).trans HO5.out⟩
end Go.Proofs.Ytmmahgfijiocfaa
end
