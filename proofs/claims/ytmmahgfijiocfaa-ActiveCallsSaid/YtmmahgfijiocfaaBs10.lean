/- Joined texts. -/
import Derived.Test.YtmmahgfijiocfaaBs0
import Derived.Test.YtmmahgfijiocfaaBs9
set_option linter.unusedVariables false
set_option linter.unusedSimpArgs false
set_option maxRecDepth 100000
set_option maxHeartbeats 16000000
section
namespace Go.Proofs.Ytmmahgfijiocfaa
open Go.RowKit Fg Reg Go.Maps
attribute [local irreducible] Reg.wE VR
structure TI (f : Int → Option Cls) (L : List Int) : Prop where
 srt : L.Pairwise (· < ·)
 mem : ∀ x, (f x).isSome = true ↔ x ∈ L
 len : L.length ≤ 64
 cls : ∀ x c, f x = some c → c.id = x ∧ CIn c ∧ wrC c = 0
 par : ∀ x c, f x = some c → c.par ≠ 0 → ∃ p, f c.par = some p ∧ p.leaf = false ∧ (sh1 c = true → sh1 p = true)
 dep : ∀ x, fin f 16 x = true
theorem TI.iok {f : Int → Option Cls} {L : List Int} (h : TI f L) : ∀ x ∈ L, iok x := fun x hx => by
 obtain ⟨c, hc⟩ := Option.isSome_iff_exists.1 ((h.mem x).2 hx)
 have := h.cls x c hc
 rw [← this.1]
 exact this.2.1.id
theorem a6_of {w z : World} {tb mb : Nat} {f : Int → Option Cls} {c : Cls} (hv : VR z w.heap.size 54 #[.int .i64 c.id, .int .i64 c.par, .bool c.leaf, .int .u64 c.ra, .int .u64 c.rb, .int .u64 c.rc, .int .u64 c.la, .int .u64 c.lb, .int .u64 c.lc, .int .u64 c.ua, .int .u64 c.ub, .int .u64 c.uc, .int .i64 c.pk, .int .i64 c.bt]) (h : HT z tb mb f) : VR z w.heap.size 54 #[.int .i64 c.id, .int .i64 c.par, .bool c.leaf, .int .u64 c.ra, .int .u64 c.rb, .int .u64 c.rc, .int .u64 c.la, .int .u64 c.lb, .int .u64 c.lc, .int .u64 c.ua, .int .u64 c.ub, .int .u64 c.uc, .int .i64 c.pk, .int .i64 c.bt] ∧ z.cell? ⟨w.heap.size, 0, none⟩ = some (.int .i64 c.id) ∧ z.cell? ⟨w.heap.size, 1, none⟩ = some (.int .i64 c.par) ∧ w.heap.size < z.heap.size ∧ z.cell? ⟨tb, 0, none⟩ = some (.map (some mb)) ∧ tb < z.heap.size :=
 ⟨hv, hv.cell 0 rfl, hv.cell 1 rfl, hv.lt, h.c0, h.lt⟩
theorem cm_nn (b : Nat) (w : World) : (binOp .eql 85 (.map (some b)) (.map none)).run Try.prog w = .ok (.bool false) w := by kernel_rfl
def addE (f : Int → Option Cls) (L : List Int) (c : Cls) : Int :=
 if wrC c ≠ 0 then wrC c else if (f c.id).isSome then 8 else if 64 ≤ L.length then 5 else if hol f c.par = false then 23 else if sh1 c = true ∧ shA f c.par = false then 29 else if 16 ≤ (upl f 16 c.par).length then 25 else 0
theorem add_wr {w : World} {tb mb : Nat} {f : Int → Option Cls} (h : HT w tb mb f) {c : Cls} (e : Int) (he : e ≠ 0) (hi : CIn c) (hr : ∀ z, Calls Try.prog 51 #[.agg #[.int .i64 c.id, .int .i64 c.par, .bool c.leaf, .int .u64 c.ra, .int .u64 c.rb, .int .u64 c.rc, .int .u64 c.la, .int .u64 c.lb, .int .u64 c.lc, .int .u64 c.ua, .int .u64 c.ub, .int .u64 c.uc, .int .i64 c.pk, .int .i64 c.bt]] z fun ee w' => ee = .returned (.int .i64 e) ∧ Below z.heap.size z w') :
  Calls Try.prog 26 #[.pointer (some ⟨tb, 0, none⟩), .agg #[.int .i64 c.id, .int .i64 c.par, .bool c.leaf, .int .u64 c.ra, .int .u64 c.rb, .int .u64 c.rc, .int .u64 c.la, .int .u64 c.lb, .int .u64 c.lc, .int .u64 c.ua, .int .u64 c.ub, .int .u64 c.uc, .int .i64 c.pk, .int .i64 c.bt]] w fun ee w' => ee = .returned (.int .i64 e) ∧ Below w.heap.size w w' := by
 have he1 : (e == 0) = false := by simpa using he
 have he2 : (e != 0) = true := by simpa using he
 have hW0 : VR (w.alloc (.cells #[.int .i64 c.id, .int .i64 c.par, .bool c.leaf, .int .u64 c.ra, .int .u64 c.rb, .int .u64 c.rc, .int .u64 c.la, .int .u64 c.lb, .int .u64 c.lc, .int .u64 c.ua, .int .u64 c.ub, .int .u64 c.uc, .int .i64 c.pk, .int .i64 c.bt] 54)) w.heap.size 54 #[.int .i64 c.id, .int .i64 c.par, .bool c.leaf, .int .u64 c.ra, .int .u64 c.rb, .int .u64 c.rc, .int .u64 c.la, .int .u64 c.lb, .int .u64 c.lc, .int .u64 c.ua, .int .u64 c.ub, .int .u64 c.uc, .int .i64 c.pk, .int .i64 c.bt] := VR.new _ _ _
 have hB0 : Below w.heap.size w (w.alloc (.cells #[.int .i64 c.id, .int .i64 c.par, .bool c.leaf, .int .u64 c.ra, .int .u64 c.rb, .int .u64 c.rc, .int .u64 c.la, .int .u64 c.lb, .int .u64 c.lc, .int .u64 c.ua, .int .u64 c.ub, .int .u64 c.uc, .int .i64 c.pk, .int .i64 c.bt] 54)) := bub
 have HV0 := Lib.hid hW0
 have HB0 := Lib.hid hB0
 have H := Lib.hid h
 have HI := Lib.hid hi
 have INF := Lib.hid cl_info
 have ONE := Lib.hid cla_one
 have KR := Lib.hid (fun z => hr z)
 clear hW0 hB0 hr
 clear h hi he
 go_enter Try.func26, Try.ntmps26
 go_wp2_with (first
  | go_guarded
  | (refine wpList_var_get rfl 54 _ rfl w.heap.size #[.int .i64 c.id, .int .i64 c.par, .bool c.leaf, .int .u64 c.ra, .int .u64 c.rb, .int .u64 c.rc, .int .u64 c.la, .int .u64 c.lb, .int .u64 c.lc, .int .u64 c.ua, .int .u64 c.ub, .int .u64 c.uc, .int .i64 c.pk, .int .i64 c.bt] _ HV0.out rfl Try.underlying54 rfl INF.out ?_)
  | (go_at_call 51; (with_reducible refine (KR.out _).mono ?_); rintro _ w1 ⟨rfl, hbel⟩; have HV1 := Lib.hid (HV0.out.bel hbel); have HB1 : Hid (Below w.heap.size w w1) := Lib.hid (HB0.out.trans (hbel.mono HB0.out.size)); have HT1 := Lib.hid (H.out.below HB1.out); clear hbel))
 go_ret
 exact ⟨rfl, HB1.out⟩
theorem add_same {w : World} {tb mb : Nat} {f : Int → Option Cls} {L : List Int} (h : HT w tb mb f) (I : TI f L) {c : Cls} (hi : CIn c) (hr : ∀ z, Calls Try.prog 51 #[.agg #[.int .i64 c.id, .int .i64 c.par, .bool c.leaf, .int .u64 c.ra, .int .u64 c.rb, .int .u64 c.rc, .int .u64 c.la, .int .u64 c.lb, .int .u64 c.lc, .int .u64 c.ua, .int .u64 c.ub, .int .u64 c.uc, .int .i64 c.pk, .int .i64 c.bt]] z fun ee w' => ee = .returned (.int .i64 0) ∧ Below z.heap.size z w') {c0 : Cls} (hs : f c.id = some c0) :
  Calls Try.prog 26 #[.pointer (some ⟨tb, 0, none⟩), .agg #[.int .i64 c.id, .int .i64 c.par, .bool c.leaf, .int .u64 c.ra, .int .u64 c.rb, .int .u64 c.rc, .int .u64 c.la, .int .u64 c.lb, .int .u64 c.lc, .int .u64 c.ua, .int .u64 c.ub, .int .u64 c.uc, .int .i64 c.pk, .int .i64 c.bt]] w fun ee w' => ee = .returned (.int .i64 8) ∧ Below w.heap.size w w' := by
 have hlk : ∀ z, Below w.heap.size w z → (Instr.lookup 85 (.map (some mb)) (.int .i64 c.id) true).run Try.prog z = .ok (.tuple #[.agg #[.int .i64 ((c0)).id, .int .i64 ((c0)).par, .bool ((c0)).leaf, .int .u64 ((c0)).ra, .int .u64 ((c0)).rb, .int .u64 ((c0)).rc, .int .u64 ((c0)).la, .int .u64 ((c0)).lb, .int .u64 ((c0)).lc, .int .u64 ((c0)).ua, .int .u64 ((c0)).ub, .int .u64 ((c0)).uc, .int .i64 ((c0)).pk, .int .i64 ((c0)).bt], .bool true]) z := fun z hz => by
  have := (h.below hz).look hi.id true
  rw [hs] at this
  exact this
 have HLK := Lib.hid hlk
 clear hlk
 have hW0 : VR (w.alloc (.cells #[.int .i64 c.id, .int .i64 c.par, .bool c.leaf, .int .u64 c.ra, .int .u64 c.rb, .int .u64 c.rc, .int .u64 c.la, .int .u64 c.lb, .int .u64 c.lc, .int .u64 c.ua, .int .u64 c.ub, .int .u64 c.uc, .int .i64 c.pk, .int .i64 c.bt] 54)) w.heap.size 54 #[.int .i64 c.id, .int .i64 c.par, .bool c.leaf, .int .u64 c.ra, .int .u64 c.rb, .int .u64 c.rc, .int .u64 c.la, .int .u64 c.lb, .int .u64 c.lc, .int .u64 c.ua, .int .u64 c.ub, .int .u64 c.uc, .int .i64 c.pk, .int .i64 c.bt] := VR.new _ _ _
 have hB0 : Below w.heap.size w (w.alloc (.cells #[.int .i64 c.id, .int .i64 c.par, .bool c.leaf, .int .u64 c.ra, .int .u64 c.rb, .int .u64 c.rc, .int .u64 c.la, .int .u64 c.lb, .int .u64 c.lc, .int .u64 c.ua, .int .u64 c.ub, .int .u64 c.uc, .int .i64 c.pk, .int .i64 c.bt] 54)) := bub
 have HV0 := Lib.hid hW0
 have HB0 := Lib.hid hB0
 have H := Lib.hid h
 have HI := Lib.hid hi
 have INF := Lib.hid cl_info
 have ONE := Lib.hid cla_one
 have KR := Lib.hid (fun z => hr z)
 clear hW0 hB0 hr
 clear h hi hs I
 go_enter Try.func26, Try.ntmps26
 go_wp2_with (first
  | go_guarded
  | (refine wpList_var_get rfl 54 _ rfl w.heap.size #[.int .i64 c.id, .int .i64 c.par, .bool c.leaf, .int .u64 c.ra, .int .u64 c.rb, .int .u64 c.rc, .int .u64 c.la, .int .u64 c.lb, .int .u64 c.lc, .int .u64 c.ua, .int .u64 c.ub, .int .u64 c.uc, .int .i64 c.pk, .int .i64 c.bt] _ HV0.out rfl Try.underlying54 rfl INF.out ?_)
  | (go_at_call 51; (with_reducible refine (KR.out _).mono ?_); rintro _ w1 ⟨rfl, hbel⟩; have HV1 := Lib.hid (HV0.out.bel hbel); have HB1 : Hid (Below w.heap.size w w1) := Lib.hid (HB0.out.trans (hbel.mono HB0.out.size)); have HT1 := Lib.hid (H.out.below HB1.out); clear hbel))
 have ht1 : HT w1.drew tb mb f := H.out.below (HB1.out.drew)
 have hlk1 : (Instr.lookup 85 (.map (some mb)) (.int .i64 c.id) true).run Try.prog w1.drew = .ok (.tuple #[.agg #[.int .i64 c0.id, .int .i64 c0.par, .bool c0.leaf, .int .u64 c0.ra, .int .u64 c0.rb, .int .u64 c0.rc, .int .u64 c0.la, .int .u64 c0.lb, .int .u64 c0.lc, .int .u64 c0.ua, .int .u64 c0.ub, .int .u64 c0.uc, .int .i64 c0.pk, .int .i64 c0.bt], .bool true]) w1.drew := HLK.out _ HB1.out.drew
 obtain ⟨Cl, hCl⟩ : ∃ Cl : List (Nat × Value) → World → Prop, Cl = ((fun ps wz => ((VR wz w.heap.size 54 #[.int .i64 c.id, .int .i64 c.par, .bool c.leaf, .int .u64 c.ra, .int .u64 c.rb, .int .u64 c.rc, .int .u64 c.la, .int .u64 c.lb, .int .u64 c.lc, .int .u64 c.ua, .int .u64 c.ub, .int .u64 c.uc, .int .i64 c.pk, .int .i64 c.bt] ∧ wz.cell? ⟨w.heap.size, 0, none⟩ = some (.int .i64 c.id) ∧ wz.cell? ⟨w.heap.size, 1, none⟩ = some (.int .i64 c.par) ∧ w.heap.size < wz.heap.size ∧ wz.cell? ⟨tb, 0, none⟩ = some (.map (some mb)) ∧ tb < wz.heap.size) ∧ (Instr.lookup 85 (.map (some mb)) (.int .i64 c.id) true).run Try.prog wz = .ok (.tuple #[.agg #[.int .i64 c0.id, .int .i64 c0.par, .bool c0.leaf, .int .u64 c0.ra, .int .u64 c0.rb, .int .u64 c0.rc, .int .u64 c0.la, .int .u64 c0.lb, .int .u64 c0.lc, .int .u64 c0.ua, .int .u64 c0.ub, .int .u64 c0.uc, .int .i64 c0.pk, .int .i64 c0.bt], .bool true]) wz) ∧ (match ps with
  | [] => wz = w1.drew
  | [(_, p)] => p = .pointer (some ⟨w1.heap.size, 0, none⟩) ∧ wz = w1.drew.alloc (.cells #[.int .i64 0, .int .i64 0, .bool false, .int .u64 0, .int .u64 0, .int .u64 0, .int .u64 0, .int .u64 0, .int .u64 0, .int .u64 0, .int .u64 0, .int .u64 0, .int .i64 0, .int .i64 0] 54)
  | [_, _] => Below w1.heap.size w1 wz
  | _ => True))) := ⟨_, rfl⟩; have HCl := Lib.hid hCl; clear hCl; refine Reg2.wp_region_lineS [(0, false), (1, false), (2, false), (3, false), (4, false), (5, false), (6, false), (7, false), (8, false), (9, false), (10, false), (11, false), (12, false)] [10, 11] Cl (by kernel_rfl) (by kernel_rfl) (by kernel_rfl) (by simp only [HCl.out, zD, zE]; exact ⟨⟨a6_of (HV1.out.frame rfl) ht1, hlk1⟩, (by first | rfl | trivial)⟩) ?_
 clear ht1 hlk1
 (repeat ((first | (refine Reg2.wS_skip gtb (by rfl) ?_) | (refine Reg2.wS_open gtb (by rfl) (by rfl) ?_; apply Exists.intro; refine ⟨fun vs wq hw => ?_, ?_⟩; (focus (simp only [HCl.out, zD, zE] at hw; go_split_ands; go_simp <;> exact ebb)))); simp only [Act.put, Nat.reduceAdd, zA, zB, zC, zD, zE]))
 refine Reg2.wS_eff gtb (by rfl) (by rfl) (fun wq hw => ?_) (fun u9 hu => ?_)
 focus
  simp only [HCl.out, zD, zE] at hw
  obtain ⟨⟨hA, -⟩, rfl⟩ := hw
  have hb : Below w1.heap.size w1 (w1.drew.alloc (.cells #[.int .i64 0, .int .i64 0, .bool false, .int .u64 0, .int .u64 0, .int .u64 0, .int .u64 0, .int .u64 0, .int .u64 0, .int .u64 0, .int .u64 0, .int .u64 0, .int .i64 0, .int .i64 0] 54)) := bub
  have hb2 : Below w.heap.size w (w1.drew.alloc (.cells #[.int .i64 0, .int .i64 0, .bool false, .int .u64 0, .int .u64 0, .int .u64 0, .int .u64 0, .int .u64 0, .int .u64 0, .int .u64 0, .int .u64 0, .int .u64 0, .int .i64 0, .int .i64 0] 54)) := HB1.out.trans (hb.mono HB1.out.size)
  refine effv_alloc 54 rfl (cl_alloc _) ?_
  simp only [HCl.out, zD, zE]
  exact ⟨⟨a6_of (HV1.out.bel hb) (H.out.below hb2), HLK.out _ hb2⟩, rfl, (by first | rfl | trivial)⟩
 (obtain ⟨wz, hz⟩ := hu; rw [HCl.out] at hz; (try simp only [List.nil_append, List.cons_append] at hz); (try dsimp only at hz))
 obtain ⟨-, rfl, -⟩ := hz
 clear wz
 simp only [Act.put, Nat.reduceAdd, zA, zB, zC, zD, zE]
 (repeat ((first | (refine Reg2.wS_skip gtb (by rfl) ?_) | (refine Reg2.wS_open gtb (by rfl) (by rfl) ?_; apply Exists.intro; refine ⟨fun vs wq hw => ?_, ?_⟩; (focus (simp only [HCl.out, zD, zE] at hw; go_split_ands; go_simp <;> exact ebb)))); simp only [Act.put, Nat.reduceAdd, zA, zB, zC, zD, zE]))
 refine Reg2.wS_eff gtb (by rfl) (by rfl) (fun wq hw => ?_) (fun u9 hu => ?_)
 focus
  simp only [HCl.out, zD, zE] at hw
  obtain ⟨⟨hA, -⟩, -, rfl⟩ := hw
  refine effv_store 54 _ _ rfl rfl rfl (run_storeAt_new (P := Try.prog) w1.drew 54 #[.int .i64 0, .int .i64 0, .bool false, .int .u64 0, .int .u64 0, .int .u64 0, .int .u64 0, .int .u64 0, .int .u64 0, .int .u64 0, .int .u64 0, .int .u64 0, .int .i64 0, .int .i64 0] #[.int .i64 c0.id, .int .i64 c0.par, .bool c0.leaf, .int .u64 c0.ra, .int .u64 c0.rb, .int .u64 c0.rc, .int .u64 c0.la, .int .u64 c0.lb, .int .u64 c0.lc, .int .u64 c0.ua, .int .u64 c0.ub, .int .u64 c0.uc, .int .i64 c0.pk, .int .i64 c0.bt] cl_info rfl (cla_one _)) ?_
  simp only [HCl.out, zD, zE]
  have hb : Below w1.heap.size w1 (w1.drew.alloc (.cells #[.int .i64 c0.id, .int .i64 c0.par, .bool c0.leaf, .int .u64 c0.ra, .int .u64 c0.rb, .int .u64 c0.rc, .int .u64 c0.la, .int .u64 c0.lb, .int .u64 c0.lc, .int .u64 c0.ua, .int .u64 c0.ub, .int .u64 c0.uc, .int .i64 c0.pk, .int .i64 c0.bt] 54)) := bub
  have hb2 : Below w.heap.size w (w1.drew.alloc (.cells #[.int .i64 c0.id, .int .i64 c0.par, .bool c0.leaf, .int .u64 c0.ra, .int .u64 c0.rb, .int .u64 c0.rc, .int .u64 c0.la, .int .u64 c0.lb, .int .u64 c0.lc, .int .u64 c0.ua, .int .u64 c0.ub, .int .u64 c0.uc, .int .i64 c0.pk, .int .i64 c0.bt] 54)) := HB1.out.trans (hb.mono HB1.out.size)
  exact ⟨⟨a6_of (HV1.out.bel hb) (H.out.below hb2), HLK.out _ hb2⟩, hb⟩
 clear hu
 simp only [Act.put, Nat.reduceAdd, zA, zB, zC, zD, zE]
 (repeat ((first | (refine Reg2.wS_skip gtb (by rfl) ?_) | (refine Reg2.wS_open gtb (by rfl) (by rfl) ?_; apply Exists.intro; refine ⟨fun vs wq hw => ?_, ?_⟩; (focus (simp only [HCl.out, zD, zE] at hw; go_split_ands; go_simp <;> exact ebb)))); simp only [Act.put, Nat.reduceAdd, zA, zB, zC, zD, zE]))
 refine Reg2.wS_nil ?_; intro w' hw; simp only [HCl.out, zD, zE] at hw; clear HCl
 obtain ⟨⟨⟨hv6, hc6, hp6, hl6, ht6, hs6⟩, -⟩, hb6⟩ := hw
 have HV6 := Lib.hid hv6
 have HB6 : Hid (Below w.heap.size w w') := Lib.hid (HB1.out.trans (hb6.mono HB1.out.size))
 have HT6 := Lib.hid (H.out.below HB6.out)
 clear hv6 hb6
 go_wp2_with (first | go_guarded)
 go_ret
 exact ⟨rfl, HB6.out⟩
theorem hol_in {f : Int → Option Cls} {L : List Int} (I : TI f L) {i : Int} (hh : hol f i = true) (hne : i ≠ 0) : ∃ c, f i = some c ∧ CIn c := by
 unfold hol at hh
 have : (i == 0) = false := by simpa using hne
 rw [this, Bool.false_or] at hh
 cases hc : f i with
 | none => rw [hc] at hh; cases hh
 | some c => exact ⟨c, rfl, (I.cls i c hc).2.1⟩
theorem add_full {w : World} {tb mb : Nat} {f : Int → Option Cls} {L : List Int} (h : HT w tb mb f) (I : TI f L) {c : Cls} (hi : CIn c) (hr : ∀ z, Calls Try.prog 51 #[.agg #[.int .i64 c.id, .int .i64 c.par, .bool c.leaf, .int .u64 c.ra, .int .u64 c.rb, .int .u64 c.rc, .int .u64 c.la, .int .u64 c.lb, .int .u64 c.lc, .int .u64 c.ua, .int .u64 c.ub, .int .u64 c.uc, .int .i64 c.pk, .int .i64 c.bt]] z fun ee w' => ee = .returned (.int .i64 0) ∧ Below z.heap.size z w') (hs : f c.id = none) (hl : 64 ≤ L.length) :
  Calls Try.prog 26 #[.pointer (some ⟨tb, 0, none⟩), .agg #[.int .i64 c.id, .int .i64 c.par, .bool c.leaf, .int .u64 c.ra, .int .u64 c.rb, .int .u64 c.rc, .int .u64 c.la, .int .u64 c.lb, .int .u64 c.lc, .int .u64 c.ua, .int .u64 c.ub, .int .u64 c.uc, .int .i64 c.pk, .int .i64 c.bt]] w fun ee w' => ee = .returned (.int .i64 5) ∧ Below w.heap.size w w' := by
 have hlk : ∀ z, Below w.heap.size w z → (Instr.lookup 85 (.map (some mb)) (.int .i64 c.id) true).run Try.prog z = .ok (.tuple #[.agg #[.int .i64 ((clz)).id, .int .i64 ((clz)).par, .bool ((clz)).leaf, .int .u64 ((clz)).ra, .int .u64 ((clz)).rb, .int .u64 ((clz)).rc, .int .u64 ((clz)).la, .int .u64 ((clz)).lb, .int .u64 ((clz)).lc, .int .u64 ((clz)).ua, .int .u64 ((clz)).ub, .int .u64 ((clz)).uc, .int .i64 ((clz)).pk, .int .i64 ((clz)).bt], .bool false]) z := fun z hz => by
  have := (h.below hz).look hi.id true
  rw [hs] at this
  exact this
 have HLK := Lib.hid hlk
 clear hlk
 have hln : ∀ z, Below w.heap.size w z → ∀ ty, (Builtin.len_ #[85] ty #[.map (some mb)]).run Try.prog z = .ok (.int .i64 L.length) z := fun z hz ty => by
  obtain ⟨n, hn⟩ := (h.below hz).mp
  exact hn.len ikv_inj Try.underlying85 L (nd_lt I.srt) (fun x => (I.mem x).symm) ty
 obtain ⟨n, hn⟩ : ∃ n, L.length = n := ⟨_, rfl⟩
 rw [hn] at hln hl
 have HLN := Lib.hid hln
 clear hln
 have q1 : decide ((64 : Int) ≤ (n : Int)) = true := by simp; omega
 have q2 : decide (64 ≤ n) = true := by simp; omega
 have hW0 : VR (w.alloc (.cells #[.int .i64 c.id, .int .i64 c.par, .bool c.leaf, .int .u64 c.ra, .int .u64 c.rb, .int .u64 c.rc, .int .u64 c.la, .int .u64 c.lb, .int .u64 c.lc, .int .u64 c.ua, .int .u64 c.ub, .int .u64 c.uc, .int .i64 c.pk, .int .i64 c.bt] 54)) w.heap.size 54 #[.int .i64 c.id, .int .i64 c.par, .bool c.leaf, .int .u64 c.ra, .int .u64 c.rb, .int .u64 c.rc, .int .u64 c.la, .int .u64 c.lb, .int .u64 c.lc, .int .u64 c.ua, .int .u64 c.ub, .int .u64 c.uc, .int .i64 c.pk, .int .i64 c.bt] := VR.new _ _ _
 have hB0 : Below w.heap.size w (w.alloc (.cells #[.int .i64 c.id, .int .i64 c.par, .bool c.leaf, .int .u64 c.ra, .int .u64 c.rb, .int .u64 c.rc, .int .u64 c.la, .int .u64 c.lb, .int .u64 c.lc, .int .u64 c.ua, .int .u64 c.ub, .int .u64 c.uc, .int .i64 c.pk, .int .i64 c.bt] 54)) := bub
 have HV0 := Lib.hid hW0
 have HB0 := Lib.hid hB0
 have H := Lib.hid h
 have HI := Lib.hid hi
 have INF := Lib.hid cl_info
 have ONE := Lib.hid cla_one
 have KR := Lib.hid (fun z => hr z)
 clear hW0 hB0 hr
 clear h hi hs I hn hl
 go_enter Try.func26, Try.ntmps26
 go_wp2_with (first
  | go_guarded
  | (refine wpList_var_get rfl 54 _ rfl w.heap.size #[.int .i64 c.id, .int .i64 c.par, .bool c.leaf, .int .u64 c.ra, .int .u64 c.rb, .int .u64 c.rc, .int .u64 c.la, .int .u64 c.lb, .int .u64 c.lc, .int .u64 c.ua, .int .u64 c.ub, .int .u64 c.uc, .int .i64 c.pk, .int .i64 c.bt] _ HV0.out rfl Try.underlying54 rfl INF.out ?_)
  | (go_at_call 51; (with_reducible refine (KR.out _).mono ?_); rintro _ w1 ⟨rfl, hbel⟩; have HV1 := Lib.hid (HV0.out.bel hbel); have HB1 : Hid (Below w.heap.size w w1) := Lib.hid (HB0.out.trans (hbel.mono HB0.out.size)); have HT1 := Lib.hid (H.out.below HB1.out); clear hbel))
 have ht1 : HT w1.drew tb mb f := H.out.below (HB1.out.drew)
 have hlk1 : (Instr.lookup 85 (.map (some mb)) (.int .i64 c.id) true).run Try.prog w1.drew = .ok (.tuple #[.agg #[.int .i64 clz.id, .int .i64 clz.par, .bool clz.leaf, .int .u64 clz.ra, .int .u64 clz.rb, .int .u64 clz.rc, .int .u64 clz.la, .int .u64 clz.lb, .int .u64 clz.lc, .int .u64 clz.ua, .int .u64 clz.ub, .int .u64 clz.uc, .int .i64 clz.pk, .int .i64 clz.bt], .bool false]) w1.drew := HLK.out _ HB1.out.drew
 obtain ⟨Cl, hCl⟩ : ∃ Cl : List (Nat × Value) → World → Prop, Cl = ((fun ps wz => ((VR wz w.heap.size 54 #[.int .i64 c.id, .int .i64 c.par, .bool c.leaf, .int .u64 c.ra, .int .u64 c.rb, .int .u64 c.rc, .int .u64 c.la, .int .u64 c.lb, .int .u64 c.lc, .int .u64 c.ua, .int .u64 c.ub, .int .u64 c.uc, .int .i64 c.pk, .int .i64 c.bt] ∧ wz.cell? ⟨w.heap.size, 0, none⟩ = some (.int .i64 c.id) ∧ wz.cell? ⟨w.heap.size, 1, none⟩ = some (.int .i64 c.par) ∧ w.heap.size < wz.heap.size ∧ wz.cell? ⟨tb, 0, none⟩ = some (.map (some mb)) ∧ tb < wz.heap.size) ∧ (Instr.lookup 85 (.map (some mb)) (.int .i64 c.id) true).run Try.prog wz = .ok (.tuple #[.agg #[.int .i64 clz.id, .int .i64 clz.par, .bool clz.leaf, .int .u64 clz.ra, .int .u64 clz.rb, .int .u64 clz.rc, .int .u64 clz.la, .int .u64 clz.lb, .int .u64 clz.lc, .int .u64 clz.ua, .int .u64 clz.ub, .int .u64 clz.uc, .int .i64 clz.pk, .int .i64 clz.bt], .bool false]) wz) ∧ (match ps with
  | [] => wz = w1.drew
  | [(_, p)] => p = .pointer (some ⟨w1.heap.size, 0, none⟩) ∧ wz = w1.drew.alloc (.cells #[.int .i64 0, .int .i64 0, .bool false, .int .u64 0, .int .u64 0, .int .u64 0, .int .u64 0, .int .u64 0, .int .u64 0, .int .u64 0, .int .u64 0, .int .u64 0, .int .i64 0, .int .i64 0] 54)
  | [_, _] => Below w1.heap.size w1 wz
  | _ => True))) := ⟨_, rfl⟩; have HCl := Lib.hid hCl; clear hCl; refine Reg2.wp_region_lineS [(0, false), (1, false), (2, false), (3, false), (4, false), (5, false), (6, false), (7, false), (8, false), (9, false), (10, false), (11, false), (12, false)] [10, 11] Cl (by kernel_rfl) (by kernel_rfl) (by kernel_rfl) (by simp only [HCl.out, zD, zE]; exact ⟨⟨a6_of (HV1.out.frame rfl) ht1, hlk1⟩, (by first | rfl | trivial)⟩) ?_
 clear ht1 hlk1
 (repeat ((first | (refine Reg2.wS_skip gtb (by rfl) ?_) | (refine Reg2.wS_open gtb (by rfl) (by rfl) ?_; apply Exists.intro; refine ⟨fun vs wq hw => ?_, ?_⟩; (focus (simp only [HCl.out, zD, zE] at hw; go_split_ands; go_simp <;> exact ebb)))); simp only [Act.put, Nat.reduceAdd, zA, zB, zC, zD, zE]))
 refine Reg2.wS_eff gtb (by rfl) (by rfl) (fun wq hw => ?_) (fun u9 hu => ?_)
 focus
  simp only [HCl.out, zD, zE] at hw
  obtain ⟨⟨hA, -⟩, rfl⟩ := hw
  have hb : Below w1.heap.size w1 (w1.drew.alloc (.cells #[.int .i64 0, .int .i64 0, .bool false, .int .u64 0, .int .u64 0, .int .u64 0, .int .u64 0, .int .u64 0, .int .u64 0, .int .u64 0, .int .u64 0, .int .u64 0, .int .i64 0, .int .i64 0] 54)) := bub
  have hb2 : Below w.heap.size w (w1.drew.alloc (.cells #[.int .i64 0, .int .i64 0, .bool false, .int .u64 0, .int .u64 0, .int .u64 0, .int .u64 0, .int .u64 0, .int .u64 0, .int .u64 0, .int .u64 0, .int .u64 0, .int .i64 0, .int .i64 0] 54)) := HB1.out.trans (hb.mono HB1.out.size)
  refine effv_alloc 54 rfl (cl_alloc _) ?_
  simp only [HCl.out, zD, zE]
  exact ⟨⟨a6_of (HV1.out.bel hb) (H.out.below hb2), HLK.out _ hb2⟩, rfl, (by first | rfl | trivial)⟩
 (obtain ⟨wz, hz⟩ := hu; rw [HCl.out] at hz; (try simp only [List.nil_append, List.cons_append] at hz); (try dsimp only at hz))
 obtain ⟨-, rfl, -⟩ := hz
 clear wz
 simp only [Act.put, Nat.reduceAdd, zA, zB, zC, zD, zE]
 (repeat ((first | (refine Reg2.wS_skip gtb (by rfl) ?_) | (refine Reg2.wS_open gtb (by rfl) (by rfl) ?_; apply Exists.intro; refine ⟨fun vs wq hw => ?_, ?_⟩; (focus (simp only [HCl.out, zD, zE] at hw; go_split_ands; go_simp <;> exact ebb)))); simp only [Act.put, Nat.reduceAdd, zA, zB, zC, zD, zE]))
 refine Reg2.wS_eff gtb (by rfl) (by rfl) (fun wq hw => ?_) (fun u9 hu => ?_)
 focus
  simp only [HCl.out, zD, zE] at hw
  obtain ⟨⟨hA, -⟩, -, rfl⟩ := hw
  refine effv_store 54 _ _ rfl rfl rfl (run_storeAt_new (P := Try.prog) w1.drew 54 #[.int .i64 0, .int .i64 0, .bool false, .int .u64 0, .int .u64 0, .int .u64 0, .int .u64 0, .int .u64 0, .int .u64 0, .int .u64 0, .int .u64 0, .int .u64 0, .int .i64 0, .int .i64 0] #[.int .i64 clz.id, .int .i64 clz.par, .bool clz.leaf, .int .u64 clz.ra, .int .u64 clz.rb, .int .u64 clz.rc, .int .u64 clz.la, .int .u64 clz.lb, .int .u64 clz.lc, .int .u64 clz.ua, .int .u64 clz.ub, .int .u64 clz.uc, .int .i64 clz.pk, .int .i64 clz.bt] cl_info rfl (cla_one _)) ?_
  simp only [HCl.out, zD, zE]
  have hb : Below w1.heap.size w1 (w1.drew.alloc (.cells #[.int .i64 clz.id, .int .i64 clz.par, .bool clz.leaf, .int .u64 clz.ra, .int .u64 clz.rb, .int .u64 clz.rc, .int .u64 clz.la, .int .u64 clz.lb, .int .u64 clz.lc, .int .u64 clz.ua, .int .u64 clz.ub, .int .u64 clz.uc, .int .i64 clz.pk, .int .i64 clz.bt] 54)) := bub
  have hb2 : Below w.heap.size w (w1.drew.alloc (.cells #[.int .i64 clz.id, .int .i64 clz.par, .bool clz.leaf, .int .u64 clz.ra, .int .u64 clz.rb, .int .u64 clz.rc, .int .u64 clz.la, .int .u64 clz.lb, .int .u64 clz.lc, .int .u64 clz.ua, .int .u64 clz.ub, .int .u64 clz.uc, .int .i64 clz.pk, .int .i64 clz.bt] 54)) := HB1.out.trans (hb.mono HB1.out.size)
  exact ⟨⟨a6_of (HV1.out.bel hb) (H.out.below hb2), HLK.out _ hb2⟩, hb⟩
 clear hu
 simp only [Act.put, Nat.reduceAdd, zA, zB, zC, zD, zE]
 (repeat ((first | (refine Reg2.wS_skip gtb (by rfl) ?_) | (refine Reg2.wS_open gtb (by rfl) (by rfl) ?_; apply Exists.intro; refine ⟨fun vs wq hw => ?_, ?_⟩; (focus (simp only [HCl.out, zD, zE] at hw; go_split_ands; go_simp <;> exact ebb)))); simp only [Act.put, Nat.reduceAdd, zA, zB, zC, zD, zE]))
 refine Reg2.wS_nil ?_; intro w' hw; simp only [HCl.out, zD, zE] at hw; clear HCl
 obtain ⟨⟨⟨hv6, hc6, hp6, hl6, ht6, hs6⟩, -⟩, hb6⟩ := hw
 have HV6 := Lib.hid hv6
 have HB6 : Hid (Below w.heap.size w w') := Lib.hid (HB1.out.trans (hb6.mono HB1.out.size))
 have HT6 := Lib.hid (H.out.below HB6.out)
 clear hv6 hb6
 have hln6 := HLN.out _ HB6.out
 go_wp2_with (first
  | go_guarded
  | fail)
 go_ret
 exact ⟨rfl, HB6.out⟩
theorem add_cls {w : World} {tb mb : Nat} {f : Int → Option Cls} {L : List Int} (h : HT w tb mb f) (I : TI f L) {c : Cls} (hi : CIn c) (hr : ∀ z, Calls Try.prog 51 #[.agg #[.int .i64 c.id, .int .i64 c.par, .bool c.leaf, .int .u64 c.ra, .int .u64 c.rb, .int .u64 c.rc, .int .u64 c.la, .int .u64 c.lb, .int .u64 c.lc, .int .u64 c.ua, .int .u64 c.ub, .int .u64 c.uc, .int .i64 c.pk, .int .i64 c.bt]] z fun ee w' => ee = .returned (.int .i64 0) ∧ Below z.heap.size z w') (hs : f c.id = none) (hl : L.length < 64) (hho : hol f c.par = false) :
  Calls Try.prog 26 #[.pointer (some ⟨tb, 0, none⟩), .agg #[.int .i64 c.id, .int .i64 c.par, .bool c.leaf, .int .u64 c.ra, .int .u64 c.rb, .int .u64 c.rc, .int .u64 c.la, .int .u64 c.lb, .int .u64 c.lc, .int .u64 c.ua, .int .u64 c.ub, .int .u64 c.uc, .int .i64 c.pk, .int .i64 c.bt]] w fun ee w' => ee = .returned (.int .i64 23) ∧ Below w.heap.size w w' := by
 have hlk : ∀ z, Below w.heap.size w z → (Instr.lookup 85 (.map (some mb)) (.int .i64 c.id) true).run Try.prog z = .ok (.tuple #[.agg #[.int .i64 ((clz)).id, .int .i64 ((clz)).par, .bool ((clz)).leaf, .int .u64 ((clz)).ra, .int .u64 ((clz)).rb, .int .u64 ((clz)).rc, .int .u64 ((clz)).la, .int .u64 ((clz)).lb, .int .u64 ((clz)).lc, .int .u64 ((clz)).ua, .int .u64 ((clz)).ub, .int .u64 ((clz)).uc, .int .i64 ((clz)).pk, .int .i64 ((clz)).bt], .bool false]) z := fun z hz => by
  have := (h.below hz).look hi.id true
  rw [hs] at this
  exact this
 have HLK := Lib.hid hlk
 clear hlk
 have hln : ∀ z, Below w.heap.size w z → ∀ ty, (Builtin.len_ #[85] ty #[.map (some mb)]).run Try.prog z = .ok (.int .i64 L.length) z := fun z hz ty => by
  obtain ⟨n, hn⟩ := (h.below hz).mp
  exact hn.len ikv_inj Try.underlying85 L (nd_lt I.srt) (fun x => (I.mem x).symm) ty
 obtain ⟨n, hn⟩ : ∃ n, L.length = n := ⟨_, rfl⟩
 rw [hn] at hln hl
 have HLN := Lib.hid hln
 clear hln
 have q1 : decide ((64 : Int) ≤ (n : Int)) = false := by simp; omega
 have q2 : decide (64 ≤ n) = false := by simp; omega
 have hkh : ∀ z, Below w.heap.size w z → Calls Try.prog 52 #[.pointer (some ⟨tb, 0, none⟩), .int .i64 c.par] z fun ee w' => ee = .returned (.bool false) ∧ Below z.heap.size z w' := fun z hz => by
  have := holds_c (h.below hz) hi.par
  rw [hho] at this
  exact this
 have KH := Lib.hid hkh
 clear hkh
 have hW0 : VR (w.alloc (.cells #[.int .i64 c.id, .int .i64 c.par, .bool c.leaf, .int .u64 c.ra, .int .u64 c.rb, .int .u64 c.rc, .int .u64 c.la, .int .u64 c.lb, .int .u64 c.lc, .int .u64 c.ua, .int .u64 c.ub, .int .u64 c.uc, .int .i64 c.pk, .int .i64 c.bt] 54)) w.heap.size 54 #[.int .i64 c.id, .int .i64 c.par, .bool c.leaf, .int .u64 c.ra, .int .u64 c.rb, .int .u64 c.rc, .int .u64 c.la, .int .u64 c.lb, .int .u64 c.lc, .int .u64 c.ua, .int .u64 c.ub, .int .u64 c.uc, .int .i64 c.pk, .int .i64 c.bt] := VR.new _ _ _
 have hB0 : Below w.heap.size w (w.alloc (.cells #[.int .i64 c.id, .int .i64 c.par, .bool c.leaf, .int .u64 c.ra, .int .u64 c.rb, .int .u64 c.rc, .int .u64 c.la, .int .u64 c.lb, .int .u64 c.lc, .int .u64 c.ua, .int .u64 c.ub, .int .u64 c.uc, .int .i64 c.pk, .int .i64 c.bt] 54)) := bub
 have HV0 := Lib.hid hW0
 have HB0 := Lib.hid hB0
 have H := Lib.hid h
 have HI := Lib.hid hi
 have INF := Lib.hid cl_info
 have ONE := Lib.hid cla_one
 have KR := Lib.hid (fun z => hr z)
 clear hW0 hB0 hr
 clear h hi hs I hn hl hho
 go_enter Try.func26, Try.ntmps26
 go_wp2_with (first
  | go_guarded
  | (refine wpList_var_get rfl 54 _ rfl w.heap.size #[.int .i64 c.id, .int .i64 c.par, .bool c.leaf, .int .u64 c.ra, .int .u64 c.rb, .int .u64 c.rc, .int .u64 c.la, .int .u64 c.lb, .int .u64 c.lc, .int .u64 c.ua, .int .u64 c.ub, .int .u64 c.uc, .int .i64 c.pk, .int .i64 c.bt] _ HV0.out rfl Try.underlying54 rfl INF.out ?_)
  | (go_at_call 51; (with_reducible refine (KR.out _).mono ?_); rintro _ w1 ⟨rfl, hbel⟩; have HV1 := Lib.hid (HV0.out.bel hbel); have HB1 : Hid (Below w.heap.size w w1) := Lib.hid (HB0.out.trans (hbel.mono HB0.out.size)); have HT1 := Lib.hid (H.out.below HB1.out); clear hbel))
 have ht1 : HT w1.drew tb mb f := H.out.below (HB1.out.drew)
 have hlk1 : (Instr.lookup 85 (.map (some mb)) (.int .i64 c.id) true).run Try.prog w1.drew = .ok (.tuple #[.agg #[.int .i64 clz.id, .int .i64 clz.par, .bool clz.leaf, .int .u64 clz.ra, .int .u64 clz.rb, .int .u64 clz.rc, .int .u64 clz.la, .int .u64 clz.lb, .int .u64 clz.lc, .int .u64 clz.ua, .int .u64 clz.ub, .int .u64 clz.uc, .int .i64 clz.pk, .int .i64 clz.bt], .bool false]) w1.drew := HLK.out _ HB1.out.drew
 obtain ⟨Cl, hCl⟩ : ∃ Cl : List (Nat × Value) → World → Prop, Cl = ((fun ps wz => ((VR wz w.heap.size 54 #[.int .i64 c.id, .int .i64 c.par, .bool c.leaf, .int .u64 c.ra, .int .u64 c.rb, .int .u64 c.rc, .int .u64 c.la, .int .u64 c.lb, .int .u64 c.lc, .int .u64 c.ua, .int .u64 c.ub, .int .u64 c.uc, .int .i64 c.pk, .int .i64 c.bt] ∧ wz.cell? ⟨w.heap.size, 0, none⟩ = some (.int .i64 c.id) ∧ wz.cell? ⟨w.heap.size, 1, none⟩ = some (.int .i64 c.par) ∧ w.heap.size < wz.heap.size ∧ wz.cell? ⟨tb, 0, none⟩ = some (.map (some mb)) ∧ tb < wz.heap.size) ∧ (Instr.lookup 85 (.map (some mb)) (.int .i64 c.id) true).run Try.prog wz = .ok (.tuple #[.agg #[.int .i64 clz.id, .int .i64 clz.par, .bool clz.leaf, .int .u64 clz.ra, .int .u64 clz.rb, .int .u64 clz.rc, .int .u64 clz.la, .int .u64 clz.lb, .int .u64 clz.lc, .int .u64 clz.ua, .int .u64 clz.ub, .int .u64 clz.uc, .int .i64 clz.pk, .int .i64 clz.bt], .bool false]) wz) ∧ (match ps with
  | [] => wz = w1.drew
  | [(_, p)] => p = .pointer (some ⟨w1.heap.size, 0, none⟩) ∧ wz = w1.drew.alloc (.cells #[.int .i64 0, .int .i64 0, .bool false, .int .u64 0, .int .u64 0, .int .u64 0, .int .u64 0, .int .u64 0, .int .u64 0, .int .u64 0, .int .u64 0, .int .u64 0, .int .i64 0, .int .i64 0] 54)
  | [_, _] => Below w1.heap.size w1 wz
  | _ => True))) := ⟨_, rfl⟩; have HCl := Lib.hid hCl; clear hCl; refine Reg2.wp_region_lineS [(0, false), (1, false), (2, false), (3, false), (4, false), (5, false), (6, false), (7, false), (8, false), (9, false), (10, false), (11, false), (12, false)] [10, 11] Cl (by kernel_rfl) (by kernel_rfl) (by kernel_rfl) (by simp only [HCl.out, zD, zE]; exact ⟨⟨a6_of (HV1.out.frame rfl) ht1, hlk1⟩, (by first | rfl | trivial)⟩) ?_
 clear ht1 hlk1
 (repeat ((first | (refine Reg2.wS_skip gtb (by rfl) ?_) | (refine Reg2.wS_open gtb (by rfl) (by rfl) ?_; apply Exists.intro; refine ⟨fun vs wq hw => ?_, ?_⟩; (focus (simp only [HCl.out, zD, zE] at hw; go_split_ands; go_simp <;> exact ebb)))); simp only [Act.put, Nat.reduceAdd, zA, zB, zC, zD, zE]))
 refine Reg2.wS_eff gtb (by rfl) (by rfl) (fun wq hw => ?_) (fun u9 hu => ?_)
 focus
  simp only [HCl.out, zD, zE] at hw
  obtain ⟨⟨hA, -⟩, rfl⟩ := hw
  have hb : Below w1.heap.size w1 (w1.drew.alloc (.cells #[.int .i64 0, .int .i64 0, .bool false, .int .u64 0, .int .u64 0, .int .u64 0, .int .u64 0, .int .u64 0, .int .u64 0, .int .u64 0, .int .u64 0, .int .u64 0, .int .i64 0, .int .i64 0] 54)) := bub
  have hb2 : Below w.heap.size w (w1.drew.alloc (.cells #[.int .i64 0, .int .i64 0, .bool false, .int .u64 0, .int .u64 0, .int .u64 0, .int .u64 0, .int .u64 0, .int .u64 0, .int .u64 0, .int .u64 0, .int .u64 0, .int .i64 0, .int .i64 0] 54)) := HB1.out.trans (hb.mono HB1.out.size)
  refine effv_alloc 54 rfl (cl_alloc _) ?_
  simp only [HCl.out, zD, zE]
  exact ⟨⟨a6_of (HV1.out.bel hb) (H.out.below hb2), HLK.out _ hb2⟩, rfl, (by first | rfl | trivial)⟩
 (obtain ⟨wz, hz⟩ := hu; rw [HCl.out] at hz; (try simp only [List.nil_append, List.cons_append] at hz); (try dsimp only at hz))
 obtain ⟨-, rfl, -⟩ := hz
 clear wz
 simp only [Act.put, Nat.reduceAdd, zA, zB, zC, zD, zE]
 (repeat ((first | (refine Reg2.wS_skip gtb (by rfl) ?_) | (refine Reg2.wS_open gtb (by rfl) (by rfl) ?_; apply Exists.intro; refine ⟨fun vs wq hw => ?_, ?_⟩; (focus (simp only [HCl.out, zD, zE] at hw; go_split_ands; go_simp <;> exact ebb)))); simp only [Act.put, Nat.reduceAdd, zA, zB, zC, zD, zE]))
 refine Reg2.wS_eff gtb (by rfl) (by rfl) (fun wq hw => ?_) (fun u9 hu => ?_)
 focus
  simp only [HCl.out, zD, zE] at hw
  obtain ⟨⟨hA, -⟩, -, rfl⟩ := hw
  refine effv_store 54 _ _ rfl rfl rfl (run_storeAt_new (P := Try.prog) w1.drew 54 #[.int .i64 0, .int .i64 0, .bool false, .int .u64 0, .int .u64 0, .int .u64 0, .int .u64 0, .int .u64 0, .int .u64 0, .int .u64 0, .int .u64 0, .int .u64 0, .int .i64 0, .int .i64 0] #[.int .i64 clz.id, .int .i64 clz.par, .bool clz.leaf, .int .u64 clz.ra, .int .u64 clz.rb, .int .u64 clz.rc, .int .u64 clz.la, .int .u64 clz.lb, .int .u64 clz.lc, .int .u64 clz.ua, .int .u64 clz.ub, .int .u64 clz.uc, .int .i64 clz.pk, .int .i64 clz.bt] cl_info rfl (cla_one _)) ?_
  simp only [HCl.out, zD, zE]
  have hb : Below w1.heap.size w1 (w1.drew.alloc (.cells #[.int .i64 clz.id, .int .i64 clz.par, .bool clz.leaf, .int .u64 clz.ra, .int .u64 clz.rb, .int .u64 clz.rc, .int .u64 clz.la, .int .u64 clz.lb, .int .u64 clz.lc, .int .u64 clz.ua, .int .u64 clz.ub, .int .u64 clz.uc, .int .i64 clz.pk, .int .i64 clz.bt] 54)) := bub
  have hb2 : Below w.heap.size w (w1.drew.alloc (.cells #[.int .i64 clz.id, .int .i64 clz.par, .bool clz.leaf, .int .u64 clz.ra, .int .u64 clz.rb, .int .u64 clz.rc, .int .u64 clz.la, .int .u64 clz.lb, .int .u64 clz.lc, .int .u64 clz.ua, .int .u64 clz.ub, .int .u64 clz.uc, .int .i64 clz.pk, .int .i64 clz.bt] 54)) := HB1.out.trans (hb.mono HB1.out.size)
  exact ⟨⟨a6_of (HV1.out.bel hb) (H.out.below hb2), HLK.out _ hb2⟩, hb⟩
 clear hu
 simp only [Act.put, Nat.reduceAdd, zA, zB, zC, zD, zE]
 (repeat ((first | (refine Reg2.wS_skip gtb (by rfl) ?_) | (refine Reg2.wS_open gtb (by rfl) (by rfl) ?_; apply Exists.intro; refine ⟨fun vs wq hw => ?_, ?_⟩; (focus (simp only [HCl.out, zD, zE] at hw; go_split_ands; go_simp <;> exact ebb)))); simp only [Act.put, Nat.reduceAdd, zA, zB, zC, zD, zE]))
 refine Reg2.wS_nil ?_; intro w' hw; simp only [HCl.out, zD, zE] at hw; clear HCl
 obtain ⟨⟨⟨hv6, hc6, hp6, hl6, ht6, hs6⟩, -⟩, hb6⟩ := hw
 have HV6 := Lib.hid hv6
 have HB6 : Hid (Below w.heap.size w w') := Lib.hid (HB1.out.trans (hb6.mono HB1.out.size))
 have HT6 := Lib.hid (H.out.below HB6.out)
 clear hv6 hb6
 have hln6 := HLN.out _ HB6.out
 go_wp2_with (first
  | go_guarded
  | (go_at_call 52; (with_reducible refine (KH.out _ HB6.out).mono ?_); rintro _ w7 ⟨rfl, hbel⟩; have HV7 := Lib.hid (HV6.out.bel hbel); have HB7 : Hid (Below w.heap.size w w7) := Lib.hid (HB6.out.trans (hbel.mono HB6.out.size)); have p7 := HV7.out.cell 1 rfl; have l7 := HV7.out.lt; clear hbel))
 go_ret
 exact ⟨rfl, HB7.out⟩
theorem add_lsh {w : World} {tb mb : Nat} {f : Int → Option Cls} {L : List Int} (h : HT w tb mb f) (I : TI f L) {c : Cls} (hi : CIn c) (hr : ∀ z, Calls Try.prog 51 #[.agg #[.int .i64 c.id, .int .i64 c.par, .bool c.leaf, .int .u64 c.ra, .int .u64 c.rb, .int .u64 c.rc, .int .u64 c.la, .int .u64 c.lb, .int .u64 c.lc, .int .u64 c.ua, .int .u64 c.ub, .int .u64 c.uc, .int .i64 c.pk, .int .i64 c.bt]] z fun ee w' => ee = .returned (.int .i64 0) ∧ Below z.heap.size z w') (hs : f c.id = none) (hl : L.length < 64) (hho : hol f c.par = true) (hsh : sh1 c = true) (hsa : shA f c.par = false) :
  Calls Try.prog 26 #[.pointer (some ⟨tb, 0, none⟩), .agg #[.int .i64 c.id, .int .i64 c.par, .bool c.leaf, .int .u64 c.ra, .int .u64 c.rb, .int .u64 c.rc, .int .u64 c.la, .int .u64 c.lb, .int .u64 c.lc, .int .u64 c.ua, .int .u64 c.ub, .int .u64 c.uc, .int .i64 c.pk, .int .i64 c.bt]] w fun ee w' => ee = .returned (.int .i64 29) ∧ Below w.heap.size w w' := by
 have hlk : ∀ z, Below w.heap.size w z → (Instr.lookup 85 (.map (some mb)) (.int .i64 c.id) true).run Try.prog z = .ok (.tuple #[.agg #[.int .i64 ((clz)).id, .int .i64 ((clz)).par, .bool ((clz)).leaf, .int .u64 ((clz)).ra, .int .u64 ((clz)).rb, .int .u64 ((clz)).rc, .int .u64 ((clz)).la, .int .u64 ((clz)).lb, .int .u64 ((clz)).lc, .int .u64 ((clz)).ua, .int .u64 ((clz)).ub, .int .u64 ((clz)).uc, .int .i64 ((clz)).pk, .int .i64 ((clz)).bt], .bool false]) z := fun z hz => by
  have := (h.below hz).look hi.id true
  rw [hs] at this
  exact this
 have HLK := Lib.hid hlk
 clear hlk
 have hln : ∀ z, Below w.heap.size w z → ∀ ty, (Builtin.len_ #[85] ty #[.map (some mb)]).run Try.prog z = .ok (.int .i64 L.length) z := fun z hz ty => by
  obtain ⟨n, hn⟩ := (h.below hz).mp
  exact hn.len ikv_inj Try.underlying85 L (nd_lt I.srt) (fun x => (I.mem x).symm) ty
 obtain ⟨n, hn⟩ : ∃ n, L.length = n := ⟨_, rfl⟩
 rw [hn] at hln hl
 have HLN := Lib.hid hln
 clear hln
 have q1 : decide ((64 : Int) ≤ (n : Int)) = false := by simp; omega
 have q2 : decide (64 ≤ n) = false := by simp; omega
 have hkh : ∀ z, Below w.heap.size w z → Calls Try.prog 52 #[.pointer (some ⟨tb, 0, none⟩), .int .i64 c.par] z fun ee w' => ee = .returned (.bool true) ∧ Below z.heap.size z w' := fun z hz => by
  have := holds_c (h.below hz) hi.par
  rw [hho] at this
  exact this
 have KH := Lib.hid hkh
 clear hkh
 have KS := Lib.hid (fun z => by have := cshares_c hi z; rw [hsh] at this; exact this)
 have hka : ∀ z, Below w.heap.size w z → Calls Try.prog 53 #[.pointer (some ⟨tb, 0, none⟩), .int .i64 c.par] z fun ee w' => ee = .returned (.bool false) ∧ Below z.heap.size z w' := fun z hz => by
  have := sharesAt_c (h.below hz) hi.par (fun hne => hol_in I hho hne)
  rw [hsa] at this
  exact this
 have KA := Lib.hid hka
 clear hka
 have hW0 : VR (w.alloc (.cells #[.int .i64 c.id, .int .i64 c.par, .bool c.leaf, .int .u64 c.ra, .int .u64 c.rb, .int .u64 c.rc, .int .u64 c.la, .int .u64 c.lb, .int .u64 c.lc, .int .u64 c.ua, .int .u64 c.ub, .int .u64 c.uc, .int .i64 c.pk, .int .i64 c.bt] 54)) w.heap.size 54 #[.int .i64 c.id, .int .i64 c.par, .bool c.leaf, .int .u64 c.ra, .int .u64 c.rb, .int .u64 c.rc, .int .u64 c.la, .int .u64 c.lb, .int .u64 c.lc, .int .u64 c.ua, .int .u64 c.ub, .int .u64 c.uc, .int .i64 c.pk, .int .i64 c.bt] := VR.new _ _ _
 have hB0 : Below w.heap.size w (w.alloc (.cells #[.int .i64 c.id, .int .i64 c.par, .bool c.leaf, .int .u64 c.ra, .int .u64 c.rb, .int .u64 c.rc, .int .u64 c.la, .int .u64 c.lb, .int .u64 c.lc, .int .u64 c.ua, .int .u64 c.ub, .int .u64 c.uc, .int .i64 c.pk, .int .i64 c.bt] 54)) := bub
 have HV0 := Lib.hid hW0
 have HB0 := Lib.hid hB0
 have H := Lib.hid h
 have HI := Lib.hid hi
 have INF := Lib.hid cl_info
 have ONE := Lib.hid cla_one
 have KR := Lib.hid (fun z => hr z)
 clear hW0 hB0 hr
 clear h hi hs I hn hl hho hsh hsa
 go_enter Try.func26, Try.ntmps26
 go_wp2_with (first
  | go_guarded
  | (refine wpList_var_get rfl 54 _ rfl w.heap.size #[.int .i64 c.id, .int .i64 c.par, .bool c.leaf, .int .u64 c.ra, .int .u64 c.rb, .int .u64 c.rc, .int .u64 c.la, .int .u64 c.lb, .int .u64 c.lc, .int .u64 c.ua, .int .u64 c.ub, .int .u64 c.uc, .int .i64 c.pk, .int .i64 c.bt] _ HV0.out rfl Try.underlying54 rfl INF.out ?_)
  | (go_at_call 51; (with_reducible refine (KR.out _).mono ?_); rintro _ w1 ⟨rfl, hbel⟩; have HV1 := Lib.hid (HV0.out.bel hbel); have HB1 : Hid (Below w.heap.size w w1) := Lib.hid (HB0.out.trans (hbel.mono HB0.out.size)); have HT1 := Lib.hid (H.out.below HB1.out); clear hbel))
 have ht1 : HT w1.drew tb mb f := H.out.below (HB1.out.drew)
 have hlk1 : (Instr.lookup 85 (.map (some mb)) (.int .i64 c.id) true).run Try.prog w1.drew = .ok (.tuple #[.agg #[.int .i64 clz.id, .int .i64 clz.par, .bool clz.leaf, .int .u64 clz.ra, .int .u64 clz.rb, .int .u64 clz.rc, .int .u64 clz.la, .int .u64 clz.lb, .int .u64 clz.lc, .int .u64 clz.ua, .int .u64 clz.ub, .int .u64 clz.uc, .int .i64 clz.pk, .int .i64 clz.bt], .bool false]) w1.drew := HLK.out _ HB1.out.drew
 obtain ⟨Cl, hCl⟩ : ∃ Cl : List (Nat × Value) → World → Prop, Cl = ((fun ps wz => ((VR wz w.heap.size 54 #[.int .i64 c.id, .int .i64 c.par, .bool c.leaf, .int .u64 c.ra, .int .u64 c.rb, .int .u64 c.rc, .int .u64 c.la, .int .u64 c.lb, .int .u64 c.lc, .int .u64 c.ua, .int .u64 c.ub, .int .u64 c.uc, .int .i64 c.pk, .int .i64 c.bt] ∧ wz.cell? ⟨w.heap.size, 0, none⟩ = some (.int .i64 c.id) ∧ wz.cell? ⟨w.heap.size, 1, none⟩ = some (.int .i64 c.par) ∧ w.heap.size < wz.heap.size ∧ wz.cell? ⟨tb, 0, none⟩ = some (.map (some mb)) ∧ tb < wz.heap.size) ∧ (Instr.lookup 85 (.map (some mb)) (.int .i64 c.id) true).run Try.prog wz = .ok (.tuple #[.agg #[.int .i64 clz.id, .int .i64 clz.par, .bool clz.leaf, .int .u64 clz.ra, .int .u64 clz.rb, .int .u64 clz.rc, .int .u64 clz.la, .int .u64 clz.lb, .int .u64 clz.lc, .int .u64 clz.ua, .int .u64 clz.ub, .int .u64 clz.uc, .int .i64 clz.pk, .int .i64 clz.bt], .bool false]) wz) ∧ (match ps with
  | [] => wz = w1.drew
  | [(_, p)] => p = .pointer (some ⟨w1.heap.size, 0, none⟩) ∧ wz = w1.drew.alloc (.cells #[.int .i64 0, .int .i64 0, .bool false, .int .u64 0, .int .u64 0, .int .u64 0, .int .u64 0, .int .u64 0, .int .u64 0, .int .u64 0, .int .u64 0, .int .u64 0, .int .i64 0, .int .i64 0] 54)
  | [_, _] => Below w1.heap.size w1 wz
  | _ => True))) := ⟨_, rfl⟩; have HCl := Lib.hid hCl; clear hCl; refine Reg2.wp_region_lineS [(0, false), (1, false), (2, false), (3, false), (4, false), (5, false), (6, false), (7, false), (8, false), (9, false), (10, false), (11, false), (12, false)] [10, 11] Cl (by kernel_rfl) (by kernel_rfl) (by kernel_rfl) (by simp only [HCl.out, zD, zE]; exact ⟨⟨a6_of (HV1.out.frame rfl) ht1, hlk1⟩, (by first | rfl | trivial)⟩) ?_
 clear ht1 hlk1
 (repeat ((first | (refine Reg2.wS_skip gtb (by rfl) ?_) | (refine Reg2.wS_open gtb (by rfl) (by rfl) ?_; apply Exists.intro; refine ⟨fun vs wq hw => ?_, ?_⟩; (focus (simp only [HCl.out, zD, zE] at hw; go_split_ands; go_simp <;> exact ebb)))); simp only [Act.put, Nat.reduceAdd, zA, zB, zC, zD, zE]))
 refine Reg2.wS_eff gtb (by rfl) (by rfl) (fun wq hw => ?_) (fun u9 hu => ?_)
 focus
  simp only [HCl.out, zD, zE] at hw
  obtain ⟨⟨hA, -⟩, rfl⟩ := hw
  have hb : Below w1.heap.size w1 (w1.drew.alloc (.cells #[.int .i64 0, .int .i64 0, .bool false, .int .u64 0, .int .u64 0, .int .u64 0, .int .u64 0, .int .u64 0, .int .u64 0, .int .u64 0, .int .u64 0, .int .u64 0, .int .i64 0, .int .i64 0] 54)) := bub
  have hb2 : Below w.heap.size w (w1.drew.alloc (.cells #[.int .i64 0, .int .i64 0, .bool false, .int .u64 0, .int .u64 0, .int .u64 0, .int .u64 0, .int .u64 0, .int .u64 0, .int .u64 0, .int .u64 0, .int .u64 0, .int .i64 0, .int .i64 0] 54)) := HB1.out.trans (hb.mono HB1.out.size)
  refine effv_alloc 54 rfl (cl_alloc _) ?_
  simp only [HCl.out, zD, zE]
  exact ⟨⟨a6_of (HV1.out.bel hb) (H.out.below hb2), HLK.out _ hb2⟩, rfl, (by first | rfl | trivial)⟩
 (obtain ⟨wz, hz⟩ := hu; rw [HCl.out] at hz; (try simp only [List.nil_append, List.cons_append] at hz); (try dsimp only at hz))
 obtain ⟨-, rfl, -⟩ := hz
 clear wz
 simp only [Act.put, Nat.reduceAdd, zA, zB, zC, zD, zE]
 (repeat ((first | (refine Reg2.wS_skip gtb (by rfl) ?_) | (refine Reg2.wS_open gtb (by rfl) (by rfl) ?_; apply Exists.intro; refine ⟨fun vs wq hw => ?_, ?_⟩; (focus (simp only [HCl.out, zD, zE] at hw; go_split_ands; go_simp <;> exact ebb)))); simp only [Act.put, Nat.reduceAdd, zA, zB, zC, zD, zE]))
 refine Reg2.wS_eff gtb (by rfl) (by rfl) (fun wq hw => ?_) (fun u9 hu => ?_)
 focus
  simp only [HCl.out, zD, zE] at hw
  obtain ⟨⟨hA, -⟩, -, rfl⟩ := hw
  refine effv_store 54 _ _ rfl rfl rfl (run_storeAt_new (P := Try.prog) w1.drew 54 #[.int .i64 0, .int .i64 0, .bool false, .int .u64 0, .int .u64 0, .int .u64 0, .int .u64 0, .int .u64 0, .int .u64 0, .int .u64 0, .int .u64 0, .int .u64 0, .int .i64 0, .int .i64 0] #[.int .i64 clz.id, .int .i64 clz.par, .bool clz.leaf, .int .u64 clz.ra, .int .u64 clz.rb, .int .u64 clz.rc, .int .u64 clz.la, .int .u64 clz.lb, .int .u64 clz.lc, .int .u64 clz.ua, .int .u64 clz.ub, .int .u64 clz.uc, .int .i64 clz.pk, .int .i64 clz.bt] cl_info rfl (cla_one _)) ?_
  simp only [HCl.out, zD, zE]
  have hb : Below w1.heap.size w1 (w1.drew.alloc (.cells #[.int .i64 clz.id, .int .i64 clz.par, .bool clz.leaf, .int .u64 clz.ra, .int .u64 clz.rb, .int .u64 clz.rc, .int .u64 clz.la, .int .u64 clz.lb, .int .u64 clz.lc, .int .u64 clz.ua, .int .u64 clz.ub, .int .u64 clz.uc, .int .i64 clz.pk, .int .i64 clz.bt] 54)) := bub
  have hb2 : Below w.heap.size w (w1.drew.alloc (.cells #[.int .i64 clz.id, .int .i64 clz.par, .bool clz.leaf, .int .u64 clz.ra, .int .u64 clz.rb, .int .u64 clz.rc, .int .u64 clz.la, .int .u64 clz.lb, .int .u64 clz.lc, .int .u64 clz.ua, .int .u64 clz.ub, .int .u64 clz.uc, .int .i64 clz.pk, .int .i64 clz.bt] 54)) := HB1.out.trans (hb.mono HB1.out.size)
  exact ⟨⟨a6_of (HV1.out.bel hb) (H.out.below hb2), HLK.out _ hb2⟩, hb⟩
 clear hu
 simp only [Act.put, Nat.reduceAdd, zA, zB, zC, zD, zE]
 (repeat ((first | (refine Reg2.wS_skip gtb (by rfl) ?_) | (refine Reg2.wS_open gtb (by rfl) (by rfl) ?_; apply Exists.intro; refine ⟨fun vs wq hw => ?_, ?_⟩; (focus (simp only [HCl.out, zD, zE] at hw; go_split_ands; go_simp <;> exact ebb)))); simp only [Act.put, Nat.reduceAdd, zA, zB, zC, zD, zE]))
 refine Reg2.wS_nil ?_; intro w' hw; simp only [HCl.out, zD, zE] at hw; clear HCl
 obtain ⟨⟨⟨hv6, hc6, hp6, hl6, ht6, hs6⟩, -⟩, hb6⟩ := hw
 have HV6 := Lib.hid hv6
 have HB6 : Hid (Below w.heap.size w w') := Lib.hid (HB1.out.trans (hb6.mono HB1.out.size))
 have HT6 := Lib.hid (H.out.below HB6.out)
 clear hv6 hb6
 have hln6 := HLN.out _ HB6.out
 go_wp2_with (first
  | go_guarded
  | (go_at_call 52; (with_reducible refine (KH.out _ HB6.out).mono ?_); rintro _ w7 ⟨rfl, hbel⟩; have HV7 := Lib.hid (HV6.out.bel hbel); have HB7 : Hid (Below w.heap.size w w7) := Lib.hid (HB6.out.trans (hbel.mono HB6.out.size)); have p7 := HV7.out.cell 1 rfl; have l7 := HV7.out.lt; clear hbel)
  | (refine wpList_var_get rfl 54 _ rfl w.heap.size #[.int .i64 c.id, .int .i64 c.par, .bool c.leaf, .int .u64 c.ra, .int .u64 c.rb, .int .u64 c.rc, .int .u64 c.la, .int .u64 c.lb, .int .u64 c.lc, .int .u64 c.ua, .int .u64 c.ub, .int .u64 c.uc, .int .i64 c.pk, .int .i64 c.bt] _ HV7.out rfl Try.underlying54 rfl INF.out ?_)
  | (go_at_call 33; (with_reducible refine (KS.out _).mono ?_); rintro _ w8 ⟨rfl, hbel⟩; have HV8 := Lib.hid (HV7.out.bel hbel); have HB8 : Hid (Below w.heap.size w w8) := Lib.hid (HB7.out.trans (hbel.mono HB7.out.size)); have p8 := HV8.out.cell 1 rfl; have l8 := HV8.out.lt; clear hbel)
  | (go_at_call 53; (with_reducible refine (KA.out _ HB8.out).mono ?_); rintro _ w9 ⟨rfl, hbel⟩; have HV9 := Lib.hid (HV8.out.bel hbel); have HB9 : Hid (Below w.heap.size w w9) := Lib.hid (HB8.out.trans (hbel.mono HB8.out.size)); have p9 := HV9.out.cell 1 rfl; have l9 := HV9.out.lt; clear hbel))
 go_ret
 exact ⟨rfl, HB9.out⟩
theorem add_dp1 {w : World} {tb mb : Nat} {f : Int → Option Cls} {L : List Int} (h : HT w tb mb f) (I : TI f L) {c : Cls} (hi : CIn c) (hr : ∀ z, Calls Try.prog 51 #[.agg #[.int .i64 c.id, .int .i64 c.par, .bool c.leaf, .int .u64 c.ra, .int .u64 c.rb, .int .u64 c.rc, .int .u64 c.la, .int .u64 c.lb, .int .u64 c.lc, .int .u64 c.ua, .int .u64 c.ub, .int .u64 c.uc, .int .i64 c.pk, .int .i64 c.bt]] z fun ee w' => ee = .returned (.int .i64 0) ∧ Below z.heap.size z w') (hs : f c.id = none) (hl : L.length < 64) (hho : hol f c.par = true) (hsh : sh1 c = true) (hsa : shA f c.par = true) (hd : 16 ≤ (upl f 16 c.par).length) :
  Calls Try.prog 26 #[.pointer (some ⟨tb, 0, none⟩), .agg #[.int .i64 c.id, .int .i64 c.par, .bool c.leaf, .int .u64 c.ra, .int .u64 c.rb, .int .u64 c.rc, .int .u64 c.la, .int .u64 c.lb, .int .u64 c.lc, .int .u64 c.ua, .int .u64 c.ub, .int .u64 c.uc, .int .i64 c.pk, .int .i64 c.bt]] w fun ee w' => ee = .returned (.int .i64 25) ∧ Below w.heap.size w w' := by
 have hlk : ∀ z, Below w.heap.size w z → (Instr.lookup 85 (.map (some mb)) (.int .i64 c.id) true).run Try.prog z = .ok (.tuple #[.agg #[.int .i64 ((clz)).id, .int .i64 ((clz)).par, .bool ((clz)).leaf, .int .u64 ((clz)).ra, .int .u64 ((clz)).rb, .int .u64 ((clz)).rc, .int .u64 ((clz)).la, .int .u64 ((clz)).lb, .int .u64 ((clz)).lc, .int .u64 ((clz)).ua, .int .u64 ((clz)).ub, .int .u64 ((clz)).uc, .int .i64 ((clz)).pk, .int .i64 ((clz)).bt], .bool false]) z := fun z hz => by
  have := (h.below hz).look hi.id true
  rw [hs] at this
  exact this
 have HLK := Lib.hid hlk
 clear hlk
 have hln : ∀ z, Below w.heap.size w z → ∀ ty, (Builtin.len_ #[85] ty #[.map (some mb)]).run Try.prog z = .ok (.int .i64 L.length) z := fun z hz ty => by
  obtain ⟨n, hn⟩ := (h.below hz).mp
  exact hn.len ikv_inj Try.underlying85 L (nd_lt I.srt) (fun x => (I.mem x).symm) ty
 obtain ⟨n, hn⟩ : ∃ n, L.length = n := ⟨_, rfl⟩
 rw [hn] at hln hl
 have HLN := Lib.hid hln
 clear hln
 have q1 : decide ((64 : Int) ≤ (n : Int)) = false := by simp; omega
 have q2 : decide (64 ≤ n) = false := by simp; omega
 have hkh : ∀ z, Below w.heap.size w z → Calls Try.prog 52 #[.pointer (some ⟨tb, 0, none⟩), .int .i64 c.par] z fun ee w' => ee = .returned (.bool true) ∧ Below z.heap.size z w' := fun z hz => by
  have := holds_c (h.below hz) hi.par
  rw [hho] at this
  exact this
 have KH := Lib.hid hkh
 clear hkh
 have KS := Lib.hid (fun z => by have := cshares_c hi z; rw [hsh] at this; exact this)
 have hka : ∀ z, Below w.heap.size w z → Calls Try.prog 53 #[.pointer (some ⟨tb, 0, none⟩), .int .i64 c.par] z fun ee w' => ee = .returned (.bool true) ∧ Below z.heap.size z w' := fun z hz => by
  have := sharesAt_c (h.below hz) hi.par (fun hne => hol_in I hho hne)
  rw [hsa] at this
  exact this
 have KA := Lib.hid hka
 clear hka
 have hkd : ∀ z, Below w.heap.size w z → Calls Try.prog 54 #[.pointer (some ⟨tb, 0, none⟩), .int .i64 c.par] z fun ee w' => ee = .returned (.int .i64 (upl f 16 c.par).length) ∧ Below z.heap.size z w' := fun z hz => hdep_c (h.below hz) (fun x cc hcc => ⟨(I.cls x cc hcc).1, (I.cls x cc hcc).2.1.par⟩) 16 (by decide) c.par hi.par (I.dep _)
 have hdl := upl_len f 16 c.par
 obtain ⟨d, hdd⟩ : ∃ d, (upl f 16 c.par).length = d := ⟨_, rfl⟩
 rw [hdd] at hkd hd hdl
 have KD := Lib.hid hkd
 clear hkd
 have q3 : decide ((16 : Int) < (d : Int) + 1) = true := decide_eq_true (by omega)
 have q4 : decide (16 ≤ d) = true := decide_eq_true (by omega)
 have q5 : decide ((16 : Int) ≤ (d : Int)) = true := decide_eq_true (by omega)
 have hW0 : VR (w.alloc (.cells #[.int .i64 c.id, .int .i64 c.par, .bool c.leaf, .int .u64 c.ra, .int .u64 c.rb, .int .u64 c.rc, .int .u64 c.la, .int .u64 c.lb, .int .u64 c.lc, .int .u64 c.ua, .int .u64 c.ub, .int .u64 c.uc, .int .i64 c.pk, .int .i64 c.bt] 54)) w.heap.size 54 #[.int .i64 c.id, .int .i64 c.par, .bool c.leaf, .int .u64 c.ra, .int .u64 c.rb, .int .u64 c.rc, .int .u64 c.la, .int .u64 c.lb, .int .u64 c.lc, .int .u64 c.ua, .int .u64 c.ub, .int .u64 c.uc, .int .i64 c.pk, .int .i64 c.bt] := VR.new _ _ _
 have hB0 : Below w.heap.size w (w.alloc (.cells #[.int .i64 c.id, .int .i64 c.par, .bool c.leaf, .int .u64 c.ra, .int .u64 c.rb, .int .u64 c.rc, .int .u64 c.la, .int .u64 c.lb, .int .u64 c.lc, .int .u64 c.ua, .int .u64 c.ub, .int .u64 c.uc, .int .i64 c.pk, .int .i64 c.bt] 54)) := bub
 have HV0 := Lib.hid hW0
 have HB0 := Lib.hid hB0
 have H := Lib.hid h
 have HI := Lib.hid hi
 have INF := Lib.hid cl_info
 have ONE := Lib.hid cla_one
 have KR := Lib.hid (fun z => hr z)
 clear hW0 hB0 hr
 clear h hi hs I hn hl hho hsh hsa hd hdd
 go_enter Try.func26, Try.ntmps26
 go_wp2_with (first
  | go_guarded
  | (refine wpList_var_get rfl 54 _ rfl w.heap.size #[.int .i64 c.id, .int .i64 c.par, .bool c.leaf, .int .u64 c.ra, .int .u64 c.rb, .int .u64 c.rc, .int .u64 c.la, .int .u64 c.lb, .int .u64 c.lc, .int .u64 c.ua, .int .u64 c.ub, .int .u64 c.uc, .int .i64 c.pk, .int .i64 c.bt] _ HV0.out rfl Try.underlying54 rfl INF.out ?_)
  | (go_at_call 51; (with_reducible refine (KR.out _).mono ?_); rintro _ w1 ⟨rfl, hbel⟩; have HV1 := Lib.hid (HV0.out.bel hbel); have HB1 : Hid (Below w.heap.size w w1) := Lib.hid (HB0.out.trans (hbel.mono HB0.out.size)); have HT1 := Lib.hid (H.out.below HB1.out); clear hbel))
 have ht1 : HT w1.drew tb mb f := H.out.below (HB1.out.drew)
 have hlk1 : (Instr.lookup 85 (.map (some mb)) (.int .i64 c.id) true).run Try.prog w1.drew = .ok (.tuple #[.agg #[.int .i64 clz.id, .int .i64 clz.par, .bool clz.leaf, .int .u64 clz.ra, .int .u64 clz.rb, .int .u64 clz.rc, .int .u64 clz.la, .int .u64 clz.lb, .int .u64 clz.lc, .int .u64 clz.ua, .int .u64 clz.ub, .int .u64 clz.uc, .int .i64 clz.pk, .int .i64 clz.bt], .bool false]) w1.drew := HLK.out _ HB1.out.drew
 obtain ⟨Cl, hCl⟩ : ∃ Cl : List (Nat × Value) → World → Prop, Cl = ((fun ps wz => ((VR wz w.heap.size 54 #[.int .i64 c.id, .int .i64 c.par, .bool c.leaf, .int .u64 c.ra, .int .u64 c.rb, .int .u64 c.rc, .int .u64 c.la, .int .u64 c.lb, .int .u64 c.lc, .int .u64 c.ua, .int .u64 c.ub, .int .u64 c.uc, .int .i64 c.pk, .int .i64 c.bt] ∧ wz.cell? ⟨w.heap.size, 0, none⟩ = some (.int .i64 c.id) ∧ wz.cell? ⟨w.heap.size, 1, none⟩ = some (.int .i64 c.par) ∧ w.heap.size < wz.heap.size ∧ wz.cell? ⟨tb, 0, none⟩ = some (.map (some mb)) ∧ tb < wz.heap.size) ∧ (Instr.lookup 85 (.map (some mb)) (.int .i64 c.id) true).run Try.prog wz = .ok (.tuple #[.agg #[.int .i64 clz.id, .int .i64 clz.par, .bool clz.leaf, .int .u64 clz.ra, .int .u64 clz.rb, .int .u64 clz.rc, .int .u64 clz.la, .int .u64 clz.lb, .int .u64 clz.lc, .int .u64 clz.ua, .int .u64 clz.ub, .int .u64 clz.uc, .int .i64 clz.pk, .int .i64 clz.bt], .bool false]) wz) ∧ (match ps with
  | [] => wz = w1.drew
  | [(_, p)] => p = .pointer (some ⟨w1.heap.size, 0, none⟩) ∧ wz = w1.drew.alloc (.cells #[.int .i64 0, .int .i64 0, .bool false, .int .u64 0, .int .u64 0, .int .u64 0, .int .u64 0, .int .u64 0, .int .u64 0, .int .u64 0, .int .u64 0, .int .u64 0, .int .i64 0, .int .i64 0] 54)
  | [_, _] => Below w1.heap.size w1 wz
  | _ => True))) := ⟨_, rfl⟩; have HCl := Lib.hid hCl; clear hCl; refine Reg2.wp_region_lineS [(0, false), (1, false), (2, false), (3, false), (4, false), (5, false), (6, false), (7, false), (8, false), (9, false), (10, false), (11, false), (12, false)] [10, 11] Cl (by kernel_rfl) (by kernel_rfl) (by kernel_rfl) (by simp only [HCl.out, zD, zE]; exact ⟨⟨a6_of (HV1.out.frame rfl) ht1, hlk1⟩, (by first | rfl | trivial)⟩) ?_
 clear ht1 hlk1
 (repeat ((first | (refine Reg2.wS_skip gtb (by rfl) ?_) | (refine Reg2.wS_open gtb (by rfl) (by rfl) ?_; apply Exists.intro; refine ⟨fun vs wq hw => ?_, ?_⟩; (focus (simp only [HCl.out, zD, zE] at hw; go_split_ands; go_simp <;> exact ebb)))); simp only [Act.put, Nat.reduceAdd, zA, zB, zC, zD, zE]))
 refine Reg2.wS_eff gtb (by rfl) (by rfl) (fun wq hw => ?_) (fun u9 hu => ?_)
 focus
  simp only [HCl.out, zD, zE] at hw
  obtain ⟨⟨hA, -⟩, rfl⟩ := hw
  have hb : Below w1.heap.size w1 (w1.drew.alloc (.cells #[.int .i64 0, .int .i64 0, .bool false, .int .u64 0, .int .u64 0, .int .u64 0, .int .u64 0, .int .u64 0, .int .u64 0, .int .u64 0, .int .u64 0, .int .u64 0, .int .i64 0, .int .i64 0] 54)) := bub
  have hb2 : Below w.heap.size w (w1.drew.alloc (.cells #[.int .i64 0, .int .i64 0, .bool false, .int .u64 0, .int .u64 0, .int .u64 0, .int .u64 0, .int .u64 0, .int .u64 0, .int .u64 0, .int .u64 0, .int .u64 0, .int .i64 0, .int .i64 0] 54)) := HB1.out.trans (hb.mono HB1.out.size)
  refine effv_alloc 54 rfl (cl_alloc _) ?_
  simp only [HCl.out, zD, zE]
  exact ⟨⟨a6_of (HV1.out.bel hb) (H.out.below hb2), HLK.out _ hb2⟩, rfl, (by first | rfl | trivial)⟩
 (obtain ⟨wz, hz⟩ := hu; rw [HCl.out] at hz; (try simp only [List.nil_append, List.cons_append] at hz); (try dsimp only at hz))
 obtain ⟨-, rfl, -⟩ := hz
 clear wz
 simp only [Act.put, Nat.reduceAdd, zA, zB, zC, zD, zE]
 (repeat ((first | (refine Reg2.wS_skip gtb (by rfl) ?_) | (refine Reg2.wS_open gtb (by rfl) (by rfl) ?_; apply Exists.intro; refine ⟨fun vs wq hw => ?_, ?_⟩; (focus (simp only [HCl.out, zD, zE] at hw; go_split_ands; go_simp <;> exact ebb)))); simp only [Act.put, Nat.reduceAdd, zA, zB, zC, zD, zE]))
 refine Reg2.wS_eff gtb (by rfl) (by rfl) (fun wq hw => ?_) (fun u9 hu => ?_)
 focus
  simp only [HCl.out, zD, zE] at hw
  obtain ⟨⟨hA, -⟩, -, rfl⟩ := hw
  refine effv_store 54 _ _ rfl rfl rfl (run_storeAt_new (P := Try.prog) w1.drew 54 #[.int .i64 0, .int .i64 0, .bool false, .int .u64 0, .int .u64 0, .int .u64 0, .int .u64 0, .int .u64 0, .int .u64 0, .int .u64 0, .int .u64 0, .int .u64 0, .int .i64 0, .int .i64 0] #[.int .i64 clz.id, .int .i64 clz.par, .bool clz.leaf, .int .u64 clz.ra, .int .u64 clz.rb, .int .u64 clz.rc, .int .u64 clz.la, .int .u64 clz.lb, .int .u64 clz.lc, .int .u64 clz.ua, .int .u64 clz.ub, .int .u64 clz.uc, .int .i64 clz.pk, .int .i64 clz.bt] cl_info rfl (cla_one _)) ?_
  simp only [HCl.out, zD, zE]
  have hb : Below w1.heap.size w1 (w1.drew.alloc (.cells #[.int .i64 clz.id, .int .i64 clz.par, .bool clz.leaf, .int .u64 clz.ra, .int .u64 clz.rb, .int .u64 clz.rc, .int .u64 clz.la, .int .u64 clz.lb, .int .u64 clz.lc, .int .u64 clz.ua, .int .u64 clz.ub, .int .u64 clz.uc, .int .i64 clz.pk, .int .i64 clz.bt] 54)) := bub
  have hb2 : Below w.heap.size w (w1.drew.alloc (.cells #[.int .i64 clz.id, .int .i64 clz.par, .bool clz.leaf, .int .u64 clz.ra, .int .u64 clz.rb, .int .u64 clz.rc, .int .u64 clz.la, .int .u64 clz.lb, .int .u64 clz.lc, .int .u64 clz.ua, .int .u64 clz.ub, .int .u64 clz.uc, .int .i64 clz.pk, .int .i64 clz.bt] 54)) := HB1.out.trans (hb.mono HB1.out.size)
  exact ⟨⟨a6_of (HV1.out.bel hb) (H.out.below hb2), HLK.out _ hb2⟩, hb⟩
 clear hu
 simp only [Act.put, Nat.reduceAdd, zA, zB, zC, zD, zE]
 (repeat ((first | (refine Reg2.wS_skip gtb (by rfl) ?_) | (refine Reg2.wS_open gtb (by rfl) (by rfl) ?_; apply Exists.intro; refine ⟨fun vs wq hw => ?_, ?_⟩; (focus (simp only [HCl.out, zD, zE] at hw; go_split_ands; go_simp <;> exact ebb)))); simp only [Act.put, Nat.reduceAdd, zA, zB, zC, zD, zE]))
 refine Reg2.wS_nil ?_; intro w' hw; simp only [HCl.out, zD, zE] at hw; clear HCl
 obtain ⟨⟨⟨hv6, hc6, hp6, hl6, ht6, hs6⟩, -⟩, hb6⟩ := hw
 have HV6 := Lib.hid hv6
 have HB6 : Hid (Below w.heap.size w w') := Lib.hid (HB1.out.trans (hb6.mono HB1.out.size))
 have HT6 := Lib.hid (H.out.below HB6.out)
 clear hv6 hb6
 have hln6 := HLN.out _ HB6.out
 go_wp2_with (first
  | go_guarded
  | (go_at_call 52; (with_reducible refine (KH.out _ HB6.out).mono ?_); rintro _ w7 ⟨rfl, hbel⟩; have HV7 := Lib.hid (HV6.out.bel hbel); have HB7 : Hid (Below w.heap.size w w7) := Lib.hid (HB6.out.trans (hbel.mono HB6.out.size)); have p7 := HV7.out.cell 1 rfl; have l7 := HV7.out.lt; clear hbel)
  | (refine wpList_var_get rfl 54 _ rfl w.heap.size #[.int .i64 c.id, .int .i64 c.par, .bool c.leaf, .int .u64 c.ra, .int .u64 c.rb, .int .u64 c.rc, .int .u64 c.la, .int .u64 c.lb, .int .u64 c.lc, .int .u64 c.ua, .int .u64 c.ub, .int .u64 c.uc, .int .i64 c.pk, .int .i64 c.bt] _ HV7.out rfl Try.underlying54 rfl INF.out ?_)
  | (go_at_call 33; (with_reducible refine (KS.out _).mono ?_); rintro _ w8 ⟨rfl, hbel⟩; have HV8 := Lib.hid (HV7.out.bel hbel); have HB8 : Hid (Below w.heap.size w w8) := Lib.hid (HB7.out.trans (hbel.mono HB7.out.size)); have p8 := HV8.out.cell 1 rfl; have l8 := HV8.out.lt; clear hbel)
  | (go_at_call 53; (with_reducible refine (KA.out _ HB8.out).mono ?_); rintro _ w9 ⟨rfl, hbel⟩; have HV9 := Lib.hid (HV8.out.bel hbel); have HB9 : Hid (Below w.heap.size w w9) := Lib.hid (HB8.out.trans (hbel.mono HB8.out.size)); have p9 := HV9.out.cell 1 rfl; have l9 := HV9.out.lt; clear hbel)
  | (go_at_call 54; (with_reducible refine (KD.out _ HB9.out).mono ?_); rintro _ w10 ⟨rfl, hbel⟩; have HV10 := Lib.hid (HV9.out.bel hbel); have HB10 : Hid (Below w.heap.size w w10) := Lib.hid (HB9.out.trans (hbel.mono HB9.out.size)); have HT10 := Lib.hid (H.out.below HB10.out); have t10 := HT10.out.c0; have lt10 := HT10.out.lt; clear hbel))
 go_ret
 exact ⟨rfl, HB10.out⟩
theorem add_dp0 {w : World} {tb mb : Nat} {f : Int → Option Cls} {L : List Int} (h : HT w tb mb f) (I : TI f L) {c : Cls} (hi : CIn c) (hr : ∀ z, Calls Try.prog 51 #[.agg #[.int .i64 c.id, .int .i64 c.par, .bool c.leaf, .int .u64 c.ra, .int .u64 c.rb, .int .u64 c.rc, .int .u64 c.la, .int .u64 c.lb, .int .u64 c.lc, .int .u64 c.ua, .int .u64 c.ub, .int .u64 c.uc, .int .i64 c.pk, .int .i64 c.bt]] z fun ee w' => ee = .returned (.int .i64 0) ∧ Below z.heap.size z w') (hs : f c.id = none) (hl : L.length < 64) (hho : hol f c.par = true) (hsh : sh1 c = false) (hd : 16 ≤ (upl f 16 c.par).length) :
  Calls Try.prog 26 #[.pointer (some ⟨tb, 0, none⟩), .agg #[.int .i64 c.id, .int .i64 c.par, .bool c.leaf, .int .u64 c.ra, .int .u64 c.rb, .int .u64 c.rc, .int .u64 c.la, .int .u64 c.lb, .int .u64 c.lc, .int .u64 c.ua, .int .u64 c.ub, .int .u64 c.uc, .int .i64 c.pk, .int .i64 c.bt]] w fun ee w' => ee = .returned (.int .i64 25) ∧ Below w.heap.size w w' := by
 have hlk : ∀ z, Below w.heap.size w z → (Instr.lookup 85 (.map (some mb)) (.int .i64 c.id) true).run Try.prog z = .ok (.tuple #[.agg #[.int .i64 ((clz)).id, .int .i64 ((clz)).par, .bool ((clz)).leaf, .int .u64 ((clz)).ra, .int .u64 ((clz)).rb, .int .u64 ((clz)).rc, .int .u64 ((clz)).la, .int .u64 ((clz)).lb, .int .u64 ((clz)).lc, .int .u64 ((clz)).ua, .int .u64 ((clz)).ub, .int .u64 ((clz)).uc, .int .i64 ((clz)).pk, .int .i64 ((clz)).bt], .bool false]) z := fun z hz => by
  have := (h.below hz).look hi.id true
  rw [hs] at this
  exact this
 have HLK := Lib.hid hlk
 clear hlk
 have hln : ∀ z, Below w.heap.size w z → ∀ ty, (Builtin.len_ #[85] ty #[.map (some mb)]).run Try.prog z = .ok (.int .i64 L.length) z := fun z hz ty => by
  obtain ⟨n, hn⟩ := (h.below hz).mp
  exact hn.len ikv_inj Try.underlying85 L (nd_lt I.srt) (fun x => (I.mem x).symm) ty
 obtain ⟨n, hn⟩ : ∃ n, L.length = n := ⟨_, rfl⟩
 rw [hn] at hln hl
 have HLN := Lib.hid hln
 clear hln
 have q1 : decide ((64 : Int) ≤ (n : Int)) = false := by simp; omega
 have q2 : decide (64 ≤ n) = false := by simp; omega
 have hkh : ∀ z, Below w.heap.size w z → Calls Try.prog 52 #[.pointer (some ⟨tb, 0, none⟩), .int .i64 c.par] z fun ee w' => ee = .returned (.bool true) ∧ Below z.heap.size z w' := fun z hz => by
  have := holds_c (h.below hz) hi.par
  rw [hho] at this
  exact this
 have KH := Lib.hid hkh
 clear hkh
 have KS := Lib.hid (fun z => by have := cshares_c hi z; rw [hsh] at this; exact this)
 have hkd : ∀ z, Below w.heap.size w z → Calls Try.prog 54 #[.pointer (some ⟨tb, 0, none⟩), .int .i64 c.par] z fun ee w' => ee = .returned (.int .i64 (upl f 16 c.par).length) ∧ Below z.heap.size z w' := fun z hz => hdep_c (h.below hz) (fun x cc hcc => ⟨(I.cls x cc hcc).1, (I.cls x cc hcc).2.1.par⟩) 16 (by decide) c.par hi.par (I.dep _)
 have hdl := upl_len f 16 c.par
 obtain ⟨d, hdd⟩ : ∃ d, (upl f 16 c.par).length = d := ⟨_, rfl⟩
 rw [hdd] at hkd hd hdl
 have KD := Lib.hid hkd
 clear hkd
 have q3 : decide ((16 : Int) < (d : Int) + 1) = true := decide_eq_true (by omega)
 have q4 : decide (16 ≤ d) = true := decide_eq_true (by omega)
 have q5 : decide ((16 : Int) ≤ (d : Int)) = true := decide_eq_true (by omega)
 have hW0 : VR (w.alloc (.cells #[.int .i64 c.id, .int .i64 c.par, .bool c.leaf, .int .u64 c.ra, .int .u64 c.rb, .int .u64 c.rc, .int .u64 c.la, .int .u64 c.lb, .int .u64 c.lc, .int .u64 c.ua, .int .u64 c.ub, .int .u64 c.uc, .int .i64 c.pk, .int .i64 c.bt] 54)) w.heap.size 54 #[.int .i64 c.id, .int .i64 c.par, .bool c.leaf, .int .u64 c.ra, .int .u64 c.rb, .int .u64 c.rc, .int .u64 c.la, .int .u64 c.lb, .int .u64 c.lc, .int .u64 c.ua, .int .u64 c.ub, .int .u64 c.uc, .int .i64 c.pk, .int .i64 c.bt] := VR.new _ _ _
 have hB0 : Below w.heap.size w (w.alloc (.cells #[.int .i64 c.id, .int .i64 c.par, .bool c.leaf, .int .u64 c.ra, .int .u64 c.rb, .int .u64 c.rc, .int .u64 c.la, .int .u64 c.lb, .int .u64 c.lc, .int .u64 c.ua, .int .u64 c.ub, .int .u64 c.uc, .int .i64 c.pk, .int .i64 c.bt] 54)) := bub
 have HV0 := Lib.hid hW0
 have HB0 := Lib.hid hB0
 have H := Lib.hid h
 have HI := Lib.hid hi
 have INF := Lib.hid cl_info
 have ONE := Lib.hid cla_one
 have KR := Lib.hid (fun z => hr z)
 clear hW0 hB0 hr
 clear h hi hs I hn hl hho hsh hd hdd
 go_enter Try.func26, Try.ntmps26
 go_wp2_with (first
  | go_guarded
  | (refine wpList_var_get rfl 54 _ rfl w.heap.size #[.int .i64 c.id, .int .i64 c.par, .bool c.leaf, .int .u64 c.ra, .int .u64 c.rb, .int .u64 c.rc, .int .u64 c.la, .int .u64 c.lb, .int .u64 c.lc, .int .u64 c.ua, .int .u64 c.ub, .int .u64 c.uc, .int .i64 c.pk, .int .i64 c.bt] _ HV0.out rfl Try.underlying54 rfl INF.out ?_)
  | (go_at_call 51; (with_reducible refine (KR.out _).mono ?_); rintro _ w1 ⟨rfl, hbel⟩; have HV1 := Lib.hid (HV0.out.bel hbel); have HB1 : Hid (Below w.heap.size w w1) := Lib.hid (HB0.out.trans (hbel.mono HB0.out.size)); have HT1 := Lib.hid (H.out.below HB1.out); clear hbel))
 have ht1 : HT w1.drew tb mb f := H.out.below (HB1.out.drew)
 have hlk1 : (Instr.lookup 85 (.map (some mb)) (.int .i64 c.id) true).run Try.prog w1.drew = .ok (.tuple #[.agg #[.int .i64 clz.id, .int .i64 clz.par, .bool clz.leaf, .int .u64 clz.ra, .int .u64 clz.rb, .int .u64 clz.rc, .int .u64 clz.la, .int .u64 clz.lb, .int .u64 clz.lc, .int .u64 clz.ua, .int .u64 clz.ub, .int .u64 clz.uc, .int .i64 clz.pk, .int .i64 clz.bt], .bool false]) w1.drew := HLK.out _ HB1.out.drew
 obtain ⟨Cl, hCl⟩ : ∃ Cl : List (Nat × Value) → World → Prop, Cl = ((fun ps wz => ((VR wz w.heap.size 54 #[.int .i64 c.id, .int .i64 c.par, .bool c.leaf, .int .u64 c.ra, .int .u64 c.rb, .int .u64 c.rc, .int .u64 c.la, .int .u64 c.lb, .int .u64 c.lc, .int .u64 c.ua, .int .u64 c.ub, .int .u64 c.uc, .int .i64 c.pk, .int .i64 c.bt] ∧ wz.cell? ⟨w.heap.size, 0, none⟩ = some (.int .i64 c.id) ∧ wz.cell? ⟨w.heap.size, 1, none⟩ = some (.int .i64 c.par) ∧ w.heap.size < wz.heap.size ∧ wz.cell? ⟨tb, 0, none⟩ = some (.map (some mb)) ∧ tb < wz.heap.size) ∧ (Instr.lookup 85 (.map (some mb)) (.int .i64 c.id) true).run Try.prog wz = .ok (.tuple #[.agg #[.int .i64 clz.id, .int .i64 clz.par, .bool clz.leaf, .int .u64 clz.ra, .int .u64 clz.rb, .int .u64 clz.rc, .int .u64 clz.la, .int .u64 clz.lb, .int .u64 clz.lc, .int .u64 clz.ua, .int .u64 clz.ub, .int .u64 clz.uc, .int .i64 clz.pk, .int .i64 clz.bt], .bool false]) wz) ∧ (match ps with
  | [] => wz = w1.drew
  | [(_, p)] => p = .pointer (some ⟨w1.heap.size, 0, none⟩) ∧ wz = w1.drew.alloc (.cells #[.int .i64 0, .int .i64 0, .bool false, .int .u64 0, .int .u64 0, .int .u64 0, .int .u64 0, .int .u64 0, .int .u64 0, .int .u64 0, .int .u64 0, .int .u64 0, .int .i64 0, .int .i64 0] 54)
  | [_, _] => Below w1.heap.size w1 wz
  | _ => True))) := ⟨_, rfl⟩; have HCl := Lib.hid hCl; clear hCl; refine Reg2.wp_region_lineS [(0, false), (1, false), (2, false), (3, false), (4, false), (5, false), (6, false), (7, false), (8, false), (9, false), (10, false), (11, false), (12, false)] [10, 11] Cl (by kernel_rfl) (by kernel_rfl) (by kernel_rfl) (by simp only [HCl.out, zD, zE]; exact ⟨⟨a6_of (HV1.out.frame rfl) ht1, hlk1⟩, (by first | rfl | trivial)⟩) ?_
 clear ht1 hlk1
 (repeat ((first | (refine Reg2.wS_skip gtb (by rfl) ?_) | (refine Reg2.wS_open gtb (by rfl) (by rfl) ?_; apply Exists.intro; refine ⟨fun vs wq hw => ?_, ?_⟩; (focus (simp only [HCl.out, zD, zE] at hw; go_split_ands; go_simp <;> exact ebb)))); simp only [Act.put, Nat.reduceAdd, zA, zB, zC, zD, zE]))
 refine Reg2.wS_eff gtb (by rfl) (by rfl) (fun wq hw => ?_) (fun u9 hu => ?_)
 focus
  simp only [HCl.out, zD, zE] at hw
  obtain ⟨⟨hA, -⟩, rfl⟩ := hw
  have hb : Below w1.heap.size w1 (w1.drew.alloc (.cells #[.int .i64 0, .int .i64 0, .bool false, .int .u64 0, .int .u64 0, .int .u64 0, .int .u64 0, .int .u64 0, .int .u64 0, .int .u64 0, .int .u64 0, .int .u64 0, .int .i64 0, .int .i64 0] 54)) := bub
  have hb2 : Below w.heap.size w (w1.drew.alloc (.cells #[.int .i64 0, .int .i64 0, .bool false, .int .u64 0, .int .u64 0, .int .u64 0, .int .u64 0, .int .u64 0, .int .u64 0, .int .u64 0, .int .u64 0, .int .u64 0, .int .i64 0, .int .i64 0] 54)) := HB1.out.trans (hb.mono HB1.out.size)
  refine effv_alloc 54 rfl (cl_alloc _) ?_
  simp only [HCl.out, zD, zE]
  exact ⟨⟨a6_of (HV1.out.bel hb) (H.out.below hb2), HLK.out _ hb2⟩, rfl, (by first | rfl | trivial)⟩
 (obtain ⟨wz, hz⟩ := hu; rw [HCl.out] at hz; (try simp only [List.nil_append, List.cons_append] at hz); (try dsimp only at hz))
 obtain ⟨-, rfl, -⟩ := hz
 clear wz
 simp only [Act.put, Nat.reduceAdd, zA, zB, zC, zD, zE]
 (repeat ((first | (refine Reg2.wS_skip gtb (by rfl) ?_) | (refine Reg2.wS_open gtb (by rfl) (by rfl) ?_; apply Exists.intro; refine ⟨fun vs wq hw => ?_, ?_⟩; (focus (simp only [HCl.out, zD, zE] at hw; go_split_ands; go_simp <;> exact ebb)))); simp only [Act.put, Nat.reduceAdd, zA, zB, zC, zD, zE]))
 refine Reg2.wS_eff gtb (by rfl) (by rfl) (fun wq hw => ?_) (fun u9 hu => ?_)
 focus
  simp only [HCl.out, zD, zE] at hw
  obtain ⟨⟨hA, -⟩, -, rfl⟩ := hw
  refine effv_store 54 _ _ rfl rfl rfl (run_storeAt_new (P := Try.prog) w1.drew 54 #[.int .i64 0, .int .i64 0, .bool false, .int .u64 0, .int .u64 0, .int .u64 0, .int .u64 0, .int .u64 0, .int .u64 0, .int .u64 0, .int .u64 0, .int .u64 0, .int .i64 0, .int .i64 0] #[.int .i64 clz.id, .int .i64 clz.par, .bool clz.leaf, .int .u64 clz.ra, .int .u64 clz.rb, .int .u64 clz.rc, .int .u64 clz.la, .int .u64 clz.lb, .int .u64 clz.lc, .int .u64 clz.ua, .int .u64 clz.ub, .int .u64 clz.uc, .int .i64 clz.pk, .int .i64 clz.bt] cl_info rfl (cla_one _)) ?_
  simp only [HCl.out, zD, zE]
  have hb : Below w1.heap.size w1 (w1.drew.alloc (.cells #[.int .i64 clz.id, .int .i64 clz.par, .bool clz.leaf, .int .u64 clz.ra, .int .u64 clz.rb, .int .u64 clz.rc, .int .u64 clz.la, .int .u64 clz.lb, .int .u64 clz.lc, .int .u64 clz.ua, .int .u64 clz.ub, .int .u64 clz.uc, .int .i64 clz.pk, .int .i64 clz.bt] 54)) := bub
  have hb2 : Below w.heap.size w (w1.drew.alloc (.cells #[.int .i64 clz.id, .int .i64 clz.par, .bool clz.leaf, .int .u64 clz.ra, .int .u64 clz.rb, .int .u64 clz.rc, .int .u64 clz.la, .int .u64 clz.lb, .int .u64 clz.lc, .int .u64 clz.ua, .int .u64 clz.ub, .int .u64 clz.uc, .int .i64 clz.pk, .int .i64 clz.bt] 54)) := HB1.out.trans (hb.mono HB1.out.size)
  exact ⟨⟨a6_of (HV1.out.bel hb) (H.out.below hb2), HLK.out _ hb2⟩, hb⟩
 clear hu
 simp only [Act.put, Nat.reduceAdd, zA, zB, zC, zD, zE]
 (repeat ((first | (refine Reg2.wS_skip gtb (by rfl) ?_) | (refine Reg2.wS_open gtb (by rfl) (by rfl) ?_; apply Exists.intro; refine ⟨fun vs wq hw => ?_, ?_⟩; (focus (simp only [HCl.out, zD, zE] at hw; go_split_ands; go_simp <;> exact ebb)))); simp only [Act.put, Nat.reduceAdd, zA, zB, zC, zD, zE]))
 refine Reg2.wS_nil ?_; intro w' hw; simp only [HCl.out, zD, zE] at hw; clear HCl
 obtain ⟨⟨⟨hv6, hc6, hp6, hl6, ht6, hs6⟩, -⟩, hb6⟩ := hw
 have HV6 := Lib.hid hv6
 have HB6 : Hid (Below w.heap.size w w') := Lib.hid (HB1.out.trans (hb6.mono HB1.out.size))
 have HT6 := Lib.hid (H.out.below HB6.out)
 clear hv6 hb6
 have hln6 := HLN.out _ HB6.out
 go_wp2_with (first
  | go_guarded
  | (go_at_call 52; (with_reducible refine (KH.out _ HB6.out).mono ?_); rintro _ w7 ⟨rfl, hbel⟩; have HV7 := Lib.hid (HV6.out.bel hbel); have HB7 : Hid (Below w.heap.size w w7) := Lib.hid (HB6.out.trans (hbel.mono HB6.out.size)); have p7 := HV7.out.cell 1 rfl; have l7 := HV7.out.lt; clear hbel)
  | (refine wpList_var_get rfl 54 _ rfl w.heap.size #[.int .i64 c.id, .int .i64 c.par, .bool c.leaf, .int .u64 c.ra, .int .u64 c.rb, .int .u64 c.rc, .int .u64 c.la, .int .u64 c.lb, .int .u64 c.lc, .int .u64 c.ua, .int .u64 c.ub, .int .u64 c.uc, .int .i64 c.pk, .int .i64 c.bt] _ HV7.out rfl Try.underlying54 rfl INF.out ?_)
  | (go_at_call 33; (with_reducible refine (KS.out _).mono ?_); rintro _ w8 ⟨rfl, hbel⟩; have HV8 := Lib.hid (HV7.out.bel hbel); have HB8 : Hid (Below w.heap.size w w8) := Lib.hid (HB7.out.trans (hbel.mono HB7.out.size)); have p8 := HV8.out.cell 1 rfl; have l8 := HV8.out.lt; clear hbel)
  | (go_at_call 54; (with_reducible refine (KD.out _ HB8.out).mono ?_); rintro _ w10 ⟨rfl, hbel⟩; have HV10 := Lib.hid (HV8.out.bel hbel); have HB10 : Hid (Below w.heap.size w w10) := Lib.hid (HB8.out.trans (hbel.mono HB8.out.size)); have HT10 := Lib.hid (H.out.below HB10.out); have t10 := HT10.out.c0; have lt10 := HT10.out.lt; clear hbel))
 go_ret
 exact ⟨rfl, HB10.out⟩
theorem add_ok1 {w : World} {tb mb : Nat} {f : Int → Option Cls} {L : List Int} (h : HT w tb mb f) (I : TI f L) {c : Cls} (hi : CIn c) (hr : ∀ z, Calls Try.prog 51 #[.agg #[.int .i64 c.id, .int .i64 c.par, .bool c.leaf, .int .u64 c.ra, .int .u64 c.rb, .int .u64 c.rc, .int .u64 c.la, .int .u64 c.lb, .int .u64 c.lc, .int .u64 c.ua, .int .u64 c.ub, .int .u64 c.uc, .int .i64 c.pk, .int .i64 c.bt]] z fun ee w' => ee = .returned (.int .i64 0) ∧ Below z.heap.size z w') (hs : f c.id = none) (hl : L.length < 64) (hho : hol f c.par = true) (hsh : sh1 c = true) (hsa : shA f c.par = true) (hd : (upl f 16 c.par).length < 16) :
  Calls Try.prog 26 #[.pointer (some ⟨tb, 0, none⟩), .agg #[.int .i64 c.id, .int .i64 c.par, .bool c.leaf, .int .u64 c.ra, .int .u64 c.rb, .int .u64 c.rc, .int .u64 c.la, .int .u64 c.lb, .int .u64 c.lc, .int .u64 c.ua, .int .u64 c.ub, .int .u64 c.uc, .int .i64 c.pk, .int .i64 c.bt]] w fun e w' => e = .returned (.int .i64 0) ∧ HT w' tb mb (upd f c.id c) ∧ Only (fun k => k = mb) w w' := by
 have hlk : ∀ z, Below w.heap.size w z → (Instr.lookup 85 (.map (some mb)) (.int .i64 c.id) true).run Try.prog z = .ok (.tuple #[.agg #[.int .i64 ((clz)).id, .int .i64 ((clz)).par, .bool ((clz)).leaf, .int .u64 ((clz)).ra, .int .u64 ((clz)).rb, .int .u64 ((clz)).rc, .int .u64 ((clz)).la, .int .u64 ((clz)).lb, .int .u64 ((clz)).lc, .int .u64 ((clz)).ua, .int .u64 ((clz)).ub, .int .u64 ((clz)).uc, .int .i64 ((clz)).pk, .int .i64 ((clz)).bt], .bool false]) z := fun z hz => by
  have := (h.below hz).look hi.id true
  rw [hs] at this
  exact this
 have HLK := Lib.hid hlk
 clear hlk
 have hln : ∀ z, Below w.heap.size w z → ∀ ty, (Builtin.len_ #[85] ty #[.map (some mb)]).run Try.prog z = .ok (.int .i64 L.length) z := fun z hz ty => by
  obtain ⟨n, hn⟩ := (h.below hz).mp
  exact hn.len ikv_inj Try.underlying85 L (nd_lt I.srt) (fun x => (I.mem x).symm) ty
 obtain ⟨n, hn⟩ : ∃ n, L.length = n := ⟨_, rfl⟩
 rw [hn] at hln hl
 have HLN := Lib.hid hln
 clear hln
 have HM0 := Lib.hid h.mlt
 have CNN := cm_nn
 have q1 : decide ((64 : Int) ≤ (n : Int)) = false := by simp; omega
 have q2 : decide (64 ≤ n) = false := by simp; omega
 have hkh : ∀ z, Below w.heap.size w z → Calls Try.prog 52 #[.pointer (some ⟨tb, 0, none⟩), .int .i64 c.par] z fun ee w' => ee = .returned (.bool true) ∧ Below z.heap.size z w' := fun z hz => by
  have := holds_c (h.below hz) hi.par
  rw [hho] at this
  exact this
 have KH := Lib.hid hkh
 clear hkh
 have KS := Lib.hid (fun z => by have := cshares_c hi z; rw [hsh] at this; exact this)
 have hka : ∀ z, Below w.heap.size w z → Calls Try.prog 53 #[.pointer (some ⟨tb, 0, none⟩), .int .i64 c.par] z fun ee w' => ee = .returned (.bool true) ∧ Below z.heap.size z w' := fun z hz => by
  have := sharesAt_c (h.below hz) hi.par (fun hne => hol_in I hho hne)
  rw [hsa] at this
  exact this
 have KA := Lib.hid hka
 clear hka
 have hkd : ∀ z, Below w.heap.size w z → Calls Try.prog 54 #[.pointer (some ⟨tb, 0, none⟩), .int .i64 c.par] z fun ee w' => ee = .returned (.int .i64 (upl f 16 c.par).length) ∧ Below z.heap.size z w' := fun z hz => hdep_c (h.below hz) (fun x cc hcc => ⟨(I.cls x cc hcc).1, (I.cls x cc hcc).2.1.par⟩) 16 (by decide) c.par hi.par (I.dep _)
 have hdl := upl_len f 16 c.par
 obtain ⟨d, hdd⟩ : ∃ d, (upl f 16 c.par).length = d := ⟨_, rfl⟩
 rw [hdd] at hkd hd hdl
 have KD := Lib.hid hkd
 clear hkd
 have q3 : decide ((16 : Int) < (d : Int) + 1) = false := decide_eq_false (by omega)
 have q4 : decide (16 ≤ d) = false := decide_eq_false (by omega)
 have q5 : decide ((16 : Int) ≤ (d : Int)) = false := decide_eq_false (by omega)
 have hW0 : VR (w.alloc (.cells #[.int .i64 c.id, .int .i64 c.par, .bool c.leaf, .int .u64 c.ra, .int .u64 c.rb, .int .u64 c.rc, .int .u64 c.la, .int .u64 c.lb, .int .u64 c.lc, .int .u64 c.ua, .int .u64 c.ub, .int .u64 c.uc, .int .i64 c.pk, .int .i64 c.bt] 54)) w.heap.size 54 #[.int .i64 c.id, .int .i64 c.par, .bool c.leaf, .int .u64 c.ra, .int .u64 c.rb, .int .u64 c.rc, .int .u64 c.la, .int .u64 c.lb, .int .u64 c.lc, .int .u64 c.ua, .int .u64 c.ub, .int .u64 c.uc, .int .i64 c.pk, .int .i64 c.bt] := VR.new _ _ _
 have hB0 : Below w.heap.size w (w.alloc (.cells #[.int .i64 c.id, .int .i64 c.par, .bool c.leaf, .int .u64 c.ra, .int .u64 c.rb, .int .u64 c.rc, .int .u64 c.la, .int .u64 c.lb, .int .u64 c.lc, .int .u64 c.ua, .int .u64 c.ub, .int .u64 c.uc, .int .i64 c.pk, .int .i64 c.bt] 54)) := bub
 have HV0 := Lib.hid hW0
 have HB0 := Lib.hid hB0
 have H := Lib.hid h
 have HI := Lib.hid hi
 have INF := Lib.hid cl_info
 have ONE := Lib.hid cla_one
 have KR := Lib.hid (fun z => hr z)
 clear hW0 hB0 hr
 clear h hi hs I hn hl hho hsh hsa hd hdd
 go_enter Try.func26, Try.ntmps26
 go_wp2_with (first
  | go_guarded
  | (refine wpList_var_get rfl 54 _ rfl w.heap.size #[.int .i64 c.id, .int .i64 c.par, .bool c.leaf, .int .u64 c.ra, .int .u64 c.rb, .int .u64 c.rc, .int .u64 c.la, .int .u64 c.lb, .int .u64 c.lc, .int .u64 c.ua, .int .u64 c.ub, .int .u64 c.uc, .int .i64 c.pk, .int .i64 c.bt] _ HV0.out rfl Try.underlying54 rfl INF.out ?_)
  | (go_at_call 51; (with_reducible refine (KR.out _).mono ?_); rintro _ w1 ⟨rfl, hbel⟩; have HV1 := Lib.hid (HV0.out.bel hbel); have HB1 : Hid (Below w.heap.size w w1) := Lib.hid (HB0.out.trans (hbel.mono HB0.out.size)); have HT1 := Lib.hid (H.out.below HB1.out); clear hbel))
 have ht1 : HT w1.drew tb mb f := H.out.below (HB1.out.drew)
 have hlk1 : (Instr.lookup 85 (.map (some mb)) (.int .i64 c.id) true).run Try.prog w1.drew = .ok (.tuple #[.agg #[.int .i64 clz.id, .int .i64 clz.par, .bool clz.leaf, .int .u64 clz.ra, .int .u64 clz.rb, .int .u64 clz.rc, .int .u64 clz.la, .int .u64 clz.lb, .int .u64 clz.lc, .int .u64 clz.ua, .int .u64 clz.ub, .int .u64 clz.uc, .int .i64 clz.pk, .int .i64 clz.bt], .bool false]) w1.drew := HLK.out _ HB1.out.drew
 obtain ⟨Cl, hCl⟩ : ∃ Cl : List (Nat × Value) → World → Prop, Cl = ((fun ps wz => ((VR wz w.heap.size 54 #[.int .i64 c.id, .int .i64 c.par, .bool c.leaf, .int .u64 c.ra, .int .u64 c.rb, .int .u64 c.rc, .int .u64 c.la, .int .u64 c.lb, .int .u64 c.lc, .int .u64 c.ua, .int .u64 c.ub, .int .u64 c.uc, .int .i64 c.pk, .int .i64 c.bt] ∧ wz.cell? ⟨w.heap.size, 0, none⟩ = some (.int .i64 c.id) ∧ wz.cell? ⟨w.heap.size, 1, none⟩ = some (.int .i64 c.par) ∧ w.heap.size < wz.heap.size ∧ wz.cell? ⟨tb, 0, none⟩ = some (.map (some mb)) ∧ tb < wz.heap.size) ∧ (Instr.lookup 85 (.map (some mb)) (.int .i64 c.id) true).run Try.prog wz = .ok (.tuple #[.agg #[.int .i64 clz.id, .int .i64 clz.par, .bool clz.leaf, .int .u64 clz.ra, .int .u64 clz.rb, .int .u64 clz.rc, .int .u64 clz.la, .int .u64 clz.lb, .int .u64 clz.lc, .int .u64 clz.ua, .int .u64 clz.ub, .int .u64 clz.uc, .int .i64 clz.pk, .int .i64 clz.bt], .bool false]) wz) ∧ (match ps with
  | [] => wz = w1.drew
  | [(_, p)] => p = .pointer (some ⟨w1.heap.size, 0, none⟩) ∧ wz = w1.drew.alloc (.cells #[.int .i64 0, .int .i64 0, .bool false, .int .u64 0, .int .u64 0, .int .u64 0, .int .u64 0, .int .u64 0, .int .u64 0, .int .u64 0, .int .u64 0, .int .u64 0, .int .i64 0, .int .i64 0] 54)
  | [_, _] => Below w1.heap.size w1 wz
  | _ => True))) := ⟨_, rfl⟩; have HCl := Lib.hid hCl; clear hCl; refine Reg2.wp_region_lineS [(0, false), (1, false), (2, false), (3, false), (4, false), (5, false), (6, false), (7, false), (8, false), (9, false), (10, false), (11, false), (12, false)] [10, 11] Cl (by kernel_rfl) (by kernel_rfl) (by kernel_rfl) (by simp only [HCl.out, zD, zE]; exact ⟨⟨a6_of (HV1.out.frame rfl) ht1, hlk1⟩, (by first | rfl | trivial)⟩) ?_
 clear ht1 hlk1
 (repeat ((first | (refine Reg2.wS_skip gtb (by rfl) ?_) | (refine Reg2.wS_open gtb (by rfl) (by rfl) ?_; apply Exists.intro; refine ⟨fun vs wq hw => ?_, ?_⟩; (focus (simp only [HCl.out, zD, zE] at hw; go_split_ands; go_simp <;> exact ebb)))); simp only [Act.put, Nat.reduceAdd, zA, zB, zC, zD, zE]))
 refine Reg2.wS_eff gtb (by rfl) (by rfl) (fun wq hw => ?_) (fun u9 hu => ?_)
 focus
  simp only [HCl.out, zD, zE] at hw
  obtain ⟨⟨hA, -⟩, rfl⟩ := hw
  have hb : Below w1.heap.size w1 (w1.drew.alloc (.cells #[.int .i64 0, .int .i64 0, .bool false, .int .u64 0, .int .u64 0, .int .u64 0, .int .u64 0, .int .u64 0, .int .u64 0, .int .u64 0, .int .u64 0, .int .u64 0, .int .i64 0, .int .i64 0] 54)) := bub
  have hb2 : Below w.heap.size w (w1.drew.alloc (.cells #[.int .i64 0, .int .i64 0, .bool false, .int .u64 0, .int .u64 0, .int .u64 0, .int .u64 0, .int .u64 0, .int .u64 0, .int .u64 0, .int .u64 0, .int .u64 0, .int .i64 0, .int .i64 0] 54)) := HB1.out.trans (hb.mono HB1.out.size)
  refine effv_alloc 54 rfl (cl_alloc _) ?_
  simp only [HCl.out, zD, zE]
  exact ⟨⟨a6_of (HV1.out.bel hb) (H.out.below hb2), HLK.out _ hb2⟩, rfl, (by first | rfl | trivial)⟩
 (obtain ⟨wz, hz⟩ := hu; rw [HCl.out] at hz; (try simp only [List.nil_append, List.cons_append] at hz); (try dsimp only at hz))
 obtain ⟨-, rfl, -⟩ := hz
 clear wz
 simp only [Act.put, Nat.reduceAdd, zA, zB, zC, zD, zE]
 (repeat ((first | (refine Reg2.wS_skip gtb (by rfl) ?_) | (refine Reg2.wS_open gtb (by rfl) (by rfl) ?_; apply Exists.intro; refine ⟨fun vs wq hw => ?_, ?_⟩; (focus (simp only [HCl.out, zD, zE] at hw; go_split_ands; go_simp <;> exact ebb)))); simp only [Act.put, Nat.reduceAdd, zA, zB, zC, zD, zE]))
 refine Reg2.wS_eff gtb (by rfl) (by rfl) (fun wq hw => ?_) (fun u9 hu => ?_)
 focus
  simp only [HCl.out, zD, zE] at hw
  obtain ⟨⟨hA, -⟩, -, rfl⟩ := hw
  refine effv_store 54 _ _ rfl rfl rfl (run_storeAt_new (P := Try.prog) w1.drew 54 #[.int .i64 0, .int .i64 0, .bool false, .int .u64 0, .int .u64 0, .int .u64 0, .int .u64 0, .int .u64 0, .int .u64 0, .int .u64 0, .int .u64 0, .int .u64 0, .int .i64 0, .int .i64 0] #[.int .i64 clz.id, .int .i64 clz.par, .bool clz.leaf, .int .u64 clz.ra, .int .u64 clz.rb, .int .u64 clz.rc, .int .u64 clz.la, .int .u64 clz.lb, .int .u64 clz.lc, .int .u64 clz.ua, .int .u64 clz.ub, .int .u64 clz.uc, .int .i64 clz.pk, .int .i64 clz.bt] cl_info rfl (cla_one _)) ?_
  simp only [HCl.out, zD, zE]
  have hb : Below w1.heap.size w1 (w1.drew.alloc (.cells #[.int .i64 clz.id, .int .i64 clz.par, .bool clz.leaf, .int .u64 clz.ra, .int .u64 clz.rb, .int .u64 clz.rc, .int .u64 clz.la, .int .u64 clz.lb, .int .u64 clz.lc, .int .u64 clz.ua, .int .u64 clz.ub, .int .u64 clz.uc, .int .i64 clz.pk, .int .i64 clz.bt] 54)) := bub
  have hb2 : Below w.heap.size w (w1.drew.alloc (.cells #[.int .i64 clz.id, .int .i64 clz.par, .bool clz.leaf, .int .u64 clz.ra, .int .u64 clz.rb, .int .u64 clz.rc, .int .u64 clz.la, .int .u64 clz.lb, .int .u64 clz.lc, .int .u64 clz.ua, .int .u64 clz.ub, .int .u64 clz.uc, .int .i64 clz.pk, .int .i64 clz.bt] 54)) := HB1.out.trans (hb.mono HB1.out.size)
  exact ⟨⟨a6_of (HV1.out.bel hb) (H.out.below hb2), HLK.out _ hb2⟩, hb⟩
 clear hu
 simp only [Act.put, Nat.reduceAdd, zA, zB, zC, zD, zE]
 (repeat ((first | (refine Reg2.wS_skip gtb (by rfl) ?_) | (refine Reg2.wS_open gtb (by rfl) (by rfl) ?_; apply Exists.intro; refine ⟨fun vs wq hw => ?_, ?_⟩; (focus (simp only [HCl.out, zD, zE] at hw; go_split_ands; go_simp <;> exact ebb)))); simp only [Act.put, Nat.reduceAdd, zA, zB, zC, zD, zE]))
 refine Reg2.wS_nil ?_; intro w' hw; simp only [HCl.out, zD, zE] at hw; clear HCl
 obtain ⟨⟨⟨hv6, hc6, hp6, hl6, ht6, hs6⟩, -⟩, hb6⟩ := hw
 have HV6 := Lib.hid hv6
 have HB6 : Hid (Below w.heap.size w w') := Lib.hid (HB1.out.trans (hb6.mono HB1.out.size))
 have HT6 := Lib.hid (H.out.below HB6.out)
 clear hv6 hb6
 have hln6 := HLN.out _ HB6.out
 go_wp2_with (first
  | go_guarded
  | (go_at_call 52; (with_reducible refine (KH.out _ HB6.out).mono ?_); rintro _ w7 ⟨rfl, hbel⟩; have HV7 := Lib.hid (HV6.out.bel hbel); have HB7 : Hid (Below w.heap.size w w7) := Lib.hid (HB6.out.trans (hbel.mono HB6.out.size)); have p7 := HV7.out.cell 1 rfl; have l7 := HV7.out.lt; clear hbel)
  | (refine wpList_var_get rfl 54 _ rfl w.heap.size #[.int .i64 c.id, .int .i64 c.par, .bool c.leaf, .int .u64 c.ra, .int .u64 c.rb, .int .u64 c.rc, .int .u64 c.la, .int .u64 c.lb, .int .u64 c.lc, .int .u64 c.ua, .int .u64 c.ub, .int .u64 c.uc, .int .i64 c.pk, .int .i64 c.bt] _ HV7.out rfl Try.underlying54 rfl INF.out ?_)
  | (go_at_call 33; (with_reducible refine (KS.out _).mono ?_); rintro _ w8 ⟨rfl, hbel⟩; have HV8 := Lib.hid (HV7.out.bel hbel); have HB8 : Hid (Below w.heap.size w w8) := Lib.hid (HB7.out.trans (hbel.mono HB7.out.size)); have p8 := HV8.out.cell 1 rfl; have l8 := HV8.out.lt; clear hbel)
  | (go_at_call 53; (with_reducible refine (KA.out _ HB8.out).mono ?_); rintro _ w9 ⟨rfl, hbel⟩; have HV9 := Lib.hid (HV8.out.bel hbel); have HB9 : Hid (Below w.heap.size w w9) := Lib.hid (HB8.out.trans (hbel.mono HB8.out.size)); have p9 := HV9.out.cell 1 rfl; have l9 := HV9.out.lt; clear hbel)
  | (go_at_call 54; (with_reducible refine (KD.out _ HB9.out).mono ?_); rintro _ w10 ⟨rfl, hbel⟩; have HV10 := Lib.hid (HV9.out.bel hbel); have HB10 : Hid (Below w.heap.size w w10) := Lib.hid (HB9.out.trans (hbel.mono HB9.out.size)); have HT10 := Lib.hid (H.out.below HB10.out); have t10 := HT10.out.c0; have lt10 := HT10.out.lt; clear hbel))
 have ht10 : HT w10.drew tb mb f := H.out.below (HB10.out.drew)
 obtain ⟨Cl, hCl⟩ : ∃ Cl : List (Nat × Value) → World → Prop, Cl = ((fun ps wz => (VR wz w.heap.size 54 #[.int .i64 c.id, .int .i64 c.par, .bool c.leaf, .int .u64 c.ra, .int .u64 c.rb, .int .u64 c.rc, .int .u64 c.la, .int .u64 c.lb, .int .u64 c.lc, .int .u64 c.ua, .int .u64 c.ub, .int .u64 c.uc, .int .i64 c.pk, .int .i64 c.bt] ∧ wz.cell? ⟨w.heap.size, 0, none⟩ = some (.int .i64 c.id) ∧ wz.cell? ⟨w.heap.size, 1, none⟩ = some (.int .i64 c.par) ∧ w.heap.size < wz.heap.size ∧ wz.cell? ⟨tb, 0, none⟩ = some (.map (some mb)) ∧ tb < wz.heap.size) ∧ (match ps with
  | [] => wz = w10.drew
  | [_] => HT wz tb mb (upd f c.id c) ∧ Only (fun k => k = mb) w wz
  | _ => True))) := ⟨_, rfl⟩; have HCl := Lib.hid hCl; clear hCl; refine Reg2.wp_region_lineS [(0, false), (1, false), (2, false), (3, false), (4, false), (5, false), (6, false), (7, false)] [7] Cl (by kernel_rfl) (by kernel_rfl) (by kernel_rfl) (by simp only [HCl.out, zD, zE]; exact ⟨a6_of (HV10.out.frame rfl) ht10, (by first | rfl | trivial)⟩) ?_
 clear ht10
 (repeat ((first | (refine Reg2.wS_skip gtb (by rfl) ?_) | (refine Reg2.wS_open gtb (by rfl) (by rfl) ⟨.agg #[.int .i64 c.id, .int .i64 c.par, .bool c.leaf, .int .u64 c.ra, .int .u64 c.rb, .int .u64 c.rc, .int .u64 c.la, .int .u64 c.lb, .int .u64 c.lc, .int .u64 c.ua, .int .u64 c.ub, .int .u64 c.uc, .int .i64 c.pk, .int .i64 c.bt], fun vs wq hw => ?_, ?_⟩; (focus (simp only [HCl.out, zD, zE] at hw; exact quiet_var 54 _ rfl w.heap.size #[.int .i64 c.id, .int .i64 c.par, .bool c.leaf, .int .u64 c.ra, .int .u64 c.rb, .int .u64 c.rc, .int .u64 c.la, .int .u64 c.lb, .int .u64 c.lc, .int .u64 c.ua, .int .u64 c.ub, .int .u64 c.uc, .int .i64 c.pk, .int .i64 c.bt] _ hw.1.1 rfl Try.underlying54 rfl INF.out))) | (refine Reg2.wS_open gtb (by rfl) (by rfl) ?_; apply Exists.intro; refine ⟨fun vs wq hw => ?_, ?_⟩; (focus (simp only [HCl.out, zD, zE] at hw; go_split_ands; go_simp <;> exact ebb)))); simp only [Act.put, Nat.reduceAdd, zA, zB, zC, zD, zE]))
 refine Reg2.wS_eff gtb (by rfl) (by rfl) (fun wq hw => ?_) (fun u9 hu => ?_)
 focus
  simp only [HCl.out, zD, zE] at hw
  obtain ⟨hA, rfl⟩ := hw
  have ht10 : HT w10.drew tb mb f := H.out.below (HB10.out.drew)
  obtain ⟨nn, hmn⟩ := ht10.mp
  obtain ⟨w11, hrun, hm11, ho11, hs11⟩ := hmn.update (t := 85) (e := 54) ikok Try.underlying85 HI.out.id c
  refine effv_map _ _ _ 85 rfl rfl rfl rfl hrun ?_
  simp only [HCl.out, zD, zE]
  have hmv : mb ≠ w.heap.size := fun g => by have := HM0.out; omega
  have hT11 : HT w11 tb mb (upd f c.id c) := ⟨(ho11.cell ht10.lt (fun g => ht10.ne g.symm)).trans ht10.c0, by rw [hs11]; exact ht10.lt, ht10.ne, _, hm11⟩
  exact ⟨a6_of (hA.1.only ho11 (fun g => hmv g.symm)) hT11, hT11, (Only.of_below HB10.out.drew).trans ho11⟩
 clear hu
 simp only [Act.put, Nat.reduceAdd, zA, zB, zC, zD, zE]
 (repeat ((first | (refine Reg2.wS_skip gtb (by rfl) ?_) | (refine Reg2.wS_open gtb (by rfl) (by rfl) ?_; apply Exists.intro; refine ⟨fun vs wq hw => ?_, ?_⟩; (focus (simp only [HCl.out, zD, zE] at hw; go_split_ands; go_simp <;> exact ebb)))); simp only [Act.put, Nat.reduceAdd, zA, zB, zC, zD, zE]))
 refine Reg2.wS_nil ?_; intro w' hw; simp only [HCl.out, zD, zE] at hw; clear HCl
 obtain ⟨-, hT11, hO11⟩ := hw
 go_wp2
 refine bodyPost_ret (v := .int .i64 0) (by simp [results, Try.results26, go_sem, *]) rfl ⟨rfl, hT11, hO11⟩
theorem add_ok0 {w : World} {tb mb : Nat} {f : Int → Option Cls} {L : List Int} (h : HT w tb mb f) (I : TI f L) {c : Cls} (hi : CIn c) (hr : ∀ z, Calls Try.prog 51 #[.agg #[.int .i64 c.id, .int .i64 c.par, .bool c.leaf, .int .u64 c.ra, .int .u64 c.rb, .int .u64 c.rc, .int .u64 c.la, .int .u64 c.lb, .int .u64 c.lc, .int .u64 c.ua, .int .u64 c.ub, .int .u64 c.uc, .int .i64 c.pk, .int .i64 c.bt]] z fun ee w' => ee = .returned (.int .i64 0) ∧ Below z.heap.size z w') (hs : f c.id = none) (hl : L.length < 64) (hho : hol f c.par = true) (hsh : sh1 c = false) (hd : (upl f 16 c.par).length < 16) :
  Calls Try.prog 26 #[.pointer (some ⟨tb, 0, none⟩), .agg #[.int .i64 c.id, .int .i64 c.par, .bool c.leaf, .int .u64 c.ra, .int .u64 c.rb, .int .u64 c.rc, .int .u64 c.la, .int .u64 c.lb, .int .u64 c.lc, .int .u64 c.ua, .int .u64 c.ub, .int .u64 c.uc, .int .i64 c.pk, .int .i64 c.bt]] w fun e w' => e = .returned (.int .i64 0) ∧ HT w' tb mb (upd f c.id c) ∧ Only (fun k => k = mb) w w' := by
 have hlk : ∀ z, Below w.heap.size w z → (Instr.lookup 85 (.map (some mb)) (.int .i64 c.id) true).run Try.prog z = .ok (.tuple #[.agg #[.int .i64 ((clz)).id, .int .i64 ((clz)).par, .bool ((clz)).leaf, .int .u64 ((clz)).ra, .int .u64 ((clz)).rb, .int .u64 ((clz)).rc, .int .u64 ((clz)).la, .int .u64 ((clz)).lb, .int .u64 ((clz)).lc, .int .u64 ((clz)).ua, .int .u64 ((clz)).ub, .int .u64 ((clz)).uc, .int .i64 ((clz)).pk, .int .i64 ((clz)).bt], .bool false]) z := fun z hz => by
  have := (h.below hz).look hi.id true
  rw [hs] at this
  exact this
 have HLK := Lib.hid hlk
 clear hlk
 have hln : ∀ z, Below w.heap.size w z → ∀ ty, (Builtin.len_ #[85] ty #[.map (some mb)]).run Try.prog z = .ok (.int .i64 L.length) z := fun z hz ty => by
  obtain ⟨n, hn⟩ := (h.below hz).mp
  exact hn.len ikv_inj Try.underlying85 L (nd_lt I.srt) (fun x => (I.mem x).symm) ty
 obtain ⟨n, hn⟩ : ∃ n, L.length = n := ⟨_, rfl⟩
 rw [hn] at hln hl
 have HLN := Lib.hid hln
 clear hln
 have HM0 := Lib.hid h.mlt
 have CNN := cm_nn
 have q1 : decide ((64 : Int) ≤ (n : Int)) = false := by simp; omega
 have q2 : decide (64 ≤ n) = false := by simp; omega
 have hkh : ∀ z, Below w.heap.size w z → Calls Try.prog 52 #[.pointer (some ⟨tb, 0, none⟩), .int .i64 c.par] z fun ee w' => ee = .returned (.bool true) ∧ Below z.heap.size z w' := fun z hz => by
  have := holds_c (h.below hz) hi.par
  rw [hho] at this
  exact this
 have KH := Lib.hid hkh
 clear hkh
 have KS := Lib.hid (fun z => by have := cshares_c hi z; rw [hsh] at this; exact this)
 have hkd : ∀ z, Below w.heap.size w z → Calls Try.prog 54 #[.pointer (some ⟨tb, 0, none⟩), .int .i64 c.par] z fun ee w' => ee = .returned (.int .i64 (upl f 16 c.par).length) ∧ Below z.heap.size z w' := fun z hz => hdep_c (h.below hz) (fun x cc hcc => ⟨(I.cls x cc hcc).1, (I.cls x cc hcc).2.1.par⟩) 16 (by decide) c.par hi.par (I.dep _)
 have hdl := upl_len f 16 c.par
 obtain ⟨d, hdd⟩ : ∃ d, (upl f 16 c.par).length = d := ⟨_, rfl⟩
 rw [hdd] at hkd hd hdl
 have KD := Lib.hid hkd
 clear hkd
 have q3 : decide ((16 : Int) < (d : Int) + 1) = false := decide_eq_false (by omega)
 have q4 : decide (16 ≤ d) = false := decide_eq_false (by omega)
 have q5 : decide ((16 : Int) ≤ (d : Int)) = false := decide_eq_false (by omega)
 have hW0 : VR (w.alloc (.cells #[.int .i64 c.id, .int .i64 c.par, .bool c.leaf, .int .u64 c.ra, .int .u64 c.rb, .int .u64 c.rc, .int .u64 c.la, .int .u64 c.lb, .int .u64 c.lc, .int .u64 c.ua, .int .u64 c.ub, .int .u64 c.uc, .int .i64 c.pk, .int .i64 c.bt] 54)) w.heap.size 54 #[.int .i64 c.id, .int .i64 c.par, .bool c.leaf, .int .u64 c.ra, .int .u64 c.rb, .int .u64 c.rc, .int .u64 c.la, .int .u64 c.lb, .int .u64 c.lc, .int .u64 c.ua, .int .u64 c.ub, .int .u64 c.uc, .int .i64 c.pk, .int .i64 c.bt] := VR.new _ _ _
 have hB0 : Below w.heap.size w (w.alloc (.cells #[.int .i64 c.id, .int .i64 c.par, .bool c.leaf, .int .u64 c.ra, .int .u64 c.rb, .int .u64 c.rc, .int .u64 c.la, .int .u64 c.lb, .int .u64 c.lc, .int .u64 c.ua, .int .u64 c.ub, .int .u64 c.uc, .int .i64 c.pk, .int .i64 c.bt] 54)) := bub
 have HV0 := Lib.hid hW0
 have HB0 := Lib.hid hB0
 have H := Lib.hid h
 have HI := Lib.hid hi
 have INF := Lib.hid cl_info
 have ONE := Lib.hid cla_one
 have KR := Lib.hid (fun z => hr z)
 clear hW0 hB0 hr
 clear h hi hs I hn hl hho hsh hd hdd
 go_enter Try.func26, Try.ntmps26
 go_wp2_with (first
  | go_guarded
  | (refine wpList_var_get rfl 54 _ rfl w.heap.size #[.int .i64 c.id, .int .i64 c.par, .bool c.leaf, .int .u64 c.ra, .int .u64 c.rb, .int .u64 c.rc, .int .u64 c.la, .int .u64 c.lb, .int .u64 c.lc, .int .u64 c.ua, .int .u64 c.ub, .int .u64 c.uc, .int .i64 c.pk, .int .i64 c.bt] _ HV0.out rfl Try.underlying54 rfl INF.out ?_)
  | (go_at_call 51; (with_reducible refine (KR.out _).mono ?_); rintro _ w1 ⟨rfl, hbel⟩; have HV1 := Lib.hid (HV0.out.bel hbel); have HB1 : Hid (Below w.heap.size w w1) := Lib.hid (HB0.out.trans (hbel.mono HB0.out.size)); have HT1 := Lib.hid (H.out.below HB1.out); clear hbel))
 have ht1 : HT w1.drew tb mb f := H.out.below (HB1.out.drew)
 have hlk1 : (Instr.lookup 85 (.map (some mb)) (.int .i64 c.id) true).run Try.prog w1.drew = .ok (.tuple #[.agg #[.int .i64 clz.id, .int .i64 clz.par, .bool clz.leaf, .int .u64 clz.ra, .int .u64 clz.rb, .int .u64 clz.rc, .int .u64 clz.la, .int .u64 clz.lb, .int .u64 clz.lc, .int .u64 clz.ua, .int .u64 clz.ub, .int .u64 clz.uc, .int .i64 clz.pk, .int .i64 clz.bt], .bool false]) w1.drew := HLK.out _ HB1.out.drew
 obtain ⟨Cl, hCl⟩ : ∃ Cl : List (Nat × Value) → World → Prop, Cl = ((fun ps wz => ((VR wz w.heap.size 54 #[.int .i64 c.id, .int .i64 c.par, .bool c.leaf, .int .u64 c.ra, .int .u64 c.rb, .int .u64 c.rc, .int .u64 c.la, .int .u64 c.lb, .int .u64 c.lc, .int .u64 c.ua, .int .u64 c.ub, .int .u64 c.uc, .int .i64 c.pk, .int .i64 c.bt] ∧ wz.cell? ⟨w.heap.size, 0, none⟩ = some (.int .i64 c.id) ∧ wz.cell? ⟨w.heap.size, 1, none⟩ = some (.int .i64 c.par) ∧ w.heap.size < wz.heap.size ∧ wz.cell? ⟨tb, 0, none⟩ = some (.map (some mb)) ∧ tb < wz.heap.size) ∧ (Instr.lookup 85 (.map (some mb)) (.int .i64 c.id) true).run Try.prog wz = .ok (.tuple #[.agg #[.int .i64 clz.id, .int .i64 clz.par, .bool clz.leaf, .int .u64 clz.ra, .int .u64 clz.rb, .int .u64 clz.rc, .int .u64 clz.la, .int .u64 clz.lb, .int .u64 clz.lc, .int .u64 clz.ua, .int .u64 clz.ub, .int .u64 clz.uc, .int .i64 clz.pk, .int .i64 clz.bt], .bool false]) wz) ∧ (match ps with
  | [] => wz = w1.drew
  | [(_, p)] => p = .pointer (some ⟨w1.heap.size, 0, none⟩) ∧ wz = w1.drew.alloc (.cells #[.int .i64 0, .int .i64 0, .bool false, .int .u64 0, .int .u64 0, .int .u64 0, .int .u64 0, .int .u64 0, .int .u64 0, .int .u64 0, .int .u64 0, .int .u64 0, .int .i64 0, .int .i64 0] 54)
  | [_, _] => Below w1.heap.size w1 wz
  | _ => True))) := ⟨_, rfl⟩; have HCl := Lib.hid hCl; clear hCl; refine Reg2.wp_region_lineS [(0, false), (1, false), (2, false), (3, false), (4, false), (5, false), (6, false), (7, false), (8, false), (9, false), (10, false), (11, false), (12, false)] [10, 11] Cl (by kernel_rfl) (by kernel_rfl) (by kernel_rfl) (by simp only [HCl.out, zD, zE]; exact ⟨⟨a6_of (HV1.out.frame rfl) ht1, hlk1⟩, (by first | rfl | trivial)⟩) ?_
 clear ht1 hlk1
 (repeat ((first | (refine Reg2.wS_skip gtb (by rfl) ?_) | (refine Reg2.wS_open gtb (by rfl) (by rfl) ?_; apply Exists.intro; refine ⟨fun vs wq hw => ?_, ?_⟩; (focus (simp only [HCl.out, zD, zE] at hw; go_split_ands; go_simp <;> exact ebb)))); simp only [Act.put, Nat.reduceAdd, zA, zB, zC, zD, zE]))
 refine Reg2.wS_eff gtb (by rfl) (by rfl) (fun wq hw => ?_) (fun u9 hu => ?_)
 focus
  simp only [HCl.out, zD, zE] at hw
  obtain ⟨⟨hA, -⟩, rfl⟩ := hw
  have hb : Below w1.heap.size w1 (w1.drew.alloc (.cells #[.int .i64 0, .int .i64 0, .bool false, .int .u64 0, .int .u64 0, .int .u64 0, .int .u64 0, .int .u64 0, .int .u64 0, .int .u64 0, .int .u64 0, .int .u64 0, .int .i64 0, .int .i64 0] 54)) := bub
  have hb2 : Below w.heap.size w (w1.drew.alloc (.cells #[.int .i64 0, .int .i64 0, .bool false, .int .u64 0, .int .u64 0, .int .u64 0, .int .u64 0, .int .u64 0, .int .u64 0, .int .u64 0, .int .u64 0, .int .u64 0, .int .i64 0, .int .i64 0] 54)) := HB1.out.trans (hb.mono HB1.out.size)
  refine effv_alloc 54 rfl (cl_alloc _) ?_
  simp only [HCl.out, zD, zE]
  exact ⟨⟨a6_of (HV1.out.bel hb) (H.out.below hb2), HLK.out _ hb2⟩, rfl, (by first | rfl | trivial)⟩
 (obtain ⟨wz, hz⟩ := hu; rw [HCl.out] at hz; (try simp only [List.nil_append, List.cons_append] at hz); (try dsimp only at hz))
 obtain ⟨-, rfl, -⟩ := hz
 clear wz
 simp only [Act.put, Nat.reduceAdd, zA, zB, zC, zD, zE]
 (repeat ((first | (refine Reg2.wS_skip gtb (by rfl) ?_) | (refine Reg2.wS_open gtb (by rfl) (by rfl) ?_; apply Exists.intro; refine ⟨fun vs wq hw => ?_, ?_⟩; (focus (simp only [HCl.out, zD, zE] at hw; go_split_ands; go_simp <;> exact ebb)))); simp only [Act.put, Nat.reduceAdd, zA, zB, zC, zD, zE]))
 refine Reg2.wS_eff gtb (by rfl) (by rfl) (fun wq hw => ?_) (fun u9 hu => ?_)
 focus
  simp only [HCl.out, zD, zE] at hw
  obtain ⟨⟨hA, -⟩, -, rfl⟩ := hw
  refine effv_store 54 _ _ rfl rfl rfl (run_storeAt_new (P := Try.prog) w1.drew 54 #[.int .i64 0, .int .i64 0, .bool false, .int .u64 0, .int .u64 0, .int .u64 0, .int .u64 0, .int .u64 0, .int .u64 0, .int .u64 0, .int .u64 0, .int .u64 0, .int .i64 0, .int .i64 0] #[.int .i64 clz.id, .int .i64 clz.par, .bool clz.leaf, .int .u64 clz.ra, .int .u64 clz.rb, .int .u64 clz.rc, .int .u64 clz.la, .int .u64 clz.lb, .int .u64 clz.lc, .int .u64 clz.ua, .int .u64 clz.ub, .int .u64 clz.uc, .int .i64 clz.pk, .int .i64 clz.bt] cl_info rfl (cla_one _)) ?_
  simp only [HCl.out, zD, zE]
  have hb : Below w1.heap.size w1 (w1.drew.alloc (.cells #[.int .i64 clz.id, .int .i64 clz.par, .bool clz.leaf, .int .u64 clz.ra, .int .u64 clz.rb, .int .u64 clz.rc, .int .u64 clz.la, .int .u64 clz.lb, .int .u64 clz.lc, .int .u64 clz.ua, .int .u64 clz.ub, .int .u64 clz.uc, .int .i64 clz.pk, .int .i64 clz.bt] 54)) := bub
  have hb2 : Below w.heap.size w (w1.drew.alloc (.cells #[.int .i64 clz.id, .int .i64 clz.par, .bool clz.leaf, .int .u64 clz.ra, .int .u64 clz.rb, .int .u64 clz.rc, .int .u64 clz.la, .int .u64 clz.lb, .int .u64 clz.lc, .int .u64 clz.ua, .int .u64 clz.ub, .int .u64 clz.uc, .int .i64 clz.pk, .int .i64 clz.bt] 54)) := HB1.out.trans (hb.mono HB1.out.size)
  exact ⟨⟨a6_of (HV1.out.bel hb) (H.out.below hb2), HLK.out _ hb2⟩, hb⟩
 clear hu
 simp only [Act.put, Nat.reduceAdd, zA, zB, zC, zD, zE]
 (repeat ((first | (refine Reg2.wS_skip gtb (by rfl) ?_) | (refine Reg2.wS_open gtb (by rfl) (by rfl) ?_; apply Exists.intro; refine ⟨fun vs wq hw => ?_, ?_⟩; (focus (simp only [HCl.out, zD, zE] at hw; go_split_ands; go_simp <;> exact ebb)))); simp only [Act.put, Nat.reduceAdd, zA, zB, zC, zD, zE]))
 refine Reg2.wS_nil ?_; intro w' hw; simp only [HCl.out, zD, zE] at hw; clear HCl
 obtain ⟨⟨⟨hv6, hc6, hp6, hl6, ht6, hs6⟩, -⟩, hb6⟩ := hw
 have HV6 := Lib.hid hv6
 have HB6 : Hid (Below w.heap.size w w') := Lib.hid (HB1.out.trans (hb6.mono HB1.out.size))
 have HT6 := Lib.hid (H.out.below HB6.out)
 clear hv6 hb6
 have hln6 := HLN.out _ HB6.out
 go_wp2_with (first
  | go_guarded
  | (go_at_call 52; (with_reducible refine (KH.out _ HB6.out).mono ?_); rintro _ w7 ⟨rfl, hbel⟩; have HV7 := Lib.hid (HV6.out.bel hbel); have HB7 : Hid (Below w.heap.size w w7) := Lib.hid (HB6.out.trans (hbel.mono HB6.out.size)); have p7 := HV7.out.cell 1 rfl; have l7 := HV7.out.lt; clear hbel)
  | (refine wpList_var_get rfl 54 _ rfl w.heap.size #[.int .i64 c.id, .int .i64 c.par, .bool c.leaf, .int .u64 c.ra, .int .u64 c.rb, .int .u64 c.rc, .int .u64 c.la, .int .u64 c.lb, .int .u64 c.lc, .int .u64 c.ua, .int .u64 c.ub, .int .u64 c.uc, .int .i64 c.pk, .int .i64 c.bt] _ HV7.out rfl Try.underlying54 rfl INF.out ?_)
  | (go_at_call 33; (with_reducible refine (KS.out _).mono ?_); rintro _ w8 ⟨rfl, hbel⟩; have HV8 := Lib.hid (HV7.out.bel hbel); have HB8 : Hid (Below w.heap.size w w8) := Lib.hid (HB7.out.trans (hbel.mono HB7.out.size)); have p8 := HV8.out.cell 1 rfl; have l8 := HV8.out.lt; clear hbel)
  | (go_at_call 54; (with_reducible refine (KD.out _ HB8.out).mono ?_); rintro _ w10 ⟨rfl, hbel⟩; have HV10 := Lib.hid (HV8.out.bel hbel); have HB10 : Hid (Below w.heap.size w w10) := Lib.hid (HB8.out.trans (hbel.mono HB8.out.size)); have HT10 := Lib.hid (H.out.below HB10.out); have t10 := HT10.out.c0; have lt10 := HT10.out.lt; clear hbel))
 have ht10 : HT w10.drew tb mb f := H.out.below (HB10.out.drew)
 obtain ⟨Cl, hCl⟩ : ∃ Cl : List (Nat × Value) → World → Prop, Cl = ((fun ps wz => (VR wz w.heap.size 54 #[.int .i64 c.id, .int .i64 c.par, .bool c.leaf, .int .u64 c.ra, .int .u64 c.rb, .int .u64 c.rc, .int .u64 c.la, .int .u64 c.lb, .int .u64 c.lc, .int .u64 c.ua, .int .u64 c.ub, .int .u64 c.uc, .int .i64 c.pk, .int .i64 c.bt] ∧ wz.cell? ⟨w.heap.size, 0, none⟩ = some (.int .i64 c.id) ∧ wz.cell? ⟨w.heap.size, 1, none⟩ = some (.int .i64 c.par) ∧ w.heap.size < wz.heap.size ∧ wz.cell? ⟨tb, 0, none⟩ = some (.map (some mb)) ∧ tb < wz.heap.size) ∧ (match ps with
  | [] => wz = w10.drew
  | [_] => HT wz tb mb (upd f c.id c) ∧ Only (fun k => k = mb) w wz
  | _ => True))) := ⟨_, rfl⟩; have HCl := Lib.hid hCl; clear hCl; refine Reg2.wp_region_lineS [(0, false), (1, false), (2, false), (3, false), (4, false), (5, false), (6, false), (7, false)] [7] Cl (by kernel_rfl) (by kernel_rfl) (by kernel_rfl) (by simp only [HCl.out, zD, zE]; exact ⟨a6_of (HV10.out.frame rfl) ht10, (by first | rfl | trivial)⟩) ?_
 clear ht10
 (repeat ((first | (refine Reg2.wS_skip gtb (by rfl) ?_) | (refine Reg2.wS_open gtb (by rfl) (by rfl) ⟨.agg #[.int .i64 c.id, .int .i64 c.par, .bool c.leaf, .int .u64 c.ra, .int .u64 c.rb, .int .u64 c.rc, .int .u64 c.la, .int .u64 c.lb, .int .u64 c.lc, .int .u64 c.ua, .int .u64 c.ub, .int .u64 c.uc, .int .i64 c.pk, .int .i64 c.bt], fun vs wq hw => ?_, ?_⟩; (focus (simp only [HCl.out, zD, zE] at hw; exact quiet_var 54 _ rfl w.heap.size #[.int .i64 c.id, .int .i64 c.par, .bool c.leaf, .int .u64 c.ra, .int .u64 c.rb, .int .u64 c.rc, .int .u64 c.la, .int .u64 c.lb, .int .u64 c.lc, .int .u64 c.ua, .int .u64 c.ub, .int .u64 c.uc, .int .i64 c.pk, .int .i64 c.bt] _ hw.1.1 rfl Try.underlying54 rfl INF.out))) | (refine Reg2.wS_open gtb (by rfl) (by rfl) ?_; apply Exists.intro; refine ⟨fun vs wq hw => ?_, ?_⟩; (focus (simp only [HCl.out, zD, zE] at hw; go_split_ands; go_simp <;> exact ebb)))); simp only [Act.put, Nat.reduceAdd, zA, zB, zC, zD, zE]))
 refine Reg2.wS_eff gtb (by rfl) (by rfl) (fun wq hw => ?_) (fun u9 hu => ?_)
 focus
  simp only [HCl.out, zD, zE] at hw
  obtain ⟨hA, rfl⟩ := hw
  have ht10 : HT w10.drew tb mb f := H.out.below (HB10.out.drew)
  obtain ⟨nn, hmn⟩ := ht10.mp
  obtain ⟨w11, hrun, hm11, ho11, hs11⟩ := hmn.update (t := 85) (e := 54) ikok Try.underlying85 HI.out.id c
  refine effv_map _ _ _ 85 rfl rfl rfl rfl hrun ?_
  simp only [HCl.out, zD, zE]
  have hmv : mb ≠ w.heap.size := fun g => by have := HM0.out; omega
  have hT11 : HT w11 tb mb (upd f c.id c) := ⟨(ho11.cell ht10.lt (fun g => ht10.ne g.symm)).trans ht10.c0, by rw [hs11]; exact ht10.lt, ht10.ne, _, hm11⟩
  exact ⟨a6_of (hA.1.only ho11 (fun g => hmv g.symm)) hT11, hT11, (Only.of_below HB10.out.drew).trans ho11⟩
 clear hu
 simp only [Act.put, Nat.reduceAdd, zA, zB, zC, zD, zE]
 (repeat ((first | (refine Reg2.wS_skip gtb (by rfl) ?_) | (refine Reg2.wS_open gtb (by rfl) (by rfl) ?_; apply Exists.intro; refine ⟨fun vs wq hw => ?_, ?_⟩; (focus (simp only [HCl.out, zD, zE] at hw; go_split_ands; go_simp <;> exact ebb)))); simp only [Act.put, Nat.reduceAdd, zA, zB, zC, zD, zE]))
 refine Reg2.wS_nil ?_; intro w' hw; simp only [HCl.out, zD, zE] at hw; clear HCl
 obtain ⟨-, hT11, hO11⟩ := hw
 go_wp2
 refine bodyPost_ret (v := .int .i64 0) (by simp [results, Try.results26, go_sem, *]) rfl ⟨rfl, hT11, hO11⟩
end Go.Proofs.Ytmmahgfijiocfaa
end
