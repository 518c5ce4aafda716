/- Joined texts. -/
import Derived.Test.YtmmahgfijiocfaaBs0
import Derived.Test.YtmmahgfijiocfaaBs1
import Derived.Test.YtmmahgfijiocfaaBs10
import Derived.Test.YtmmahgfijiocfaaBs11
import Derived.Test.YtmmahgfijiocfaaBs12
import Derived.Test.YtmmahgfijiocfaaBs13
import Derived.Test.YtmmahgfijiocfaaBs15
import Derived.Test.YtmmahgfijiocfaaBs16
import Derived.Test.YtmmahgfijiocfaaBs17
import Derived.Test.YtmmahgfijiocfaaBs18
import Derived.Test.YtmmahgfijiocfaaBs19
import Derived.Test.YtmmahgfijiocfaaBs2
import Derived.Test.YtmmahgfijiocfaaBs20
import Derived.Test.YtmmahgfijiocfaaBs23
import Derived.Test.YtmmahgfijiocfaaBs24
import Derived.Test.YtmmahgfijiocfaaBs3
import Derived.Test.YtmmahgfijiocfaaBs4
import Derived.Test.YtmmahgfijiocfaaBs5
import Derived.Test.YtmmahgfijiocfaaBs6
import Derived.Test.YtmmahgfijiocfaaBs7
import Derived.Test.YtmmahgfijiocfaaBs8
import Derived.Test.YtmmahgfijiocfaaBs9
import Derived.Test.YtmmahgfijiocfaaAl1
import Derived.Test.YtmmahgfijiocfaaAl2
import Derived.Test.YtmmahgfijiocfaaAl3
import Derived.Test.YtmmahgfijiocfaaAl4
import Derived.Test.YtmmahgfijiocfaaAl5
import Derived.Test.YtmmahgfijiocfaaAl6
import Derived.Test.YtmmahgfijiocfaaAl7
import Derived.Test.YtmmahgfijiocfaaAl8
import Derived.Test.YtmmahgfijiocfaaAl9
import Derived.Test.YtmmahgfijiocfaaAl10
import Derived.Test.YtmmahgfijiocfaaAl11
import Derived.Test.YtmmahgfijiocfaaAl12
import Derived.Test.YtmmahgfijiocfaaAl13
import Derived.Test.YtmmahgfijiocfaaAl14
import Derived.Maps.Keyed
import Derived.Maps.Own
import Derived.Maps.OwnOps
import Derived.DeepKeys5
import Derived.StillTail
import Derived.Deep.Quiet
import Derived.Deep.QuietTactic
import Derived.Test.YtmmahgfijiocfaaChecked
import Derived.WalkKit
import Derived.BigQuiet
import Derived.OpenShut
import Derived.Deep.RegionHeld3
import Derived.Deep.RegionWith
import Derived.Deep.DeepCutAuto
import Derived.WalkSpells
import Derived.WalkSmall
import Derived.Lib.Hide
import Derived.RowKit
import Derived.IntWalk
import Derived.Maps.RangeRun
import Derived.Deep.MidRow
import Derived.Deep.WholeRow
import Derived.Laws.CopyRow
import Derived.Deep.OwnRows
import Derived.ArgAppend
import Derived.Sort.OwnSortedInts
import Derived.Shelf.SlIterI.Nil
import Derived.Shelf.SortM.Plain
import Derived.Shelf.SortM.SortNone
import Derived.Ground.GgzProg
import Derived.Ground.SlgmProg
import Derived.Laws.AppendOwn
import Derived.Laws.AppendOwnNone
import Derived.ProofKit
import Derived.Below
import Derived.Carry
import Derived.ReadAgain
import Derived.ChangeOld
import Derived.Deep.Slices
import Derived.Deep.Onto
import Derived.LoopN
import Derived.Shelf.SlMaps.Clone
import Derived.Ground.SlmcProg
import Derived.Shelf.SlIterI.Stops
import Derived.RangeFuncCalls
import Derived.RangeFuncLeaves
import Derived.RangeFuncBox
import Derived.Maps.AppendAt
import Derived.Shelf.Abstract
import Derived.OwnWalkIn
import Derived.TacticsInMore
import Derived.LoopNIn
import Derived.LoopIn
import Derived.Lib.SliceRun
import Derived.Lib.SlicesCompact
import Derived.Shelf.SlicesE.Compact
import Derived.Ground.SlgnProg
set_option linter.unusedVariables false
set_option linter.unusedSimpArgs false
set_option maxRecDepth 100000
set_option maxHeartbeats 16000000
section
namespace Go.Proofs.Ytmmahgfijiocfaa
open Go.RowKit Fg Reg Go.Maps Go.Sort Go.Shelf
attribute [local irreducible] Reg.wE VR
theorem af_bel {w5 z z' : World} {p8 : Nat} {c : Cls} (h : VR z p8 54 #[.int .i64 c.id, .int .i64 c.par, .bool c.leaf, .int .u64 c.ra, .int .u64 c.rb, .int .u64 c.rc, .int .u64 c.la, .int .u64 c.lb, .int .u64 c.lc, .int .u64 c.ua, .int .u64 c.ub, .int .u64 c.uc, .int .i64 c.pk, .int .i64 c.bt] ∧ z.cell? ⟨p8, 0, none⟩ = some (.int .i64 c.id) ∧ p8 < z.heap.size ∧ Below w5.heap.size w5 z) (hb : Below z.heap.size z z') : VR z' p8 54 #[.int .i64 c.id, .int .i64 c.par, .bool c.leaf, .int .u64 c.ra, .int .u64 c.rb, .int .u64 c.rc, .int .u64 c.la, .int .u64 c.lb, .int .u64 c.lc, .int .u64 c.ua, .int .u64 c.ub, .int .u64 c.uc, .int .i64 c.pk, .int .i64 c.bt] ∧ z'.cell? ⟨p8, 0, none⟩ = some (.int .i64 c.id) ∧ p8 < z'.heap.size ∧ Below w5.heap.size w5 z' :=
 ⟨h.1.bel hb, (h.1.bel hb).cell 0 rfl, (h.1.bel hb).lt, h.2.2.2.trans (hb.mono h.2.2.2.size)⟩
theorem allx_h {z : World} {M : List Int} {n : Nat} (hn : M.length = n) {e : Ending} {z' : World} (h : AllX z M e z') : AllH z M n e z' := by
 obtain ⟨v, rfl, hr, hb⟩ := h
 rw [hn] at hr
 obtain ⟨ao, cap, rfl⟩ := row_form hr
 exact ⟨ao, cap, rfl, by rw [← hn] at hr; exact (own_ints hr).2, hb⟩
def kidsR (f : Int → Option Cls) (L on : List Int) (x : Int) : List Int := L.filter (sel f (fun c => c.par == x && sh1 c && isR f on c.id))
def allR (f : Int → Option Cls) (L on : List Int) : List Int := L.filter (sel f (fun c => isR f on c.id))
theorem aisR {f : Int → Option Cls} {L : List Int} (I : TI f L) {z : World} {B p mb cb : Nat} {F : Int → Option Nat} {A : Int → Option (List Int)} {on : List Int} (h : AS z B p mb cb (mfA f) F A) (h2 : RI f A on) {x : Int} (hx : iok x) : Calls Try.prog 22 #[.pointer (some ⟨p, 0, none⟩), .int .i64 x] z fun ee w' => ee = .returned (.bool (isR f on x)) ∧ Below z.heap.size z w' := by
 have := ais_c h (mfA_iok I) hx
 rw [h2.isA I x] at this
 exact this
theorem achR {f : Int → Option Cls} {L : List Int} (I : TI f L) {z : World} {B p mb cb : Nat} {F : Int → Option Nat} {A : Int → Option (List Int)} {on : List Int} (h : AS z B p mb cb (mfA f) F A) (h2 : RI f A on) {x : Int} (hx : iok x) {q : Nat} (hq : (kidsR f L on x).length = q) : Calls Try.prog 23 #[.pointer (some ⟨p, 0, none⟩), .int .i64 x] z (AllH z (kidsR f L on x) q) := by
 have e := h2.kids I x
 refine (ach_c h hx (by rw [e]; have h1 := List.length_filter_le (sel f (fun c => c.par == x && sh1 c && isR f on c.id)) L; have := I.len; omega)).mono ?_
 rintro _ z' ⟨v, rfl, hr, hb⟩
 rw [e] at hr
 exact allx_h hq ⟨v, rfl, hr, hb⟩
theorem aalR {f : Int → Option Cls} {L : List Int} (I : TI f L) {z : World} {B p mb cb : Nat} {F : Int → Option Nat} {A : Int → Option (List Int)} {on : List Int} (h : AS z B p mb cb (mfA f) F A) (h2 : RI f A on) {q : Nat} (hq : (allR f L on).length = q) : Calls Try.prog 19 #[.pointer (some ⟨p, 0, none⟩)] z (AllH z (allR f L on) q) := by
 refine (aalJ I h h2.aj).mono ?_
 rintro _ z' ⟨M, n, hM, hm, hn, -, ha⟩
 have e : M = allR f L on := h2.alls I hM hm
 rw [e] at ha hn
 rw [← hn.symm.trans hq]
 exact ha
theorem kids_len {f : Int → Option Cls} {L : List Int} (I : TI f L) (on : List Int) (x : Int) : (kidsR f L on x).length ≤ 64 := Nat.le_trans (List.length_filter_le _ _) I.len
theorem alls_len {f : Int → Option Cls} {L : List Int} (I : TI f L) (on : List Int) : (allR f L on).length ≤ 64 := Nat.le_trans (List.length_filter_le _ _) I.len
theorem intsM (M : List Int) (n : Nat) (hn : M.length = n) (hle : n ≤ 1000) (a1 a2 : Option Addr) (c1 c2 : Nat) (z : World) (h1 : IntsV z a1 M) (h2 : IntsV z a2 M) : Calls Try.prog 13 #[.slice a1 n c1, .slice a2 n c2] z fun ee w' => ee = .returned (.bool true) ∧ Below z.heap.size z w' := by
 have := pints_c M a1 a2 c1 c2 (by omega) z h1 h2
 rw [hn] at this
 exact this
theorem lsm23_c {f : Int → Option Cls} {L : List Int} (I : TI f L) (n : Nat) (hn : L.length = n) {z : World} {B p mb cb : Nat} {F : Int → Option Nat} {A : Int → Option (List Int)} {on : List Int} (h : AS z B p mb cb (mfA f) F A) (h2 : RI f A on) (m : Nat) (hm : on.length = m) (hle : m ≤ 1000) (hon : ∀ y ∈ on, iok y) (ao a2 : Option Addr) (cap c2 : Nat) (hR : RwV crow 14 z ao (rowsX f L)) (hO : IntsV z a2 on) :
  Calls Try.prog 18 #[.pointer (some ⟨p, 0, none⟩), .slice ao n cap, .slice a2 m c2] z fun ee w' => ee = .returned (.bool true) ∧ Below z.heap.size z w' := by
 have hl : (rowsX f L).length = n := by rw [rowsX_len]; exact hn
 have hn64 : n ≤ 64 := by rw [← hn]; exact I.len
 have KA := Lib.hid (fun v (hv : Below z.heap.size z v) x (hx : iok x) => aisR I (h.below hv) h2 hx)
 have KR := Lib.hid (fun v (hv : Below z.heap.size z v) x => ris_c I n hn on m hm hle hon x ao a2 cap c2 v (hR.below hv) (hO.below hv))
 have KC := Lib.hid (fun v (hv : Below z.heap.size z v) x (hx : iok x) q hq => achR I (h.below hv) h2 (x := x) hx (q := q) hq)
 have KRC := Lib.hid (fun v (hv : Below z.heap.size z v) x q (hq : (kidsR f L on x).length = q) => (rch23_c I n hn on m hm hle hon x ao a2 cap c2 v (hR.below hv) (hO.below hv)).mono fun _ _ g => allx_h (M := kidsR f L on x) hq g)
 have KAL := Lib.hid (fun v (hv : Below z.heap.size z v) q hq => aalR I (h.below hv) h2 (q := q) hq)
 have KRL := Lib.hid (fun v (hv : Below z.heap.size z v) q (hq : (allR f L on).length = q) => (ral_c I n hn on m hm hle hon ao a2 cap c2 v (hR.below hv) (hO.below hv)).mono fun _ _ g => allx_h (M := allR f L on) hq g)
 have HI := Lib.hid I
 have HL := Lib.hid hl
 have HN := Lib.hid hn
 have HM := Lib.hid hm
 have HRS := Lib.hid (fun (v : World) (hv : Below z.heap.size z v) => hR.below hv)
 have ALL := Lib.hid cl_alloc
 have INF := Lib.hid cl_info
 have ONE := Lib.hid cla_one
 clear h h2 hm hon hR hO I hl hn
 go_enter Try.func18, Try.ntmps18
 go_wp2_with fail
 go_loopg [11] n (fun k9 s11 wr => ∃ k : Nat, s11 = .int .i64 k ∧ k ≤ n ∧ Below z.heap.size z wr ∧ n - k ≤ k9)
 case atStart => exact ⟨0, rfl, Nat.zero_le _, Below.refl _ _, by omega⟩
 case round =>
  obtain ⟨k, rfl, hk, hB, hk9⟩ := hrel
  have HB := Lib.hid hB
  by_cases hlt : k < n
  ·have hlC : k < L.length := by rw [HN.out]; exact hlt
   have hlX : k < (rowsX f L).length := by rw [HL.out]; exact hlt
   obtain ⟨b, o, rfl, hb, hra⟩ := (HRS.out _ hB) k hlX
   have hat := rx_at HI.out hlC
   obtain ⟨c, hce⟩ : ∃ c, (rowsX f L)[k] = c := ⟨_, rfl⟩
   rw [hce] at hra hat
   have hid : iok c.id := (HI.out.cls _ c hat.1).2.1.id
   have HR1 := Lib.hid (show wr.rangeAt b (o + k * 14) (#[.int .i64 c.id, .int .i64 c.par, .bool c.leaf, .int .u64 c.ra, .int .u64 c.rb, .int .u64 c.rc, .int .u64 c.la, .int .u64 c.lb, .int .u64 c.lc, .int .u64 c.ua, .int .u64 c.ub, .int .u64 c.uc, .int .i64 c.pk, .int .i64 c.bt] : Array Value).toList from hra)
   obtain ⟨C, hC⟩ : ∃ C, kidsR f L on c.id = C := ⟨_, rfl⟩
   obtain ⟨q, hq⟩ : ∃ q, C.length = q := ⟨_, rfl⟩
   have hq64 : q ≤ 64 := by rw [← hq, ← hC]; exact kids_len HI.out on c.id
   obtain ⟨r, hr⟩ : ∃ r, isR f on c.id = r := ⟨_, rfl⟩
   have KA1 : Hid (∀ v, Below z.heap.size z v → Calls Try.prog 22 #[.pointer (some ⟨p, 0, none⟩), .int .i64 c.id] v fun e z' => e = .returned (.bool r) ∧ Below v.heap.size v z') := Lib.hid (fun v hv => by have := KA.out v hv c.id hid; rw [hr] at this; exact this)
   have KR1 : Hid (∀ v, Below z.heap.size z v → Calls Try.prog 35 #[.slice (some ⟨b, o, none⟩) n cap, .slice a2 m c2, .int .i64 c.id] v fun e z' => e = .returned (.bool r) ∧ Below v.heap.size v z') := Lib.hid (fun v hv => by have := KR.out v hv c.id; rw [hr] at this; exact this)
   have KC1 : Hid (∀ v, Below z.heap.size z v → Calls Try.prog 23 #[.pointer (some ⟨p, 0, none⟩), .int .i64 c.id] v (AllH v C q)) := Lib.hid (fun v hv => by have := KC.out v hv c.id hid q (by rw [hC]; exact hq); rw [hC] at this; exact this)
   have KRC1 : Hid (∀ v, Below z.heap.size z v → Calls Try.prog 38 #[.slice (some ⟨b, o, none⟩) n cap, .slice a2 m c2, .int .i64 c.id] v (AllH v C q)) := Lib.hid (fun v hv => by have := KRC.out v hv c.id q (by rw [hC]; exact hq); rw [hC] at this; exact this)
   have KIC := Lib.hid (fun a1 a2 d1 d2 z h1 h2 => intsM C q hq (by omega) a1 a2 d1 d2 z h1 h2)
   clear hB hra hat hce hC hq hr hlC hlX hb
   go_wp2_with (first
    | go_guarded
    | (refine wpList_var_new rfl rfl 54 #[.int .i64 0, .int .i64 0, .bool false, .int .u64 0, .int .u64 0, .int .u64 0, .int .u64 0, .int .u64 0, .int .u64 0, .int .u64 0, .int .u64 0, .int .u64 0, .int .i64 0, .int .i64 0] ALL.out rfl _ _ rfl #[.int .i64 c.id, .int .i64 c.par, .bool c.leaf, .int .u64 c.ra, .int .u64 c.rb, .int .u64 c.rc, .int .u64 c.la, .int .u64 c.lb, .int .u64 c.lc, .int .u64 c.ua, .int .u64 c.ub, .int .u64 c.uc, .int .i64 c.pk, .int .i64 c.bt] rfl rfl INF.out rfl (ONE.out _) ?_; intro w5 hs5 hb5 hv5; have HV5 := Lib.hid hv5; have HB5 : Hid (Below z.heap.size z w5) := Lib.hid (HB.out.trans (hb5.mono HB.out.size)); have HBT : Hid (Below wr.heap.size wr w5) := Lib.hid hb5; clear hb5 hv5)
    | (refine wpList_part_get rfl 54 _ rfl b (o + k * 14) #[.int .i64 c.id, .int .i64 c.par, .bool c.leaf, .int .u64 c.ra, .int .u64 c.rb, .int .u64 c.rc, .int .u64 c.la, .int .u64 c.lb, .int .u64 c.lc, .int .u64 c.ua, .int .u64 c.ub, .int .u64 c.uc, .int .i64 c.pk, .int .i64 c.bt] _ HR1.out rfl Try.underlying54 rfl INF.out ?_))
   obtain ⟨p8, hp8⟩ : ∃ p, wr.heap.size = p := ⟨_, rfl⟩
   rw [hp8] at HV5
   (try rw [hp8])
   (try simp only [hp8])
   have hbq : Below w5.heap.size w5 w5.drew := Below.drew (Below.refl _ _)
   clear hp8 HBT hs5
   have HBZ : Hid (∀ v, Below w5.heap.size w5 v → Below z.heap.size z v) := Lib.hid (fun v hv => HB5.out.trans (hv.mono HB5.out.size))
   obtain ⟨Cl, hCl⟩ : ∃ Cl : List (Nat × Value) → World → Prop, Cl = ((fun ps wz => (VR wz p8 54 #[.int .i64 c.id, .int .i64 c.par, .bool c.leaf, .int .u64 c.ra, .int .u64 c.rb, .int .u64 c.rc, .int .u64 c.la, .int .u64 c.lb, .int .u64 c.lc, .int .u64 c.ua, .int .u64 c.ub, .int .u64 c.uc, .int .i64 c.pk, .int .i64 c.bt] ∧ wz.cell? ⟨p8, 0, none⟩ = some (.int .i64 c.id) ∧ p8 < wz.heap.size ∧ Below w5.heap.size w5 wz) ∧ (match ps with
    | [] => True
    | [(_, v)] => v = .bool r
    | [_, (_, v)] => v = .bool r
    | [_, _, (_, v)] => ∃ a2 d2, v = .slice a2 q d2 ∧ IntsV wz a2 C
    | [_, _, (_, v), (_, v')] => (∃ a2 d2, v = .slice a2 q d2 ∧ IntsV wz a2 C) ∧ ∃ a3 d3, v' = .slice a3 q d3 ∧ IntsV wz a3 C
    | [_, _, _, _, (_, v)] => v = .bool true
    | _ => True))) := ⟨_, rfl⟩; have HCl := Lib.hid hCl; clear hCl; refine Reg2.wp_region_lineS [(0, false), (1, false), (2, false), (4, false), (5, false), (6, false), (7, false), (3, false), (8, false), (9, false), (10, false), (11, false), (12, false), (13, false), (15, false), (16, false), (17, false), (18, false), (14, false), (19, false), (20, false), (21, false), (22, false)] [3, 8, 14, 19, 20] Cl (by kernel_rfl) (by kernel_rfl) (by kernel_rfl) (by simp only [HCl.out, zD, zE]; exact ⟨⟨HV5.out.bel hbq, (HV5.out.bel hbq).cell 0 rfl, (HV5.out.bel hbq).lt, hbq⟩, trivial⟩) ?_
   clear hbq
   (repeat ((first | (refine Reg2.wS_skip gtb (by rfl) ?_) | (refine Reg2.wS_open gtb (by rfl) (by rfl) ?_; apply Exists.intro; refine ⟨fun vs wq hw => ?_, ?_⟩; (focus (simp only [HCl.out, zD, zE] at hw; go_split_ands; go_simp <;> exact ebb)))); simp only [Act.put, Nat.reduceAdd, zA, zB, zC, zD, zE]))
   refine Reg2.wS_eff gtb (by rfl) (by rfl) (fun wq hw => ?_) (fun u9 hu => ?_)
   focus
    simp only [HCl.out, zD, zE] at hw
    obtain ⟨hA, -⟩ := hw
    go_simp
    go_at_call 22
    (with_reducible refine (KA1.out _ (HBZ.out _ hA.2.2.2)).mono ?_)
    rintro e w9 ⟨rfl, hbel⟩
    refine ⟨_, rfl, ?_⟩
    simp only [HCl.out, zD, zE]
    exact ⟨af_bel hA hbel, by first | rfl | trivial⟩
   (obtain ⟨wz, hz⟩ := hu; rw [HCl.out] at hz; (try simp only [List.nil_append, List.cons_append] at hz); (try dsimp only at hz))
   obtain ⟨-, rfl⟩ := hz
   clear wz
   simp only [Act.put, Nat.reduceAdd, zA, zB, zC, zD, zE]
   (repeat ((first | (refine Reg2.wS_skip gtb (by rfl) ?_) | (refine Reg2.wS_open gtb (by rfl) (by rfl) ?_; apply Exists.intro; refine ⟨fun vs wq hw => ?_, ?_⟩; (focus (simp only [HCl.out, zD, zE] at hw; go_split_ands; go_simp <;> exact ebb)))); simp only [Act.put, Nat.reduceAdd, zA, zB, zC, zD, zE]))
   refine Reg2.wS_eff gtb (by rfl) (by rfl) (fun wq hw => ?_) (fun u9 hu => ?_)
   focus
    simp only [HCl.out, zD, zE] at hw
    obtain ⟨hA, -⟩ := hw
    go_simp
    go_at_call 35
    (with_reducible refine (KR1.out _ (HBZ.out _ hA.2.2.2)).mono ?_)
    rintro e w9 ⟨rfl, hbel⟩
    refine ⟨_, rfl, ?_⟩
    simp only [HCl.out, zD, zE]
    exact ⟨af_bel hA hbel, by first | rfl | trivial⟩
   (obtain ⟨wz, hz⟩ := hu; rw [HCl.out] at hz; (try simp only [List.nil_append, List.cons_append] at hz); (try dsimp only at hz))
   obtain ⟨-, rfl⟩ := hz
   clear wz
   simp only [Act.put, Nat.reduceAdd, zA, zB, zC, zD, zE]
   (repeat ((first | (refine Reg2.wS_skip gtb (by rfl) ?_) | (refine Reg2.wS_open gtb (by rfl) (by rfl) ?_; apply Exists.intro; refine ⟨fun vs wq hw => ?_, ?_⟩; (focus (simp only [HCl.out, zD, zE] at hw; go_split_ands; go_simp <;> exact ebb)))); simp only [Act.put, Nat.reduceAdd, zA, zB, zC, zD, zE]))
   refine Reg2.wS_eff gtb (by rfl) (by rfl) (fun wq hw => ?_) (fun u9 hu => ?_)
   focus
    simp only [HCl.out, zD, zE] at hw
    obtain ⟨hA, -⟩ := hw
    go_simp
    go_at_call 23
    (with_reducible refine (KC1.out _ (HBZ.out _ hA.2.2.2)).mono ?_)
    rintro e w9 ⟨a5, d5, rfl, hi5, hbel⟩
    refine ⟨_, rfl, ?_⟩
    simp only [HCl.out, zD, zE]
    exact ⟨af_bel hA hbel, a5, d5, rfl, hi5⟩
   (obtain ⟨wz, hz⟩ := hu; rw [HCl.out] at hz; (try simp only [List.nil_append, List.cons_append] at hz); (try dsimp only at hz))
   obtain ⟨-, a5, d5, rfl, -⟩ := hz
   clear wz
   simp only [Act.put, Nat.reduceAdd, zA, zB, zC, zD, zE]
   (repeat ((first | (refine Reg2.wS_skip gtb (by rfl) ?_) | (refine Reg2.wS_open gtb (by rfl) (by rfl) ?_; apply Exists.intro; refine ⟨fun vs wq hw => ?_, ?_⟩; (focus (simp only [HCl.out, zD, zE] at hw; go_split_ands; go_simp <;> exact ebb)))); simp only [Act.put, Nat.reduceAdd, zA, zB, zC, zD, zE]))
   refine Reg2.wS_eff gtb (by rfl) (by rfl) (fun wq hw => ?_) (fun u9 hu => ?_)
   focus
    simp only [HCl.out, zD, zE] at hw
    obtain ⟨hA, a6, d6, he6, hi6⟩ := hw
    (injection he6 with h1 h2 h3)
    subst h1 h3
    go_simp
    go_at_call 38
    (with_reducible refine (KRC1.out _ (HBZ.out _ hA.2.2.2)).mono ?_)
    rintro e w9 ⟨a7, d7, rfl, hi7, hbel⟩
    refine ⟨_, rfl, ?_⟩
    simp only [HCl.out, zD, zE]
    exact ⟨af_bel hA hbel, ⟨_, _, rfl, hi6.below hbel⟩, a7, d7, rfl, hi7⟩
   (obtain ⟨wz, hz⟩ := hu; rw [HCl.out] at hz; (try simp only [List.nil_append, List.cons_append] at hz); (try dsimp only at hz))
   obtain ⟨-, -, a7, d7, rfl, -⟩ := hz
   clear wz
   simp only [Act.put, Nat.reduceAdd, zA, zB, zC, zD, zE]
   (repeat ((first | (refine Reg2.wS_skip gtb (by rfl) ?_) | (refine Reg2.wS_open gtb (by rfl) (by rfl) ?_; apply Exists.intro; refine ⟨fun vs wq hw => ?_, ?_⟩; (focus (simp only [HCl.out, zD, zE] at hw; go_split_ands; go_simp <;> exact ebb)))); simp only [Act.put, Nat.reduceAdd, zA, zB, zC, zD, zE]))
   refine Reg2.wS_eff gtb (by rfl) (by rfl) (fun wq hw => ?_) (fun u9 hu => ?_)
   focus
    simp only [HCl.out, zD, zE] at hw
    obtain ⟨hA, ⟨a6, d6, he6, hi6⟩, a8, d8, he8, hi8⟩ := hw
    (injection he6 with h1 h2 h3)
    subst h1 h3
    (injection he8 with h1 h2 h3)
    subst h1 h3
    go_simp
    go_at_call 13
    (with_reducible refine (KIC.out _ _ _ _ _ hi6 hi8).mono ?_)
    rintro e w9 ⟨rfl, hbel⟩
    refine ⟨_, rfl, ?_⟩
    simp only [HCl.out, zD, zE]
    exact ⟨af_bel hA hbel, by first | rfl | trivial⟩
   (obtain ⟨wz, hz⟩ := hu; rw [HCl.out] at hz; (try simp only [List.nil_append, List.cons_append] at hz); (try dsimp only at hz))
   obtain ⟨-, rfl⟩ := hz
   clear wz
   simp only [Act.put, Nat.reduceAdd, zA, zB, zC, zD, zE]
   (repeat ((first | (refine Reg2.wS_skip gtb (by rfl) ?_) | (refine Reg2.wS_open gtb (by rfl) (by rfl) ?_; apply Exists.intro; refine ⟨fun vs wq hw => ?_, ?_⟩; (focus (simp only [HCl.out, zD, zE] at hw; go_split_ands; go_simp <;> exact ebb)))); simp only [Act.put, Nat.reduceAdd, zA, zB, zC, zD, zE]))
   refine Reg2.wS_nil ?_; intro w' hw; simp only [HCl.out, zD, zE] at hw; clear HCl
   obtain ⟨⟨-, -, -, hb7⟩, -⟩ := hw
   have HB7 := Lib.hid (HBZ.out _ hb7)
   clear hb7
   go_wp2_with (first | go_guarded)
   go_roundg (n - (k + 1))
   case rel => exact ⟨k + 1, (by go_num), by omega, HB7.out, Nat.le_refl _⟩
   case measure => omega
  ·obtain rfl : k = n := by omega
   obtain ⟨C, hC⟩ : ∃ C, kidsR f L on 0 = C := ⟨_, rfl⟩
   obtain ⟨q, hq⟩ : ∃ q, C.length = q := ⟨_, rfl⟩
   have hq64 : q ≤ 64 := by rw [← hq, ← hC]; exact kids_len HI.out on 0
   obtain ⟨M, hM⟩ : ∃ C, allR f L on = C := ⟨_, rfl⟩
   obtain ⟨u, hu⟩ : ∃ q, M.length = q := ⟨_, rfl⟩
   have hu64 : u ≤ 64 := by rw [← hu, ← hM]; exact alls_len HI.out on
   obtain ⟨r, hr⟩ : ∃ r, decide (0 < m) = r := ⟨_, rfl⟩
   have hr2 : decide ((0 : Int) < (m : Int)) = r := by rw [← hr]; congr 1; simp
   have KA1 : Hid (∀ v, Below z.heap.size z v → Calls Try.prog 22 #[.pointer (some ⟨p, 0, none⟩), .int .i64 0] v fun e z' => e = .returned (.bool r) ∧ Below v.heap.size v z') := Lib.hid (fun v hv => by have := KA.out v hv 0 rfl; rw [isR_zero, HM.out, hr] at this; exact this)
   have KC1 : Hid (∀ v, Below z.heap.size z v → Calls Try.prog 23 #[.pointer (some ⟨p, 0, none⟩), .int .i64 0] v (AllH v C q)) := Lib.hid (fun v hv => by have := KC.out v hv 0 rfl q (by rw [hC]; exact hq); rw [hC] at this; exact this)
   have KRC1 : Hid (∀ v, Below z.heap.size z v → Calls Try.prog 38 #[.slice ao k cap, .slice a2 m c2, .int .i64 0] v (AllH v C q)) := Lib.hid (fun v hv => by have := KRC.out v hv 0 q (by rw [hC]; exact hq); rw [hC] at this; exact this)
   have KAL1 : Hid (∀ v, Below z.heap.size z v → Calls Try.prog 19 #[.pointer (some ⟨p, 0, none⟩)] v (AllH v M u)) := Lib.hid (fun v hv => by have := KAL.out v hv u (by rw [hM]; exact hu); rw [hM] at this; exact this)
   have KRL1 : Hid (∀ v, Below z.heap.size z v → Calls Try.prog 39 #[.slice ao k cap, .slice a2 m c2] v (AllH v M u)) := Lib.hid (fun v hv => by have := KRL.out v hv u (by rw [hM]; exact hu); rw [hM] at this; exact this)
   have KIC := Lib.hid (fun a1 a2 d1 d2 z h1 h2 => intsM C q hq (by omega) a1 a2 d1 d2 z h1 h2)
   have KIM := Lib.hid (fun a1 a2 d1 d2 z h1 h2 => intsM M u hu (by omega) a1 a2 d1 d2 z h1 h2)
   clear hB hC hq hM hu hlt hk hk9
   go_wp2_with (first
    | go_guarded
    | (go_at_call 13; (with_reducible refine (KIM.out _ _ _ _ _ GM5.out GN6.out).mono ?_); rintro _ x7 ⟨rfl, hbel⟩; have GB7 : Hid (Below z.heap.size z x7) := Lib.hid (GB6.out.trans (hbel.mono GB6.out.size)); clear hbel)
    | (go_at_call 39; (with_reducible refine (KRL1.out _ GB5.out).mono ?_); rintro _ x6 ⟨b6, d6, rfl, hi6, hbel⟩; have GN6 := Lib.hid hi6; have GM5 := Lib.hid (GM4.out.below hbel); have GB6 : Hid (Below z.heap.size z x6) := Lib.hid (GB5.out.trans (hbel.mono GB5.out.size)); clear hi6 hbel)
    | (go_at_call 19; (with_reducible refine (KAL1.out _ GB4.out).mono ?_); rintro _ x5 ⟨b5, d5, rfl, hi5, hbel⟩; have GM4 := Lib.hid hi5; have GB5 : Hid (Below z.heap.size z x5) := Lib.hid (GB4.out.trans (hbel.mono GB4.out.size)); clear hi5 hbel)
    | (go_at_call 13; (with_reducible refine (KIC.out _ _ _ _ _ GC2.out GC3.out).mono ?_); rintro _ x4 ⟨rfl, hbel⟩; have GB4 : Hid (Below z.heap.size z x4) := Lib.hid (GB3.out.trans (hbel.mono GB3.out.size)); clear hbel)
    | (go_at_call 38; (with_reducible refine (KRC1.out _ GB2.out).mono ?_); rintro _ x3 ⟨b3, d3, rfl, hi3, hbel⟩; have GC3 := Lib.hid hi3; have GC2 := Lib.hid (GC1.out.below hbel); have GB3 : Hid (Below z.heap.size z x3) := Lib.hid (GB2.out.trans (hbel.mono GB2.out.size)); clear hi3 hbel)
    | (go_at_call 23; (with_reducible refine (KC1.out _ GB1.out).mono ?_); rintro _ x2 ⟨b2, d2, rfl, hi2, hbel⟩; have GC1 := Lib.hid hi2; have GB2 : Hid (Below z.heap.size z x2) := Lib.hid (GB1.out.trans (hbel.mono GB1.out.size)); clear hi2 hbel)
    | (go_at_call 22; (with_reducible refine (KA1.out _ HB.out).mono ?_); rintro _ x1 ⟨rfl, hbel⟩; have GB1 : Hid (Below z.heap.size z x1) := Lib.hid (HB.out.trans (hbel.mono HB.out.size)); clear hbel))
   go_ret
   exact ⟨rfl, GB7.out⟩
end Go.Proofs.Ytmmahgfijiocfaa
end
