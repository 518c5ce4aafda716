/- Joined texts. -/
import Derived.Test.YtghjdkdjdpgdiaaBs0
import Derived.Test.YtghjdkdjdpgdiaaBs1
import Derived.Test.YtghjdkdjdpgdiaaBs10
import Derived.Test.YtghjdkdjdpgdiaaBs11
import Derived.Test.YtghjdkdjdpgdiaaBs12
import Derived.Test.YtghjdkdjdpgdiaaBs13
import Derived.Test.YtghjdkdjdpgdiaaBs2
import Derived.Test.YtghjdkdjdpgdiaaBs3
import Derived.Test.YtghjdkdjdpgdiaaBs4
import Derived.Test.YtghjdkdjdpgdiaaBs5
import Derived.Test.YtghjdkdjdpgdiaaBs6
import Derived.Test.YtghjdkdjdpgdiaaBs7
import Derived.Test.YtghjdkdjdpgdiaaBs8
import Derived.Test.YtghjdkdjdpgdiaaBs9
import Derived.Test.YtghjdkdjdpgdiaaAy1
import Derived.Test.YtghjdkdjdpgdiaaAy2
import Derived.Maps.Keyed
import Derived.Maps.Own
import Derived.Maps.OwnOps
import Derived.DeepKeys5
import Derived.StillTail
import Derived.Deep.Quiet
import Derived.Deep.QuietTactic
import Derived.Test.YtghjdkdjdpgdiaaChecked
import Derived.WalkKit
import Derived.BigQuiet
import Derived.OpenShut
import Derived.Deep.RegionHeld3
import Derived.Deep.RegionWith
import Derived.Deep.DeepCutAuto
import Derived.WalkSpells
import Derived.WalkSmall
import Derived.Lib.Hide
import Derived.RowKit
import Derived.IntWalk
import Derived.Maps.RangeRun
import Derived.Deep.MidRow
import Derived.Deep.WholeRow
import Derived.Laws.CopyRow
import Derived.Deep.OwnRows
import Derived.ArgAppend
import Derived.Sort.OwnSortedInts
import Derived.Shelf.SlIterI.Nil
import Derived.Shelf.SortM.Plain
import Derived.Shelf.SortM.SortNone
import Derived.Ground.GgzProg
import Derived.Ground.SlgmProg
import Derived.Laws.AppendOwn
import Derived.Laws.AppendOwnNone
import Derived.Deep.Onto
import Derived.LoopN
import Derived.ProofKit
import Derived.Below
import Derived.Carry
import Derived.ReadAgain
import Derived.ChangeOld
import Derived.Deep.Slices
set_option linter.unusedVariables false
set_option linter.unusedSimpArgs false
set_option maxRecDepth 100000
set_option maxHeartbeats 16000000
section
namespace Go.Proofs.Ytghjdkdjdpgdiaa
open Go.RowKit Fg Reg Go.Maps Go.Sort Go.Shelf
attribute [local irreducible] Reg.wE VR
theorem intsA_map {z z' : World} {ao : Option Addr} {C : List Int} (h : IntsV z ao C) {mb : Nat} (hm : ∃ es ck, z.heap[mb]? = some (.map es ck)) (ho : Only (fun k => k = mb) z z') : IntsV z' ao C := fun k hk => by
 obtain ⟨b, o, e, h1, h2⟩ := h k hk
 have hne : b ≠ mb := by
  rintro rfl
  obtain ⟨es, ck, hb⟩ := hm
  simp [World.cell?, hb] at h2
 exact ⟨b, o, e, Nat.lt_of_lt_of_le h1 ho.size, by rw [World.cell?_of_block (ho.block b h1 hne)]; exact h2⟩
theorem AS.memb {z v : World} {B p mb cb : Nat} {mem : Int → Option (Int × Bool)} {F : Int → Option Nat} {A : Int → Option (List Int)} (h : AS z B p mb cb mem F A) {mem2 : Int → Option (Int × Bool)} (hu : ∃ n, Mp ikv memv iok mem2 n v mb) (ho : Only (fun k => k = mb) z v) : AS v B p mb cb mem2 F A :=
 ⟨(World.cell?_of_block (ho.5 p h.lt (fun e => h.nm e.symm))).trans h.c0, (World.cell?_of_block (ho.5 p h.lt (fun e => h.nm e.symm))).trans h.c1, Nat.lt_of_lt_of_le h.lt ho.4, h.nm, h.nc, h.mc, h.bc, hu, h.ch.frame (fun b hl hn => ho.5 b hl (fun e => hn (.inl e))) h.ncb⟩
theorem as_new (w : World) : AS (((w.alloc (.map #[] 0)).alloc (.map #[] 0)).alloc (.cells #[.map (some w.heap.size), .map (some (w.heap.size + 1))] 67)) w.heap.size (w.heap.size + 2) w.heap.size (w.heap.size + 1) (fun _ => none) (fun _ => none) (fun _ => none) := by
 have h1 := Mp.made (κ := Int) ikv memv iok w
 have h2 := Mp.made (κ := Int) ikv bv iok (w.alloc (.map #[] 0))
 rw [show (w.alloc (.map #[] 0)).heap.size = w.heap.size + 1 by simp] at h2
 refine ⟨by simp [go_sem], by simp [go_sem], by simp, by omega, by omega, by omega, by omega, ⟨0, (h1.alloc _).alloc _⟩, ⟨0, h2.alloc _⟩, fun x => rfl, fun x b K h => (by cases h), fun x y b h => (by cases h), fun x K h => (by cases h)⟩
theorem anew_nil (w : World) : Calls Try.prog 9 #[.pointer none] w fun e w' => ∃ p mb cb F, e = .returned (.pointer (some ⟨p, 0, none⟩)) ∧ AS w' w.heap.size p mb cb (fun _ => none) F (fun _ => none) ∧ Below w.heap.size w w' := by
 have KN := Lib.hid ids_nil
 have HA := Lib.hid (as_new w)
 have HB : Hid (Below w.heap.size w (((w.alloc (.map #[] 0)).alloc (.map #[] 0)).alloc (.cells #[.map (some w.heap.size), .map (some (w.heap.size + 1))] 67))) := Lib.hid bub
 have hmm := @run_makeMap Try.prog
 go_enter Try.func9, Try.ntmps9
 go_wp2_with (first
  | go_guarded
  | (go_at_call 31; (with_reducible refine (KN.out _).mono ?_); rintro _ w2 ⟨rfl, hbel⟩; have HB2 := Lib.hid hbel; clear hbel))
 try go_frame
 go_loopg [15] 1 (fun k9 s15 wr => s15 = .int .i64 0 ∧ wr = w2 ∧ 0 ≤ k9)
 case atStart => exact ⟨rfl, rfl, Nat.zero_le _⟩
 case round =>
  obtain ⟨rfl, rfl, hk⟩ := hrel
  go_wp2_with (first | go_guarded)
  refine bodyPost_ret (v := .pointer (some ⟨(w.heap.size + 2), 0, none⟩)) (by simp [results, Try.results9, go_sem, *]) rfl ?_
  exact ⟨_, _, _, _, rfl, HA.out.below HB2.out, HB.out.trans (HB2.out.mono HB.out.size)⟩
def mfA (f : Int → Option Cls) : Int → Option (Int × Bool) := fun x => match f x with | some c => if sh1 c = true then some (c.par, c.leaf) else none | none => none
def mfK (f : Int → Option Cls) (L : List Int) : Int → Option (Int × Bool) := fun x => if x ∈ L then mfA f x else none
theorem mfK_all {f : Int → Option Cls} {L : List Int} (I : TI f L) : mfK f L = mfA f := by
 funext x
 unfold mfK
 by_cases h : x ∈ L
 ·rw [if_pos h]
 ·rw [if_neg h]
  have : f x = none := by
   cases hc : f x with
   | none => rfl
   | some c => exact absurd ((I.mem x).1 (by rw [hc]; rfl)) h
  unfold mfA
  rw [this]
theorem mfK_yes {f : Int → Option Cls} {L : List Int} {x : Int} {c : Cls} (hc : f x = some c) (hs : sh1 c = true) : mfK f (L ++ [x]) = upd (mfK f L) x (c.par, c.leaf) := by
 funext y
 unfold mfK upd
 by_cases h : y = x
 ·rw [if_pos (by simp [h]), if_pos h]
  unfold mfA
  rw [h, hc]
  simp [hs]
 ·rw [if_neg h]
  simp [h]
theorem mfK_no {f : Int → Option Cls} {L : List Int} {x : Int} {c : Cls} (hc : f x = some c) (hs : sh1 c = false) : mfK f (L ++ [x]) = mfK f L := by
 funext y
 unfold mfK
 by_cases h : y = x
 ·have : mfA f y = none := by unfold mfA; rw [h, hc]; simp [hs]
  rw [this]
  simp
 ·simp [h]
theorem anew_c {w : World} {tb tm : Nat} {f : Int → Option Cls} {L : List Int} (h : HT w tb tm f) (I : TI f L) : Calls Try.prog 9 #[.pointer (some ⟨tb, 0, none⟩)] w fun e w' => ∃ p mb cb F, e = .returned (.pointer (some ⟨p, 0, none⟩)) ∧ AS w' w.heap.size p mb cb (mfA f) F (fun _ => none) ∧ Below w.heap.size w w' := by
 obtain ⟨n, hn⟩ : ∃ n, L.length = n := ⟨_, rfl⟩
 have hn64 : n ≤ 64 := by rw [← hn]; exact I.len
 have KID : Hid (∀ z, Below w.heap.size w z → Calls Try.prog 31 #[.pointer (some ⟨tb, 0, none⟩)] z fun e z' => ∃ ao cap, e = .returned (.slice ao n cap) ∧ IntsV z' ao L ∧ Below z.heap.size z z') := Lib.hid (fun z hz => by
  refine (ids_c (h.below hz) L I.srt I.mem (Nat.le_trans I.len (by decide)) I.iok).mono ?_
  rintro e z' ⟨v, rfl, hr, hb⟩
  obtain ⟨ao, cap, rfl⟩ := row_form hr
  exact ⟨ao, cap, by rw [hn], (own_ints hr).2, hb⟩)
 have KG : Hid (∀ z x c, Below w.heap.size w z → f x = some c → iok x → Calls Try.prog 32 #[.pointer (some ⟨tb, 0, none⟩), .int .i64 x] z fun e z' => e = .returned (.tuple #[.agg #[.int .i64 c.id, .int .i64 c.par, .bool c.leaf, .int .u64 c.ra, .int .u64 c.rb, .int .u64 c.rc, .int .u64 c.la, .int .u64 c.lb, .int .u64 c.lc, .int .u64 c.ua, .int .u64 c.ub, .int .u64 c.uc, .int .i64 c.pk, .int .i64 c.bt], .int .i64 0]) ∧ Below z.heap.size z z') := Lib.hid (fun z x c hz hc hx => by
  refine (hget_c (h.below hz) hx).mono ?_
  rintro e z' ⟨he, hb⟩
  rw [hc] at he
  exact ⟨he, hb⟩)
 have HA := Lib.hid (as_new w)
 have HB : Hid (Below w.heap.size w (((w.alloc (.map #[] 0)).alloc (.map #[] 0)).alloc (.cells #[.map (some w.heap.size), .map (some (w.heap.size + 1))] 67))) := Lib.hid bub
 have hmm := @run_makeMap Try.prog
 have HI := Lib.hid I
 have HN := Lib.hid hn
 have ALL := Lib.hid cl_alloc
 have INF := Lib.hid cl_info
 have ONE := Lib.hid cla_one
 clear h I hn
 go_enter Try.func9, Try.ntmps9
 go_wp2_with (first
  | go_guarded
  | (go_at_call 31; (with_reducible refine (KID.out _ HB.out).mono ?_); rintro _ w2 ⟨io, ic, rfl, hv, hbel⟩; have HV := Lib.hid hv; have HA2 := Lib.hid (HA.out.below hbel); have HB2 := Lib.hid (HB.out.trans (hbel.mono HB.out.size)); clear hbel hv))
 try go_frame
 go_loopg [15] n (fun k9 s15 wr => ∃ k : Nat, s15 = .int .i64 k ∧ k ≤ n ∧ AS wr w.heap.size (w.heap.size + 2) w.heap.size (w.heap.size + 1) (mfK f (L.take k)) (fun _ => none) (fun _ => none) ∧ IntsV wr io L ∧ Below w.heap.size w wr ∧ n - k ≤ k9)
 case atStart => exact ⟨0, rfl, Nat.zero_le _, by rw [List.take_zero]; exact HA2.out, HV.out, HB2.out, by omega⟩
 case round =>
  obtain ⟨k, rfl, hk, hA, hiv, hB, hk9⟩ := hrel
  have HAR := Lib.hid hA
  have HIV := Lib.hid hiv
  have HBR := Lib.hid hB
  by_cases hlt : k < n
  ·have hlC : k < L.length := by rw [HN.out]; exact hlt
   obtain ⟨b, o, rfl, hb, hce⟩ := hiv k hlC
   have hts := take_snoc'' L k hlC
   obtain ⟨c, hc⟩ : ∃ c, f L[k] = some c := Option.isSome_iff_exists.1 ((HI.out.mem _).2 (List.getElem_mem hlC))
   have hxi := HI.out.iok L[k] (List.getElem_mem hlC)
   have hci := (HI.out.cls _ c hc).2.1
   obtain ⟨x, hx⟩ : ∃ x, L[k] = x := ⟨_, rfl⟩
   rw [hx] at hce hc hxi hts
   have KG1 := Lib.hid (fun z hz => KG.out z x c hz hc hxi)
   have KSH := Lib.hid (cshares_c hci)
   obtain ⟨r, hr⟩ : ∃ r, sh1 c = r := ⟨_, rfl⟩
   rw [hr] at KSH
   have HXI := Lib.hid hxi
   cases r with
   | false =>
    have HM2 : Hid (mfK f (L.take (k + 1)) = mfK f (L.take k)) := Lib.hid (by rw [hts]; exact mfK_no hc hr)
    clear hA hiv hB hts hc hxi hci hx hr hlC hb
    go_wp2_with (first
     | go_guarded
     | (go_at_call 33; (have mk := HB5); (with_reducible refine (KSH.out _).mono ?_); rintro _ w6 ⟨rfl, hbel⟩; have HB6 := Lib.hid (HB5.out.trans (hbel.mono HB5.out.size)); have HV6 := Lib.hid (HV5.out.below hbel); have HA6 := Lib.hid (HA5.out.below hbel); clear hbel)
     | (refine wpList_var_get rfl 54 _ rfl _ #[.int .i64 c.id, .int .i64 c.par, .bool c.leaf, .int .u64 c.ra, .int .u64 c.rb, .int .u64 c.rc, .int .u64 c.la, .int .u64 c.lb, .int .u64 c.lc, .int .u64 c.ua, .int .u64 c.ub, .int .u64 c.uc, .int .i64 c.pk, .int .i64 c.bt] _ HC5.out rfl Try.underlying54 rfl INF.out ?_)
     | (refine wpList_var_new rfl rfl 54 #[.int .i64 0, .int .i64 0, .bool false, .int .u64 0, .int .u64 0, .int .u64 0, .int .u64 0, .int .u64 0, .int .u64 0, .int .u64 0, .int .u64 0, .int .u64 0, .int .i64 0, .int .i64 0] ALL.out rfl _ _ rfl #[.int .i64 c.id, .int .i64 c.par, .bool c.leaf, .int .u64 c.ra, .int .u64 c.rb, .int .u64 c.rc, .int .u64 c.la, .int .u64 c.lb, .int .u64 c.lc, .int .u64 c.ua, .int .u64 c.ub, .int .u64 c.uc, .int .i64 c.pk, .int .i64 c.bt] rfl rfl INF.out rfl (ONE.out _) ?_; (have mk := HB4); intro w5 hs5 hb5 hv5; have HC5 := Lib.hid hv5; have HB5 := Lib.hid (HB4.out.trans (hb5.mono HB4.out.size)); have HV5 := Lib.hid (HV4.out.below hb5); have HA5 := Lib.hid (HA4.out.below hb5); clear hb5 hv5)
     | (go_at_call 32; (with_reducible refine (KG1.out _ HBR.out).mono ?_); rintro _ w4 ⟨rfl, hbel⟩; have HB4 := Lib.hid (HBR.out.trans (hbel.mono HBR.out.size)); have HV4 := Lib.hid (HIV.out.below hbel); have HA4 := Lib.hid (HAR.out.below hbel); clear hbel))
    go_roundg (n - (k + 1))
    case rel => exact ⟨k + 1, by go_num, by omega, by rw [HM2.out]; exact HA6.out, HV6.out, HB6.out, Nat.le_refl _⟩
    case measure => omega
   | true =>
    have HM2 : Hid (mfK f (L.take (k + 1)) = upd (mfK f (L.take k)) x (c.par, c.leaf)) := Lib.hid (by rw [hts]; exact mfK_yes hc hr)
    clear hA hiv hB hts hc hxi hci hx hr hlC hb
    go_wp2_with (first
     | go_guarded
     | (go_at_call 33; (have mk := HB5); (with_reducible refine (KSH.out _).mono ?_); rintro _ w6 ⟨rfl, hbel⟩; have HB6 := Lib.hid (HB5.out.trans (hbel.mono HB5.out.size)); have HV6 := Lib.hid (HV5.out.below hbel); have HA6 := Lib.hid (HA5.out.below hbel); have HC6 := Lib.hid (HC5.out.bel hbel); clear hbel)
     | (refine wpList_var_get rfl 54 _ rfl _ #[.int .i64 c.id, .int .i64 c.par, .bool c.leaf, .int .u64 c.ra, .int .u64 c.rb, .int .u64 c.rc, .int .u64 c.la, .int .u64 c.lb, .int .u64 c.lc, .int .u64 c.ua, .int .u64 c.ub, .int .u64 c.uc, .int .i64 c.pk, .int .i64 c.bt] _ HC5.out rfl Try.underlying54 rfl INF.out ?_)
     | (refine wpList_var_new rfl rfl 54 #[.int .i64 0, .int .i64 0, .bool false, .int .u64 0, .int .u64 0, .int .u64 0, .int .u64 0, .int .u64 0, .int .u64 0, .int .u64 0, .int .u64 0, .int .u64 0, .int .i64 0, .int .i64 0] ALL.out rfl _ _ rfl #[.int .i64 c.id, .int .i64 c.par, .bool c.leaf, .int .u64 c.ra, .int .u64 c.rb, .int .u64 c.rc, .int .u64 c.la, .int .u64 c.lb, .int .u64 c.lc, .int .u64 c.ua, .int .u64 c.ub, .int .u64 c.uc, .int .i64 c.pk, .int .i64 c.bt] rfl rfl INF.out rfl (ONE.out _) ?_; (have mk := HB4); intro w5 hs5 hb5 hv5; have HC5 := Lib.hid hv5; have HB5 := Lib.hid (HB4.out.trans (hb5.mono HB4.out.size)); have HV5 := Lib.hid (HV4.out.below hb5); have HA5 := Lib.hid (HA4.out.below hb5); clear hb5 hv5)
     | (go_at_call 32; (with_reducible refine (KG1.out _ HBR.out).mono ?_); rintro _ w4 ⟨rfl, hbel⟩; have HB4 := Lib.hid (HBR.out.trans (hbel.mono HBR.out.size)); have HV4 := Lib.hid (HIV.out.below hbel); have HA4 := Lib.hid (HAR.out.below hbel); clear hbel))
    have hbq : Below w6.heap.size w6 w6.drew := Below.drew (Below.refl _ _)
    have ha : AS w6.drew w.heap.size (w.heap.size + 2) w.heap.size (w.heap.size + 1) (mfK f (L.take k)) (fun _ => none) (fun _ => none) := HA6.out.below hbq
    obtain ⟨vb, hvb⟩ : ∃ q, w4.heap.size = q := ⟨_, rfl⟩
    have hv := HC6.out.bel hbq
    rw [hvb] at hv ⊢
    obtain ⟨n6, hm6⟩ := ha.mp
    obtain ⟨w7, hrun, hu7, ho7, hs7⟩ := hm6.update ikok Try.underlying64 HXI.out (c.par, c.leaf)
    have hpm : ¬ w.heap.size + 2 = w.heap.size := by omega
    have hvm : ¬ vb = w.heap.size := by have := HA4.out.mlt; intro e; omega
    have has := ha.memb ⟨_, hu7⟩ ho7
    have hv7 := hv.only ho7 hvm
    have hi7 := intsA_map (HV6.out.below hbq) hm6.kind ho7
    have hb7 : Below w.heap.size w w7 := (HB6.out.trans (hbq.mono HB6.out.size)).trans ⟨ho7.1, ho7.2, ho7.3, ho7.4, fun k hk => ho7.5 k (Nat.lt_of_lt_of_le hk (HB6.out.trans (hbq.mono HB6.out.size)).size) (by omega)⟩
    rw [← HM2.out] at has
    have HAS := Lib.hid has
    have HI7 := Lib.hid hi7
    have HB7 := Lib.hid hb7
    have HRUN := Lib.hid hrun
    have HV7 := Lib.hid hv7
    have e0 := ha.c0
    have el := ha.lt
    have e1 := hv.cell 1 rfl
    have e2 := hv.cell 2 rfl
    have e3 := hv.lt
    clear hi7 hb7 hrun hv7 has ha hv hm6 hu7 ho7 hs7 hpm hvm hbq
    obtain ⟨Cl, hCl⟩ : ∃ Cl : List (Nat × Value) → World → Prop, Cl = ((fun ps wz => ((wz.cell? ⟨w.heap.size + 2, 0, none⟩ = some (.map (some w.heap.size)) ∧ w.heap.size + 2 < wz.heap.size) ∧ (wz.cell? ⟨vb, 1, none⟩ = some (.int .i64 c.par) ∧ wz.cell? ⟨vb, 2, none⟩ = some (.bool c.leaf) ∧ vb < wz.heap.size)) ∧ (match ps with
     | [] => wz = w6.drew
     | _ => wz = w7))) := ⟨_, rfl⟩; have HCl := Lib.hid hCl; clear hCl; refine Reg2.wp_region_lineS [(0, false), (1, false), (2, false), (3, false), (4, false), (5, false), (6, false), (7, false), (8, false), (9, false), (10, false)] [10] Cl (by kernel_rfl) (by kernel_rfl) (by kernel_rfl) (by simp only [HCl.out, zD, zE]; exact ⟨⟨⟨e0, el⟩, e1, e2, e3⟩, (by first | rfl | trivial)⟩) ?_
    clear e0 el e1 e2 e3
    (repeat ((first | (refine Reg2.wS_skip gtb (by rfl) ?_) | (refine Reg2.wS_open gtb (by rfl) (by rfl) ?_; apply Exists.intro; refine ⟨fun vs wq hw => ?_, ?_⟩; (focus (simp only [HCl.out, zD, zE] at hw; go_split_ands; go_simp <;> exact ebb)))); simp only [Act.put, Nat.reduceAdd, zA, zB, zC, zD, zE]))
    refine Reg2.wS_eff gtb (by rfl) (by rfl) (fun wq hw => ?_) (fun u9 hu => ?_)
    focus
     simp only [HCl.out, zD, zE] at hw
     obtain ⟨-, rfl⟩ := hw
     refine effv_map _ _ _ 64 rfl rfl rfl rfl HRUN.out ?_
     simp only [HCl.out, zD, zE]
     exact ⟨⟨⟨HAS.out.c0, HAS.out.lt⟩, HV7.out.cell 1 rfl, HV7.out.cell 2 rfl, HV7.out.lt⟩, (by first | rfl | trivial)⟩
    clear hu
    simp only [Act.put, Nat.reduceAdd, zA, zB, zC, zD, zE]
    (repeat ((first | (refine Reg2.wS_skip gtb (by rfl) ?_) | (refine Reg2.wS_open gtb (by rfl) (by rfl) ?_; apply Exists.intro; refine ⟨fun vs wq hw => ?_, ?_⟩; (focus (simp only [HCl.out, zD, zE] at hw; go_split_ands; go_simp <;> exact ebb)))); simp only [Act.put, Nat.reduceAdd, zA, zB, zC, zD, zE]))
    refine Reg2.wS_nil ?_; intro w' hw; simp only [HCl.out, zD, zE] at hw; clear HCl
    obtain ⟨-, rfl⟩ := hw
    go_wp2_with (first | go_guarded)
    go_roundg (n - (k + 1))
    case rel => exact ⟨k + 1, by go_num, by omega, HAS.out, HI7.out, HB7.out, Nat.le_refl _⟩
    case measure => omega
  ·obtain rfl : k = n := by omega
   have hm : mfK f (L.take k) = mfA f := by rw [List.take_of_length_le (by rw [HN.out]; exact Nat.le_refl _)]; exact mfK_all HI.out
   have HM := Lib.hid hm
   clear hA hiv hB hlt hm
   go_wp2_with (first | go_guarded)
   refine bodyPost_ret (v := .pointer (some ⟨(w.heap.size + 2), 0, none⟩)) (by simp [results, Try.results9, go_sem, *]) rfl ?_
   exact ⟨_, _, _, _, rfl, by rw [← HM.out]; exact HAR.out, HBR.out⟩
end Go.Proofs.Ytghjdkdjdpgdiaa
end
