/- Joined texts. -/
import Derived.Test.YtmmahgfijiocfaaBs0
import Derived.Test.YtmmahgfijiocfaaBs1
import Derived.Test.YtmmahgfijiocfaaBs10
import Derived.Test.YtmmahgfijiocfaaBs11
import Derived.Test.YtmmahgfijiocfaaBs12
import Derived.Test.YtmmahgfijiocfaaBs13
import Derived.Test.YtmmahgfijiocfaaBs2
import Derived.Test.YtmmahgfijiocfaaBs3
import Derived.Test.YtmmahgfijiocfaaBs4
import Derived.Test.YtmmahgfijiocfaaBs5
import Derived.Test.YtmmahgfijiocfaaBs6
import Derived.Test.YtmmahgfijiocfaaBs7
import Derived.Test.YtmmahgfijiocfaaBs8
import Derived.Test.YtmmahgfijiocfaaBs9
import Derived.Test.YtmmahgfijiocfaaAb1
import Derived.Test.YtmmahgfijiocfaaAb2
import Derived.Maps.Keyed
import Derived.Maps.Own
import Derived.Maps.OwnOps
import Derived.DeepKeys5
import Derived.StillTail
import Derived.Deep.Quiet
import Derived.Deep.QuietTactic
import Derived.Test.YtmmahgfijiocfaaChecked
import Derived.WalkKit
import Derived.BigQuiet
import Derived.OpenShut
import Derived.Deep.RegionHeld3
import Derived.Deep.RegionWith
import Derived.Deep.DeepCutAuto
import Derived.WalkSpells
import Derived.WalkSmall
import Derived.Lib.Hide
import Derived.RowKit
import Derived.IntWalk
import Derived.Maps.RangeRun
import Derived.Deep.MidRow
import Derived.Deep.WholeRow
import Derived.Laws.CopyRow
import Derived.Deep.OwnRows
import Derived.ArgAppend
import Derived.Sort.OwnSortedInts
import Derived.Shelf.SlIterI.Nil
import Derived.Shelf.SortM.Plain
import Derived.Shelf.SortM.SortNone
import Derived.Ground.GgzProg
import Derived.Ground.SlgmProg
import Derived.Laws.AppendOwn
import Derived.Laws.AppendOwnNone
import Derived.ProofKit
import Derived.Below
import Derived.Carry
import Derived.ReadAgain
import Derived.ChangeOld
import Derived.Deep.Slices
import Derived.Deep.Onto
import Derived.LoopN
set_option linter.unusedVariables false
set_option linter.unusedSimpArgs false
set_option maxRecDepth 100000
set_option maxHeartbeats 16000000
section
namespace Go.Proofs.Ytmmahgfijiocfaa
open Go.RowKit Fg Reg Go.Maps
attribute [local irreducible] Reg.wE VR
theorem aof_no1 {z : World} {B p mb cb : Nat} {mem : Int → Option (Int × Bool)} {F : Int → Option Nat} {A : Int → Option (List Int)} (h : AS z B p mb cb mem F A) {leaf : Int} (hi : iok leaf) (hl : lfM mem leaf = false) : Calls Try.prog 11 #[.pointer (some ⟨p, 0, none⟩), .int .i64 leaf] z fun ee w' => ee = .returned (.tuple #[.slice none 0 0, .int .i64 6]) ∧ Below z.heap.size z w' := by
 have HB := Lib.hid (Below.refl z.heap.size z)
 have c0 := h.c0
 have c1 := h.c1
 have lt := h.lt
 have lk := lkm h hi
 rw [hl] at lk
 have f1 := mf1
 clear h hl hi
 go_enter Try.func11, Try.ntmps11
 go_wp2
 refine bodyPost_ret (v := .tuple #[.slice none 0 0, .int .i64 6]) (by simp [results, Try.results11, go_sem, *]) rfl ?_
 exact ⟨rfl, HB.out⟩
theorem aof_no2 {z : World} {B p mb cb : Nat} {mem : Int → Option (Int × Bool)} {F : Int → Option Nat} {A : Int → Option (List Int)} (h : AS z B p mb cb mem F A) (hm : ∀ x m, mem x = some m → iok m.1) {leaf : Int} (hi : iok leaf) (hl : lfM mem leaf = true) (hs : isA mem A leaf = false) : Calls Try.prog 11 #[.pointer (some ⟨p, 0, none⟩), .int .i64 leaf] z fun ee w' => ee = .returned (.tuple #[.slice none 0 0, .int .i64 6]) ∧ Below z.heap.size z w' := by
 have KI := Lib.hid (ais_c h hm hi)
 rw [hs] at KI
 have c0 := h.c0
 have c1 := h.c1
 have lt := h.lt
 have lk := lkm h hi
 rw [hl] at lk
 have f1 := mf1
 clear h hl hi hm hs
 go_enter Try.func11, Try.ntmps11
 go_wp2_with (first | go_guarded | (go_at_call 22; (with_reducible refine KI.out.mono ?_); rintro _ w1 ⟨rfl, hbel⟩; have HB := Lib.hid hbel; clear hbel))
 refine bodyPost_ret (v := .tuple #[.slice none 0 0, .int .i64 6]) (by simp [results, Try.results11, go_sem, *]) rfl ?_
 exact ⟨rfl, HB.out⟩
end Go.Proofs.Ytmmahgfijiocfaa
end
section
namespace Go.Proofs.Ytmmahgfijiocfaa
open Go.RowKit Fg Reg Go.Maps
attribute [local irreducible] Reg.wE VR
structure AX (mem : Int → Option (Int × Bool)) (A : Int → Option (List Int)) (i : Int) : Prop where
 ne : ∀ x K, A x = some K → K ≠ []
 srt : ∀ x K, A x = some K → K.Pairwise (· < ·)
 act : ∀ x K id, A x = some K → id ∈ K → id = i ∨ lfM mem id = true ∨ A id ≠ none
 par : ∀ x K id, A x = some K → id ∈ K → parM mem id = x
 nz : ∀ x K, A x = some K → (0 : Int) ∉ K
theorem AI.ax {mem : Int → Option (Int × Bool)} {A : Int → Option (List Int)} (h : AI mem A) (hz : ∀ x K, A x = some K → (0 : Int) ∉ K) (i : Int) : AX mem A i := ⟨h.ne, h.srt, fun x K id e hm => .inr (h.act x K id e hm), h.par, hz⟩
theorem AX.ai {mem : Int → Option (Int × Bool)} {A : Int → Option (List Int)} {i : Int} (h : AX mem A i) (hi : ∀ x K, A x = some K → i ∉ K) : AI mem A := ⟨h.ne, h.srt, fun x K id e hm => (h.act x K id e hm).resolve_left (fun g => hi x K e (g ▸ hm)), h.par⟩
theorem mdel_some {A : Int → Option (List Int)} {p x : Int} {K : List Int} (h : mdel A p x = some K) : x ≠ p ∧ A x = some K := by
 unfold mdel at h
 by_cases hx : x = p
 ·rw [if_pos hx] at h; cases h
 ·rw [if_neg hx] at h
  exact ⟨hx, h⟩
theorem rm_mem {id y : Int} {K : List Int} : y ∈ rmA id K ↔ y ∈ K ∧ y ≠ id := by
 unfold rmA
 rw [List.mem_filter]
 simp
theorem off_AI {mem : Int → Option (Int × Bool)} : ∀ (n : Nat) (A : Int → Option (List Int)) (id : Int), finM mem n id = true → AX mem A id → AI mem (offR mem n A id).2 ∧ ∀ x K, (offR mem n A id).2 x = some K → (0 : Int) ∉ K
 | 0, A, id, hf, h => by
  have h0 : id = 0 := by simpa [finM] using hf
  subst h0
  exact ⟨h.ai h.nz, h.nz⟩
 | n + 1, A, id, hf, h => by
  by_cases h0 : id = 0
  ·subst h0
   rw [offR_zero]
   exact ⟨h.ai h.nz, h.nz⟩
  ·have hf2 : finM mem n (parM mem id) = true := by
    have hf3 := hf
    unfold finM at hf3
    simpa [h0] using hf3
   by_cases hl : 0 < (rmA id (chA0 A (parM mem id))).length
   ·rw [offR_more h0 hl]
    obtain ⟨L, hL⟩ : ∃ L, rmA id (chA0 A (parM mem id)) = L := ⟨_, rfl⟩
    obtain ⟨K, hK⟩ : ∃ K, A (parM mem id) = some K := by
     cases hA : A (parM mem id) with
     | some K => exact ⟨K, rfl⟩
     | none => unfold chA0 at hl; rw [hA] at hl; simp [rmA] at hl
    have hc : chA0 A (parM mem id) = K := by unfold chA0; rw [hK]; rfl
    rw [hc] at hL hl
    rw [hc, hL]
    rw [hL] at hl
    have hs : ∀ y, y ∈ L → y ∈ K ∧ y ≠ id := fun y hy => by rw [← hL] at hy; exact rm_mem.1 hy
    have hx : AX mem (upd A (parM mem id) L) id := by
     refine ⟨fun x K2 e => ?_, fun x K2 e => ?_, fun x K2 y e hy => ?_, fun x K2 y e hy => ?_, fun x K2 e => ?_⟩
     ·rcases upd_some e with ⟨_, rfl⟩ | ⟨_, e⟩
      ·exact List.length_pos_iff.1 hl
      ·exact h.ne x K2 e
     ·rcases upd_some e with ⟨_, rfl⟩ | ⟨_, e⟩
      ·rw [← hL]; exact (h.srt _ K hK).filter _
      ·exact h.srt x K2 e
     ·rcases upd_some e with ⟨_, rfl⟩ | ⟨_, e⟩
      ·exact (h.act _ K y hK (hs y hy).1).imp_right fun g => g.imp_right upd_none
      ·exact (h.act x K2 y e hy).imp_right fun g => g.imp_right upd_none
     ·rcases upd_some e with ⟨rfl, rfl⟩ | ⟨_, e⟩
      ·exact h.par _ K y hK (hs y hy).1
      ·exact h.par x K2 y e hy
     ·rcases upd_some e with ⟨_, rfl⟩ | ⟨_, e⟩
      ·exact fun g => h.nz _ K hK (hs 0 g).1
      ·exact h.nz x K2 e
    refine ⟨hx.ai fun x K2 e hm => ?_, hx.nz⟩
    have hp := hx.par x K2 id e hm
    rcases upd_some e with ⟨_, rfl⟩ | ⟨hne, _⟩
    ·exact (hs id hm).2 rfl
    ·exact hne hp.symm
   ·rw [offR_last h0 hl]
    refine off_AI n (mdel A (parM mem id)) (parM mem id) hf2 ⟨fun x K e => h.ne x K (mdel_some e).2, fun x K e => h.srt x K (mdel_some e).2, fun x K y e hy => ?_, fun x K y e hy => h.par x K y (mdel_some e).2 hy, fun x K e => h.nz x K (mdel_some e).2⟩
    obtain ⟨hne, e2⟩ := mdel_some e
    by_cases hy2 : y = parM mem id
    ·exact .inl hy2
    ·rcases h.act x K y e2 hy with g | g | g
     ·exact absurd ((h.par x K y e2 hy).symm.trans (by rw [g])) hne
     ·exact .inr (.inl g)
     ·refine .inr (.inr ?_)
      unfold mdel
      rw [if_neg hy2]
      exact g
end Go.Proofs.Ytmmahgfijiocfaa
end
section
namespace Go.Proofs.Ytmmahgfijiocfaa
open Go.RowKit Fg Reg Go.Maps
attribute [local irreducible] Reg.wE VR
def onE (mem : Int → Option (Int × Bool)) (A : Int → Option (List Int)) (id : Int) : Int := if lfM mem id = false then 6 else if isA mem A id = true then 8 else 0
def onO (mem : Int → Option (Int × Bool)) (A : Int → Option (List Int)) (id : Int) : List Int := if onE mem A id = 0 then (onR mem 17 A id).1 else []
def onS (mem : Int → Option (Int × Bool)) (A : Int → Option (List Int)) (id : Int) : Int → Option (List Int) := if onE mem A id = 0 then (onR mem 17 A id).2 else A
def ofE (mem : Int → Option (Int × Bool)) (A : Int → Option (List Int)) (id : Int) : Int := if lfM mem id = false then 6 else if isA mem A id = true then 0 else 6
def ofO (mem : Int → Option (Int × Bool)) (A : Int → Option (List Int)) (id : Int) : List Int := if ofE mem A id = 0 then (offR mem 17 A id).1 else []
def ofS (mem : Int → Option (Int × Bool)) (A : Int → Option (List Int)) (id : Int) : Int → Option (List Int) := if ofE mem A id = 0 then (offR mem 17 A id).2 else A
def OnG (B p mb cb : Nat) (mem : Int → Option (Int × Bool)) (z : World) (E : Int) (out : List Int) (A2 : Int → Option (List Int)) (e : Ending) (z' : World) : Prop := ∃ v F2, e = .returned (.tuple #[v, .int .i64 E]) ∧ z'.ownsRow z.heap.size 3 1 v out.length (out.map (Value.int .i64)) ∧ AS z' B p mb cb mem F2 A2 ∧ OM B z z'
theorem aon_c {z : World} {B p mb cb : Nat} {mem : Int → Option (Int × Bool)} {F : Int → Option Nat} {A : Int → Option (List Int)} (h : AS z B p mb cb mem F A) (hm : ∀ x m, mem x = some m → iok m.1) {id : Int} (hi : iok id) (hB : B ≤ z.heap.size) (hf : lfM mem id = true → finM mem 17 id = true) : Calls Try.prog 15 #[.pointer (some ⟨p, 0, none⟩), .int .i64 id] z (OnG B p mb cb mem z (onE mem A id) (onO mem A id) (onS mem A id)) := by
 by_cases hl : lfM mem id = true
 ·by_cases hs : isA mem A id = true
  ·have e : onE mem A id = 8 := by unfold onE; rw [if_neg (by simp [hl]), if_pos hs]
   have e2 : onO mem A id = [] := by unfold onO; rw [e]; rfl
   have e3 : onS mem A id = A := by unfold onS; rw [e]; rfl
   rw [e, e2, e3]
   refine (aon_same h hm hi hl hs).mono ?_
   rintro _ z' ⟨rfl, hb⟩
   exact ⟨_, F, rfl, World.ownsRow_nil _ _ _ _, h.below hb, OM.of_below hb⟩
  ·have hs2 : isA mem A id = false := by simpa using hs
   have e : onE mem A id = 0 := by unfold onE; rw [if_neg (by simp [hl]), if_neg hs]
   have e2 : onO mem A id = (onR mem 17 A id).1 := by unfold onO; rw [e]; rfl
   have e3 : onS mem A id = (onR mem 17 A id).2 := by unfold onS; rw [e]; rfl
   rw [e, e2, e3]
   exact (aon_ok h hm hi hl hs2 hB (hf hl)).mono fun _ _ g => g
 ·have hl2 : lfM mem id = false := by simpa using hl
  have e : onE mem A id = 6 := by unfold onE; rw [if_pos hl2]
  have e2 : onO mem A id = [] := by unfold onO; rw [e]; rfl
  have e3 : onS mem A id = A := by unfold onS; rw [e]; rfl
  rw [e, e2, e3]
  refine (aon_no h hi hl2).mono ?_
  rintro _ z' ⟨rfl, hb⟩
  exact ⟨_, F, rfl, World.ownsRow_nil _ _ _ _, h.below hb, OM.of_below hb⟩
theorem aof_c {z : World} {B p mb cb : Nat} {mem : Int → Option (Int × Bool)} {F : Int → Option Nat} {A : Int → Option (List Int)} (h : AS z B p mb cb mem F A) (hm : ∀ x m, mem x = some m → iok m.1) {id : Int} (hi : iok id) (hf : lfM mem id = true → finM mem 17 id = true) : Calls Try.prog 11 #[.pointer (some ⟨p, 0, none⟩), .int .i64 id] z (OnG B p mb cb mem z (ofE mem A id) (ofO mem A id) (ofS mem A id)) := by
 have hno : ∀ (_ : ofE mem A id = 6) (_ : Calls Try.prog 11 #[.pointer (some ⟨p, 0, none⟩), .int .i64 id] z fun ee w' => ee = .returned (.tuple #[.slice none 0 0, .int .i64 6]) ∧ Below z.heap.size z w'), Calls Try.prog 11 #[.pointer (some ⟨p, 0, none⟩), .int .i64 id] z (OnG B p mb cb mem z (ofE mem A id) (ofO mem A id) (ofS mem A id)) := fun e K => by
  have e2 : ofO mem A id = [] := by unfold ofO; rw [e]; rfl
  have e3 : ofS mem A id = A := by unfold ofS; rw [e]; rfl
  rw [e, e2, e3]
  refine K.mono ?_
  rintro _ z' ⟨rfl, hb⟩
  exact ⟨_, F, rfl, World.ownsRow_nil _ _ _ _, h.below hb, OM.of_below hb⟩
 by_cases hl : lfM mem id = true
 ·by_cases hs : isA mem A id = true
  ·have e : ofE mem A id = 0 := by unfold ofE; rw [if_neg (by simp [hl]), if_pos hs]
   have e2 : ofO mem A id = (offR mem 17 A id).1 := by unfold ofO; rw [e]; rfl
   have e3 : ofS mem A id = (offR mem 17 A id).2 := by unfold ofS; rw [e]; rfl
   rw [e, e2, e3]
   exact (aof_ok h hm hi hl hs (hf hl)).mono fun _ _ g => g
  ·have hs2 : isA mem A id = false := by simpa using hs
   exact hno (by unfold ofE; rw [if_neg (by simp [hl]), if_neg hs]) (aof_no2 h hm hi hl hs2)
 ·have hl2 : lfM mem id = false := by simpa using hl
  exact hno (by unfold ofE; rw [if_pos hl2]) (aof_no1 h hi hl2)
theorem all_isA {mem : Int → Option (Int × Bool)} {A : Int → Option (List Int)} (hI : AI mem A) {id : Int} (h0 : id ≠ 0) (hm : (mem id).isSome = true) (h : allS A id) : isA mem A id = true := by
 obtain ⟨x, K, e, hk⟩ := h
 have hp := hI.par x K id e hk
 unfold isA
 rw [if_neg h0]
 obtain ⟨m, hc⟩ := Option.isSome_iff_exists.1 hm
 have hpm : m.1 = x := by unfold parM at hp; rw [hc] at hp; exact hp
 rw [hc]
 show (match A m.1 with | some K => decide (id ∈ K) | none => false) = true
 rw [hpm, e]
 simpa using hk
end Go.Proofs.Ytmmahgfijiocfaa
end
section
namespace Go.Proofs.Ytmmahgfijiocfaa
open Go.RowKit Fg Reg Go.Maps Go.Sort Go.Shelf
attribute [local irreducible] Reg.wE VR
theorem intsA_map {z z' : World} {ao : Option Addr} {C : List Int} (h : IntsV z ao C) {mb : Nat} (hm : ∃ es ck, z.heap[mb]? = some (.map es ck)) (ho : Only (fun k => k = mb) z z') : IntsV z' ao C := fun k hk => by
 obtain ⟨b, o, e, h1, h2⟩ := h k hk
 have hne : b ≠ mb := by
  rintro rfl
  obtain ⟨es, ck, hb⟩ := hm
  simp [World.cell?, hb] at h2
 exact ⟨b, o, e, Nat.lt_of_lt_of_le h1 ho.size, by rw [World.cell?_of_block (ho.block b h1 hne)]; exact h2⟩
theorem AS.memb {z v : World} {B p mb cb : Nat} {mem : Int → Option (Int × Bool)} {F : Int → Option Nat} {A : Int → Option (List Int)} (h : AS z B p mb cb mem F A) {mem2 : Int → Option (Int × Bool)} (hu : ∃ n, Mp ikv memv iok mem2 n v mb) (ho : Only (fun k => k = mb) z v) : AS v B p mb cb mem2 F A :=
 ⟨(World.cell?_of_block (ho.5 p h.lt (fun e => h.nm e.symm))).trans h.c0, (World.cell?_of_block (ho.5 p h.lt (fun e => h.nm e.symm))).trans h.c1, Nat.lt_of_lt_of_le h.lt ho.4, h.nm, h.nc, h.mc, h.bc, hu, h.ch.frame (fun b hl hn => ho.5 b hl (fun e => hn (.inl e))) h.ncb⟩
theorem as_new (w : World) : AS (((w.alloc (.map #[] 0)).alloc (.map #[] 0)).alloc (.cells #[.map (some w.heap.size), .map (some (w.heap.size + 1))] 67)) w.heap.size (w.heap.size + 2) w.heap.size (w.heap.size + 1) (fun _ => none) (fun _ => none) (fun _ => none) := by
 have h1 := Mp.made (κ := Int) ikv memv iok w
 have h2 := Mp.made (κ := Int) ikv bv iok (w.alloc (.map #[] 0))
 rw [show (w.alloc (.map #[] 0)).heap.size = w.heap.size + 1 by simp] at h2
 refine ⟨by simp [go_sem], by simp [go_sem], by simp, by omega, by omega, by omega, by omega, ⟨0, (h1.alloc _).alloc _⟩, ⟨0, h2.alloc _⟩, fun x => rfl, fun x b K h => (by cases h), fun x y b h => (by cases h), fun x K h => (by cases h)⟩
def mfA (f : Int → Option Cls) : Int → Option (Int × Bool) := fun x => match f x with | some c => if sh1 c = true then some (c.par, c.leaf) else none | none => none
def mfK (f : Int → Option Cls) (L : List Int) : Int → Option (Int × Bool) := fun x => if x ∈ L then mfA f x else none
theorem mfK_all {f : Int → Option Cls} {L : List Int} (I : TI f L) : mfK f L = mfA f := by
 funext x
 unfold mfK
 by_cases h : x ∈ L
 ·rw [if_pos h]
 ·rw [if_neg h]
  have : f x = none := by
   cases hc : f x with
   | none => rfl
   | some c => exact absurd ((I.mem x).1 (by rw [hc]; rfl)) h
  unfold mfA
  rw [this]
theorem mfK_yes {f : Int → Option Cls} {L : List Int} {x : Int} {c : Cls} (hc : f x = some c) (hs : sh1 c = true) : mfK f (L ++ [x]) = upd (mfK f L) x (c.par, c.leaf) := by
 funext y
 unfold mfK upd
 by_cases h : y = x
 ·rw [if_pos (by simp [h]), if_pos h]
  unfold mfA
  rw [h, hc]
  simp [hs]
 ·rw [if_neg h]
  simp [h]
theorem mfK_no {f : Int → Option Cls} {L : List Int} {x : Int} {c : Cls} (hc : f x = some c) (hs : sh1 c = false) : mfK f (L ++ [x]) = mfK f L := by
 funext y
 unfold mfK
 by_cases h : y = x
 ·have : mfA f y = none := by unfold mfA; rw [h, hc]; simp [hs]
  rw [this]
  simp
 ·simp [h]
theorem anew2_c {w : World} {tb tm : Nat} {f : Int → Option Cls} {L : List Int} (h : HT w tb tm f) (I : TI f L) : Calls Try.prog 9 #[.pointer (some ⟨tb, 0, none⟩)] w fun e w' => ∃ p mb cb F, e = .returned (.pointer (some ⟨p, 0, none⟩)) ∧ w.heap.size ≤ mb ∧ w.heap.size ≤ p ∧ AS w' w.heap.size p mb cb (mfA f) F (fun _ => none) ∧ Below w.heap.size w w' := by
 obtain ⟨n, hn⟩ : ∃ n, L.length = n := ⟨_, rfl⟩
 have hn64 : n ≤ 64 := by rw [← hn]; exact I.len
 have KID : Hid (∀ z, Below w.heap.size w z → Calls Try.prog 31 #[.pointer (some ⟨tb, 0, none⟩)] z fun e z' => ∃ ao cap, e = .returned (.slice ao n cap) ∧ IntsV z' ao L ∧ Below z.heap.size z z') := Lib.hid (fun z hz => by
  refine (ids_c (h.below hz) L I.srt I.mem (Nat.le_trans I.len (by decide)) I.iok).mono ?_
  rintro e z' ⟨v, rfl, hr, hb⟩
  obtain ⟨ao, cap, rfl⟩ := row_form hr
  exact ⟨ao, cap, by rw [hn], (own_ints hr).2, hb⟩)
 have KG : Hid (∀ z x c, Below w.heap.size w z → f x = some c → iok x → Calls Try.prog 32 #[.pointer (some ⟨tb, 0, none⟩), .int .i64 x] z fun e z' => e = .returned (.tuple #[.agg #[.int .i64 c.id, .int .i64 c.par, .bool c.leaf, .int .u64 c.ra, .int .u64 c.rb, .int .u64 c.rc, .int .u64 c.la, .int .u64 c.lb, .int .u64 c.lc, .int .u64 c.ua, .int .u64 c.ub, .int .u64 c.uc, .int .i64 c.pk, .int .i64 c.bt], .int .i64 0]) ∧ Below z.heap.size z z') := Lib.hid (fun z x c hz hc hx => by
  refine (hget_c (h.below hz) hx).mono ?_
  rintro e z' ⟨he, hb⟩
  rw [hc] at he
  exact ⟨he, hb⟩)
 have HA := Lib.hid (as_new w)
 have HB : Hid (Below w.heap.size w (((w.alloc (.map #[] 0)).alloc (.map #[] 0)).alloc (.cells #[.map (some w.heap.size), .map (some (w.heap.size + 1))] 67))) := Lib.hid bub
 have hmm := @run_makeMap Try.prog
 have HI := Lib.hid I
 have HN := Lib.hid hn
 have ALL := Lib.hid cl_alloc
 have INF := Lib.hid cl_info
 have ONE := Lib.hid cla_one
 clear h I hn
 go_enter Try.func9, Try.ntmps9
 go_wp2_with (first
  | go_guarded
  | (go_at_call 31; (with_reducible refine (KID.out _ HB.out).mono ?_); rintro _ w2 ⟨io, ic, rfl, hv, hbel⟩; have HV := Lib.hid hv; have HA2 := Lib.hid (HA.out.below hbel); have HB2 := Lib.hid (HB.out.trans (hbel.mono HB.out.size)); clear hbel hv))
 try go_frame
 go_loopg [15] n (fun k9 s15 wr => ∃ k : Nat, s15 = .int .i64 k ∧ k ≤ n ∧ AS wr w.heap.size (w.heap.size + 2) w.heap.size (w.heap.size + 1) (mfK f (L.take k)) (fun _ => none) (fun _ => none) ∧ IntsV wr io L ∧ Below w.heap.size w wr ∧ n - k ≤ k9)
 case atStart => exact ⟨0, rfl, Nat.zero_le _, by rw [List.take_zero]; exact HA2.out, HV.out, HB2.out, by omega⟩
 case round =>
  obtain ⟨k, rfl, hk, hA, hiv, hB, hk9⟩ := hrel
  have HAR := Lib.hid hA
  have HIV := Lib.hid hiv
  have HBR := Lib.hid hB
  by_cases hlt : k < n
  ·have hlC : k < L.length := by rw [HN.out]; exact hlt
   obtain ⟨b, o, rfl, hb, hce⟩ := hiv k hlC
   have hts := take_snoc'' L k hlC
   obtain ⟨c, hc⟩ : ∃ c, f L[k] = some c := Option.isSome_iff_exists.1 ((HI.out.mem _).2 (List.getElem_mem hlC))
   have hxi := HI.out.iok L[k] (List.getElem_mem hlC)
   have hci := (HI.out.cls _ c hc).2.1
   obtain ⟨x, hx⟩ : ∃ x, L[k] = x := ⟨_, rfl⟩
   rw [hx] at hce hc hxi hts
   have KG1 := Lib.hid (fun z hz => KG.out z x c hz hc hxi)
   have KSH := Lib.hid (cshares_c hci)
   obtain ⟨r, hr⟩ : ∃ r, sh1 c = r := ⟨_, rfl⟩
   rw [hr] at KSH
   have HXI := Lib.hid hxi
   cases r with
   | false =>
    have HM2 : Hid (mfK f (L.take (k + 1)) = mfK f (L.take k)) := Lib.hid (by rw [hts]; exact mfK_no hc hr)
    clear hA hiv hB hts hc hxi hci hx hr hlC hb
    go_wp2_with (first
     | go_guarded
     | (go_at_call 33; (have mk := HB5); (with_reducible refine (KSH.out _).mono ?_); rintro _ w6 ⟨rfl, hbel⟩; have HB6 := Lib.hid (HB5.out.trans (hbel.mono HB5.out.size)); have HV6 := Lib.hid (HV5.out.below hbel); have HA6 := Lib.hid (HA5.out.below hbel); clear hbel)
     | (refine wpList_var_get rfl 54 _ rfl _ #[.int .i64 c.id, .int .i64 c.par, .bool c.leaf, .int .u64 c.ra, .int .u64 c.rb, .int .u64 c.rc, .int .u64 c.la, .int .u64 c.lb, .int .u64 c.lc, .int .u64 c.ua, .int .u64 c.ub, .int .u64 c.uc, .int .i64 c.pk, .int .i64 c.bt] _ HC5.out rfl Try.underlying54 rfl INF.out ?_)
     | (refine wpList_var_new rfl rfl 54 #[.int .i64 0, .int .i64 0, .bool false, .int .u64 0, .int .u64 0, .int .u64 0, .int .u64 0, .int .u64 0, .int .u64 0, .int .u64 0, .int .u64 0, .int .u64 0, .int .i64 0, .int .i64 0] ALL.out rfl _ _ rfl #[.int .i64 c.id, .int .i64 c.par, .bool c.leaf, .int .u64 c.ra, .int .u64 c.rb, .int .u64 c.rc, .int .u64 c.la, .int .u64 c.lb, .int .u64 c.lc, .int .u64 c.ua, .int .u64 c.ub, .int .u64 c.uc, .int .i64 c.pk, .int .i64 c.bt] rfl rfl INF.out rfl (ONE.out _) ?_; (have mk := HB4); intro w5 hs5 hb5 hv5; have HC5 := Lib.hid hv5; have HB5 := Lib.hid (HB4.out.trans (hb5.mono HB4.out.size)); have HV5 := Lib.hid (HV4.out.below hb5); have HA5 := Lib.hid (HA4.out.below hb5); clear hb5 hv5)
     | (go_at_call 32; (with_reducible refine (KG1.out _ HBR.out).mono ?_); rintro _ w4 ⟨rfl, hbel⟩; have HB4 := Lib.hid (HBR.out.trans (hbel.mono HBR.out.size)); have HV4 := Lib.hid (HIV.out.below hbel); have HA4 := Lib.hid (HAR.out.below hbel); clear hbel))
    go_roundg (n - (k + 1))
    case rel => exact ⟨k + 1, by go_num, by omega, by rw [HM2.out]; exact HA6.out, HV6.out, HB6.out, Nat.le_refl _⟩
    case measure => omega
   | true =>
    have HM2 : Hid (mfK f (L.take (k + 1)) = upd (mfK f (L.take k)) x (c.par, c.leaf)) := Lib.hid (by rw [hts]; exact mfK_yes hc hr)
    clear hA hiv hB hts hc hxi hci hx hr hlC hb
    go_wp2_with (first
     | go_guarded
     | (go_at_call 33; (have mk := HB5); (with_reducible refine (KSH.out _).mono ?_); rintro _ w6 ⟨rfl, hbel⟩; have HB6 := Lib.hid (HB5.out.trans (hbel.mono HB5.out.size)); have HV6 := Lib.hid (HV5.out.below hbel); have HA6 := Lib.hid (HA5.out.below hbel); have HC6 := Lib.hid (HC5.out.bel hbel); clear hbel)
     | (refine wpList_var_get rfl 54 _ rfl _ #[.int .i64 c.id, .int .i64 c.par, .bool c.leaf, .int .u64 c.ra, .int .u64 c.rb, .int .u64 c.rc, .int .u64 c.la, .int .u64 c.lb, .int .u64 c.lc, .int .u64 c.ua, .int .u64 c.ub, .int .u64 c.uc, .int .i64 c.pk, .int .i64 c.bt] _ HC5.out rfl Try.underlying54 rfl INF.out ?_)
     | (refine wpList_var_new rfl rfl 54 #[.int .i64 0, .int .i64 0, .bool false, .int .u64 0, .int .u64 0, .int .u64 0, .int .u64 0, .int .u64 0, .int .u64 0, .int .u64 0, .int .u64 0, .int .u64 0, .int .i64 0, .int .i64 0] ALL.out rfl _ _ rfl #[.int .i64 c.id, .int .i64 c.par, .bool c.leaf, .int .u64 c.ra, .int .u64 c.rb, .int .u64 c.rc, .int .u64 c.la, .int .u64 c.lb, .int .u64 c.lc, .int .u64 c.ua, .int .u64 c.ub, .int .u64 c.uc, .int .i64 c.pk, .int .i64 c.bt] rfl rfl INF.out rfl (ONE.out _) ?_; (have mk := HB4); intro w5 hs5 hb5 hv5; have HC5 := Lib.hid hv5; have HB5 := Lib.hid (HB4.out.trans (hb5.mono HB4.out.size)); have HV5 := Lib.hid (HV4.out.below hb5); have HA5 := Lib.hid (HA4.out.below hb5); clear hb5 hv5)
     | (go_at_call 32; (with_reducible refine (KG1.out _ HBR.out).mono ?_); rintro _ w4 ⟨rfl, hbel⟩; have HB4 := Lib.hid (HBR.out.trans (hbel.mono HBR.out.size)); have HV4 := Lib.hid (HIV.out.below hbel); have HA4 := Lib.hid (HAR.out.below hbel); clear hbel))
    have hbq : Below w6.heap.size w6 w6.drew := Below.drew (Below.refl _ _)
    have ha : AS w6.drew w.heap.size (w.heap.size + 2) w.heap.size (w.heap.size + 1) (mfK f (L.take k)) (fun _ => none) (fun _ => none) := HA6.out.below hbq
    obtain ⟨vb, hvb⟩ : ∃ q, w4.heap.size = q := ⟨_, rfl⟩
    have hv := HC6.out.bel hbq
    rw [hvb] at hv ⊢
    obtain ⟨n6, hm6⟩ := ha.mp
    obtain ⟨w7, hrun, hu7, ho7, hs7⟩ := hm6.update ikok Try.underlying64 HXI.out (c.par, c.leaf)
    have hpm : ¬ w.heap.size + 2 = w.heap.size := by omega
    have hvm : ¬ vb = w.heap.size := by have := HA4.out.mlt; intro e; omega
    have has := ha.memb ⟨_, hu7⟩ ho7
    have hv7 := hv.only ho7 hvm
    have hi7 := intsA_map (HV6.out.below hbq) hm6.kind ho7
    have hb7 : Below w.heap.size w w7 := (HB6.out.trans (hbq.mono HB6.out.size)).trans ⟨ho7.1, ho7.2, ho7.3, ho7.4, fun k hk => ho7.5 k (Nat.lt_of_lt_of_le hk (HB6.out.trans (hbq.mono HB6.out.size)).size) (by omega)⟩
    rw [← HM2.out] at has
    have HAS := Lib.hid has
    have HI7 := Lib.hid hi7
    have HB7 := Lib.hid hb7
    have HRUN := Lib.hid hrun
    have HV7 := Lib.hid hv7
    have e0 := ha.c0
    have el := ha.lt
    have e1 := hv.cell 1 rfl
    have e2 := hv.cell 2 rfl
    have e3 := hv.lt
    clear hi7 hb7 hrun hv7 has ha hv hm6 hu7 ho7 hs7 hpm hvm hbq
    obtain ⟨Cl, hCl⟩ : ∃ Cl : List (Nat × Value) → World → Prop, Cl = ((fun ps wz => ((wz.cell? ⟨w.heap.size + 2, 0, none⟩ = some (.map (some w.heap.size)) ∧ w.heap.size + 2 < wz.heap.size) ∧ (wz.cell? ⟨vb, 1, none⟩ = some (.int .i64 c.par) ∧ wz.cell? ⟨vb, 2, none⟩ = some (.bool c.leaf) ∧ vb < wz.heap.size)) ∧ (match ps with
     | [] => wz = w6.drew
     | _ => wz = w7))) := ⟨_, rfl⟩; have HCl := Lib.hid hCl; clear hCl; refine Reg2.wp_region_lineS [(0, false), (1, false), (2, false), (3, false), (4, false), (5, false), (6, false), (7, false), (8, false), (9, false), (10, false)] [10] Cl (by kernel_rfl) (by kernel_rfl) (by kernel_rfl) (by simp only [HCl.out, zD, zE]; exact ⟨⟨⟨e0, el⟩, e1, e2, e3⟩, (by first | rfl | trivial)⟩) ?_
    clear e0 el e1 e2 e3
    (repeat ((first | (refine Reg2.wS_skip gtb (by rfl) ?_) | (refine Reg2.wS_open gtb (by rfl) (by rfl) ?_; apply Exists.intro; refine ⟨fun vs wq hw => ?_, ?_⟩; (focus (simp only [HCl.out, zD, zE] at hw; go_split_ands; go_simp <;> exact ebb)))); simp only [Act.put, Nat.reduceAdd, zA, zB, zC, zD, zE]))
    refine Reg2.wS_eff gtb (by rfl) (by rfl) (fun wq hw => ?_) (fun u9 hu => ?_)
    focus
     simp only [HCl.out, zD, zE] at hw
     obtain ⟨-, rfl⟩ := hw
     refine effv_map _ _ _ 64 rfl rfl rfl rfl HRUN.out ?_
     simp only [HCl.out, zD, zE]
     exact ⟨⟨⟨HAS.out.c0, HAS.out.lt⟩, HV7.out.cell 1 rfl, HV7.out.cell 2 rfl, HV7.out.lt⟩, (by first | rfl | trivial)⟩
    clear hu
    simp only [Act.put, Nat.reduceAdd, zA, zB, zC, zD, zE]
    (repeat ((first | (refine Reg2.wS_skip gtb (by rfl) ?_) | (refine Reg2.wS_open gtb (by rfl) (by rfl) ?_; apply Exists.intro; refine ⟨fun vs wq hw => ?_, ?_⟩; (focus (simp only [HCl.out, zD, zE] at hw; go_split_ands; go_simp <;> exact ebb)))); simp only [Act.put, Nat.reduceAdd, zA, zB, zC, zD, zE]))
    refine Reg2.wS_nil ?_; intro w' hw; simp only [HCl.out, zD, zE] at hw; clear HCl
    obtain ⟨-, rfl⟩ := hw
    go_wp2_with (first | go_guarded)
    go_roundg (n - (k + 1))
    case rel => exact ⟨k + 1, by go_num, by omega, HAS.out, HI7.out, HB7.out, Nat.le_refl _⟩
    case measure => omega
  ·obtain rfl : k = n := by omega
   have hm : mfK f (L.take k) = mfA f := by rw [List.take_of_length_le (by rw [HN.out]; exact Nat.le_refl _)]; exact mfK_all HI.out
   have HM := Lib.hid hm
   clear hA hiv hB hlt hm
   go_wp2_with (first | go_guarded)
   refine bodyPost_ret (v := .pointer (some ⟨(w.heap.size + 2), 0, none⟩)) (by simp [results, Try.results9, go_sem, *]) rfl ?_
   exact ⟨_, _, _, _, rfl, Nat.le_refl _, by omega, by rw [← HM.out]; exact HAR.out, HBR.out⟩
theorem anew_c {w : World} {tb tm : Nat} {f : Int → Option Cls} {L : List Int} (h : HT w tb tm f) (I : TI f L) : Calls Try.prog 9 #[.pointer (some ⟨tb, 0, none⟩)] w fun e w' => ∃ p mb cb F, e = .returned (.pointer (some ⟨p, 0, none⟩)) ∧ AS w' w.heap.size p mb cb (mfA f) F (fun _ => none) ∧ Below w.heap.size w w' :=
 (anew2_c h I).mono fun _ _ ⟨p, mb, cb, F, e, _, _, h1, h2⟩ => ⟨p, mb, cb, F, e, h1, h2⟩
end Go.Proofs.Ytmmahgfijiocfaa
end
section
namespace Go.Proofs.Ytmmahgfijiocfaa
open Go.RowKit Fg Reg Go.Maps
attribute [local irreducible] Reg.wE VR
theorem finM_zero (mem : Int → Option (Int × Bool)) : ∀ n, finM mem n 0 = true
 | 0 => rfl
 | n + 1 => by unfold finM; simp
theorem mfA_par (f : Int → Option Cls) (x : Int) : parM (mfA f) x = 0 ∨ ∃ c, f x = some c ∧ parM (mfA f) x = c.par := by
 unfold parM mfA
 cases hc : f x with
 | none => exact .inl rfl
 | some c =>
  by_cases hs : sh1 c = true
  ·exact .inr ⟨c, rfl, by simp [hs]⟩
  ·exact .inl (by simp [hs])
theorem mfA_fin {f : Int → Option Cls} : ∀ (n : Nat) (x : Int), fin f n x = true → finM (mfA f) (n + 1) x = true
 | 0, x, h => by
  unfold finM
  rcases mfA_par f x with e | ⟨c, hc, -⟩
  ·rw [e, finM_zero]; simp
  ·unfold fin at h; rw [hc] at h; cases h
 | n + 1, x, h => by
  unfold finM
  rcases mfA_par f x with e | ⟨c, hc, e⟩
  ·rw [e, finM_zero]; simp
  ·rw [e]
   unfold fin at h
   rw [hc] at h
   rw [mfA_fin n c.par h]
   simp
theorem mfA_in {f : Int → Option Cls} {L : List Int} (I : TI f L) : ∀ id, id ≠ 0 → parM (mfA f) id ≠ 0 → lfM (mfA f) (parM (mfA f) id) = false := fun id _ hp => by
 rcases mfA_par f id with e | ⟨c, hc, e⟩
 ·exact absurd e hp
 ·rw [e] at hp ⊢
  obtain ⟨p, h1, h2, -⟩ := I.par id c hc hp
  unfold lfM mfA
  rw [h1]
  by_cases hs : sh1 p = true
  ·simp [hs, h2]
  ·simp [hs]
theorem mfA_iok {f : Int → Option Cls} {L : List Int} (I : TI f L) : ∀ x m, mfA f x = some m → iok m.1 := fun x m h => by
 unfold mfA at h
 cases hc : f x with
 | none => rw [hc] at h; cases h
 | some c =>
  rw [hc] at h
  by_cases hs : sh1 c = true
  ·simp [hs] at h
   subst h
   exact (I.cls x c hc).2.1.par
  ·simp [hs] at h
end Go.Proofs.Ytmmahgfijiocfaa
end
