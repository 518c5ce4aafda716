/- Joined texts. -/
import Derived.Test.YtmmahgfijiocfaaBs0
import Derived.Test.YtmmahgfijiocfaaBs1
import Derived.Test.YtmmahgfijiocfaaBs10
import Derived.Test.YtmmahgfijiocfaaBs11
import Derived.Test.YtmmahgfijiocfaaBs12
import Derived.Test.YtmmahgfijiocfaaBs13
import Derived.Test.YtmmahgfijiocfaaBs2
import Derived.Test.YtmmahgfijiocfaaBs3
import Derived.Test.YtmmahgfijiocfaaBs4
import Derived.Test.YtmmahgfijiocfaaBs5
import Derived.Test.YtmmahgfijiocfaaBs6
import Derived.Test.YtmmahgfijiocfaaBs7
import Derived.Test.YtmmahgfijiocfaaBs8
import Derived.Test.YtmmahgfijiocfaaBs9
import Derived.Test.YtmmahgfijiocfaaAl1
import Derived.Test.YtmmahgfijiocfaaAl2
import Derived.Test.YtmmahgfijiocfaaAl4
import Derived.Maps.Keyed
import Derived.Maps.Own
import Derived.Maps.OwnOps
import Derived.DeepKeys5
import Derived.StillTail
import Derived.Deep.Quiet
import Derived.Deep.QuietTactic
import Derived.Test.YtmmahgfijiocfaaChecked
import Derived.WalkKit
import Derived.BigQuiet
import Derived.OpenShut
import Derived.Deep.RegionHeld3
import Derived.Deep.RegionWith
import Derived.Deep.DeepCutAuto
import Derived.WalkSpells
import Derived.WalkSmall
import Derived.Lib.Hide
import Derived.RowKit
import Derived.IntWalk
import Derived.Maps.RangeRun
import Derived.Deep.MidRow
import Derived.Deep.WholeRow
import Derived.Laws.CopyRow
import Derived.Deep.OwnRows
import Derived.ArgAppend
import Derived.Sort.OwnSortedInts
import Derived.Shelf.SlIterI.Nil
import Derived.Shelf.SortM.Plain
import Derived.Shelf.SortM.SortNone
import Derived.Ground.GgzProg
import Derived.Ground.SlgmProg
import Derived.Laws.AppendOwn
import Derived.Laws.AppendOwnNone
import Derived.ProofKit
import Derived.Below
import Derived.Carry
import Derived.ReadAgain
import Derived.ChangeOld
import Derived.Deep.Slices
import Derived.Deep.Onto
import Derived.LoopN
set_option linter.unusedVariables false
set_option linter.unusedSimpArgs false
set_option maxRecDepth 100000
set_option maxHeartbeats 16000000
section
namespace Go.Proofs.Ytmmahgfijiocfaa
open Go.RowKit Fg Reg Go.Maps Go.Sort Go.Shelf
attribute [local irreducible] Reg.wE VR
structure AJ (mem : Int → Option (Int × Bool)) (A : Int → Option (List Int)) : Prop where
 ai : AI mem A
 nz : ∀ x K, A x = some K → (0 : Int) ∉ K
theorem AJ.zero (mem : Int → Option (Int × Bool)) : AJ mem (fun _ => none) := ⟨AI.zero mem, fun x K h => (by cases h)⟩
theorem AJ.all0 {mem : Int → Option (Int × Bool)} {A : Int → Option (List Int)} (h : AJ mem A) : ∀ y, allS A y → y ≠ 0 := fun y hy h0 => by
 obtain ⟨x, K, e, hk⟩ := hy
 exact h.nz x K e (h0 ▸ hk)
theorem on_out0 {mem : Int → Option (Int × Bool)} : ∀ (n : Nat) (A : Int → Option (List Int)) (id : Int), (0 : Int) ∉ (onR mem n A id).1
 | 0, A, id => by unfold onR; simp
 | n + 1, A, id => by
  by_cases h0 : id = 0
  ·subst h0; rw [onR_zero]; simp
  ·cases hA : A (parM mem id) with
   | some K => rw [onR_some h0 hA]; intro h; exact h0 (List.mem_singleton.1 h).symm
   | none =>
    rw [onR_none h0 hA]
    intro h
    rcases List.mem_cons.1 h with h | h
    ·exact h0 h.symm
    ·exact on_out0 n _ _ h
theorem onE_zero {mem : Int → Option (Int × Bool)} {A : Int → Option (List Int)} {id : Int} (h : onE mem A id = 0) : lfM mem id = true ∧ isA mem A id = false := by
 unfold onE at h
 by_cases h1 : lfM mem id = false
 ·rw [if_pos h1] at h; cases h
 ·rw [if_neg h1] at h
  by_cases h2 : isA mem A id = true
  ·rw [if_pos h2] at h; cases h
  ·exact ⟨by simpa using h1, by simpa using h2⟩
theorem AJ.on {mem : Int → Option (Int × Bool)} {A : Int → Option (List Int)} (h : AJ mem A) {id : Int} (hl : lfM mem id = true) : AJ mem (onR mem 17 A id).2 :=
 ⟨on_AI 17 A id h.ai (.inr (.inl hl)), fun x K e h0 => by
  rcases (on_all 0 17 A id).1 ⟨x, K, e, h0⟩ with g | g
  ·exact h.all0 0 g rfl
  ·exact on_out0 _ _ _ g⟩
theorem AJ.onS {mem : Int → Option (Int × Bool)} {A : Int → Option (List Int)} (h : AJ mem A) (id : Int) : AJ mem (onS mem A id) := by
 unfold Go.Proofs.Ytmmahgfijiocfaa.onS
 by_cases he : onE mem A id = 0
 ·rw [if_pos he]; exact h.on (onE_zero he).1
 ·rw [if_neg he]; exact h
theorem AJ.ofS {mem : Int → Option (Int × Bool)} {A : Int → Option (List Int)} (h : AJ mem A) {id : Int} (hf : finM mem 17 id = true) : AJ mem (ofS mem A id) := by
 unfold Go.Proofs.Ytmmahgfijiocfaa.ofS
 by_cases he : ofE mem A id = 0
 ·rw [if_pos he]
  have := off_AI 17 A id hf (h.ai.ax h.nz id)
  exact ⟨this.1, this.2⟩
 ·rw [if_neg he]; exact h
theorem lf_some {f : Int → Option Cls} {y : Int} (h : lfM (mfA f) y = true) : (f y).isSome = true ∧ (mfA f y).isSome = true := by
 unfold lfM at h
 cases hc : mfA f y with
 | none => rw [hc] at h; cases h
 | some m =>
  refine ⟨?_, rfl⟩
  unfold mfA at hc
  cases hf : f y with
  | none => rw [hf] at hc; cases hc
  | some c => rfl
theorem lf_nz {f : Int → Option Cls} {L : List Int} (I : TI f L) {y : Int} (h : lfM (mfA f) y = true) : y ≠ 0 := by
 obtain ⟨c, hc⟩ := Option.isSome_iff_exists.1 (lf_some h).1
 have h1 := I.cls y c hc
 have := (wrC_zero h1.2.2).1
 rw [h1.1] at this
 omega
theorem all_in {f : Int → Option Cls} {L : List Int} (I : TI f L) {A : Int → Option (List Int)} (h : AJ (mfA f) A) : ∀ y, allS A y → y ∈ L := fun y hy => by
 have h0 := h.all0 y hy
 obtain ⟨x, K, e, hk⟩ := hy
 rw [← I.mem]
 rcases h.ai.act x K y e hk with g | g
 ·exact (lf_some g).1
 ·cases hA : A y with
  | none => exact absurd hA g
  | some K2 =>
   have hne := h.ai.ne y K2 hA
   cases K2 with
   | nil => exact absurd rfl hne
   | cons a l =>
    have hp := h.ai.par y _ a hA List.mem_cons_self
    rcases mfA_par f a with q | ⟨c, hc, q⟩
    ·exact absurd (hp.symm.trans q) h0
    ·have hcy : c.par = y := q.symm.trans hp
     obtain ⟨p, h1, -⟩ := I.par a c hc (by rw [hcy]; exact h0)
     rw [← hcy, h1]; rfl
theorem all_iok {f : Int → Option Cls} {L : List Int} (I : TI f L) {A : Int → Option (List Int)} (h : AJ (mfA f) A) : ∀ x K, A x = some K → iok x := fun x K e => by
 have hne := h.ai.ne x K e
 cases K with
 | nil => exact absurd rfl hne
 | cons a l =>
  have hp := h.ai.par x _ a e List.mem_cons_self
  rcases mfA_par f a with q | ⟨c, hc, q⟩
  ·rw [← hp, q]; rfl
  ·rw [← hp, q]; exact (I.cls a c hc).2.1.par
theorem not_all {f : Int → Option Cls} {L : List Int} (I : TI f L) {A : Int → Option (List Int)} (h : AJ (mfA f) A) {id : Int} (he : onE (mfA f) A id = 0) : ¬ allS A id := fun g => by
 obtain ⟨h1, h2⟩ := onE_zero he
 rw [all_isA h.ai (lf_nz I h1) (lf_some h1).2 g] at h2
 cases h2
theorem srt_uniq {M N : List Int} (h1 : M.Pairwise (· < ·)) (h2 : N.Pairwise (· < ·)) (h : ∀ y, y ∈ M ↔ y ∈ N) : M = N :=
 ((msA h1 ((List.perm_ext_iff_of_nodup (ndA h2) (ndA h1)).2 fun y => (h y).symm)).symm).trans (msA h2 (List.Perm.refl N))
theorem onO_not {mem : Int → Option (Int × Bool)} {A : Int → Option (List Int)} {id : Int} (h : onE mem A id ≠ 0) : onO mem A id = [] ∧ onS mem A id = A := ⟨by unfold onO; rw [if_neg h], by unfold onS; rw [if_neg h]⟩
end Go.Proofs.Ytmmahgfijiocfaa
end
