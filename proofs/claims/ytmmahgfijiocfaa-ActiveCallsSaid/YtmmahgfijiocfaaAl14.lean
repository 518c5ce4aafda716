/- Joined texts. -/
import Derived.Test.YtmmahgfijiocfaaBs0
import Derived.Test.YtmmahgfijiocfaaBs1
import Derived.Test.YtmmahgfijiocfaaBs10
import Derived.Test.YtmmahgfijiocfaaBs11
import Derived.Test.YtmmahgfijiocfaaBs12
import Derived.Test.YtmmahgfijiocfaaBs13
import Derived.Test.YtmmahgfijiocfaaBs15
import Derived.Test.YtmmahgfijiocfaaBs16
import Derived.Test.YtmmahgfijiocfaaBs17
import Derived.Test.YtmmahgfijiocfaaBs18
import Derived.Test.YtmmahgfijiocfaaBs19
import Derived.Test.YtmmahgfijiocfaaBs2
import Derived.Test.YtmmahgfijiocfaaBs20
import Derived.Test.YtmmahgfijiocfaaBs23
import Derived.Test.YtmmahgfijiocfaaBs24
import Derived.Test.YtmmahgfijiocfaaBs3
import Derived.Test.YtmmahgfijiocfaaBs4
import Derived.Test.YtmmahgfijiocfaaBs5
import Derived.Test.YtmmahgfijiocfaaBs6
import Derived.Test.YtmmahgfijiocfaaBs7
import Derived.Test.YtmmahgfijiocfaaBs8
import Derived.Test.YtmmahgfijiocfaaBs9
import Derived.Test.YtmmahgfijiocfaaAl1
import Derived.Test.YtmmahgfijiocfaaAl2
import Derived.Test.YtmmahgfijiocfaaAl4
import Derived.Test.YtmmahgfijiocfaaAl5
import Derived.Test.YtmmahgfijiocfaaAl10
import Derived.Test.YtmmahgfijiocfaaAl11
import Derived.Test.YtmmahgfijiocfaaAl12
import Derived.Test.YtmmahgfijiocfaaAl13
import Derived.Maps.Keyed
import Derived.Maps.Own
import Derived.Maps.OwnOps
import Derived.DeepKeys5
import Derived.StillTail
import Derived.Deep.Quiet
import Derived.Deep.QuietTactic
import Derived.Test.YtmmahgfijiocfaaChecked
import Derived.WalkKit
import Derived.BigQuiet
import Derived.OpenShut
import Derived.Deep.RegionHeld3
import Derived.Deep.RegionWith
import Derived.Deep.DeepCutAuto
import Derived.WalkSpells
import Derived.WalkSmall
import Derived.Lib.Hide
import Derived.RowKit
import Derived.IntWalk
import Derived.Maps.RangeRun
import Derived.Deep.MidRow
import Derived.Deep.WholeRow
import Derived.Laws.CopyRow
import Derived.Deep.OwnRows
import Derived.ArgAppend
import Derived.Sort.OwnSortedInts
import Derived.Shelf.SlIterI.Nil
import Derived.Shelf.SortM.Plain
import Derived.Shelf.SortM.SortNone
import Derived.Ground.GgzProg
import Derived.Ground.SlgmProg
import Derived.Laws.AppendOwn
import Derived.Laws.AppendOwnNone
import Derived.Shelf.SlIterI.Stops
import Derived.RangeFuncCalls
import Derived.RangeFuncLeaves
import Derived.RangeFuncBox
import Derived.Maps.AppendAt
import Derived.Shelf.Abstract
import Derived.OwnWalkIn
import Derived.TacticsInMore
import Derived.LoopNIn
import Derived.LoopIn
import Derived.ProofKit
import Derived.Below
import Derived.Carry
import Derived.ReadAgain
import Derived.ChangeOld
import Derived.Deep.Slices
import Derived.Deep.Onto
import Derived.LoopN
import Derived.Lib.SliceRun
import Derived.Lib.SlicesCompact
import Derived.Shelf.SlMaps.Clone
import Derived.Ground.SlmcProg
import Derived.Shelf.SlicesE.Compact
import Derived.Ground.SlgnProg
set_option linter.unusedVariables false
set_option linter.unusedSimpArgs false
set_option maxRecDepth 100000
set_option maxHeartbeats 16000000
section
namespace Go.Proofs.Ytmmahgfijiocfaa
open Go.RowKit Fg Reg Go.Maps Go.Sort Go.Shelf
attribute [local irreducible] Reg.wE VR
theorem HT.om {B : Nat} {z v : World} {tb tm : Nat} {f : Int → Option Cls} (h : HT z tb tm f) (ho : OM B z v) (h1 : tb < B) (h2 : tm < B) : HT v tb tm f := by
 obtain ⟨n, hn⟩ := h.mp
 exact ⟨(World.cell?_of_block (ho.5 tb h.lt (fun g => by have := g.1; omega))).trans h.c0, Nat.lt_of_lt_of_le h.lt ho.4, h.ne, n, hn.frame (ho.5 tm hn.lt (fun g => by have := g.1; omega))⟩
def OnH (B p mb cb : Nat) (mem : Int → Option (Int × Bool)) (z : World) (E : Int) (n : Nat) (out : List Int) (A2 : Int → Option (List Int)) (e : Ending) (z' : World) : Prop := ∃ ao cap F2, e = .returned (.tuple #[.slice ao n cap, .int .i64 E]) ∧ IntsV z' ao out ∧ AS z' B p mb cb mem F2 A2 ∧ OM B z z'
theorem onh_of {B p mb cb : Nat} {mem : Int → Option (Int × Bool)} {z : World} {E : Int} {out : List Int} {A2 : Int → Option (List Int)} {e : Ending} {z' : World} (h : OnG B p mb cb mem z E out A2 e z') : OnH B p mb cb mem z E out.length out A2 e z' := by
 obtain ⟨v, F2, rfl, hr, ha, ho⟩ := h
 obtain ⟨ao, cap, rfl⟩ := row_form hr
 exact ⟨ao, cap, F2, rfl, (own_ints hr).2, ha, ho⟩
theorem aonJ {f : Int → Option Cls} {L : List Int} (I : TI f L) {z : World} {B p mb cb : Nat} {F : Int → Option Nat} {A : Int → Option (List Int)} (h : AS z B p mb cb (mfA f) F A) {id : Int} (hi : iok id) (hB : B ≤ z.heap.size) : Calls Try.prog 15 #[.pointer (some ⟨p, 0, none⟩), .int .i64 id] z (OnH B p mb cb (mfA f) z (onE (mfA f) A id) (onO (mfA f) A id).length (onO (mfA f) A id) (onS (mfA f) A id)) :=
 (aon_c h (mfA_iok I) hi hB (fun _ => mfA_fin 16 id (I.dep id))).mono fun _ _ => onh_of
theorem aofJ {f : Int → Option Cls} {L : List Int} (I : TI f L) {z : World} {B p mb cb : Nat} {F : Int → Option Nat} {A : Int → Option (List Int)} (h : AS z B p mb cb (mfA f) F A) {id : Int} (hi : iok id) : Calls Try.prog 11 #[.pointer (some ⟨p, 0, none⟩), .int .i64 id] z (OnH B p mb cb (mfA f) z (ofE (mfA f) A id) (ofO (mfA f) A id).length (ofO (mfA f) A id) (ofS (mfA f) A id)) :=
 (aof_c h (mfA_iok I) hi (fun _ => mfA_fin 16 id (I.dep id))).mono fun _ _ => onh_of
def AllH (z : World) (M : List Int) (n : Nat) (e : Ending) (z' : World) : Prop := ∃ ao cap, e = .returned (.slice ao n cap) ∧ IntsV z' ao M ∧ Below z.heap.size z z'
def AllQ (z : World) (A : Int → Option (List Int)) (e : Ending) (z' : World) : Prop := ∃ M n, M.Pairwise (· < ·) ∧ (∀ y, y ∈ M ↔ allS A y) ∧ M.length = n ∧ n ≤ 64 ∧ AllH z M n e z'
theorem aalJ {f : Int → Option Cls} {L : List Int} (I : TI f L) {z : World} {B p mb cb : Nat} {F : Int → Option Nat} {A : Int → Option (List Int)} (h : AS z B p mb cb (mfA f) F A) (hJ : AJ (mfA f) A) : Calls Try.prog 19 #[.pointer (some ⟨p, 0, none⟩)] z (AllQ z A) := by
 refine (aal_c h hJ.ai (all_iok I hJ) L (all_in I hJ) (by have := I.len; omega)).mono ?_
 rintro _ z' ⟨v, M, rfl, hr, hs, hm, hb⟩
 obtain ⟨ao, cap, rfl⟩ := row_form hr
 exact ⟨M, _, hs, hm, rfl, Nat.le_trans (len_subA (ndA hs) (fun y hy => all_in I hJ y ((hm y).1 hy))) I.len, ao, cap, rfl, (own_ints hr).2, hb⟩
structure CL23 where
 k : Int
 id : Int
instance : Inhabited CL23 := ⟨⟨0, 0⟩⟩
def CL23.cells (a : CL23) : List Value := [.int .i64 a.k, .int .i64 a.id]
theorem calls23_of {w : World} {v : Value} (h : Op.FlatSlice w 2 [.int .i64, .int .i64] v) :
  ∃ a es cap, v = .slice a es.length cap ∧ RwV CL23.cells 2 w a es ∧ ∀ k (h : k < es.length), iok es[k].k ∧ iok es[k].id := by
 rcases h with h | ⟨a, cap, h, hc⟩ | ⟨b, o, n, cap, css, h0, rfl, h3, h4, hlt, hn, hi⟩
 ·exact ⟨none, [], 0, h, RwV.nil _ _, fun k h => absurd h (Nat.not_lt_zero _)⟩
 ·exact ⟨some a, [], cap, h, RwV.nil _ _, fun k h => absurd h (Nat.not_lt_zero _)⟩
 ·have h1 : ∀ i, i < n → ∃ e : CL23, w.rangeAt b (o + i * 2) e.cells ∧ iok e.k ∧ iok e.id := fun i hin => by
   obtain ⟨hf, he⟩ := hi i (by omega)
   obtain ⟨_, _, e0, ⟨x0, rfl, w0⟩, _, _, rfl, ⟨x1, rfl, w1⟩, rfl⟩ := hf
   rw [e0] at he
   exact ⟨⟨x0, x1⟩, fun j x hx => he j x hx, w0, w1⟩
  obtain ⟨es, hes⟩ := Go.Deep.choose_lt h1
  refine ⟨some ⟨b, o, none⟩, (List.range n).map es, cap, by simp, fun k hk => ?_, fun k hk => ?_⟩
  ·have := hes k (by simpa using hk)
   exact ⟨b, o, rfl, hlt, by simpa using this.1⟩
  ·have := hes k (by simpa using hk)
   simpa using this.2
theorem ct23_alloc (w : World) : (Instr.alloc 33 true (.tuple #[])).run Try.prog w = .ok (.pointer (some ⟨w.heap.size, 0, none⟩)) (w.alloc (.cells #[.int .i64 0, .int .i64 0] 33)) := by kernel_rfl
theorem ct23_info : (Try.prog.info? 33).map (·.size) = some 2 := by kernel_rfl
theorem ct23_one (k id : Int) : (#[.int .i64 k, .int .i64 id] : Array Value).all (·.oneCell') = true := by kernel_rfl
end Go.Proofs.Ytmmahgfijiocfaa
end
