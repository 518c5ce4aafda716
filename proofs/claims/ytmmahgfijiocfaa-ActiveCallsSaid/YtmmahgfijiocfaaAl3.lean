/- Joined texts. -/
import Derived.Test.YtmmahgfijiocfaaBs0
import Derived.Test.YtmmahgfijiocfaaBs1
import Derived.Test.YtmmahgfijiocfaaBs2
import Derived.Test.YtmmahgfijiocfaaBs3
import Derived.Test.YtmmahgfijiocfaaBs4
import Derived.Test.YtmmahgfijiocfaaBs8
import Derived.Test.YtmmahgfijiocfaaBs9
import Derived.Test.YtmmahgfijiocfaaAl1
import Derived.Test.YtmmahgfijiocfaaAl2
import Derived.Maps.Keyed
import Derived.Maps.Own
import Derived.Maps.OwnOps
import Derived.DeepKeys5
import Derived.StillTail
import Derived.Deep.Quiet
import Derived.Deep.QuietTactic
import Derived.Test.YtmmahgfijiocfaaChecked
import Derived.WalkKit
import Derived.BigQuiet
import Derived.OpenShut
import Derived.Deep.RegionHeld3
import Derived.Deep.RegionWith
import Derived.Deep.DeepCutAuto
import Derived.WalkSpells
import Derived.WalkSmall
import Derived.Lib.Hide
import Derived.RowKit
import Derived.IntWalk
import Derived.Maps.RangeRun
import Derived.Deep.MidRow
import Derived.Deep.WholeRow
import Derived.Laws.CopyRow
import Derived.Deep.OwnRows
import Derived.ArgAppend
import Derived.Sort.OwnSortedInts
import Derived.Shelf.SlIterI.Nil
import Derived.Shelf.SortM.Plain
import Derived.Shelf.SortM.SortNone
import Derived.Ground.GgzProg
import Derived.Ground.SlgmProg
import Derived.Laws.AppendOwn
import Derived.Laws.AppendOwnNone
import Derived.ProofKit
import Derived.Below
import Derived.Carry
import Derived.ReadAgain
import Derived.ChangeOld
import Derived.Deep.Slices
set_option linter.unusedVariables false
set_option linter.unusedSimpArgs false
set_option maxRecDepth 100000
set_option maxHeartbeats 16000000
section
namespace Go.Proofs.Ytmmahgfijiocfaa
open Go.RowKit Fg Reg Go.Maps Go.Sort Go.Shelf
attribute [local irreducible] Reg.wE VR
inductive Anc (mem : Int → Option (Int × Bool)) : Int → Int → Prop
 | refl {x : Int} : x ≠ 0 → Anc mem x x
 | up {x y : Int} : x ≠ 0 → Anc mem (parM mem x) y → Anc mem x y
theorem Anc.nzl {mem : Int → Option (Int × Bool)} {x y : Int} (h : Anc mem x y) : x ≠ 0 := by cases h with | refl h => exact h | up h _ => exact h
theorem Anc.nzr {mem : Int → Option (Int × Bool)} {x y : Int} (h : Anc mem x y) : y ≠ 0 := by
 induction h with
 | refl h => exact h
 | up _ _ ih => exact ih
theorem Anc.trans {mem : Int → Option (Int × Bool)} {x y z : Int} (h : Anc mem x y) (k : Anc mem y z) : Anc mem x z := by
 induction h with
 | refl h => exact k
 | up h _ ih => exact .up h (ih k)
theorem Anc.step {mem : Int → Option (Int × Bool)} {x : Int} (h0 : x ≠ 0) (hp : parM mem x ≠ 0) : Anc mem x (parM mem x) := .up h0 (.refl hp)
theorem Anc.down {mem : Int → Option (Int × Bool)} {x y : Int} (h : Anc mem x y) (hne : x ≠ y) : ∃ c, Anc mem x c ∧ parM mem c = y := by
 induction h with
 | refl h => exact absurd rfl hne
 | @up x y h0 h ih =>
  by_cases hp : parM mem x = y
  ·exact ⟨x, .refl h0, hp⟩
  ·obtain ⟨c, h1, h2⟩ := ih hp
   exact ⟨c, .up h0 h1, h2⟩
theorem anc_ups {mem : Int → Option (Int × Bool)} {z y : Int} (h : Anc mem z y) : ∀ x : Int, x ≠ 0 → parM mem x = z → ∃ m, y ∈ ups mem m x := by
 induction h with
 | @refl z h => exact fun x h0 e => ⟨1, by rw [ups_succ h0, e]; exact List.mem_cons_self⟩
 | @up z y hz h ih =>
  intro x h0 e
  obtain ⟨m, hm⟩ := ih z hz rfl
  exact ⟨m + 1, by rw [ups_succ h0, e]; exact List.mem_cons_of_mem _ hm⟩
theorem anc_loop {mem : Int → Option (Int × Bool)} {x : Int} (h0 : x ≠ 0) {n : Nat} (hf : finM mem n x = true) : ¬ Anc mem (parM mem x) x := fun h => by
 obtain ⟨m, hm⟩ := anc_ups h x h0 rfl
 exact no_loop h0 m n hf hm
def chn (mem : Int → Option (Int × Bool)) : Nat → Int → List Int
 | 0, _ => []
 | n + 1, x => if x = 0 then [] else x :: chn mem n (parM mem x)
theorem chn_zero (mem : Int → Option (Int × Bool)) (n : Nat) : chn mem n 0 = [] := by
 cases n with
 | zero => rfl
 | succ n => unfold chn; rw [if_pos rfl]
theorem chn_succ {mem : Int → Option (Int × Bool)} {n : Nat} {x : Int} (h : x ≠ 0) : chn mem (n + 1) x = x :: chn mem n (parM mem x) := by
 show (if x = 0 then _ else _) = _
 rw [if_neg h]
theorem chn_anc {mem : Int → Option (Int × Bool)} {y : Int} : ∀ (n : Nat) (x : Int), y ∈ chn mem n x → Anc mem x y
 | 0, x, h => by cases h
 | n + 1, x, h => by
  by_cases h0 : x = 0
  ·subst h0; rw [chn_zero] at h; cases h
  ·rw [chn_succ h0] at h
   rcases List.mem_cons.1 h with rfl | h
   ·exact .refl h0
   ·exact .up h0 (chn_anc n _ h)
theorem finM_succ {mem : Int → Option (Int × Bool)} {n : Nat} {x : Int} (h0 : x ≠ 0) (h : finM mem (n + 1) x = true) : finM mem n (parM mem x) = true := by
 unfold finM at h
 simpa [h0] using h
theorem finM_pos {mem : Int → Option (Int × Bool)} {n : Nat} {x : Int} (h0 : x ≠ 0) (h : finM mem n x = true) : ∃ m, n = m + 1 := by
 cases n with
 | zero => unfold finM at h; exact absurd (by simpa using h) h0
 | succ n => exact ⟨n, rfl⟩
theorem anc_chn {mem : Int → Option (Int × Bool)} {x y : Int} (h : Anc mem x y) : ∀ n : Nat, finM mem n x = true → y ∈ chn mem n x := by
 induction h with
 | @refl x h0 =>
  intro n hf
  obtain ⟨m, rfl⟩ := finM_pos h0 hf
  rw [chn_succ h0]; exact List.mem_cons_self
 | @up x y h0 h ih =>
  intro n hf
  obtain ⟨m, rfl⟩ := finM_pos h0 hf
  rw [chn_succ h0]; exact List.mem_cons_of_mem _ (ih m (finM_succ h0 hf))
theorem fin_anc {mem : Int → Option (Int × Bool)} {x y : Int} (h : Anc mem x y) : ∀ n : Nat, finM mem n x = true → ∃ k, finM mem k y = true := by
 induction h with
 | @refl x h0 => exact fun n hf => ⟨n, hf⟩
 | @up x y h0 h ih =>
  intro n hf
  obtain ⟨m, rfl⟩ := finM_pos h0 hf
  exact ih m (finM_succ h0 hf)
theorem chn_closed {mem : Int → Option (Int × Bool)} {S : Int → Prop} (hS : ∀ y, S y → y ≠ 0 → parM mem y ≠ 0 → S (parM mem y)) {x y : Int} (h : Anc mem x y) : S x → S y := by
 induction h with
 | refl h => exact fun g => g
 | @up x y h0 h ih => exact fun g => ih (hS x g h0 h.nzl)
open Classical in
theorem on_chain {mem : Int → Option (Int × Bool)} (hin : ∀ id, id ≠ 0 → parM mem id ≠ 0 → lfM mem (parM mem id) = false) : ∀ (n : Nat) (A : Int → Option (List Int)) (id : Int), finM mem n id = true → AI mem A → (∀ y, allS A y → y ≠ 0) → (id = 0 ∨ (¬ allS A id ∧ (lfM mem id = true ∨ A id ≠ none))) → (∀ y, allS A y → parM mem y ≠ 0 → parM mem y ≠ id → allS A (parM mem y)) → (onR mem n A id).1 = (chn mem n id).filter (fun y => decide (¬ allS A y))
 | 0, A, id, hf, hI, hz, hid, hup => by unfold onR chn; rfl
 | n + 1, A, id, hf, hI, hz, hid, hup => by
  by_cases h0 : id = 0
  ·subst h0; rw [onR_zero, chn_zero]; rfl
  ·obtain ⟨hna, hlf⟩ := hid.resolve_left h0
   have hfp := finM_succ h0 hf
   have hlp : ¬ Anc mem (parM mem id) id := anc_loop h0 hf
   rw [chn_succ h0, List.filter_cons_of_pos (by simpa using hna)]
   cases hA : A (parM mem id) with
   | some K =>
    rw [onR_some h0 hA]
    refine congrArg (List.cons id) (Eq.symm (List.filter_eq_nil_iff.2 fun y hy => ?_))
    have ha := chn_anc n _ hy
    have hne := hI.ne _ K hA
    obtain ⟨q, hq⟩ : ∃ q, q ∈ K := by cases K with | nil => exact absurd rfl hne | cons q l => exact ⟨q, List.mem_cons_self⟩
    have hpq := hI.par _ K q hA hq
    have hsp : allS A (parM mem id) := by
     have := hup q ⟨_, K, hA, hq⟩ (by rw [hpq]; exact ha.nzl) (by rw [hpq]; intro e; rw [e] at hlp ha; exact hlp (.refl ha.nzl))
     rw [hpq] at this; exact this
    have : allS A y ∧ Anc mem (parM mem id) y := chn_closed (S := fun y => allS A y ∧ Anc mem (parM mem id) y) (fun y hy h0 hp => ⟨hup y hy.1 hp (fun e => hlp (by have h9 := hy.2.trans (Anc.step h0 hp); rw [e] at h9; exact h9)), hy.2.trans (Anc.step h0 hp)⟩) ha ⟨hsp, .refl ha.nzl⟩
    simpa using this.1
   | none =>
    rw [onR_none h0 hA]
    refine congrArg (List.cons id) ?_
    have hI2 : AI mem (upd A (parM mem id) [id]) := hI.put (List.pairwise_singleton _ _) (by simp) (fun y hy => .inl (List.mem_singleton.1 hy)) hlf
    have hall : ∀ y, allS (upd A (parM mem id) [id]) y ↔ allS A y ∨ y = id := fun y => by
     constructor
     ·rintro ⟨x, K, e, hk⟩
      rcases upd_some e with ⟨rfl, rfl⟩ | ⟨_, e⟩
      ·exact .inr (List.mem_singleton.1 hk)
      ·exact .inl ⟨x, K, e, hk⟩
     ·rintro (⟨x, K, e, hk⟩ | rfl)
      ·refine ⟨x, K, ?_, hk⟩
       unfold upd
       rw [if_neg (fun g => by rw [g, hA] at e; cases e)]
       exact e
      ·exact ⟨parM mem y, [y], by unfold upd; rw [if_pos rfl], List.mem_singleton.2 rfl⟩
    have hnp : parM mem id = 0 ∨ ¬ allS A (parM mem id) := by
     by_cases hp : parM mem id = 0
     ·exact .inl hp
     ·refine .inr fun ⟨x, K, e, hk⟩ => ?_
      rcases hI.act x K _ e hk with g | g
      ·rw [hin id h0 hp] at g; cases g
      ·exact g hA
    have hpid : parM mem id ≠ 0 → parM mem id ≠ id := fun hp e => hlp (by rw [e]; exact .refl h0)
    have := on_chain hin n (upd A (parM mem id) [id]) (parM mem id) hfp hI2 (fun y hy => by rcases (hall y).1 hy with g | rfl; exact hz y g; exact h0)
     (by
      rcases hnp with hp | hp
      ·exact .inl hp
      ·by_cases hp0 : parM mem id = 0
       ·exact .inl hp0
       ·exact .inr ⟨fun g => by rcases (hall _).1 g with g | g; exact hp g; exact hpid hp0 g, .inr (by unfold upd; rw [if_pos rfl]; simp)⟩)
     (fun y hy hp hne => by
      rcases (hall y).1 hy with g | rfl
      ·by_cases e : parM mem y = id
       ·exact (hall _).2 (.inr e)
       ·exact (hall _).2 (.inl (hup y g hp e))
      ·exact absurd rfl hne)
    rw [this]
    refine List.filter_congr fun y hy => ?_
    have hyid : y ≠ id := fun e => hlp (by have := chn_anc n _ hy; rw [e] at this; exact this)
    simp [hall y, hyid]
open Classical in
theorem off_chain {mem : Int → Option (Int × Bool)} (hin : ∀ id, id ≠ 0 → parM mem id ≠ 0 → lfM mem (parM mem id) = false) {S : Int → Prop} (hup : ∀ y, S y → y ≠ 0 → parM mem y ≠ 0 → S (parM mem y)) (hdn : ∀ p, S p → lfM mem p = false → ∃ c, S c ∧ parM mem c = p) (hS0 : ¬ S 0) : ∀ (n : Nat) (A : Int → Option (List Int)) (id : Int), finM mem n id = true → (∀ x K y, A x = some K → y ∈ K → parM mem y = x) → (id ≠ 0 → ¬ S id) → (∀ y, allS A y ↔ S y ∨ y ∈ chn mem n id) → (offR mem n A id).1 = (chn mem n id).filter (fun y => decide (¬ S y)) ∧ ∀ y, allS (offR mem n A id).2 y ↔ S y
 | 0, A, id, hf, hpar, hid, hall => by
  unfold offR chn
  exact ⟨rfl, fun y => by rw [hall y]; unfold chn; simp⟩
 | n + 1, A, id, hf, hpar, hid, hall => by
  by_cases h0 : id = 0
  ·subst h0
   rw [offR_zero, chn_zero]
   exact ⟨rfl, fun y => by rw [hall y, chn_zero]; simp⟩
  ·have hfp := finM_succ h0 hf
   have hlp : ¬ Anc mem (parM mem id) id := anc_loop h0 hf
   have hns := hid h0
   rw [chn_succ h0] at hall ⊢
   rw [List.filter_cons_of_pos (by simpa using hns)]
   obtain ⟨x, K, hA, hk⟩ : allS A id := (hall id).2 (.inr List.mem_cons_self)
   obtain rfl := hpar x K id hA hk
   have hK : chA0 A (parM mem id) = K := by unfold chA0; rw [hA]; rfl
   have hKm : ∀ y, y ∈ K ↔ allS A y ∧ parM mem y = parM mem id := fun y => ⟨fun hy => ⟨⟨_, K, hA, hy⟩, hpar _ K y hA hy⟩, fun ⟨⟨x, K2, e, hy⟩, hp⟩ => by
    have := hpar x K2 y e hy
    rw [hp] at this
    rw [← this, hA] at e
    cases e
    exact hy⟩
   by_cases hr : 0 < (rmA id K).length
   ·rw [offR_more h0 (by rw [hK]; exact hr), hK]
    obtain ⟨y, hy⟩ : ∃ y, y ∈ rmA id K := List.exists_mem_of_length_pos hr
    obtain ⟨hyK, hyid⟩ := rm_mem.1 hy
    obtain ⟨hya, hyp⟩ := (hKm y).1 hyK
    have hSy : S y := by
     rcases (hall y).1 hya with g | g
     ·exact g
     ·exfalso
      have ha := chn_anc n _ ((List.mem_cons.1 g).resolve_left hyid)
      obtain ⟨k, hk2⟩ := fin_anc ha n hfp
      exact anc_loop ha.nzr hk2 (by rw [hyp]; exact ha)
    have hy0 : y ≠ 0 := fun e => hS0 (e ▸ hSy)
    have hcl : ∀ q, q ∈ chn mem n (parM mem id) → S q := fun q hq => by
     have ha := chn_anc n _ hq
     exact chn_closed hup ha (by rw [← hyp]; exact hup y hSy hy0 (by rw [hyp]; exact ha.nzl))
    refine ⟨?_, fun q => ?_⟩
    ·refine congrArg (List.cons id) (Eq.symm (List.filter_eq_nil_iff.2 fun q hq => ?_))
     simpa using hcl q hq
    ·have h1 : allS (upd A (parM mem id) (rmA id K)) q ↔ allS A q ∧ q ≠ id := by
      constructor
      ·rintro ⟨x, K2, e, hk2⟩
       rcases upd_some e with ⟨rfl, rfl⟩ | ⟨hx, e⟩
       ·have := rm_mem.1 hk2
        exact ⟨⟨_, K, hA, this.1⟩, this.2⟩
       ·exact ⟨⟨x, K2, e, hk2⟩, fun g => hx (by rw [← hpar x K2 q e hk2, g])⟩
      ·rintro ⟨⟨x, K2, e, hk2⟩, hq⟩
       by_cases hx : x = parM mem id
       ·subst hx
        rw [hA] at e
        cases e
        exact ⟨parM mem id, rmA id K, by unfold upd; rw [if_pos rfl], rm_mem.2 ⟨hk2, hq⟩⟩
       ·exact ⟨x, K2, by unfold upd; rw [if_neg hx]; exact e, hk2⟩
     rw [h1, hall q]
     constructor
     ·rintro ⟨g | g, hq⟩
      ·exact g
      ·exact hcl q ((List.mem_cons.1 g).resolve_left hq)
     ·exact fun g => ⟨.inl g, fun e => hns (e ▸ g)⟩
   ·have hrm : ∀ y ∈ K, y = id := fun y hy => Classical.byContradiction fun g => hr (List.length_pos_of_mem (rm_mem.2 ⟨hy, g⟩))
    rw [offR_last h0 (by rw [hK]; exact hr)]
    have h1 : ∀ q, allS (mdel A (parM mem id)) q ↔ allS A q ∧ q ≠ id := fun q => by
     constructor
     ·rintro ⟨x, K2, e, hk2⟩
      obtain ⟨hx, e⟩ := mdel_some e
      exact ⟨⟨x, K2, e, hk2⟩, fun g => hx (by rw [← hpar x K2 q e hk2, g])⟩
     ·rintro ⟨⟨x, K2, e, hk2⟩, hq⟩
      refine ⟨x, K2, ?_, hk2⟩
      unfold mdel
      rw [if_neg (fun g => by rw [g, hA] at e; cases e; exact hq (hrm q hk2))]
      exact e
    have hpS : parM mem id ≠ 0 → ¬ S (parM mem id) := fun hp g => by
     obtain ⟨c, h2, h3⟩ := hdn _ g (hin id h0 hp)
     have := hrm c ((hKm c).2 ⟨(hall c).2 (.inl h2), h3⟩)
     exact hns (this ▸ h2)
    have ih := off_chain hin hup hdn hS0 n (mdel A (parM mem id)) (parM mem id) hfp (fun x K2 y e hy => hpar x K2 y (mdel_some e).2 hy) hpS (fun q => by
     rw [h1, hall q]
     constructor
     ·rintro ⟨g | g, hq⟩
      ·exact .inl g
      ·exact .inr ((List.mem_cons.1 g).resolve_left hq)
     ·rintro (g | g)
      ·exact ⟨.inl g, fun e => hns (e ▸ g)⟩
      ·exact ⟨.inr (List.mem_cons_of_mem _ g), fun e => hlp (by have := chn_anc n _ g; rw [e] at this; exact this)⟩)
    exact ⟨by rw [ih.1], ih.2⟩
end Go.Proofs.Ytmmahgfijiocfaa
end
