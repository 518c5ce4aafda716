/- Joined texts. -/
import Derived.Test.YtmmahgfijiocfaaBs0
import Derived.Test.YtmmahgfijiocfaaBs1
import Derived.Test.YtmmahgfijiocfaaBs10
import Derived.Test.YtmmahgfijiocfaaBs11
import Derived.Test.YtmmahgfijiocfaaBs12
import Derived.Test.YtmmahgfijiocfaaBs13
import Derived.Test.YtmmahgfijiocfaaBs15
import Derived.Test.YtmmahgfijiocfaaBs16
import Derived.Test.YtmmahgfijiocfaaBs2
import Derived.Test.YtmmahgfijiocfaaBs3
import Derived.Test.YtmmahgfijiocfaaBs4
import Derived.Test.YtmmahgfijiocfaaBs5
import Derived.Test.YtmmahgfijiocfaaBs6
import Derived.Test.YtmmahgfijiocfaaBs7
import Derived.Test.YtmmahgfijiocfaaBs8
import Derived.Test.YtmmahgfijiocfaaBs9
import Derived.Test.YtmmahgfijiocfaaAl1
import Derived.Test.YtmmahgfijiocfaaAl2
import Derived.Test.YtmmahgfijiocfaaAl3
import Derived.Test.YtmmahgfijiocfaaAl4
import Derived.Test.YtmmahgfijiocfaaAl5
import Derived.Maps.Keyed
import Derived.Maps.Own
import Derived.Maps.OwnOps
import Derived.DeepKeys5
import Derived.StillTail
import Derived.Deep.Quiet
import Derived.Deep.QuietTactic
import Derived.Test.YtmmahgfijiocfaaChecked
import Derived.WalkKit
import Derived.BigQuiet
import Derived.OpenShut
import Derived.Deep.RegionHeld3
import Derived.Deep.RegionWith
import Derived.Deep.DeepCutAuto
import Derived.WalkSpells
import Derived.WalkSmall
import Derived.Lib.Hide
import Derived.RowKit
import Derived.IntWalk
import Derived.Maps.RangeRun
import Derived.Deep.MidRow
import Derived.Deep.WholeRow
import Derived.Laws.CopyRow
import Derived.Deep.OwnRows
import Derived.ArgAppend
import Derived.Sort.OwnSortedInts
import Derived.Shelf.SlIterI.Nil
import Derived.Shelf.SortM.Plain
import Derived.Shelf.SortM.SortNone
import Derived.Ground.GgzProg
import Derived.Ground.SlgmProg
import Derived.Laws.AppendOwn
import Derived.Laws.AppendOwnNone
import Derived.ProofKit
import Derived.Below
import Derived.Carry
import Derived.ReadAgain
import Derived.ChangeOld
import Derived.Deep.Slices
import Derived.Deep.Onto
import Derived.LoopN
import Derived.Shelf.SlMaps.Clone
import Derived.Ground.SlmcProg
set_option linter.unusedVariables false
set_option linter.unusedSimpArgs false
set_option maxRecDepth 100000
set_option maxHeartbeats 16000000
section
namespace Go.Proofs.Ytmmahgfijiocfaa
open Go.RowKit Fg Reg Go.Maps Go.Sort Go.Shelf
attribute [local irreducible] Reg.wE VR
theorem hasM {zs : List Int} {x : Int} : has zs x = true ↔ x ∈ zs := by
 unfold has
 rw [List.any_eq_true]
 exact ⟨fun ⟨y, h1, h2⟩ => by rw [← beq_iff_eq.1 h2]; exact h1, fun h => ⟨x, h, by simp⟩⟩
def isR (f : Int → Option Cls) (on : List Int) (id : Int) : Bool := on.any (fun n => id == 0 || has (upl f 16 n) id)
theorem mfA_some {f : Int → Option Cls} {x : Int} (h : (mfA f x).isSome = true) : ∃ c, f x = some c ∧ sh1 c = true ∧ parM (mfA f) x = c.par ∧ mfA f x = some (c.par, c.leaf) := by
 unfold mfA at h
 cases hf : f x with
 | none => rw [hf] at h; cases h
 | some c =>
  rw [hf] at h
  by_cases hs : sh1 c = true
  ·have e : mfA f x = some (c.par, c.leaf) := by unfold mfA; rw [hf]; simp [hs]
   exact ⟨c, rfl, hs, by unfold parM; rw [e], e⟩
  ·simp [hs] at h
theorem mfA_of {f : Int → Option Cls} {x : Int} {c : Cls} (hc : f x = some c) (hs : sh1 c = true) : mfA f x = some (c.par, c.leaf) := by unfold mfA; rw [hc]; simp [hs]
theorem chn_upl {f : Int → Option Cls} {L : List Int} (I : TI f L) : ∀ (n : Nat) (id : Int) (c : Cls), f id = some c → sh1 c = true → fin f n id = true → chn (mfA f) (n + 1) id = upl f n id
 | 0, id, c, hc, hs, hf => by unfold fin at hf; rw [hc] at hf; cases hf
 | n + 1, id, c, hc, hs, hf => by
  have h0 : id ≠ 0 := fun e => by rw [e, I.zero] at hc; cases hc
  have hp : parM (mfA f) id = c.par := by unfold parM; rw [mfA_of hc hs]
  rw [fin_some hc] at hf
  rw [chn_succ h0, upl_some hc, hp]
  congr 1
  by_cases hp0 : c.par = 0
  ·rw [hp0, chn_zero, upl_none I.zero]
  ·obtain ⟨p, h1, h2, h3⟩ := I.par id c hc hp0
   exact chn_upl I n c.par p h1 (h3 hs) hf
theorem leaf_upl {f : Int → Option Cls} {L : List Int} (I : TI f L) {id : Int} (h : lfM (mfA f) id = true) : chn (mfA f) 17 id = upl f 16 id := by
 obtain ⟨c, hc, hs, -, -⟩ := mfA_some (lf_some h).2
 exact chn_upl I 16 id c hc hs (I.dep id)
theorem anc_upl {f : Int → Option Cls} {L : List Int} (I : TI f L) {id : Int} (h : lfM (mfA f) id = true) (y : Int) : has (upl f 16 id) y = true ↔ Anc (mfA f) id y := by
 rw [hasM, ← leaf_upl I h]
 exact ⟨chn_anc _ _, fun g => anc_chn g 17 (mfA_fin 16 id (I.dep id))⟩
theorem anc_some {f : Int → Option Cls} {L : List Int} (I : TI f L) {x y : Int} (h : Anc (mfA f) x y) : (mfA f x).isSome = true → (mfA f y).isSome = true := by
 induction h with
 | refl h => exact fun g => g
 | @up x y h0 h ih =>
  intro g
  obtain ⟨c, hc, hs, hp, -⟩ := mfA_some g
  refine ih ?_
  rw [hp]
  obtain ⟨p, h1, h2, h3⟩ := I.par x c hc (by rw [← hp]; exact h.nzl)
  rw [mfA_of h1 (h3 hs)]
  rfl
theorem anc_top {mem : Int → Option (Int × Bool)} : ∀ (n : Nat) (x : Int), x ≠ 0 → finM mem n x = true → ∃ r, Anc mem x r ∧ parM mem r = 0
 | n, x, h0, hf => by
  obtain ⟨m, rfl⟩ := finM_pos h0 hf
  by_cases hp : parM mem x = 0
  ·exact ⟨x, .refl h0, hp⟩
  ·obtain ⟨r, h1, h2⟩ := anc_top m (parM mem x) hp (finM_succ h0 hf)
   exact ⟨r, .up h0 h1, h2⟩
structure RI (f : Int → Option Cls) (A : Int → Option (List Int)) (on : List Int) : Prop where
 aj : AJ (mfA f) A
 srt : on.Pairwise (· < ·)
 lf : ∀ n ∈ on, lfM (mfA f) n = true
 all : ∀ y, allS A y ↔ ∃ n ∈ on, Anc (mfA f) n y
theorem RI.zero (f : Int → Option Cls) : RI f (fun _ => none) [] := ⟨AJ.zero _, List.Pairwise.nil, fun n h => (by cases h), fun y => ⟨fun ⟨x, K, e, _⟩ => (by cases e), fun ⟨n, h, _⟩ => (by cases h)⟩⟩
theorem isR_of {f : Int → Option Cls} {L : List Int} (I : TI f L) {on : List Int} (hl : ∀ n ∈ on, lfM (mfA f) n = true) {y : Int} (h0 : y ≠ 0) : isR f on y = true ↔ ∃ n ∈ on, Anc (mfA f) n y := by
 unfold isR
 rw [List.any_eq_true]
 have hb : (y == 0) = false := by simpa using h0
 simp only [hb, Bool.false_or]
 exact ⟨fun ⟨n, h1, h2⟩ => ⟨n, h1, (anc_upl I (hl n h1) y).1 h2⟩, fun ⟨n, h1, h2⟩ => ⟨n, h1, (anc_upl I (hl n h1) y).2 h2⟩⟩
theorem isR_zero (f : Int → Option Cls) (on : List Int) : isR f on 0 = decide (0 < on.length) := by
 unfold isR
 cases on with
 | nil => rfl
 | cons a l => simp
theorem RI.isR {f : Int → Option Cls} {L : List Int} (I : TI f L) {A : Int → Option (List Int)} {on : List Int} (h : RI f A on) {y : Int} (h0 : y ≠ 0) : Go.Proofs.Ytmmahgfijiocfaa.isR f on y = true ↔ allS A y := (isR_of I h.lf h0).trans (h.all y).symm
theorem RI.somes {f : Int → Option Cls} {L : List Int} (I : TI f L) {A : Int → Option (List Int)} {on : List Int} (h : RI f A on) {y : Int} (hy : allS A y) : (mfA f y).isSome = true := by
 obtain ⟨n, h1, h2⟩ := (h.all y).1 hy
 exact anc_some I h2 (lf_some (h.lf n h1)).2
theorem bool_iff {a b : Bool} (h : a = true ↔ b = true) : a = b := by cases a <;> cases b <;> simp at h ⊢
theorem RI.isA {f : Int → Option Cls} {L : List Int} (I : TI f L) {A : Int → Option (List Int)} {on : List Int} (h : RI f A on) (y : Int) : Go.Proofs.Ytmmahgfijiocfaa.isA (mfA f) A y = Go.Proofs.Ytmmahgfijiocfaa.isR f on y := by
 refine bool_iff ?_
 by_cases h0 : y = 0
 ·subst h0
  rw [isR_zero]
  unfold Go.Proofs.Ytmmahgfijiocfaa.isA
  rw [if_pos rfl]
  constructor
  ·intro g
   cases hA : A 0 with
   | none => rw [hA] at g; cases g
   | some K =>
    have hne := h.aj.ai.ne 0 K hA
    cases K with
    | nil => exact absurd rfl hne
    | cons a l =>
     obtain ⟨n, h1, -⟩ := (h.all a).1 ⟨0, _, hA, List.mem_cons_self⟩
     simpa using List.length_pos_of_mem h1
  ·intro g
   obtain ⟨n, hn⟩ := List.exists_mem_of_length_pos (by simpa using g : 0 < on.length)
   have hl := h.lf n hn
   obtain ⟨r, h1, h2⟩ := anc_top 17 n (lf_nz I hl) (mfA_fin 16 n (I.dep n))
   obtain ⟨x, K, e, hk⟩ := (h.all r).2 ⟨n, hn, h1⟩
   have := h.aj.ai.par x K r e hk
   rw [h2] at this
   rw [this, e]
   simpa using List.length_pos_of_mem hk
 ·rw [h.isR I h0]
  constructor
  ·exact isA_all h0
  ·exact fun g => all_isA h.aj.ai h0 (h.somes I g) g
theorem RI.kids {f : Int → Option Cls} {L : List Int} (I : TI f L) {A : Int → Option (List Int)} {on : List Int} (h : RI f A on) (x : Int) : chA A x = L.filter (sel f (fun c => c.par == x && sh1 c && Go.Proofs.Ytmmahgfijiocfaa.isR f on c.id)) := by
 have hK : (chA A x).Pairwise (· < ·) := by
  unfold chA
  cases hA : A x with
  | none => exact List.Pairwise.nil
  | some K => exact h.aj.ai.srt x K hA
 have hm : ∀ y, y ∈ chA A x ↔ allS A y ∧ parM (mfA f) y = x := fun y => by
  unfold chA
  cases hA : A x with
  | none => exact ⟨fun g => (by cases g), fun ⟨⟨x2, K, e, hk⟩, hp⟩ => by
    have := h.aj.ai.par x2 K y e hk
    rw [hp] at this
    rw [← this, hA] at e
    cases e⟩
  | some K => exact ⟨fun g => ⟨⟨x, K, hA, g⟩, h.aj.ai.par x K y hA g⟩, fun ⟨⟨x2, K2, e, hk⟩, hp⟩ => by
    have := h.aj.ai.par x2 K2 y e hk
    rw [hp] at this
    rw [← this, hA] at e
    cases e
    exact hk⟩
 refine srt_uniq hK (I.srt.filter _) fun y => ?_
 rw [hm y, List.mem_filter]
 constructor
 ·rintro ⟨h1, h2⟩
  obtain ⟨c, hc, hs, hp, -⟩ := mfA_some (h.somes I h1)
  have hid := (I.cls y c hc).1
  refine ⟨(I.mem y).1 (by rw [hc]; rfl), ?_⟩
  unfold sel
  rw [hc]
  simp only [hs, hid, (h.isR I (h.aj.all0 y h1)).2 h1, Bool.and_true, beq_iff_eq]
  rw [← hp, h2]
 ·rintro ⟨h1, h2⟩
  obtain ⟨c, hc⟩ := Option.isSome_iff_exists.1 ((I.mem y).2 h1)
  have hid := (I.cls y c hc).1
  have h0 : y ≠ 0 := fun e => by rw [e, I.zero] at hc; cases hc
  unfold sel at h2
  rw [hc] at h2
  simp only [hid, Bool.and_eq_true, beq_iff_eq] at h2
  refine ⟨(h.isR I h0).1 h2.2, ?_⟩
  unfold parM
  rw [mfA_of hc h2.1.2]
  exact h2.1.1
theorem RI.alls {f : Int → Option Cls} {L : List Int} (I : TI f L) {A : Int → Option (List Int)} {on : List Int} (h : RI f A on) {M : List Int} (hM : M.Pairwise (· < ·)) (hm : ∀ y, y ∈ M ↔ allS A y) : M = L.filter (sel f (fun c => Go.Proofs.Ytmmahgfijiocfaa.isR f on c.id)) := by
 refine srt_uniq hM (I.srt.filter _) fun y => ?_
 rw [hm y, List.mem_filter]
 constructor
 ·intro h1
  obtain ⟨c, hc, -⟩ := mfA_some (h.somes I h1)
  have hid := (I.cls y c hc).1
  refine ⟨(I.mem y).1 (by rw [hc]; rfl), ?_⟩
  unfold sel
  rw [hc]
  simp only [hid]
  exact (h.isR I (h.aj.all0 y h1)).2 h1
 ·rintro ⟨h1, h2⟩
  obtain ⟨c, hc⟩ := Option.isSome_iff_exists.1 ((I.mem y).2 h1)
  have hid := (I.cls y c hc).1
  have h0 : y ≠ 0 := fun e => by rw [e, I.zero] at hc; cases hc
  unfold sel at h2
  rw [hc] at h2
  simp only [hid] at h2
  exact (h.isR I h0).1 h2
theorem anc_leaf {f : Int → Option Cls} {L : List Int} (I : TI f L) {n y : Int} (h : Anc (mfA f) n y) (hl : lfM (mfA f) y = true) : n = y := by
 by_cases e : n = y
 ·exact e
 ·obtain ⟨c, h1, h2⟩ := h.down e
  have := mfA_in I c h1.nzr (by rw [h2]; exact h.nzr)
  rw [h2, hl] at this
  cases this
theorem RI.leaf {f : Int → Option Cls} {L : List Int} (I : TI f L) {A : Int → Option (List Int)} {on : List Int} (h : RI f A on) {id : Int} (hl : lfM (mfA f) id = true) : Go.Proofs.Ytmmahgfijiocfaa.isA (mfA f) A id = has on id := by
 refine bool_iff ?_
 rw [h.isA I id, isR_of I h.lf (lf_nz I hl), hasM]
 exact ⟨fun ⟨n, h1, h2⟩ => by rw [← anc_leaf I h2 hl]; exact h1, fun g => ⟨id, g, .refl (lf_nz I hl)⟩⟩
theorem onlf {f : Int → Option Cls} {A : Int → Option (List Int)} {on : List Int} (h : RI f A on) {id : Int} (g : has on id = true) : lfM (mfA f) id = true := h.lf id (hasM.1 g)
theorem RI.off_no {f : Int → Option Cls} {L : List Int} (I : TI f L) {A : Int → Option (List Int)} {on : List Int} (h : RI f A on) {id : Int} (g : has on id = false) : ofE (mfA f) A id = 6 ∧ ofO (mfA f) A id = [] ∧ ofS (mfA f) A id = A := by
 have e : ofE (mfA f) A id = 6 := by
  unfold ofE
  by_cases hl : lfM (mfA f) id = false
  ·rw [if_pos hl]
  ·rw [if_neg hl, if_neg (by rw [h.leaf I (by simpa using hl), g]; simp)]
 exact ⟨e, by unfold ofO; rw [e]; rfl, by unfold ofS; rw [e]; rfl⟩
theorem RI.on_no {f : Int → Option Cls} {L : List Int} (I : TI f L) {A : Int → Option (List Int)} {on : List Int} (h : RI f A on) {id : Int} (g : lfM (mfA f) id = false ∨ has on id = true) : onE (mfA f) A id = (if has on id = true then 8 else 6) ∧ onO (mfA f) A id = [] ∧ onS (mfA f) A id = A := by
 have e : onE (mfA f) A id = (if has on id = true then 8 else 6) := by
  unfold onE
  by_cases hh : has on id = true
  ·have hl := onlf h hh
   rw [if_neg (by simp [hl]), if_pos (by rw [h.leaf I hl]; exact hh), if_pos hh]
  ·rw [if_pos (g.resolve_right hh), if_neg hh]
 have e0 : onE (mfA f) A id ≠ 0 := by rw [e]; by_cases hh : has on id = true <;> simp [hh]
 exact ⟨e, (onO_not e0).1, (onO_not e0).2⟩
theorem filt_dec {p : Int → Prop} {q : Int → Bool} {l : List Int} [DecidablePred p] (h : ∀ y ∈ l, p y ↔ q y = true) : l.filter (fun y => decide (p y)) = l.filter q := List.filter_congr fun y hy => by
 refine bool_iff ?_
 rw [decide_eq_true_eq]
 exact h y hy
open Classical in
theorem RI.on_yes {f : Int → Option Cls} {L : List Int} (I : TI f L) {A : Int → Option (List Int)} {on : List Int} (h : RI f A on) {id : Int} (hl : lfM (mfA f) id = true) (g : has on id = false) : onE (mfA f) A id = 0 ∧ onO (mfA f) A id = (upl f 16 id).filter (fun y => Go.Proofs.Ytmmahgfijiocfaa.isR f (insA id on) y && !Go.Proofs.Ytmmahgfijiocfaa.isR f on y) ∧ RI f (onS (mfA f) A id) (insA id on) := by
 have h0 := lf_nz I hl
 have e : onE (mfA f) A id = 0 := by unfold onE; rw [if_neg (by simp [hl]), if_neg (by rw [h.leaf I hl, g]; simp)]
 have hna := not_all I h.aj e
 have hlf : ∀ n ∈ insA id on, lfM (mfA f) n = true := fun n hn => by rcases (insA_mem n).1 hn with rfl | hn; exact hl; exact h.lf n hn
 have hS : onS (mfA f) A id = (onR (mfA f) 17 A id).2 := by unfold onS; rw [if_pos e]
 have hch := on_chain (mfA_in I) 17 A id (mfA_fin 16 id (I.dep id)) h.aj.ai h.aj.all0 (.inr ⟨hna, .inl hl⟩) (fun y hy hp _ => by
  obtain ⟨n, h1, h2⟩ := (h.all y).1 hy
  exact (h.all _).2 ⟨n, h1, h2.trans (Anc.step h2.nzr hp)⟩)
 have hO : onO (mfA f) A id = (chn (mfA f) 17 id).filter (fun y => decide (¬ allS A y)) := by unfold onO; rw [if_pos e, hch]
 refine ⟨e, ?_, ?_⟩
 ·rw [hO, leaf_upl I hl]
  refine filt_dec fun y hy => ?_
  have ha : Anc (mfA f) id y := (anc_upl I hl y).1 (hasM.2 hy)
  have h1 : Go.Proofs.Ytmmahgfijiocfaa.isR f (insA id on) y = true := (isR_of I hlf ha.nzr).2 ⟨id, (insA_mem id).2 (.inl rfl), ha⟩
  rw [h1, Bool.true_and, ← h.isR I ha.nzr]
  simp
 ·rw [hS]
  refine ⟨h.aj.on hl, insA_srt h.srt, hlf, fun y => ?_⟩
  rw [on_all, h.all y, hch, List.mem_filter]
  constructor
  ·rintro (⟨n, h1, h2⟩ | ⟨h1, -⟩)
   ·exact ⟨n, (insA_mem n).2 (.inr h1), h2⟩
   ·exact ⟨id, (insA_mem id).2 (.inl rfl), chn_anc _ _ h1⟩
  ·rintro ⟨n, h1, h2⟩
   rcases (insA_mem n).1 h1 with rfl | h1
   ·by_cases hy : allS A y
    ·exact .inl ((h.all y).1 hy)
    ·exact .inr ⟨anc_chn h2 17 (mfA_fin 16 n (I.dep n)), by simpa using hy⟩
   ·exact .inl ⟨n, h1, h2⟩
open Classical in
theorem RI.off_yes {f : Int → Option Cls} {L : List Int} (I : TI f L) {A : Int → Option (List Int)} {on : List Int} (h : RI f A on) {id : Int} (g : has on id = true) : ofE (mfA f) A id = 0 ∧ ofO (mfA f) A id = (upl f 16 id).filter (fun y => Go.Proofs.Ytmmahgfijiocfaa.isR f on y && !Go.Proofs.Ytmmahgfijiocfaa.isR f (rmA id on) y) ∧ RI f (ofS (mfA f) A id) (rmA id on) := by
 have hl := onlf h g
 have h0 := lf_nz I hl
 have hfin := mfA_fin 16 id (I.dep id)
 have e : ofE (mfA f) A id = 0 := by unfold ofE; rw [if_neg (by simp [hl]), if_pos (by rw [h.leaf I hl]; exact g)]
 have hlf : ∀ n ∈ rmA id on, lfM (mfA f) n = true := fun n hn => h.lf n (rm_mem.1 hn).1
 have hS : ofS (mfA f) A id = (offR (mfA f) 17 A id).2 := by unfold ofS; rw [if_pos e]
 have hch := off_chain (mfA_in I) (S := fun y => ∃ n ∈ rmA id on, Anc (mfA f) n y)
  (fun y ⟨n, h1, h2⟩ hy hp => ⟨n, h1, h2.trans (Anc.step hy hp)⟩)
  (fun p ⟨n, h1, h2⟩ hp => by
   have hne : n ≠ p := fun e => by rw [← e, hlf n h1] at hp; cases hp
   obtain ⟨c, h3, h4⟩ := h2.down hne
   exact ⟨c, ⟨n, h1, h3⟩, h4⟩)
  (fun ⟨n, h1, h2⟩ => h2.nzr rfl) 17 A id hfin h.aj.ai.par
  (fun _ ⟨n, h1, h2⟩ => (rm_mem.1 h1).2 (anc_leaf I h2 hl))
  (fun y => by
   rw [h.all y]
   constructor
   ·rintro ⟨n, h1, h2⟩
    by_cases hn : n = id
    ·subst hn; exact .inr (anc_chn h2 17 hfin)
    ·exact .inl ⟨n, rm_mem.2 ⟨h1, hn⟩, h2⟩
   ·rintro (⟨n, h1, h2⟩ | h1)
    ·exact ⟨n, (rm_mem.1 h1).1, h2⟩
    ·exact ⟨id, hasM.1 g, chn_anc _ _ h1⟩)
 have hO : ofO (mfA f) A id = (chn (mfA f) 17 id).filter (fun y => decide (¬ ∃ n ∈ rmA id on, Anc (mfA f) n y)) := by unfold ofO; rw [if_pos e, hch.1]; exact List.filter_congr fun y _ => decide_eq_decide.2 Iff.rfl
 refine ⟨e, ?_, ?_⟩
 ·rw [hO, leaf_upl I hl]
  refine filt_dec fun y hy => ?_
  have ha : Anc (mfA f) id y := (anc_upl I hl y).1 (hasM.2 hy)
  have h1 : Go.Proofs.Ytmmahgfijiocfaa.isR f on y = true := (isR_of I h.lf ha.nzr).2 ⟨id, hasM.1 g, ha⟩
  rw [h1, Bool.true_and, ← isR_of I hlf ha.nzr]
  simp
 ·exact ⟨h.aj.ofS hfin, h.srt.filter _, hlf, fun y => by rw [hS]; exact hch.2 y⟩
end Go.Proofs.Ytmmahgfijiocfaa
end
