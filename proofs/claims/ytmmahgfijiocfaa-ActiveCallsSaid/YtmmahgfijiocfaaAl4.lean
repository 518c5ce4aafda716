/- Joined texts. -/
import Derived.Test.YtmmahgfijiocfaaBs0
import Derived.Test.YtmmahgfijiocfaaBs1
import Derived.Test.YtmmahgfijiocfaaBs10
import Derived.Test.YtmmahgfijiocfaaBs11
import Derived.Test.YtmmahgfijiocfaaBs12
import Derived.Test.YtmmahgfijiocfaaBs13
import Derived.Test.YtmmahgfijiocfaaBs2
import Derived.Test.YtmmahgfijiocfaaBs3
import Derived.Test.YtmmahgfijiocfaaBs4
import Derived.Test.YtmmahgfijiocfaaBs5
import Derived.Test.YtmmahgfijiocfaaBs6
import Derived.Test.YtmmahgfijiocfaaBs7
import Derived.Test.YtmmahgfijiocfaaBs8
import Derived.Test.YtmmahgfijiocfaaBs9
import Derived.Test.YtmmahgfijiocfaaAl1
import Derived.Test.YtmmahgfijiocfaaAl2
import Derived.Shelf.SlIterI.Nil
import Derived.Shelf.SortM.Plain
import Derived.Shelf.SortM.SortNone
import Derived.Ground.GgzProg
import Derived.Ground.SlgmProg
import Derived.StillTail
import Derived.Deep.Quiet
import Derived.Deep.QuietTactic
import Derived.Test.YtmmahgfijiocfaaChecked
import Derived.WalkKit
import Derived.BigQuiet
import Derived.OpenShut
import Derived.Deep.RegionHeld3
import Derived.Deep.RegionWith
import Derived.Deep.DeepCutAuto
import Derived.WalkSpells
import Derived.WalkSmall
import Derived.Lib.Hide
import Derived.RowKit
import Derived.IntWalk
import Derived.Maps.Keyed
import Derived.Maps.Own
import Derived.Maps.OwnOps
import Derived.DeepKeys5
import Derived.Maps.RangeRun
import Derived.Deep.MidRow
import Derived.Deep.WholeRow
import Derived.Laws.CopyRow
import Derived.Deep.OwnRows
import Derived.ArgAppend
import Derived.Sort.OwnSortedInts
import Derived.Laws.AppendOwn
import Derived.Laws.AppendOwnNone
import Derived.Deep.Onto
import Derived.LoopN
import Derived.ProofKit
import Derived.Below
import Derived.Carry
import Derived.ReadAgain
import Derived.ChangeOld
import Derived.Deep.Slices
set_option linter.unusedVariables false
set_option linter.unusedSimpArgs false
set_option maxRecDepth 100000
set_option maxHeartbeats 16000000
section
namespace Go.Proofs.Ytmmahgfijiocfaa
open Go.Shelf
def keysK_ren : Go.Shelf.Ren := ⟨fun | 7 => 41 | 10 => 67 | n => n, fun | 23 => 73 | 26 => 3 | 3 => 75 | 28 => 81 | 0 => 0 | 27 => 80 | 33 => 47 | 4 => 4 | n => n, fun | n => n⟩
theorem keysK : Go.Proofs.SlLaysZI.n7 Try.prog keysK_ren := {
 mixed := by kernel_rfl
 f7 := ⟨Try.f41.name, by decide, Try.func41.trans (congrArg some (by kernel_rfl))⟩
 f10 := ⟨Try.f67.name, by decide, Try.func67.trans (congrArg some (by kernel_rfl))⟩
 t0 := Try.underlying0
 a0 := Try.isAgg0
 z0 := Try.sizeOf0
 v0 := Try.zeroValue0
 t4 := Try.underlying4
 a4 := Try.isAgg4
 z4 := Try.sizeOf4
 v4 := Try.zeroValue4
 t23 := Try.underlying73
 a23 := Try.isAgg73
 z23 := Try.sizeOf73
 v23 := Try.zeroValue73
 t26 := Try.underlying3
 a26 := Try.isAgg3
 z26 := Try.sizeOf3
 v26 := Try.zeroValue3
 t27 := Try.underlying80
 a27 := Try.isAgg80
 z27 := Try.sizeOf80
 v27 := Try.zeroValue80
 t28 := Try.underlying81
 a28 := Try.isAgg81
 z28 := Try.sizeOf81
 v28 := Try.zeroValue81
 t33 := Try.underlying47
 a33 := Try.isAgg47
 z33 := Try.sizeOf47
 v33 := Try.zeroValue47 }
def sortedK_ren : Go.Shelf.Ren := ⟨fun | 6 => 46 | 8 => 71 | 9 => 42 | 11 => 40 | 13 => 69 | 12 => 68 | 23 => 92 | 24 => 93 | 14 => 83 | 15 => 84 | 16 => 85 | 17 => 86 | 18 => 87 | 19 => 88 | 20 => 89 | 21 => 90 | 22 => 91 | 25 => 96 | 26 => 97 | 27 => 98 | 28 => 99 | 29 => 100 | 30 => 101 | 31 => 102 | n => n, fun | 26 => 3 | 28 => 81 | 24 => 31 | 0 => 0 | 3 => 3 | 37 => 114 | 48 => 133 | 50 => 50 | 4 => 4 | 40 => 125 | 39 => 124 | 45 => 130 | 5 => 5 | 9 => 9 | 51 => 136 | 55 => 140 | 57 => 142 | 58 => 143 | 33 => 47 | n => n, fun | n => n⟩
theorem sortedK : Go.Proofs.SlLaysZI.n6 Try.prog sortedK_ren := {
 mixed := by kernel_rfl
 f6 := ⟨Try.f46.name, by decide, Try.func46.trans (congrArg some (by kernel_rfl))⟩
 f8 := ⟨Try.f71.name, by decide, Try.func71.trans (congrArg some (by kernel_rfl))⟩
 f11 := ⟨Try.f40.name, by decide, Try.func40.trans (congrArg some (by kernel_rfl))⟩
 t0 := Try.underlying0
 a0 := Try.isAgg0
 z0 := Try.sizeOf0
 v0 := Try.zeroValue0
 t24 := Try.underlying31
 a24 := Try.isAgg31
 z24 := Try.sizeOf31
 v24 := Try.zeroValue31
 t26 := Try.underlying3
 a26 := Try.isAgg3
 z26 := Try.sizeOf3
 v26 := Try.zeroValue3
 t28 := Try.underlying81
 a28 := Try.isAgg81
 z28 := Try.sizeOf81
 v28 := Try.zeroValue81
 i26 := by kernel_rfl }
end Go.Proofs.Ytmmahgfijiocfaa
end
section
namespace Go.Proofs.Ytmmahgfijiocfaa
open Go.RowKit Fg Reg Go.Maps Go.Sort Go.Shelf
attribute [local irreducible] Reg.wE VR
theorem sortsK (m : Nat) : AnyZI.SortsIn Try.prog sortedK_ren Fence.wide m :=
 ⟨fun blk off cap ss W hH hblk hsz => callsIn_wide.2 (AnyM.slices_Sort_int sortA blk off cap ss W hH hblk hsz),
  fun p cap W => callsIn_wide.2 (AnyM.slices_Sort_int_none sortA p cap W)⟩
theorem keysK_c (mb : Option Nat) (W : World) : Calls Try.prog 41 #[.map mb] W fun e w' => e = .returned (.func (.func 67) #[] #[.pointer (some ⟨W.heap.size, 0, none⟩)]) ∧ w' = W.alloc (.cells #[.map mb] 73) :=
 (callsIn_wide (n := 5)).1 (AnyZI.keys_in keysK Fence.wide 5 trivial rfl mb W)
theorem sortedKm_c {H : Type} (b nn : Nat) (D0 : DataW H) (R : Value → Option (DataW H × List MemPlace)) (w : World) (hown : w.ownsMap Try.prog 3 R b nn D0) (hmax : Maps.size D0 ≤ maxLen) (hbytes : Maps.size D0 * 8 ≤ 140737488355328) :
  Calls Try.prog 46 #[.func (.func 67) #[] #[.pointer (some ⟨w.heap.size, 0, none⟩)]] (w.alloc (.cells #[.map (some b)] 73)) fun e w' => ∃ (v : Value) (ss : List Int), e = .returned v ∧ ss.Perm (intKeys D0) ∧
   w'.ownsRow w.heap.size 3 1 v ss.length ((ss.mergeSort (fun x y => decide (x ≤ y))).map encZ) ∧ (v = .slice none 0 0 ↔ ss = []) ∧ Below w.heap.size w w' := by
 have hbl := hown.lt
 have hseq : SeqGives Fence.wide 2 Try.prog 67 #[.pointer (some ⟨w.heap.size, 0, none⟩)] encZ (fun ss => ss.Perm (intKeys D0)) (Maps.size D0) (w.alloc (.cells #[.map (some b)] 73)) :=
  AnyZI.keys_gives (ρ := keysK_ren) { keysK with } Fence.wide _ trivial rfl (by omega) w.heap.size b nn D0 _ (by simp) (by simp) (by
   obtain ⟨es, clock, hb, Ft, hs, hD⟩ := hown
   exact ⟨es, clock, (Below.heap_alloc _ _ b hbl).trans hb, Ft, hs, hD⟩)
 have cS := AnyZI.sorted_in sortedK Fence.wide 5 trivial trivial trivial trivial rfl (by omega) (sortsK _) (enters_of Try.func42 (by kernel_rfl) rfl) 67 #[.pointer (some ⟨w.heap.size, 0, none⟩)] trivial (enters_of Try.func67 (by kernel_rfl) rfl) _ _ hmax hbytes _ hseq
 refine ((callsIn_wide (n := 5)).1 cS).mono ?_
 rintro e w' ⟨v, ss, rfl, hS, hrow, hnil, hb⟩
 exact ⟨v, ss, rfl, hS, ownsRow_base_a hrow (by simp), hnil, ((Below.refl _ w).alloc (Nat.le_refl _) _).trans (hb.mono (by simp))⟩
theorem sortedKn_c (w : World) : Calls Try.prog 46 #[.func (.func 67) #[] #[.pointer (some ⟨w.heap.size, 0, none⟩)]] (w.alloc (.cells #[.map none] 73)) fun e w' => ∃ v, e = .returned v ∧ w'.ownsRow w.heap.size 3 1 v 0 [] ∧ Below w.heap.size w w' := by
 have hseq : SeqGives Fence.wide 2 Try.prog 67 #[.pointer (some ⟨w.heap.size, 0, none⟩)] encZ (fun ss : List Int => ss = []) 0 (w.alloc (.cells #[.map none] 73)) :=
  AnyZI.keys_gives_nil (ρ := keysK_ren) { keysK with } Fence.wide _ trivial rfl w.heap.size _ (by simp) (by simp)
 have cS := AnyZI.sorted_in sortedK Fence.wide 5 trivial trivial trivial trivial rfl (by omega) (sortsK _) (enters_of Try.func42 (by kernel_rfl) rfl) 67 #[.pointer (some ⟨w.heap.size, 0, none⟩)] trivial (enters_of Try.func67 (by kernel_rfl) rfl) _ _ (by decide) (by decide) _ hseq
 refine ((callsIn_wide (n := 5)).1 cS).mono ?_
 rintro e w' ⟨v, ss, rfl, rfl, hrow, hnil, hb⟩
 have hr := ownsRow_base_a hrow (show w.heap.size ≤ _ by simp)
 rw [List.mergeSort_nil] at hr
 exact ⟨v, rfl, hr, ((Below.refl _ w).alloc (Nat.le_refl _) _).trans (hb.mono (by simp))⟩
theorem Mp.ownsK {ν : Type} {vv : ν → Value} {f : Int → Option ν} {n : Nat} {w : World} {b : Nat} (hn : n ≤ maxLen) (h : Mp ikv vv iok f n w b) :
  ∃ (D : DataW Unit), w.ownsMap Try.prog 3 (fun _ => some (DataW.nil, [])) b n D ∧ Maps.size D ≤ n ∧ (∀ x, x ∈ intKeys D ↔ (f x).isSome = true) ∧ (intKeys D).Nodup := by
 obtain ⟨es, clock, hb, hE⟩ := h
 have hrd : ∀ e ∈ es.toList, ∃ x v, f x = some v ∧ e.key = ikv x ∧ WideElems.rd Try.prog 3 (fun _ => some (DataW.nil (H := Unit), [])) e = some (.int .i64 x, .nil) := fun e he => by
  obtain ⟨x, v, hx, h1, h2, h3⟩ := hE.ent e he
  refine ⟨x, v, h3, h1, ?_⟩
  unfold WideElems.rd
  rw [h1, show ikv x = Value.int .i64 x from rfl, keyOf_int_mk Try.underlying3 hx]
  rfl
 have F : WideElems.Fit Try.prog 3 (fun _ => some (DataW.nil (H := Unit), [])) es clock := ⟨Nat.le_trans hE.size hn, hE.stamped, fun e he => by obtain ⟨x, v, _, _, h⟩ := hrd e he; exact ⟨_, h⟩⟩
 refine ⟨_, ⟨es, clock, hb, F, hE.size, rfl⟩, ?_, ?_, ?_⟩
 ·show List.length _ ≤ n
  rw [length_sorted]
  simpa using hE.size
 ·intro x
  have hp := (WideShapes.sorted_perm (es.toList.map (WideElems.rg Try.prog 3 (fun _ => some (DataW.nil (H := Unit), []))))).map (fun p => _root_.Go.intOf p.1)
  show x ∈ List.map _ _ ↔ _
  rw [hp.mem_iff]
  constructor
  ·intro hx
   obtain ⟨p, hp1, rfl⟩ := List.mem_map.1 hx
   obtain ⟨e, he, rfl⟩ := List.mem_map.1 hp1
   obtain ⟨y, v, hy, hk, hr⟩ := hrd e he
   rw [WideElems.rg_of hr]
   show (f y).isSome = true
   rw [hy]; rfl
  ·intro hx
   obtain ⟨v, hv⟩ := Option.isSome_iff_exists.1 hx
   obtain ⟨e, he, hk⟩ := hE.has x v hv
   obtain ⟨y, v', hy, hk', hr⟩ := hrd e he
   have hxy : y = x := by have := hk'.symm.trans hk; simpa [ikv] using this
   refine List.mem_map.2 ⟨_, List.mem_map.2 ⟨e, he, rfl⟩, ?_⟩
   rw [WideElems.rg_of hr, hxy]
   rfl
 ·have hp := (WideShapes.sorted_perm (es.toList.map (WideElems.rg Try.prog 3 (fun _ => some (DataW.nil (H := Unit), []))))).map (fun p => _root_.Go.intOf p.1)
  show List.Nodup (List.map _ _)
  rw [hp.nodup_iff]
  have ha := fit_apart (int_keyed Try.underlying3) F
  unfold List.Nodup
  rw [List.pairwise_map]
  refine List.Pairwise.imp_of_mem ?_ ha
  intro p q hp hq hne he
  obtain ⟨e, he1, rfl⟩ := List.mem_map.1 hp
  obtain ⟨e', he1', rfl⟩ := List.mem_map.1 hq
  obtain ⟨y, v, hy, hk, hr⟩ := hrd e he1
  obtain ⟨y', v', hy', hk', hr'⟩ := hrd e' he1'
  rw [WideElems.rg_of hr, WideElems.rg_of hr'] at hne he
  have he' : y = y' := he
  rw [he'] at hne
  exact hne rfl
def chA (A : Int → Option (List Int)) (id : Int) : List Int := (A id).getD []
theorem sortedK_c {K : List Int} (hK : K.Pairwise (· < ·)) (hn : K.length ≤ 1000) (b : Nat) (w : World) (h : ∃ n, Mp ikv uv iok (sv K) n w b) :
  Calls Try.prog 46 #[.func (.func 67) #[] #[.pointer (some ⟨w.heap.size, 0, none⟩)]] (w.alloc (.cells #[.map (some b)] 73)) fun e w' => ∃ v, e = .returned v ∧ w'.ownsRow w.heap.size 3 1 v K.length (K.map (Value.int .i64)) ∧ Below w.heap.size w w' := by
 obtain ⟨n, h0⟩ := h
 have hkk : ∀ x, x ∈ K ↔ (sv K x).isSome = true := fun x => by rw [sv_some]; simp
 have h1 := h0.fit ikv_inj K (ndA hK) hkk
 obtain ⟨D, ho, hs, hm, hd⟩ := Mp.ownsK (by unfold maxLen; omega) h1
 refine (sortedKm_c b _ D _ w ho (by unfold maxLen; omega) (by omega)).mono ?_
 rintro e w' ⟨v, ss, rfl, hp, hr, -, hb⟩
 have hpk : ss.Perm K := hp.trans (perm_of_mem hd (ndA hK) fun x => (hm x).trans (hkk x).symm)
 rw [msA hK hpk, hpk.length_eq] at hr
 exact ⟨v, rfl, hr, hb⟩
theorem ach_c {z : World} {B p mb cb : Nat} {mem : Int → Option (Int × Bool)} {F : Int → Option Nat} {A : Int → Option (List Int)} (h : AS z B p mb cb mem F A) {id : Int} (hid : iok id) (hn : (chA A id).length ≤ 1000) :
  Calls Try.prog 23 #[.pointer (some ⟨p, 0, none⟩), .int .i64 id] z fun e z' => ∃ v, e = .returned v ∧ z'.ownsRow z.heap.size 3 1 v (chA A id).length ((chA A id).map (Value.int .i64)) ∧ Below z.heap.size z z' := by
 have c0 := h.c0
 have c1 := h.c1
 have lt := h.lt
 have hF := h.ch
 have hl := hF.look hid
 have hd := hF.dom id
 have KE := Lib.hid keysK_c
 cases hA : A id with
 | none =>
  have hFn : F id = none := by rw [hA] at hd; simpa using hd
  have e : chA A id = [] := by unfold chA; rw [hA]; rfl
  rw [e]
  have hl2 : (Instr.lookup 65 (.map (some cb)) (.int .i64 id) false).run Try.prog z = .ok (.map none) z := by rw [hFn] at hl; exact hl
  have KS := Lib.hid (sortedKn_c z)
  clear hl h hF hd hA hFn e hn
  go_enter Try.func23, Try.ntmps23
  go_wp2_with (first
   | go_guarded
   | (go_at_call 46; (with_reducible refine KS.out.mono ?_); rintro _ w2 ⟨v, rfl, hr, hbel⟩; have HR := Lib.hid hr; have HB := Lib.hid hbel; clear hr hbel)
   | (go_at_call 41; (with_reducible refine (KE.out _ _).mono ?_); rintro _ w1 ⟨rfl, rfl⟩))
  go_ret
  exact ⟨_, rfl, HR.out, HB.out⟩
 | some K =>
  obtain ⟨b, hb⟩ : ∃ b, F id = some b := Option.isSome_iff_exists.1 (by rw [hd, hA]; rfl)
  have e : chA A id = K := by unfold chA; rw [hA]; rfl
  rw [e] at hn ⊢
  have hl2 : (Instr.lookup 65 (.map (some cb)) (.int .i64 id) false).run Try.prog z = .ok (.map (some b)) z := by rw [hb] at hl; exact hl
  have KS := Lib.hid (sortedK_c (hF.srt id K hA) hn b z (hF.inn id b K hb hA).1)
  clear hl h hF hd hA hb e hn
  go_enter Try.func23, Try.ntmps23
  go_wp2_with (first
   | go_guarded
   | (go_at_call 46; (with_reducible refine KS.out.mono ?_); rintro _ w2 ⟨v, rfl, hr, hbel⟩; have HR := Lib.hid hr; have HB := Lib.hid hbel; clear hr hbel)
   | (go_at_call 41; (with_reducible refine (KE.out _ _).mono ?_); rintro _ w1 ⟨rfl, rfl⟩))
  go_ret
  exact ⟨_, rfl, HR.out, HB.out⟩
end Go.Proofs.Ytmmahgfijiocfaa
end
section
namespace Go.Proofs.Ytmmahgfijiocfaa
open Go.RowKit Fg Reg Go.Maps Go.Sort Go.Shelf
attribute [local irreducible] Reg.wE VR
theorem intsA_map {z z' : World} {ao : Option Addr} {C : List Int} (h : IntsV z ao C) {mb : Nat} (hm : ∃ es ck, z.heap[mb]? = some (.map es ck)) (ho : Only (fun k => k = mb) z z') : IntsV z' ao C := fun k hk => by
 obtain ⟨b, o, e, h1, h2⟩ := h k hk
 have hne : b ≠ mb := by
  rintro rfl
  obtain ⟨es, ck, hb⟩ := hm
  simp [World.cell?, hb] at h2
 exact ⟨b, o, e, Nat.lt_of_lt_of_le h1 ho.size, by rw [World.cell?_of_block (ho.block b h1 hne)]; exact h2⟩
theorem AS.memb {z v : World} {B p mb cb : Nat} {mem : Int → Option (Int × Bool)} {F : Int → Option Nat} {A : Int → Option (List Int)} (h : AS z B p mb cb mem F A) {mem2 : Int → Option (Int × Bool)} (hu : ∃ n, Mp ikv memv iok mem2 n v mb) (ho : Only (fun k => k = mb) z v) : AS v B p mb cb mem2 F A :=
 ⟨(World.cell?_of_block (ho.5 p h.lt (fun e => h.nm e.symm))).trans h.c0, (World.cell?_of_block (ho.5 p h.lt (fun e => h.nm e.symm))).trans h.c1, Nat.lt_of_lt_of_le h.lt ho.4, h.nm, h.nc, h.mc, h.bc, hu, h.ch.frame (fun b hl hn => ho.5 b hl (fun e => hn (.inl e))) h.ncb⟩
theorem as_new (w : World) : AS (((w.alloc (.map #[] 0)).alloc (.map #[] 0)).alloc (.cells #[.map (some w.heap.size), .map (some (w.heap.size + 1))] 67)) w.heap.size (w.heap.size + 2) w.heap.size (w.heap.size + 1) (fun _ => none) (fun _ => none) (fun _ => none) := by
 have h1 := Mp.made (κ := Int) ikv memv iok w
 have h2 := Mp.made (κ := Int) ikv bv iok (w.alloc (.map #[] 0))
 rw [show (w.alloc (.map #[] 0)).heap.size = w.heap.size + 1 by simp] at h2
 refine ⟨by simp [go_sem], by simp [go_sem], by simp, by omega, by omega, by omega, by omega, ⟨0, (h1.alloc _).alloc _⟩, ⟨0, h2.alloc _⟩, fun x => rfl, fun x b K h => (by cases h), fun x y b h => (by cases h), fun x K h => (by cases h)⟩
def mfA (f : Int → Option Cls) : Int → Option (Int × Bool) := fun x => match f x with | some c => if sh1 c = true then some (c.par, c.leaf) else none | none => none
def mfK (f : Int → Option Cls) (L : List Int) : Int → Option (Int × Bool) := fun x => if x ∈ L then mfA f x else none
theorem mfK_all {f : Int → Option Cls} {L : List Int} (I : TI f L) : mfK f L = mfA f := by
 funext x
 unfold mfK
 by_cases h : x ∈ L
 ·rw [if_pos h]
 ·rw [if_neg h]
  have : f x = none := by
   cases hc : f x with
   | none => rfl
   | some c => exact absurd ((I.mem x).1 (by rw [hc]; rfl)) h
  unfold mfA
  rw [this]
theorem mfK_yes {f : Int → Option Cls} {L : List Int} {x : Int} {c : Cls} (hc : f x = some c) (hs : sh1 c = true) : mfK f (L ++ [x]) = upd (mfK f L) x (c.par, c.leaf) := by
 funext y
 unfold mfK upd
 by_cases h : y = x
 ·rw [if_pos (by simp [h]), if_pos h]
  unfold mfA
  rw [h, hc]
  simp [hs]
 ·rw [if_neg h]
  simp [h]
theorem mfK_no {f : Int → Option Cls} {L : List Int} {x : Int} {c : Cls} (hc : f x = some c) (hs : sh1 c = false) : mfK f (L ++ [x]) = mfK f L := by
 funext y
 unfold mfK
 by_cases h : y = x
 ·have : mfA f y = none := by unfold mfA; rw [h, hc]; simp [hs]
  rw [this]
  simp
 ·simp [h]
theorem anew2_c {w : World} {tb tm : Nat} {f : Int → Option Cls} {L : List Int} (h : HT w tb tm f) (I : TI f L) : Calls Try.prog 9 #[.pointer (some ⟨tb, 0, none⟩)] w fun e w' => ∃ p mb cb F, e = .returned (.pointer (some ⟨p, 0, none⟩)) ∧ w.heap.size ≤ mb ∧ w.heap.size ≤ p ∧ AS w' w.heap.size p mb cb (mfA f) F (fun _ => none) ∧ Below w.heap.size w w' := by
 obtain ⟨n, hn⟩ : ∃ n, L.length = n := ⟨_, rfl⟩
 have hn64 : n ≤ 64 := by rw [← hn]; exact I.len
 have KID : Hid (∀ z, Below w.heap.size w z → Calls Try.prog 31 #[.pointer (some ⟨tb, 0, none⟩)] z fun e z' => ∃ ao cap, e = .returned (.slice ao n cap) ∧ IntsV z' ao L ∧ Below z.heap.size z z') := Lib.hid (fun z hz => by
  refine (ids_c (h.below hz) L I.srt I.mem (Nat.le_trans I.len (by decide)) I.iok).mono ?_
  rintro e z' ⟨v, rfl, hr, hb⟩
  obtain ⟨ao, cap, rfl⟩ := row_form hr
  exact ⟨ao, cap, by rw [hn], (own_ints hr).2, hb⟩)
 have KG : Hid (∀ z x c, Below w.heap.size w z → f x = some c → iok x → Calls Try.prog 32 #[.pointer (some ⟨tb, 0, none⟩), .int .i64 x] z fun e z' => e = .returned (.tuple #[.agg #[.int .i64 c.id, .int .i64 c.par, .bool c.leaf, .int .u64 c.ra, .int .u64 c.rb, .int .u64 c.rc, .int .u64 c.la, .int .u64 c.lb, .int .u64 c.lc, .int .u64 c.ua, .int .u64 c.ub, .int .u64 c.uc, .int .i64 c.pk, .int .i64 c.bt], .int .i64 0]) ∧ Below z.heap.size z z') := Lib.hid (fun z x c hz hc hx => by
  refine (hget_c (h.below hz) hx).mono ?_
  rintro e z' ⟨he, hb⟩
  rw [hc] at he
  exact ⟨he, hb⟩)
 have HA := Lib.hid (as_new w)
 have HB : Hid (Below w.heap.size w (((w.alloc (.map #[] 0)).alloc (.map #[] 0)).alloc (.cells #[.map (some w.heap.size), .map (some (w.heap.size + 1))] 67))) := Lib.hid bub
 have hmm := @run_makeMap Try.prog
 have HI := Lib.hid I
 have HN := Lib.hid hn
 have ALL := Lib.hid cl_alloc
 have INF := Lib.hid cl_info
 have ONE := Lib.hid cla_one
 clear h I hn
 go_enter Try.func9, Try.ntmps9
 go_wp2_with (first
  | go_guarded
  | (go_at_call 31; (with_reducible refine (KID.out _ HB.out).mono ?_); rintro _ w2 ⟨io, ic, rfl, hv, hbel⟩; have HV := Lib.hid hv; have HA2 := Lib.hid (HA.out.below hbel); have HB2 := Lib.hid (HB.out.trans (hbel.mono HB.out.size)); clear hbel hv))
 try go_frame
 go_loopg [15] n (fun k9 s15 wr => ∃ k : Nat, s15 = .int .i64 k ∧ k ≤ n ∧ AS wr w.heap.size (w.heap.size + 2) w.heap.size (w.heap.size + 1) (mfK f (L.take k)) (fun _ => none) (fun _ => none) ∧ IntsV wr io L ∧ Below w.heap.size w wr ∧ n - k ≤ k9)
 case atStart => exact ⟨0, rfl, Nat.zero_le _, by rw [List.take_zero]; exact HA2.out, HV.out, HB2.out, by omega⟩
 case round =>
  obtain ⟨k, rfl, hk, hA, hiv, hB, hk9⟩ := hrel
  have HAR := Lib.hid hA
  have HIV := Lib.hid hiv
  have HBR := Lib.hid hB
  by_cases hlt : k < n
  ·have hlC : k < L.length := by rw [HN.out]; exact hlt
   obtain ⟨b, o, rfl, hb, hce⟩ := hiv k hlC
   have hts := take_snoc'' L k hlC
   obtain ⟨c, hc⟩ : ∃ c, f L[k] = some c := Option.isSome_iff_exists.1 ((HI.out.mem _).2 (List.getElem_mem hlC))
   have hxi := HI.out.iok L[k] (List.getElem_mem hlC)
   have hci := (HI.out.cls _ c hc).2.1
   obtain ⟨x, hx⟩ : ∃ x, L[k] = x := ⟨_, rfl⟩
   rw [hx] at hce hc hxi hts
   have KG1 := Lib.hid (fun z hz => KG.out z x c hz hc hxi)
   have KSH := Lib.hid (cshares_c hci)
   obtain ⟨r, hr⟩ : ∃ r, sh1 c = r := ⟨_, rfl⟩
   rw [hr] at KSH
   have HXI := Lib.hid hxi
   cases r with
   | false =>
    have HM2 : Hid (mfK f (L.take (k + 1)) = mfK f (L.take k)) := Lib.hid (by rw [hts]; exact mfK_no hc hr)
    clear hA hiv hB hts hc hxi hci hx hr hlC hb
    go_wp2_with (first
     | go_guarded
     | (go_at_call 33; (have mk := HB5); (with_reducible refine (KSH.out _).mono ?_); rintro _ w6 ⟨rfl, hbel⟩; have HB6 := Lib.hid (HB5.out.trans (hbel.mono HB5.out.size)); have HV6 := Lib.hid (HV5.out.below hbel); have HA6 := Lib.hid (HA5.out.below hbel); clear hbel)
     | (refine wpList_var_get rfl 54 _ rfl _ #[.int .i64 c.id, .int .i64 c.par, .bool c.leaf, .int .u64 c.ra, .int .u64 c.rb, .int .u64 c.rc, .int .u64 c.la, .int .u64 c.lb, .int .u64 c.lc, .int .u64 c.ua, .int .u64 c.ub, .int .u64 c.uc, .int .i64 c.pk, .int .i64 c.bt] _ HC5.out rfl Try.underlying54 rfl INF.out ?_)
     | (refine wpList_var_new rfl rfl 54 #[.int .i64 0, .int .i64 0, .bool false, .int .u64 0, .int .u64 0, .int .u64 0, .int .u64 0, .int .u64 0, .int .u64 0, .int .u64 0, .int .u64 0, .int .u64 0, .int .i64 0, .int .i64 0] ALL.out rfl _ _ rfl #[.int .i64 c.id, .int .i64 c.par, .bool c.leaf, .int .u64 c.ra, .int .u64 c.rb, .int .u64 c.rc, .int .u64 c.la, .int .u64 c.lb, .int .u64 c.lc, .int .u64 c.ua, .int .u64 c.ub, .int .u64 c.uc, .int .i64 c.pk, .int .i64 c.bt] rfl rfl INF.out rfl (ONE.out _) ?_; (have mk := HB4); intro w5 hs5 hb5 hv5; have HC5 := Lib.hid hv5; have HB5 := Lib.hid (HB4.out.trans (hb5.mono HB4.out.size)); have HV5 := Lib.hid (HV4.out.below hb5); have HA5 := Lib.hid (HA4.out.below hb5); clear hb5 hv5)
     | (go_at_call 32; (with_reducible refine (KG1.out _ HBR.out).mono ?_); rintro _ w4 ⟨rfl, hbel⟩; have HB4 := Lib.hid (HBR.out.trans (hbel.mono HBR.out.size)); have HV4 := Lib.hid (HIV.out.below hbel); have HA4 := Lib.hid (HAR.out.below hbel); clear hbel))
    go_roundg (n - (k + 1))
    case rel => exact ⟨k + 1, by go_num, by omega, by rw [HM2.out]; exact HA6.out, HV6.out, HB6.out, Nat.le_refl _⟩
    case measure => omega
   | true =>
    have HM2 : Hid (mfK f (L.take (k + 1)) = upd (mfK f (L.take k)) x (c.par, c.leaf)) := Lib.hid (by rw [hts]; exact mfK_yes hc hr)
    clear hA hiv hB hts hc hxi hci hx hr hlC hb
    go_wp2_with (first
     | go_guarded
     | (go_at_call 33; (have mk := HB5); (with_reducible refine (KSH.out _).mono ?_); rintro _ w6 ⟨rfl, hbel⟩; have HB6 := Lib.hid (HB5.out.trans (hbel.mono HB5.out.size)); have HV6 := Lib.hid (HV5.out.below hbel); have HA6 := Lib.hid (HA5.out.below hbel); have HC6 := Lib.hid (HC5.out.bel hbel); clear hbel)
     | (refine wpList_var_get rfl 54 _ rfl _ #[.int .i64 c.id, .int .i64 c.par, .bool c.leaf, .int .u64 c.ra, .int .u64 c.rb, .int .u64 c.rc, .int .u64 c.la, .int .u64 c.lb, .int .u64 c.lc, .int .u64 c.ua, .int .u64 c.ub, .int .u64 c.uc, .int .i64 c.pk, .int .i64 c.bt] _ HC5.out rfl Try.underlying54 rfl INF.out ?_)
     | (refine wpList_var_new rfl rfl 54 #[.int .i64 0, .int .i64 0, .bool false, .int .u64 0, .int .u64 0, .int .u64 0, .int .u64 0, .int .u64 0, .int .u64 0, .int .u64 0, .int .u64 0, .int .u64 0, .int .i64 0, .int .i64 0] ALL.out rfl _ _ rfl #[.int .i64 c.id, .int .i64 c.par, .bool c.leaf, .int .u64 c.ra, .int .u64 c.rb, .int .u64 c.rc, .int .u64 c.la, .int .u64 c.lb, .int .u64 c.lc, .int .u64 c.ua, .int .u64 c.ub, .int .u64 c.uc, .int .i64 c.pk, .int .i64 c.bt] rfl rfl INF.out rfl (ONE.out _) ?_; (have mk := HB4); intro w5 hs5 hb5 hv5; have HC5 := Lib.hid hv5; have HB5 := Lib.hid (HB4.out.trans (hb5.mono HB4.out.size)); have HV5 := Lib.hid (HV4.out.below hb5); have HA5 := Lib.hid (HA4.out.below hb5); clear hb5 hv5)
     | (go_at_call 32; (with_reducible refine (KG1.out _ HBR.out).mono ?_); rintro _ w4 ⟨rfl, hbel⟩; have HB4 := Lib.hid (HBR.out.trans (hbel.mono HBR.out.size)); have HV4 := Lib.hid (HIV.out.below hbel); have HA4 := Lib.hid (HAR.out.below hbel); clear hbel))
    have hbq : Below w6.heap.size w6 w6.drew := Below.drew (Below.refl _ _)
    have ha : AS w6.drew w.heap.size (w.heap.size + 2) w.heap.size (w.heap.size + 1) (mfK f (L.take k)) (fun _ => none) (fun _ => none) := HA6.out.below hbq
    obtain ⟨vb, hvb⟩ : ∃ q, w4.heap.size = q := ⟨_, rfl⟩
    have hv := HC6.out.bel hbq
    rw [hvb] at hv ⊢
    obtain ⟨n6, hm6⟩ := ha.mp
    obtain ⟨w7, hrun, hu7, ho7, hs7⟩ := hm6.update ikok Try.underlying64 HXI.out (c.par, c.leaf)
    have hpm : ¬ w.heap.size + 2 = w.heap.size := by omega
    have hvm : ¬ vb = w.heap.size := by have := HA4.out.mlt; intro e; omega
    have has := ha.memb ⟨_, hu7⟩ ho7
    have hv7 := hv.only ho7 hvm
    have hi7 := intsA_map (HV6.out.below hbq) hm6.kind ho7
    have hb7 : Below w.heap.size w w7 := (HB6.out.trans (hbq.mono HB6.out.size)).trans ⟨ho7.1, ho7.2, ho7.3, ho7.4, fun k hk => ho7.5 k (Nat.lt_of_lt_of_le hk (HB6.out.trans (hbq.mono HB6.out.size)).size) (by omega)⟩
    rw [← HM2.out] at has
    have HAS := Lib.hid has
    have HI7 := Lib.hid hi7
    have HB7 := Lib.hid hb7
    have HRUN := Lib.hid hrun
    have HV7 := Lib.hid hv7
    have e0 := ha.c0
    have el := ha.lt
    have e1 := hv.cell 1 rfl
    have e2 := hv.cell 2 rfl
    have e3 := hv.lt
    clear hi7 hb7 hrun hv7 has ha hv hm6 hu7 ho7 hs7 hpm hvm hbq
    obtain ⟨Cl, hCl⟩ : ∃ Cl : List (Nat × Value) → World → Prop, Cl = ((fun ps wz => ((wz.cell? ⟨w.heap.size + 2, 0, none⟩ = some (.map (some w.heap.size)) ∧ w.heap.size + 2 < wz.heap.size) ∧ (wz.cell? ⟨vb, 1, none⟩ = some (.int .i64 c.par) ∧ wz.cell? ⟨vb, 2, none⟩ = some (.bool c.leaf) ∧ vb < wz.heap.size)) ∧ (match ps with
     | [] => wz = w6.drew
     | _ => wz = w7))) := ⟨_, rfl⟩; have HCl := Lib.hid hCl; clear hCl; refine Reg2.wp_region_lineS [(0, false), (1, false), (2, false), (3, false), (4, false), (5, false), (6, false), (7, false), (8, false), (9, false), (10, false)] [10] Cl (by kernel_rfl) (by kernel_rfl) (by kernel_rfl) (by simp only [HCl.out, zD, zE]; exact ⟨⟨⟨e0, el⟩, e1, e2, e3⟩, (by first | rfl | trivial)⟩) ?_
    clear e0 el e1 e2 e3
    (repeat ((first | (refine Reg2.wS_skip gtb (by rfl) ?_) | (refine Reg2.wS_open gtb (by rfl) (by rfl) ?_; apply Exists.intro; refine ⟨fun vs wq hw => ?_, ?_⟩; (focus (simp only [HCl.out, zD, zE] at hw; go_split_ands; go_simp <;> exact ebb)))); simp only [Act.put, Nat.reduceAdd, zA, zB, zC, zD, zE]))
    refine Reg2.wS_eff gtb (by rfl) (by rfl) (fun wq hw => ?_) (fun u9 hu => ?_)
    focus
     simp only [HCl.out, zD, zE] at hw
     obtain ⟨-, rfl⟩ := hw
     refine effv_map _ _ _ 64 rfl rfl rfl rfl HRUN.out ?_
     simp only [HCl.out, zD, zE]
     exact ⟨⟨⟨HAS.out.c0, HAS.out.lt⟩, HV7.out.cell 1 rfl, HV7.out.cell 2 rfl, HV7.out.lt⟩, (by first | rfl | trivial)⟩
    clear hu
    simp only [Act.put, Nat.reduceAdd, zA, zB, zC, zD, zE]
    (repeat ((first | (refine Reg2.wS_skip gtb (by rfl) ?_) | (refine Reg2.wS_open gtb (by rfl) (by rfl) ?_; apply Exists.intro; refine ⟨fun vs wq hw => ?_, ?_⟩; (focus (simp only [HCl.out, zD, zE] at hw; go_split_ands; go_simp <;> exact ebb)))); simp only [Act.put, Nat.reduceAdd, zA, zB, zC, zD, zE]))
    refine Reg2.wS_nil ?_; intro w' hw; simp only [HCl.out, zD, zE] at hw; clear HCl
    obtain ⟨-, rfl⟩ := hw
    go_wp2_with (first | go_guarded)
    go_roundg (n - (k + 1))
    case rel => exact ⟨k + 1, by go_num, by omega, HAS.out, HI7.out, HB7.out, Nat.le_refl _⟩
    case measure => omega
  ·obtain rfl : k = n := by omega
   have hm : mfK f (L.take k) = mfA f := by rw [List.take_of_length_le (by rw [HN.out]; exact Nat.le_refl _)]; exact mfK_all HI.out
   have HM := Lib.hid hm
   clear hA hiv hB hlt hm
   go_wp2_with (first | go_guarded)
   refine bodyPost_ret (v := .pointer (some ⟨(w.heap.size + 2), 0, none⟩)) (by simp [results, Try.results9, go_sem, *]) rfl ?_
   exact ⟨_, _, _, _, rfl, Nat.le_refl _, by omega, by rw [← HM.out]; exact HAR.out, HBR.out⟩
theorem anew_c {w : World} {tb tm : Nat} {f : Int → Option Cls} {L : List Int} (h : HT w tb tm f) (I : TI f L) : Calls Try.prog 9 #[.pointer (some ⟨tb, 0, none⟩)] w fun e w' => ∃ p mb cb F, e = .returned (.pointer (some ⟨p, 0, none⟩)) ∧ AS w' w.heap.size p mb cb (mfA f) F (fun _ => none) ∧ Below w.heap.size w w' :=
 (anew2_c h I).mono fun _ _ ⟨p, mb, cb, F, e, _, _, h1, h2⟩ => ⟨p, mb, cb, F, e, h1, h2⟩
end Go.Proofs.Ytmmahgfijiocfaa
end
section
namespace Go.Proofs.Ytmmahgfijiocfaa
open Go.RowKit Fg Reg Go.Maps
attribute [local irreducible] Reg.wE VR
theorem finM_zero (mem : Int → Option (Int × Bool)) : ∀ n, finM mem n 0 = true
 | 0 => rfl
 | n + 1 => by unfold finM; simp
theorem mfA_par (f : Int → Option Cls) (x : Int) : parM (mfA f) x = 0 ∨ ∃ c, f x = some c ∧ parM (mfA f) x = c.par := by
 unfold parM mfA
 cases hc : f x with
 | none => exact .inl rfl
 | some c =>
  by_cases hs : sh1 c = true
  ·exact .inr ⟨c, rfl, by simp [hs]⟩
  ·exact .inl (by simp [hs])
theorem mfA_fin {f : Int → Option Cls} : ∀ (n : Nat) (x : Int), fin f n x = true → finM (mfA f) (n + 1) x = true
 | 0, x, h => by
  unfold finM
  rcases mfA_par f x with e | ⟨c, hc, -⟩
  ·rw [e, finM_zero]; simp
  ·unfold fin at h; rw [hc] at h; cases h
 | n + 1, x, h => by
  unfold finM
  rcases mfA_par f x with e | ⟨c, hc, e⟩
  ·rw [e, finM_zero]; simp
  ·rw [e]
   unfold fin at h
   rw [hc] at h
   rw [mfA_fin n c.par h]
   simp
theorem mfA_in {f : Int → Option Cls} {L : List Int} (I : TI f L) : ∀ id, id ≠ 0 → parM (mfA f) id ≠ 0 → lfM (mfA f) (parM (mfA f) id) = false := fun id _ hp => by
 rcases mfA_par f id with e | ⟨c, hc, e⟩
 ·exact absurd e hp
 ·rw [e] at hp ⊢
  obtain ⟨p, h1, h2, -⟩ := I.par id c hc hp
  unfold lfM mfA
  rw [h1]
  by_cases hs : sh1 p = true
  ·simp [hs, h2]
  ·simp [hs]
theorem mfA_iok {f : Int → Option Cls} {L : List Int} (I : TI f L) : ∀ x m, mfA f x = some m → iok m.1 := fun x m h => by
 unfold mfA at h
 cases hc : f x with
 | none => rw [hc] at h; cases h
 | some c =>
  rw [hc] at h
  by_cases hs : sh1 c = true
  ·simp [hs] at h
   subst h
   exact (I.cls x c hc).2.1.par
  ·simp [hs] at h
end Go.Proofs.Ytmmahgfijiocfaa
end
