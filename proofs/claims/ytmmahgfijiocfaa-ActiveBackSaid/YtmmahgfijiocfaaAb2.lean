/- Joined texts. -/
import Derived.Test.YtmmahgfijiocfaaBs0
import Derived.Test.YtmmahgfijiocfaaBs1
import Derived.Test.YtmmahgfijiocfaaBs2
import Derived.Test.YtmmahgfijiocfaaBs3
import Derived.Test.YtmmahgfijiocfaaBs4
import Derived.Test.YtmmahgfijiocfaaBs8
import Derived.Test.YtmmahgfijiocfaaBs9
import Derived.Test.YtmmahgfijiocfaaAb1
import Derived.Maps.Keyed
import Derived.Maps.Own
import Derived.Maps.OwnOps
import Derived.DeepKeys5
import Derived.StillTail
import Derived.Deep.Quiet
import Derived.Deep.QuietTactic
import Derived.Test.YtmmahgfijiocfaaChecked
import Derived.WalkKit
import Derived.BigQuiet
import Derived.OpenShut
import Derived.Deep.RegionHeld3
import Derived.Deep.RegionWith
import Derived.Deep.DeepCutAuto
import Derived.WalkSpells
import Derived.WalkSmall
import Derived.Lib.Hide
import Derived.RowKit
import Derived.IntWalk
import Derived.Maps.RangeRun
import Derived.Deep.MidRow
import Derived.Deep.WholeRow
import Derived.Laws.CopyRow
import Derived.Deep.OwnRows
import Derived.ArgAppend
import Derived.Sort.OwnSortedInts
import Derived.Shelf.SlIterI.Nil
import Derived.Shelf.SortM.Plain
import Derived.Shelf.SortM.SortNone
import Derived.Ground.GgzProg
import Derived.Ground.SlgmProg
import Derived.Laws.AppendOwn
import Derived.Laws.AppendOwnNone
import Derived.Shelf.SlIterI.Stops
import Derived.RangeFuncCalls
import Derived.RangeFuncLeaves
import Derived.RangeFuncBox
import Derived.Maps.AppendAt
import Derived.Shelf.Abstract
import Derived.OwnWalkIn
import Derived.TacticsInMore
import Derived.LoopNIn
import Derived.LoopIn
set_option linter.unusedVariables false
set_option linter.unusedSimpArgs false
set_option maxRecDepth 100000
set_option maxHeartbeats 16000000
section
namespace Go.Proofs.Ytmmahgfijiocfaa
open Go.RowKit Fg Reg Go.Maps
attribute [local irreducible] Reg.wE VR
theorem nil_del (x : Int) (ty : TypeId) (w : World) : (Builtin.delete_ #[73, 3] ty #[.map none, .int .i64 x]).run Try.prog w = .ok (.tuple #[]) w := by kernel_rfl
theorem AS.chg {z v : World} {B p mb cb : Nat} {mem : Int → Option (Int × Bool)} {F : Int → Option Nat} {A : Int → Option (List Int)} (h : AS z B p mb cb mem F A) (hs : z.heap.size ≤ v.heap.size) (hp : v.heap[p]? = z.heap[p]?) (hm : v.heap[mb]? = z.heap[mb]?) {F2 : Int → Option Nat} {A2 : Int → Option (List Int)} (hac : AKC v cb (fun k => k = mb ∨ k = p ∨ k < B) F2 A2) : AS v B p mb cb mem F2 A2 := by
 obtain ⟨n, hn⟩ := h.mp
 exact ⟨(World.cell?_of_block hp).trans h.c0, (World.cell?_of_block hp).trans h.c1, Nat.lt_of_lt_of_le h.lt hs, h.nm, h.nc, h.mc, h.bc, ⟨n, hn.frame hm⟩, hac⟩
def rmA (id : Int) (K : List Int) : List Int := K.filter (fun y => decide (y ≠ id))
theorem sv_del (id : Int) (K : List Int) : mdel (sv K) id = sv (rmA id K) := by
 funext x
 unfold mdel sv rmA
 by_cases h : x = id
 ·rw [if_pos h, if_neg (by simp [h])]
 ·rw [if_neg h]
  by_cases hk : x ∈ K
  ·rw [if_pos hk, if_pos (by simp [h, hk])]
  ·rw [if_neg hk, if_neg (by simp [hk])]
theorem AKC.put2 {z v : World} {cb : Nat} {lo : Nat → Prop} {F : Int → Option Nat} {A : Int → Option (List Int)} (h : AKC z cb lo F A) {par : Int} {b : Nat} {K K2 : List Int} (hF : F par = some b) (hA : A par = some K) (hs : K2.Pairwise (· < ·)) (hu : ∃ n, Mp ikv uv iok (sv K2) n v b) (ho : Only (fun k => k = b) z v) : AKC v cb lo F (upd A par K2) := by
 obtain ⟨n, hn⟩ := h.mp
 obtain ⟨h1, h2, h3⟩ := h.inn par b K hF hA
 refine ⟨⟨n, hn.frame (ho.5 cb hn.lt (fun e => h2 e.symm))⟩, fun x => ?_, fun x b2 K3 e1 e2 => ?_, h.inj, fun x K3 e2 => ?_⟩
 ·unfold upd
  by_cases hx : x = par
  ·rw [if_pos hx, hx, hF]; rfl
  ·rw [if_neg hx]; exact h.dom x
 ·unfold upd at e2
  by_cases hx : x = par
  ·rw [if_pos hx] at e2
   injection e2 with e2
   subst hx e2
   rw [hF] at e1
   injection e1 with e1
   subst e1
   exact ⟨hu, h2, h3⟩
  ·rw [if_neg hx] at e2
   obtain ⟨⟨m, hm⟩, h4, h5⟩ := h.inn x b2 K3 e1 e2
   exact ⟨⟨m, hm.frame (ho.5 b2 hm.lt (fun e => hx (h.inj x par b2 e1 (by rw [e]; exact hF))))⟩, h4, h5⟩
 ·unfold upd at e2
  by_cases hx : x = par
  ·rw [if_pos hx] at e2
   injection e2 with e2
   rw [← e2]
   exact hs
  ·rw [if_neg hx] at e2
   exact h.srt x K3 e2
theorem AKC.del {z v : World} {cb : Nat} {lo : Nat → Prop} {F : Int → Option Nat} {A : Int → Option (List Int)} (h : AKC z cb lo F A) {par : Int} (hc : ∃ n, Mp ikv bv iok (mdel F par) n v cb) (ho : Only (fun k => k = cb) z v) : AKC v cb lo (mdel F par) (mdel A par) := by
 refine ⟨hc, fun x => ?_, fun x b2 K2 e1 e2 => ?_, fun x y b2 e1 e2 => ?_, fun x K2 e2 => ?_⟩
 ·unfold mdel
  by_cases hx : x = par
  ·rw [if_pos hx, if_pos hx]; rfl
  ·rw [if_neg hx, if_neg hx]; exact h.dom x
 ·unfold mdel at e1 e2
  by_cases hx : x = par
  ·rw [if_pos hx] at e1; cases e1
  ·rw [if_neg hx] at e1 e2
   obtain ⟨⟨m, hm⟩, h4, h5⟩ := h.inn x b2 K2 e1 e2
   exact ⟨⟨m, hm.frame (ho.5 b2 hm.lt h4)⟩, h4, h5⟩
 ·unfold mdel at e1 e2
  by_cases hx : x = par
  ·rw [if_pos hx] at e1; cases e1
  ·by_cases hy : y = par
   ·rw [if_pos hy] at e2; cases e2
   ·rw [if_neg hx] at e1
    rw [if_neg hy] at e2
    exact h.inj x y b2 e1 e2
 ·unfold mdel at e2
  by_cases hx : x = par
  ·rw [if_pos hx] at e2; cases e2
  ·rw [if_neg hx] at e2
   exact h.srt x K2 e2
theorem AS.del {z v : World} {B p mb cb : Nat} {mem : Int → Option (Int × Bool)} {F : Int → Option Nat} {A : Int → Option (List Int)} (h : AS z B p mb cb mem F A) {par : Int} (hc : ∃ n, Mp ikv bv iok (mdel F par) n v cb) (ho : Only (fun k => k = cb) z v) : AS v B p mb cb mem (mdel F par) (mdel A par) :=
 h.chg ho.4 (ho.5 p h.lt (fun e => h.nc e.symm)) (ho.5 mb h.mlt h.mc) (h.ch.del hc ho)
theorem AS.put2 {z v : World} {B p mb cb : Nat} {mem : Int → Option (Int × Bool)} {F : Int → Option Nat} {A : Int → Option (List Int)} (h : AS z B p mb cb mem F A) {par : Int} {b : Nat} {K K2 : List Int} (hF : F par = some b) (hA : A par = some K) (hs : K2.Pairwise (· < ·)) (hu : ∃ n, Mp ikv uv iok (sv K2) n v b) (ho : Only (fun k => k = b) z v) : AS v B p mb cb mem F (upd A par K2) := by
 have hlo := (h.ch.inn par b K hF hA).2.2
 exact h.chg ho.4 (ho.5 p h.lt (fun e => hlo (.inr (.inl e.symm)))) (ho.5 mb h.mlt (fun e => hlo (.inl e.symm))) (h.ch.put2 hF hA hs hu ho)
theorem mdel_upd (A : Int → Option (List Int)) (x : Int) (K : List Int) : mdel (upd A x K) x = mdel A x := by
 funext y
 unfold mdel upd
 by_cases h : y = x
 ·rw [if_pos h, if_pos h]
 ·rw [if_neg h, if_neg h, if_neg h]
def chA0 (A : Int → Option (List Int)) (id : Int) : List Int := (A id).getD []
def offR (mem : Int → Option (Int × Bool)) : Nat → (Int → Option (List Int)) → Int → List Int × (Int → Option (List Int))
 | 0, A, _ => ([], A)
 | n + 1, A, id => if id = 0 then ([], A) else if 0 < (rmA id (chA0 A (parM mem id))).length then ([id], upd A (parM mem id) (rmA id (chA0 A (parM mem id))))
  else (id :: (offR mem n (mdel A (parM mem id)) (parM mem id)).1, (offR mem n (mdel A (parM mem id)) (parM mem id)).2)
theorem offR_zero (mem : Int → Option (Int × Bool)) (n : Nat) (A : Int → Option (List Int)) : offR mem n A 0 = ([], A) := by
 cases n with
 | zero => rfl
 | succ n => unfold offR; rw [if_pos rfl]
theorem offR_more {mem : Int → Option (Int × Bool)} {n : Nat} {A : Int → Option (List Int)} {id : Int} (h0 : id ≠ 0) (h : 0 < (rmA id (chA0 A (parM mem id))).length) : offR mem (n + 1) A id = ([id], upd A (parM mem id) (rmA id (chA0 A (parM mem id)))) := by
 show (if id = 0 then _ else _) = _
 rw [if_neg h0, if_pos h]
theorem offR_last {mem : Int → Option (Int × Bool)} {n : Nat} {A : Int → Option (List Int)} {id : Int} (h0 : id ≠ 0) (h : ¬ 0 < (rmA id (chA0 A (parM mem id))).length) : offR mem (n + 1) A id = (id :: (offR mem n (mdel A (parM mem id)) (parM mem id)).1, (offR mem n (mdel A (parM mem id)) (parM mem id)).2) := by
 show (if id = 0 then _ else _) = _
 rw [if_neg h0, if_neg h]
theorem aof_ok {z : World} {B p mb cb : Nat} {mem : Int → Option (Int × Bool)} {F : Int → Option Nat} {A : Int → Option (List Int)} (h : AS z B p mb cb mem F A) (hm : ∀ x m, mem x = some m → iok m.1) {leaf : Int} (hi : iok leaf) (hl : lfM mem leaf = true) (hs : isA mem A leaf = true) (hfin : finM mem 17 leaf = true) :
  Calls Try.prog 11 #[.pointer (some ⟨p, 0, none⟩), .int .i64 leaf] z (OnP B p mb cb mem z (offR mem 17 A leaf).1 (offR mem 17 A leaf).2) := by
 obtain ⟨ii, ci0, cz0, cz1, cz2⟩ := int_partsA
 have CI0 := Lib.hid ci0
 have CZ0 := Lib.hid cz0
 have CZ1 := Lib.hid cz1
 have CZ2 := Lib.hid cz2
 have KI := Lib.hid (ais_c h hm hi)
 rw [hs] at KI
 have c0 := h.c0
 have c1 := h.c1
 have lt := h.lt
 have lk := lkm h hi
 rw [hl] at lk
 have f1 := mf1
 have f0 := mf0
 have nd0 := nil_del
 have nl0 := nil_len
 obtain ⟨R, hR⟩ : ∃ R, offR mem 17 A leaf = R := ⟨_, rfl⟩
 rw [hR]
 have HRR := Lib.hid hR
 have HA0 := Lib.hid h
 have HPB : Hid (p < z.heap.size) := Lib.hid lt
 have HMP := Lib.hid (show ∀ x, iok (parM mem x) from fun x => by
  unfold parM
  cases hx : mem x with
  | none => rfl
  | some m => exact hm x m hx)
 have HI := Lib.hid hi
 have HFI := Lib.hid hfin
 clear h hl hi hm hs hR hfin ci0 cz0 cz1 cz2
 go_enter Try.func11, Try.ntmps11
 go_wp2_with (first | go_guarded | (go_at_call 22; (with_reducible refine KI.out.mono ?_); rintro _ w1 ⟨rfl, hbel⟩; have HB1 := Lib.hid hbel; have HA1 := Lib.hid (HA0.out.below hbel); have HO1 := Lib.hid (OM.of_below hbel : OM B z w1); clear hbel c0 c1 lt lk))
 try go_frame
 go_loopg [6, 7] 17 (fun k9 s6 s7 wr => ∃ (m k : Nat) (id : Int) (F1 : Int → Option Nat) (A1 : Int → Option (List Int)) (done : List Int) (oo : Option Addr) (c : Nat), s6 = .slice oo k c ∧ s7 = .int .i64 id ∧ done.length = k ∧ wr.ownsRow z.heap.size 3 1 (.slice oo k c) k (done.map (Value.int .i64)) ∧ AS wr B p mb cb mem F1 A1 ∧ OM B z wr ∧ finM mem m id = true ∧ iok id ∧ done ++ (offR mem m A1 id).1 = R.1 ∧ (offR mem m A1 id).2 = R.2 ∧ k + m = 17 ∧ m ≤ k9)
 case atStart => exact ⟨17, 0, leaf, F, A, [], none, 0, rfl, rfl, rfl, World.ownsRow_nil _ _ _ _, HA1.out, HO1.out, HFI.out, HI.out, by rw [HRR.out]; rfl, by rw [HRR.out], rfl, Nat.le_refl _⟩
 case round =>
  obtain ⟨m, k, id, F1, A1, done, oo, c, rfl, rfl, hdl, hO, hA, hM, hfi, hid, hr1, hr2, hkm, hk9⟩ := hrel
  have HO := Lib.hid hO
  have HA := Lib.hid hA
  have HOM := Lib.hid hM
  have HDL := Lib.hid hdl
  have HIK := Lib.hid hid
  by_cases h0 : id = 0
  ·subst h0
   rw [offR_zero] at hr1 hr2
   have HR1 : Hid (done = R.1) := Lib.hid (by rw [← hr1, List.append_nil])
   have HR2 := Lib.hid hr2
   clear hO hA hM hfi hid hr1 hr2 hdl
   go_wp2_with (first | go_guarded)
   refine bodyPost_ret (v := .tuple #[.slice oo k c, .int .i64 0]) (by simp [results, Try.results11, go_sem, *]) rfl ?_
   exact ⟨_, F1, rfl, by rw [← HR1.out, HDL.out]; exact HO.out, by rw [← HR2.out]; exact HA.out, HOM.out⟩
  ·have q0 : (id != 0) = true := by simpa using h0
   cases m with
   | zero => exact absurd (by simpa [finM] using hfi) h0
   | succ m =>
    have hfi2 : finM mem m (parM mem id) = true := by
     unfold finM at hfi
     simpa [h0] using hfi
    have hidk := hid
    have hpk := HMP.out id
    cases hK : A1 (parM mem id) with
    | some K =>
     have hch : chA0 A1 (parM mem id) = K := by unfold chA0; rw [hK]; rfl
     obtain ⟨b, hb⟩ : ∃ b, F1 (parM mem id) = some b := Option.isSome_iff_exists.1 (by rw [hA.ch.dom, hK]; rfl)
     have hKs : (rmA id K).Pairwise (· < ·) := (hA.ch.srt _ K hK).filter _
     obtain ⟨q, hq⟩ : ∃ q, (rmA id K).length = q := ⟨_, rfl⟩
     obtain ⟨par, hpe⟩ : ∃ q, parM mem id = q := ⟨_, rfl⟩
     have lkm2 := fun (wz : World) (A2 : Int → Option (List Int)) (ha : AS wz B p mb cb mem F1 A2) => lkm ha hidk
     rw [hpe] at lkm2 hb hK hch hpk hfi2
     have lkc2 : ∀ wz A2, AS wz B p mb cb mem F1 A2 → (Instr.lookup 65 (.map (some cb)) (.int .i64 par) false).run Try.prog wz = .ok (.map (some b)) wz := fun wz A2 ha => by
      have := lkc ha hpk
      rw [hb] at this
      exact this
     have HL1 := Lib.hid lkm2
     have HL2 := Lib.hid lkc2
     have HPK := Lib.hid hpk
     have HF2 := Lib.hid hfi2
     have HIN := Lib.hid (fun (wz : World) (ha : AS wz B p mb cb mem F1 A1) => ha.ch.inn par b K hb hK)
     have hBb : B ≤ b := by have := (hA.ch.inn par b K hb hK).2.2; omega
     have HPUT : Hid (∀ wz wv, AS wz B p mb cb mem F1 A1 → (∃ n, Mp ikv uv iok (mdel (sv K) id) n wv b) → Only (fun k => k = b) wz wv → AS wv B p mb cb mem F1 (upd A1 par (rmA id K))) := Lib.hid (fun wz wv ha hu ho => ha.put2 hb hK hKs (by rw [sv_del] at hu; exact hu) ho)
     have HLEN : Hid (∀ wz, AS wz B p mb cb mem F1 (upd A1 par (rmA id K)) → ∀ ty, (Builtin.len_ #[73] ty #[.map (some b)]).run Try.prog wz = .ok (.int .i64 q) wz) := Lib.hid (fun wz ha ty => by
      have h1 : upd A1 par (rmA id K) par = some (rmA id K) := by unfold upd; rw [if_pos rfl]
      have := in_len (ndA hKs) (ha.ch.inn par b _ hb h1).1 ty
      rw [hq] at this
      exact this)
     by_cases hq0 : 0 < q
     ·have hq1 : decide ((0 : Int) < (q : Int)) = true := decide_eq_true (by omega)
      rw [offR_more h0 (by rw [hpe, hch, hq]; exact hq0), hpe, hch] at hr1 hr2
      have HR1 := Lib.hid hr1
      have HR2 := Lib.hid hr2
      clear hO hA hM hfi hid hr1 hr2 hdl hfi2 lkm2 lkc2 hidk hpk hb hK hpe h0 hch hKs hq
      go_wp2_with (first
      | go_guarded
      | (at_builtin; refine wpList_append_own _ rfl _ _ 31 rfl z.heap.size 3 ii _ 1 8 Try.underlying31 CI0.out CZ0.out CZ1.out CZ2.out rfl (by decide) (.slice oo k c) _ _ rfl (World.ownsRow.alloc HO.out _) ⟨_, 0, none⟩ 1 1 [.int .i64 id] rfl rfl ?c1 ?c2 ?c3 ?c4 ?c5 ?_; (case c1 => (intro q u hu; (rcases q with _ | q <;> simp at hu <;> (try subst hu) <;> simp [Addr.add, go_sem, *]))); (case c2 => (intro v hv; simp at hv; (first | (subst hv; rfl) | (rcases hv with rfl <;> rfl)))); (case c3 => (unfold maxLen; omega)); (case c4 => omega); (case c5 => (have := HOM.out.size; simp; omega)); intro v2 z2 hown2 hg2 _; (have HA2 := Lib.hid ((HA.out.below (Below.alloc (Below.refl _ _) (Nat.le_refl _) _)).grown hg2 (World.ownsRow.alloc HO.out _) HPB.out)); (have HOM2 := Lib.hid ((HOM.out.trans2 (Below.alloc (Below.refl _ _) (Nat.le_refl _) _)).grown hg2 (fun q hq => (HO.out.lt q hq).1))); have HL3 := HL1; obtain ⟨a2, c2, rfl⟩ := row_form hown2; (have HO2 := Lib.hid hown2); have c0 := HA2.out.c0; have c1 := HA2.out.c1; have lt := HA2.out.lt; have lk1 := HL1.out z2 _ HA2.out; have lk2 := HL2.out z2 _ HA2.out; clear hown2 hg2)
      | (obtain ⟨⟨n6, hmp6⟩, hbc6, hlo6⟩ := HIN.out z2 HA2.out; refine wpList_delete_mp _ rfl _ _ _ _ rfl ikok ikv_inj Try.underlying73 b n6 rfl hmp6 id HIK.out rfl ?_; intro w5 hu5 ho5 hs5; have HA5 := Lib.hid (HPUT.out z2 w5 HA2.out ⟨n6, hu5⟩ ho5); have HOM5 := Lib.hid (HOM2.out.put hmp6.kind (by omega) ho5); have HO5 := Lib.hid (own_put HO2.out hmp6.kind ho5); have c0 := HA5.out.c0; have c1 := HA5.out.c1; have lt := HA5.out.lt; have lk3 := HL2.out w5 _ HA5.out; have hn5 := HLEN.out w5 HA5.out; clear hu5 ho5 hs5 hmp6 hbc6 hlo6))
      refine bodyPost_ret (v := .tuple #[.slice a2 (k + 1) c2, .int .i64 0]) (by simp [results, Try.results11, go_sem, *]) rfl ?_
      refine ⟨_, F1, rfl, ?_, by rw [← HR2.out]; exact HA5.out, HOM5.out⟩
      rw [← HR1.out, List.length_append, HDL.out, List.map_append]
      exact HO5.out
     ·have hq1 : decide ((0 : Int) < (q : Int)) = false := decide_eq_false (by omega)
      rw [offR_last h0 (by rw [hpe, hch, hq]; exact hq0), hpe] at hr1 hr2
      have HR1 := Lib.hid (show (done ++ [id]) ++ (offR mem m (mdel A1 par) par).1 = R.1 by rw [List.append_assoc]; exact hr1)
      have HR2 := Lib.hid hr2
      clear hO hA hM hfi hid hr1 hr2 hdl hfi2 lkm2 lkc2 hidk hpk hb hK hpe h0 hch hKs hq
      go_wp2_with (first
      | go_guarded
      | (at_builtin; refine wpList_append_own _ rfl _ _ 31 rfl z.heap.size 3 ii _ 1 8 Try.underlying31 CI0.out CZ0.out CZ1.out CZ2.out rfl (by decide) (.slice oo k c) _ _ rfl (World.ownsRow.alloc HO.out _) ⟨_, 0, none⟩ 1 1 [.int .i64 id] rfl rfl ?c1 ?c2 ?c3 ?c4 ?c5 ?_; (case c1 => (intro q u hu; (rcases q with _ | q <;> simp at hu <;> (try subst hu) <;> simp [Addr.add, go_sem, *]))); (case c2 => (intro v hv; simp at hv; (first | (subst hv; rfl) | (rcases hv with rfl <;> rfl)))); (case c3 => (unfold maxLen; omega)); (case c4 => omega); (case c5 => (have := HOM.out.size; simp; omega)); intro v2 z2 hown2 hg2 _; (have HA2 := Lib.hid ((HA.out.below (Below.alloc (Below.refl _ _) (Nat.le_refl _) _)).grown hg2 (World.ownsRow.alloc HO.out _) HPB.out)); (have HOM2 := Lib.hid ((HOM.out.trans2 (Below.alloc (Below.refl _ _) (Nat.le_refl _) _)).grown hg2 (fun q hq => (HO.out.lt q hq).1))); have HL3 := HL1; obtain ⟨a2, c2, rfl⟩ := row_form hown2; (have HO2 := Lib.hid hown2); have c0 := HA2.out.c0; have c1 := HA2.out.c1; have lt := HA2.out.lt; have lk1 := HL1.out z2 _ HA2.out; have lk2 := HL2.out z2 _ HA2.out; clear hown2 hg2)
      | (obtain ⟨⟨n6, hmp6⟩, hbc6, hlo6⟩ := HIN.out z2 HA2.out; refine wpList_delete_mp _ rfl _ _ _ _ rfl ikok ikv_inj Try.underlying73 b n6 rfl hmp6 id HIK.out rfl ?_; intro w5 hu5 ho5 hs5; have HA5 := Lib.hid (HPUT.out z2 w5 HA2.out ⟨n6, hu5⟩ ho5); have HOM5 := Lib.hid (HOM2.out.put hmp6.kind (by omega) ho5); have HO5 := Lib.hid (own_put HO2.out hmp6.kind ho5); have c0 := HA5.out.c0; have c1 := HA5.out.c1; have lt := HA5.out.lt; have lk3 := HL2.out w5 _ HA5.out; have hn5 := HLEN.out w5 HA5.out; clear hu5 ho5 hs5 hmp6 hbc6 hlo6)
      | (obtain ⟨n7, hc7⟩ := HA5.out.ch.mp; refine wpList_delete_mp _ rfl _ _ _ _ rfl ikok ikv_inj Try.underlying65 cb n7 rfl hc7 par HPK.out rfl ?_; intro w6 hu6 ho6 hs6; have HA6 := Lib.hid (HA5.out.del ⟨n7, hu6⟩ ho6); have HOM6 := Lib.hid (HOM5.out.put hc7.kind HA5.out.bc ho6); have HO6 := Lib.hid (own_put HO5.out hc7.kind ho6); clear hu6 ho6 hs6 hc7))
      have HDL2 : Hid ((done ++ [id]).length = k + 1) := Lib.hid (by rw [List.length_append, HDL.out]; rfl)
      go_roundg m
      case rel => exact ⟨m, k + 1, par, _, _, done ++ [id], a2, c2, rfl, rfl, HDL2.out, by rw [List.map_append]; exact HO6.out, by rw [← mdel_upd A1 par (rmA id K)]; exact HA6.out, HOM6.out, HF2.out, HPK.out, HR1.out, HR2.out, by omega, Nat.le_refl _⟩
      case measure => omega
    | none =>
     have hch : chA0 A1 (parM mem id) = [] := by unfold chA0; rw [hK]; rfl
     have hb : F1 (parM mem id) = none := by have := hA.ch.dom (parM mem id); rw [hK] at this; simpa using this
     rw [offR_last h0 (by rw [hch]; simp [rmA])] at hr1 hr2
     obtain ⟨par, hpe⟩ : ∃ q, parM mem id = q := ⟨_, rfl⟩
     have lkm2 := fun (wz : World) (A2 : Int → Option (List Int)) (ha : AS wz B p mb cb mem F1 A2) => lkm ha hidk
     rw [hpe] at lkm2 hb hK hr1 hr2 hpk hfi2
     have lkc2 : ∀ wz A2, AS wz B p mb cb mem F1 A2 → (Instr.lookup 65 (.map (some cb)) (.int .i64 par) false).run Try.prog wz = .ok (.map none) wz := fun wz A2 ha => by
      have := lkc ha hpk
      rw [hb] at this
      exact this
     have HL1 := Lib.hid lkm2
     have HL2 := Lib.hid lkc2
     have HPK := Lib.hid hpk
     have HF2 := Lib.hid hfi2
     have HR1 := Lib.hid (show (done ++ [id]) ++ (offR mem m (mdel A1 par) par).1 = R.1 by rw [List.append_assoc]; exact hr1)
     have HR2 := Lib.hid hr2
     clear hO hA hM hfi hid hr1 hr2 hdl hfi2 lkm2 lkc2 hidk hpk hb hK hpe h0 hch
     go_wp2_with (first
      | go_guarded
      | (at_builtin; refine wpList_append_own _ rfl _ _ 31 rfl z.heap.size 3 ii _ 1 8 Try.underlying31 CI0.out CZ0.out CZ1.out CZ2.out rfl (by decide) (.slice oo k c) _ _ rfl (World.ownsRow.alloc HO.out _) ⟨_, 0, none⟩ 1 1 [.int .i64 id] rfl rfl ?c1 ?c2 ?c3 ?c4 ?c5 ?_; (case c1 => (intro q u hu; (rcases q with _ | q <;> simp at hu <;> (try subst hu) <;> simp [Addr.add, go_sem, *]))); (case c2 => (intro v hv; simp at hv; (first | (subst hv; rfl) | (rcases hv with rfl <;> rfl)))); (case c3 => (unfold maxLen; omega)); (case c4 => omega); (case c5 => (have := HOM.out.size; simp; omega)); intro v2 z2 hown2 hg2 _; (have HA2 := Lib.hid ((HA.out.below (Below.alloc (Below.refl _ _) (Nat.le_refl _) _)).grown hg2 (World.ownsRow.alloc HO.out _) HPB.out)); (have HOM2 := Lib.hid ((HOM.out.trans2 (Below.alloc (Below.refl _ _) (Nat.le_refl _) _)).grown hg2 (fun q hq => (HO.out.lt q hq).1))); have HL3 := HL1; obtain ⟨a2, c2, rfl⟩ := row_form hown2; (have HO2 := Lib.hid hown2); have c0 := HA2.out.c0; have c1 := HA2.out.c1; have lt := HA2.out.lt; have lk1 := HL1.out z2 _ HA2.out; have lk2 := HL2.out z2 _ HA2.out; clear hown2 hg2)
      | (obtain ⟨n7, hc7⟩ := HA2.out.ch.mp; refine wpList_delete_mp _ rfl _ _ _ _ rfl ikok ikv_inj Try.underlying65 cb n7 rfl hc7 par HPK.out rfl ?_; intro w6 hu6 ho6 hs6; have HA6 := Lib.hid (HA2.out.del ⟨n7, hu6⟩ ho6); have HOM6 := Lib.hid (HOM2.out.put hc7.kind HA2.out.bc ho6); have HO6 := Lib.hid (own_put HO2.out hc7.kind ho6); clear hu6 ho6 hs6 hc7))
     have HDL2 : Hid ((done ++ [id]).length = k + 1) := Lib.hid (by rw [List.length_append, HDL.out]; rfl)
     go_roundg m
     case rel => exact ⟨m, k + 1, par, _, _, done ++ [id], a2, c2, rfl, rfl, HDL2.out, by rw [List.map_append]; exact HO6.out, HA6.out, HOM6.out, HF2.out, HPK.out, HR1.out, HR2.out, by omega, Nat.le_refl _⟩
     case measure => omega
end Go.Proofs.Ytmmahgfijiocfaa
end
section
namespace Go.Proofs.Ytmmahgfijiocfaa
open Go.Shelf
def keysK_ren : Go.Shelf.Ren := ⟨fun | 7 => 41 | 10 => 67 | n => n, fun | 23 => 73 | 26 => 3 | 3 => 75 | 28 => 81 | 0 => 0 | 27 => 80 | 33 => 47 | 4 => 4 | n => n, fun | n => n⟩
theorem keysK : Go.Proofs.SlLaysZI.n7 Try.prog keysK_ren := {
 mixed := by kernel_rfl
 f7 := ⟨Try.f41.name, by decide, Try.func41.trans (congrArg some (by kernel_rfl))⟩
 f10 := ⟨Try.f67.name, by decide, Try.func67.trans (congrArg some (by kernel_rfl))⟩
 t0 := Try.underlying0
 a0 := Try.isAgg0
 z0 := Try.sizeOf0
 v0 := Try.zeroValue0
 t4 := Try.underlying4
 a4 := Try.isAgg4
 z4 := Try.sizeOf4
 v4 := Try.zeroValue4
 t23 := Try.underlying73
 a23 := Try.isAgg73
 z23 := Try.sizeOf73
 v23 := Try.zeroValue73
 t26 := Try.underlying3
 a26 := Try.isAgg3
 z26 := Try.sizeOf3
 v26 := Try.zeroValue3
 t27 := Try.underlying80
 a27 := Try.isAgg80
 z27 := Try.sizeOf80
 v27 := Try.zeroValue80
 t28 := Try.underlying81
 a28 := Try.isAgg81
 z28 := Try.sizeOf81
 v28 := Try.zeroValue81
 t33 := Try.underlying47
 a33 := Try.isAgg47
 z33 := Try.sizeOf47
 v33 := Try.zeroValue47 }
def sortedK_ren : Go.Shelf.Ren := ⟨fun | 6 => 46 | 8 => 71 | 9 => 42 | 11 => 40 | 13 => 69 | 12 => 68 | 23 => 92 | 24 => 93 | 14 => 83 | 15 => 84 | 16 => 85 | 17 => 86 | 18 => 87 | 19 => 88 | 20 => 89 | 21 => 90 | 22 => 91 | 25 => 96 | 26 => 97 | 27 => 98 | 28 => 99 | 29 => 100 | 30 => 101 | 31 => 102 | n => n, fun | 26 => 3 | 28 => 81 | 24 => 31 | 0 => 0 | 3 => 3 | 37 => 114 | 48 => 133 | 50 => 50 | 4 => 4 | 40 => 125 | 39 => 124 | 45 => 130 | 5 => 5 | 9 => 9 | 51 => 136 | 55 => 140 | 57 => 142 | 58 => 143 | 33 => 47 | n => n, fun | n => n⟩
theorem sortedK : Go.Proofs.SlLaysZI.n6 Try.prog sortedK_ren := {
 mixed := by kernel_rfl
 f6 := ⟨Try.f46.name, by decide, Try.func46.trans (congrArg some (by kernel_rfl))⟩
 f8 := ⟨Try.f71.name, by decide, Try.func71.trans (congrArg some (by kernel_rfl))⟩
 f11 := ⟨Try.f40.name, by decide, Try.func40.trans (congrArg some (by kernel_rfl))⟩
 t0 := Try.underlying0
 a0 := Try.isAgg0
 z0 := Try.sizeOf0
 v0 := Try.zeroValue0
 t24 := Try.underlying31
 a24 := Try.isAgg31
 z24 := Try.sizeOf31
 v24 := Try.zeroValue31
 t26 := Try.underlying3
 a26 := Try.isAgg3
 z26 := Try.sizeOf3
 v26 := Try.zeroValue3
 t28 := Try.underlying81
 a28 := Try.isAgg81
 z28 := Try.sizeOf81
 v28 := Try.zeroValue81
 i26 := by kernel_rfl }
end Go.Proofs.Ytmmahgfijiocfaa
end
section
namespace Go.Proofs.Ytmmahgfijiocfaa
open Go.RowKit Fg Reg Go.Maps Go.Sort Go.Shelf
attribute [local irreducible] Reg.wE VR
theorem sortsK (m : Nat) : AnyZI.SortsIn Try.prog sortedK_ren Fence.wide m :=
 ⟨fun blk off cap ss W hH hblk hsz => callsIn_wide.2 (AnyM.slices_Sort_int sortA blk off cap ss W hH hblk hsz),
  fun p cap W => callsIn_wide.2 (AnyM.slices_Sort_int_none sortA p cap W)⟩
theorem keysK_c (mb : Option Nat) (W : World) : Calls Try.prog 41 #[.map mb] W fun e w' => e = .returned (.func (.func 67) #[] #[.pointer (some ⟨W.heap.size, 0, none⟩)]) ∧ w' = W.alloc (.cells #[.map mb] 73) :=
 (callsIn_wide (n := 5)).1 (AnyZI.keys_in keysK Fence.wide 5 trivial rfl mb W)
theorem sortedKm_c {H : Type} (b nn : Nat) (D0 : DataW H) (R : Value → Option (DataW H × List MemPlace)) (w : World) (hown : w.ownsMap Try.prog 3 R b nn D0) (hmax : Maps.size D0 ≤ maxLen) (hbytes : Maps.size D0 * 8 ≤ 140737488355328) :
  Calls Try.prog 46 #[.func (.func 67) #[] #[.pointer (some ⟨w.heap.size, 0, none⟩)]] (w.alloc (.cells #[.map (some b)] 73)) fun e w' => ∃ (v : Value) (ss : List Int), e = .returned v ∧ ss.Perm (intKeys D0) ∧
   w'.ownsRow w.heap.size 3 1 v ss.length ((ss.mergeSort (fun x y => decide (x ≤ y))).map encZ) ∧ (v = .slice none 0 0 ↔ ss = []) ∧ Below w.heap.size w w' := by
 have hbl := hown.lt
 have hseq : SeqGives Fence.wide 2 Try.prog 67 #[.pointer (some ⟨w.heap.size, 0, none⟩)] encZ (fun ss => ss.Perm (intKeys D0)) (Maps.size D0) (w.alloc (.cells #[.map (some b)] 73)) :=
  AnyZI.keys_gives (ρ := keysK_ren) { keysK with } Fence.wide _ trivial rfl (by omega) w.heap.size b nn D0 _ (by simp) (by simp) (by
   obtain ⟨es, clock, hb, Ft, hs, hD⟩ := hown
   exact ⟨es, clock, (Below.heap_alloc _ _ b hbl).trans hb, Ft, hs, hD⟩)
 have cS := AnyZI.sorted_in sortedK Fence.wide 5 trivial trivial trivial trivial rfl (by omega) (sortsK _) (enters_of Try.func42 (by kernel_rfl) rfl) 67 #[.pointer (some ⟨w.heap.size, 0, none⟩)] trivial (enters_of Try.func67 (by kernel_rfl) rfl) _ _ hmax hbytes _ hseq
 refine ((callsIn_wide (n := 5)).1 cS).mono ?_
 rintro e w' ⟨v, ss, rfl, hS, hrow, hnil, hb⟩
 exact ⟨v, ss, rfl, hS, ownsRow_base_a hrow (by simp), hnil, ((Below.refl _ w).alloc (Nat.le_refl _) _).trans (hb.mono (by simp))⟩
theorem sortedKn_c (w : World) : Calls Try.prog 46 #[.func (.func 67) #[] #[.pointer (some ⟨w.heap.size, 0, none⟩)]] (w.alloc (.cells #[.map none] 73)) fun e w' => ∃ v, e = .returned v ∧ w'.ownsRow w.heap.size 3 1 v 0 [] ∧ Below w.heap.size w w' := by
 have hseq : SeqGives Fence.wide 2 Try.prog 67 #[.pointer (some ⟨w.heap.size, 0, none⟩)] encZ (fun ss : List Int => ss = []) 0 (w.alloc (.cells #[.map none] 73)) :=
  AnyZI.keys_gives_nil (ρ := keysK_ren) { keysK with } Fence.wide _ trivial rfl w.heap.size _ (by simp) (by simp)
 have cS := AnyZI.sorted_in sortedK Fence.wide 5 trivial trivial trivial trivial rfl (by omega) (sortsK _) (enters_of Try.func42 (by kernel_rfl) rfl) 67 #[.pointer (some ⟨w.heap.size, 0, none⟩)] trivial (enters_of Try.func67 (by kernel_rfl) rfl) _ _ (by decide) (by decide) _ hseq
 refine ((callsIn_wide (n := 5)).1 cS).mono ?_
 rintro e w' ⟨v, ss, rfl, rfl, hrow, hnil, hb⟩
 have hr := ownsRow_base_a hrow (show w.heap.size ≤ _ by simp)
 rw [List.mergeSort_nil] at hr
 exact ⟨v, rfl, hr, ((Below.refl _ w).alloc (Nat.le_refl _) _).trans (hb.mono (by simp))⟩
theorem Mp.ownsK {ν : Type} {vv : ν → Value} {f : Int → Option ν} {n : Nat} {w : World} {b : Nat} (hn : n ≤ maxLen) (h : Mp ikv vv iok f n w b) :
  ∃ (D : DataW Unit), w.ownsMap Try.prog 3 (fun _ => some (DataW.nil, [])) b n D ∧ Maps.size D ≤ n ∧ (∀ x, x ∈ intKeys D ↔ (f x).isSome = true) ∧ (intKeys D).Nodup := by
 obtain ⟨es, clock, hb, hE⟩ := h
 have hrd : ∀ e ∈ es.toList, ∃ x v, f x = some v ∧ e.key = ikv x ∧ WideElems.rd Try.prog 3 (fun _ => some (DataW.nil (H := Unit), [])) e = some (.int .i64 x, .nil) := fun e he => by
  obtain ⟨x, v, hx, h1, h2, h3⟩ := hE.ent e he
  refine ⟨x, v, h3, h1, ?_⟩
  unfold WideElems.rd
  rw [h1, show ikv x = Value.int .i64 x from rfl, keyOf_int_mk Try.underlying3 hx]
  rfl
 have F : WideElems.Fit Try.prog 3 (fun _ => some (DataW.nil (H := Unit), [])) es clock := ⟨Nat.le_trans hE.size hn, hE.stamped, fun e he => by obtain ⟨x, v, _, _, h⟩ := hrd e he; exact ⟨_, h⟩⟩
 refine ⟨_, ⟨es, clock, hb, F, hE.size, rfl⟩, ?_, ?_, ?_⟩
 ·show List.length _ ≤ n
  rw [length_sorted]
  simpa using hE.size
 ·intro x
  have hp := (WideShapes.sorted_perm (es.toList.map (WideElems.rg Try.prog 3 (fun _ => some (DataW.nil (H := Unit), []))))).map (fun p => _root_.Go.intOf p.1)
  show x ∈ List.map _ _ ↔ _
  rw [hp.mem_iff]
  constructor
  ·intro hx
   obtain ⟨p, hp1, rfl⟩ := List.mem_map.1 hx
   obtain ⟨e, he, rfl⟩ := List.mem_map.1 hp1
   obtain ⟨y, v, hy, hk, hr⟩ := hrd e he
   rw [WideElems.rg_of hr]
   show (f y).isSome = true
   rw [hy]; rfl
  ·intro hx
   obtain ⟨v, hv⟩ := Option.isSome_iff_exists.1 hx
   obtain ⟨e, he, hk⟩ := hE.has x v hv
   obtain ⟨y, v', hy, hk', hr⟩ := hrd e he
   have hxy : y = x := by have := hk'.symm.trans hk; simpa [ikv] using this
   refine List.mem_map.2 ⟨_, List.mem_map.2 ⟨e, he, rfl⟩, ?_⟩
   rw [WideElems.rg_of hr, hxy]
   rfl
 ·have hp := (WideShapes.sorted_perm (es.toList.map (WideElems.rg Try.prog 3 (fun _ => some (DataW.nil (H := Unit), []))))).map (fun p => _root_.Go.intOf p.1)
  show List.Nodup (List.map _ _)
  rw [hp.nodup_iff]
  have ha := fit_apart (int_keyed Try.underlying3) F
  unfold List.Nodup
  rw [List.pairwise_map]
  refine List.Pairwise.imp_of_mem ?_ ha
  intro p q hp hq hne he
  obtain ⟨e, he1, rfl⟩ := List.mem_map.1 hp
  obtain ⟨e', he1', rfl⟩ := List.mem_map.1 hq
  obtain ⟨y, v, hy, hk, hr⟩ := hrd e he1
  obtain ⟨y', v', hy', hk', hr'⟩ := hrd e' he1'
  rw [WideElems.rg_of hr, WideElems.rg_of hr'] at hne he
  have he' : y = y' := he
  rw [he'] at hne
  exact hne rfl
def chA (A : Int → Option (List Int)) (id : Int) : List Int := (A id).getD []
theorem sortedK_c {K : List Int} (hK : K.Pairwise (· < ·)) (hn : K.length ≤ 1000) (b : Nat) (w : World) (h : ∃ n, Mp ikv uv iok (sv K) n w b) :
  Calls Try.prog 46 #[.func (.func 67) #[] #[.pointer (some ⟨w.heap.size, 0, none⟩)]] (w.alloc (.cells #[.map (some b)] 73)) fun e w' => ∃ v, e = .returned v ∧ w'.ownsRow w.heap.size 3 1 v K.length (K.map (Value.int .i64)) ∧ Below w.heap.size w w' := by
 obtain ⟨n, h0⟩ := h
 have hkk : ∀ x, x ∈ K ↔ (sv K x).isSome = true := fun x => by rw [sv_some]; simp
 have h1 := h0.fit ikv_inj K (ndA hK) hkk
 obtain ⟨D, ho, hs, hm, hd⟩ := Mp.ownsK (by unfold maxLen; omega) h1
 refine (sortedKm_c b _ D _ w ho (by unfold maxLen; omega) (by omega)).mono ?_
 rintro e w' ⟨v, ss, rfl, hp, hr, -, hb⟩
 have hpk : ss.Perm K := hp.trans (perm_of_mem hd (ndA hK) fun x => (hm x).trans (hkk x).symm)
 rw [msA hK hpk, hpk.length_eq] at hr
 exact ⟨v, rfl, hr, hb⟩
theorem ach_c {z : World} {B p mb cb : Nat} {mem : Int → Option (Int × Bool)} {F : Int → Option Nat} {A : Int → Option (List Int)} (h : AS z B p mb cb mem F A) {id : Int} (hid : iok id) (hn : (chA A id).length ≤ 1000) :
  Calls Try.prog 23 #[.pointer (some ⟨p, 0, none⟩), .int .i64 id] z fun e z' => ∃ v, e = .returned v ∧ z'.ownsRow z.heap.size 3 1 v (chA A id).length ((chA A id).map (Value.int .i64)) ∧ Below z.heap.size z z' := by
 have c0 := h.c0
 have c1 := h.c1
 have lt := h.lt
 have hF := h.ch
 have hl := hF.look hid
 have hd := hF.dom id
 have KE := Lib.hid keysK_c
 cases hA : A id with
 | none =>
  have hFn : F id = none := by rw [hA] at hd; simpa using hd
  have e : chA A id = [] := by unfold chA; rw [hA]; rfl
  rw [e]
  have hl2 : (Instr.lookup 65 (.map (some cb)) (.int .i64 id) false).run Try.prog z = .ok (.map none) z := by rw [hFn] at hl; exact hl
  have KS := Lib.hid (sortedKn_c z)
  clear hl h hF hd hA hFn e hn
  go_enter Try.func23, Try.ntmps23
  go_wp2_with (first
   | go_guarded
   | (go_at_call 46; (with_reducible refine KS.out.mono ?_); rintro _ w2 ⟨v, rfl, hr, hbel⟩; have HR := Lib.hid hr; have HB := Lib.hid hbel; clear hr hbel)
   | (go_at_call 41; (with_reducible refine (KE.out _ _).mono ?_); rintro _ w1 ⟨rfl, rfl⟩))
  go_ret
  exact ⟨_, rfl, HR.out, HB.out⟩
 | some K =>
  obtain ⟨b, hb⟩ : ∃ b, F id = some b := Option.isSome_iff_exists.1 (by rw [hd, hA]; rfl)
  have e : chA A id = K := by unfold chA; rw [hA]; rfl
  rw [e] at hn ⊢
  have hl2 : (Instr.lookup 65 (.map (some cb)) (.int .i64 id) false).run Try.prog z = .ok (.map (some b)) z := by rw [hb] at hl; exact hl
  have KS := Lib.hid (sortedK_c (hF.srt id K hA) hn b z (hF.inn id b K hb hA).1)
  clear hl h hF hd hA hb e hn
  go_enter Try.func23, Try.ntmps23
  go_wp2_with (first
   | go_guarded
   | (go_at_call 46; (with_reducible refine KS.out.mono ?_); rintro _ w2 ⟨v, rfl, hr, hbel⟩; have HR := Lib.hid hr; have HB := Lib.hid hbel; clear hr hbel)
   | (go_at_call 41; (with_reducible refine (KE.out _ _).mono ?_); rintro _ w1 ⟨rfl, rfl⟩))
  go_ret
  exact ⟨_, rfl, HR.out, HB.out⟩
end Go.Proofs.Ytmmahgfijiocfaa
end
section
namespace Go.Proofs.Ytmmahgfijiocfaa
open Go.RowKit Fg Reg Go.Maps
attribute [local irreducible] Reg.wE VR
def ups (mem : Int → Option (Int × Bool)) : Nat → Int → List Int
 | 0, _ => []
 | n + 1, x => if x = 0 then [] else parM mem x :: ups mem n (parM mem x)
theorem ups_zero (mem : Int → Option (Int × Bool)) (n : Nat) : ups mem n 0 = [] := by
 cases n with
 | zero => rfl
 | succ n => unfold ups; rw [if_pos rfl]
theorem ups_succ {mem : Int → Option (Int × Bool)} {n : Nat} {x : Int} (h : x ≠ 0) : ups mem (n + 1) x = parM mem x :: ups mem n (parM mem x) := by
 show (if x = 0 then _ else _) = _
 rw [if_neg h]
theorem fin_ups {mem : Int → Option (Int × Bool)} : ∀ (m n : Nat) (x : Int), finM mem n x = true → ∀ y ∈ ups mem m x, y ≠ 0 → ∃ k, k < n ∧ finM mem k y = true
 | 0, n, x, _, y, hy, _ => by cases hy
 | m + 1, n, x, hf, y, hy, h0 => by
  by_cases hx : x = 0
  ·rw [hx, ups_zero] at hy; cases hy
  ·rw [ups_succ hx] at hy
   cases n with
   | zero => exact absurd (by simpa [finM] using hf) hx
   | succ n =>
    have hf2 : finM mem n (parM mem x) = true := by
     unfold finM at hf
     simpa [hx] using hf
    rcases List.mem_cons.1 hy with h | h
    ·subst h
     exact ⟨n, by omega, hf2⟩
    ·obtain ⟨k, hk, hk2⟩ := fin_ups m n (parM mem x) hf2 y h h0
     exact ⟨k, by omega, hk2⟩
theorem no_loop {mem : Int → Option (Int × Bool)} {x : Int} (h0 : x ≠ 0) (m : Nat) : ∀ (n : Nat), finM mem n x = true → x ∉ ups mem m x := by
 intro n
 induction n using Nat.strongRecOn with
 | _ n ih =>
  intro hf hm
  obtain ⟨k, hk, hk2⟩ := fin_ups m n x hf x hm h0
  exact ih k hk hk2 hm
theorem upd_comm (A : Int → Option (List Int)) {x y : Int} (h : x ≠ y) (u v : List Int) : upd (upd A x u) y v = upd (upd A y v) x u := by
 funext z
 unfold upd
 by_cases h1 : z = y
 ·by_cases h2 : z = x
  ·exact absurd (h2.symm.trans h1) h
  ·rw [if_pos h1, if_neg h2, if_pos h1]
 ·by_cases h2 : z = x
  ·rw [if_neg h1, if_pos h2, if_pos h2]
  ·rw [if_neg h1, if_neg h2, if_neg h2, if_neg h1]
theorem onR_frame {mem : Int → Option (Int × Bool)} : ∀ (n : Nat) (A : Int → Option (List Int)) (id q : Int) (v : List Int), q ∉ ups mem n id → onR mem n (upd A q v) id = ((onR mem n A id).1, upd (onR mem n A id).2 q v)
 | 0, A, id, q, v, _ => rfl
 | n + 1, A, id, q, v, hq => by
  by_cases h0 : id = 0
  ·subst h0
   rw [onR_zero, onR_zero]
  ·rw [ups_succ h0, List.mem_cons] at hq
   have hne : parM mem id ≠ q := fun e => hq (.inl e.symm)
   have hq2 : q ∉ ups mem n (parM mem id) := fun e => hq (.inr e)
   have hu : upd A q v (parM mem id) = A (parM mem id) := by unfold upd; rw [if_neg hne]
   cases hA : A (parM mem id) with
   | some K =>
    rw [onR_some h0 (hu.trans hA), onR_some h0 hA, upd_comm A hne.symm]
   | none =>
    rw [onR_none h0 (hu.trans hA), onR_none h0 hA, upd_comm A hne.symm, onR_frame n _ _ q v hq2]
theorem onR_at {mem : Int → Option (Int × Bool)} : ∀ (n : Nat) (A : Int → Option (List Int)) (id q : Int), q ∉ ups mem n id → (onR mem n A id).2 q = A q
 | 0, A, id, q, _ => rfl
 | n + 1, A, id, q, hq => by
  by_cases h0 : id = 0
  ·subst h0
   rw [onR_zero]
  ·rw [ups_succ h0, List.mem_cons] at hq
   have hne : ¬ q = parM mem id := fun e => hq (.inl e)
   have hq2 : q ∉ ups mem n (parM mem id) := fun e => hq (.inr e)
   cases hA : A (parM mem id) with
   | some K =>
    rw [onR_some h0 hA]
    show upd A _ _ q = A q
    unfold upd
    rw [if_neg hne]
   | none =>
    rw [onR_none h0 hA]
    show (onR mem n (upd A _ _) _).2 q = A q
    rw [onR_at n _ _ q hq2]
    unfold upd
    rw [if_neg hne]
theorem rm_ins {id : Int} {K : List Int} (hs : K.Pairwise (· < ·)) (h : id ∉ K) : rmA id (insA id K) = K := by
 have h1 : (rmA id (insA id K)).Pairwise (· < ·) := (insA_srt hs).filter _
 refine List.Perm.eq_of_pairwise (le := fun x y : Int => x < y) (fun a b _ _ h1 h2 => by omega) h1 hs ((List.perm_ext_iff_of_nodup (ndA h1) (ndA hs)).2 fun x => ?_)
 unfold rmA
 rw [List.mem_filter, insA_mem]
 constructor
 ·rintro ⟨h2 | h2, h3⟩
  ·simp [h2] at h3
  ·exact h2
 ·intro h2
  exact ⟨.inr h2, by simp; rintro rfl; exact h h2⟩
structure AI (mem : Int → Option (Int × Bool)) (A : Int → Option (List Int)) : Prop where
 ne : ∀ x K, A x = some K → K ≠ []
 srt : ∀ x K, A x = some K → K.Pairwise (· < ·)
 act : ∀ x K id, A x = some K → id ∈ K → lfM mem id = true ∨ A id ≠ none
 par : ∀ x K id, A x = some K → id ∈ K → parM mem id = x
theorem off_on {mem : Int → Option (Int × Bool)} (hin : ∀ id, id ≠ 0 → parM mem id ≠ 0 → lfM mem (parM mem id) = false) {A : Int → Option (List Int)} (hI : AI mem A) : ∀ (n : Nat) (id : Int), finM mem n id = true → (id = 0 ∨ ∀ K, A (parM mem id) = some K → id ∉ K) → offR mem n (onR mem n A id).2 id = ((onR mem n A id).1, A)
 | 0, id, hf, _ => rfl
 | n + 1, id, hf, hn => by
  by_cases h0 : id = 0
  ·subst h0
   rw [onR_zero, offR_zero]
  ·have hnn := hn.resolve_left h0
   have hf2 : finM mem n (parM mem id) = true := by
    unfold finM at hf
    simpa [h0] using hf
   cases hA : A (parM mem id) with
   | some K =>
    rw [onR_some h0 hA]
    have hc : chA0 (upd A (parM mem id) (insA id K)) (parM mem id) = insA id K := by unfold chA0 upd; rw [if_pos rfl]; rfl
    have hr := rm_ins (hI.srt _ K hA) (hnn K hA)
    have hl : 0 < (rmA id (chA0 (upd A (parM mem id) (insA id K)) (parM mem id))).length := by
     rw [hc, hr]
     exact List.length_pos_iff.2 (hI.ne _ K hA)
    show offR mem (n + 1) (upd A (parM mem id) (insA id K)) id = ([id], A)
    rw [offR_more h0 hl, hc, hr]
    congr 1
    funext z
    unfold upd
    by_cases hz : z = parM mem id
    ·rw [if_pos hz, hz, hA]
    ·rw [if_neg hz, if_neg hz]
   | none =>
    have hup : parM mem id ∉ ups mem n (parM mem id) := by
     by_cases hp : parM mem id = 0
     ·rw [hp, ups_zero]; simp
     ·exact no_loop hp n n hf2
    rw [onR_none h0 hA, onR_frame n A _ _ _ hup]
    have hB := onR_at n A (parM mem id) (parM mem id) hup
    rw [hA] at hB
    obtain ⟨B, hBe⟩ : ∃ B, (onR mem n A (parM mem id)).2 = B := ⟨_, rfl⟩
    have ih := off_on hin hI n (parM mem id) hf2 (by
     by_cases hp : parM mem id = 0
     ·exact .inl hp
     ·refine .inr fun K hK hm => ?_
      rcases hI.act _ K _ hK hm with h | h
      ·rw [hin id h0 hp] at h; cases h
      ·exact h hA)
    rw [hBe] at hB ih ⊢
    have hc : chA0 (upd B (parM mem id) [id]) (parM mem id) = [id] := by unfold chA0 upd; rw [if_pos rfl]; rfl
    have hl : ¬ 0 < (rmA id (chA0 (upd B (parM mem id) [id]) (parM mem id))).length := by
     rw [hc]
     simp [rmA]
    have hm : mdel (upd B (parM mem id) [id]) (parM mem id) = B := by
     rw [mdel_upd]
     funext z
     unfold mdel
     by_cases hz : z = parM mem id
     ·rw [if_pos hz, hz, hB]
     ·rw [if_neg hz]
    show offR mem (n + 1) (upd B (parM mem id) [id]) id = (id :: (onR mem n A (parM mem id)).1, A)
    rw [offR_last h0 hl, hm, ih]
def allS (A : Int → Option (List Int)) (y : Int) : Prop := ∃ x K, A x = some K ∧ y ∈ K
theorem AI.zero (mem : Int → Option (Int × Bool)) : AI mem (fun _ => none) := ⟨fun x K h => (by cases h), fun x K h => (by cases h), fun x K id h => (by cases h), fun x K id h => (by cases h)⟩
theorem upd_some {A : Int → Option (List Int)} {p x : Int} {K L : List Int} (h : upd A p L x = some K) : (x = p ∧ K = L) ∨ (x ≠ p ∧ A x = some K) := by
 unfold upd at h
 by_cases hx : x = p
 ·rw [if_pos hx] at h
  injection h with h
  exact .inl ⟨hx, h.symm⟩
 ·rw [if_neg hx] at h
  exact .inr ⟨hx, h⟩
theorem upd_none {A : Int → Option (List Int)} {p x : Int} {L : List Int} (h : A x ≠ none) : upd A p L x ≠ none := by
 unfold upd
 by_cases hx : x = p
 ·rw [if_pos hx]; simp
 ·rw [if_neg hx]; exact h
theorem AI.put {mem : Int → Option (Int × Bool)} {A : Int → Option (List Int)} (h : AI mem A) {id : Int} {L : List Int} (hL : L.Pairwise (· < ·)) (hn : L ≠ []) (hm : ∀ y ∈ L, y = id ∨ ∃ K, A (parM mem id) = some K ∧ y ∈ K) (ha : lfM mem id = true ∨ A id ≠ none) : AI mem (upd A (parM mem id) L) := by
 refine ⟨fun x K e => ?_, fun x K e => ?_, fun x K y e hy => ?_, fun x K y e hy => ?_⟩
 ·rcases upd_some e with ⟨_, rfl⟩ | ⟨_, e⟩
  ·exact hn
  ·exact h.ne x K e
 ·rcases upd_some e with ⟨_, rfl⟩ | ⟨_, e⟩
  ·exact hL
  ·exact h.srt x K e
 ·rcases upd_some e with ⟨_, rfl⟩ | ⟨_, e⟩
  ·rcases hm y hy with rfl | ⟨K2, e2, h2⟩
   ·exact ha.imp_right upd_none
   ·exact (h.act _ K2 y e2 h2).imp_right upd_none
  ·exact (h.act x K y e hy).imp_right upd_none
 ·rcases upd_some e with ⟨rfl, rfl⟩ | ⟨_, e⟩
  ·rcases hm y hy with rfl | ⟨K2, e2, h2⟩
   ·rfl
   ·exact h.par _ K2 y e2 h2
  ·exact h.par x K y e hy
theorem on_AI {mem : Int → Option (Int × Bool)} : ∀ (n : Nat) (A : Int → Option (List Int)) (id : Int), AI mem A → (id = 0 ∨ lfM mem id = true ∨ A id ≠ none) → AI mem (onR mem n A id).2
 | 0, A, id, h, _ => h
 | n + 1, A, id, h, hc => by
  by_cases h0 : id = 0
  ·subst h0
   rw [onR_zero]
   exact h
  ·have hc2 := hc.resolve_left h0
   cases hA : A (parM mem id) with
   | some K =>
    rw [onR_some h0 hA]
    exact h.put (insA_srt (h.srt _ K hA)) (fun e => by have := (insA_mem (x := id) (L := K) id).2 (.inl rfl); rw [e] at this; cases this) (fun y hy => ((insA_mem y).1 hy).imp_right fun g => ⟨K, hA, g⟩) hc2
   | none =>
    rw [onR_none h0 hA]
    refine on_AI n _ _ (h.put (List.pairwise_singleton _ _) (by simp) (fun y hy => .inl (List.mem_singleton.1 hy)) hc2) (.inr (.inr ?_))
    unfold upd
    rw [if_pos rfl]
    simp
theorem on_all {mem : Int → Option (Int × Bool)} (y : Int) : ∀ (n : Nat) (A : Int → Option (List Int)) (id : Int), allS (onR mem n A id).2 y ↔ allS A y ∨ y ∈ (onR mem n A id).1
 | 0, A, id => by show allS A y ↔ allS A y ∨ y ∈ []; simp
 | n + 1, A, id => by
  by_cases h0 : id = 0
  ·subst h0
   rw [onR_zero]
   simp
  ·have hput : ∀ L, (∀ z, z ∈ L ↔ z = id ∨ ∃ K, A (parM mem id) = some K ∧ z ∈ K) → (allS (upd A (parM mem id) L) y ↔ allS A y ∨ y = id) := fun L hL => by
    constructor
    ·rintro ⟨x, K, e, hy⟩
     rcases upd_some e with ⟨rfl, rfl⟩ | ⟨_, e⟩
     ·rcases (hL y).1 hy with h | ⟨K2, e2, h2⟩
      ·exact .inr h
      ·exact .inl ⟨_, K2, e2, h2⟩
     ·exact .inl ⟨x, K, e, hy⟩
    ·rintro (⟨x, K, e, hy⟩ | rfl)
     ·by_cases hx : x = parM mem id
      ·exact ⟨parM mem id, L, by unfold upd; rw [if_pos rfl], (hL y).2 (.inr ⟨K, by rw [← hx]; exact e, hy⟩)⟩
      ·exact ⟨x, K, by unfold upd; rw [if_neg hx]; exact e, hy⟩
     ·exact ⟨parM mem y, L, by unfold upd; rw [if_pos rfl], (hL y).2 (.inl rfl)⟩
   cases hA : A (parM mem id) with
   | some K =>
    rw [onR_some h0 hA]
    show allS (upd A _ _) y ↔ allS A y ∨ y ∈ [id]
    rw [hput (insA id K) (fun z => (insA_mem z).trans ⟨fun g => g.imp_right fun h => ⟨K, hA, h⟩, fun g => g.imp_right fun ⟨K2, e2, h2⟩ => by rw [hA] at e2; injection e2 with e2; rw [e2]; exact h2⟩), List.mem_singleton]
   | none =>
    rw [onR_none h0 hA]
    show allS (onR mem n (upd A _ _) _).2 y ↔ allS A y ∨ y ∈ id :: _
    rw [on_all y n, hput [id] (fun z => ⟨fun g => .inl (List.mem_singleton.1 g), fun g => by rcases g with rfl | ⟨K2, e2, _⟩; exact List.mem_singleton_self _; rw [hA] at e2; cases e2⟩), List.mem_cons, or_assoc]
theorem on_sub {mem : Int → Option (Int × Bool)} : ∀ (n : Nat) (A : Int → Option (List Int)) (id : Int), id ≠ 0 → ∀ y ∈ (onR mem n A id).1, y = id ∨ y ∈ ups mem n id
 | 0, A, id, _, y, hy => by cases hy
 | n + 1, A, id, h0, y, hy => by
  rw [ups_succ h0]
  cases hA : A (parM mem id) with
  | some K =>
   rw [onR_some h0 hA] at hy
   exact .inl (List.mem_singleton.1 hy)
  | none =>
   rw [onR_none h0 hA] at hy
   rcases List.mem_cons.1 hy with h | h
   ·exact .inl h
   ·by_cases hp : parM mem id = 0
    ·rw [hp, onR_zero] at h; cases h
    ·rcases on_sub n _ _ hp y h with h | h
     ·exact .inr (by rw [h]; exact List.mem_cons_self)
     ·exact .inr (List.mem_cons_of_mem _ h)
theorem on_nodup {mem : Int → Option (Int × Bool)} : ∀ (n : Nat) (A : Int → Option (List Int)) (id : Int), finM mem n id = true → (onR mem n A id).1.Nodup
 | 0, A, id, _ => List.nodup_nil
 | n + 1, A, id, hf => by
  by_cases h0 : id = 0
  ·subst h0
   rw [onR_zero]
   exact List.nodup_nil
  ·have hf2 : finM mem n (parM mem id) = true := by
    have hf3 := hf
    unfold finM at hf3
    simpa [h0] using hf3
   cases hA : A (parM mem id) with
   | some K =>
    rw [onR_some h0 hA]
    simp
   | none =>
    rw [onR_none h0 hA]
    refine List.nodup_cons.2 ⟨fun hm => ?_, on_nodup n _ _ hf2⟩
    have hl := no_loop h0 (n + 1) (n + 1) hf
    rw [ups_succ h0] at hl
    by_cases hp : parM mem id = 0
    ·rw [hp, onR_zero] at hm; cases hm
    ·rcases on_sub n _ _ hp id hm with h | h
     ·exact hl (by rw [← h]; exact List.mem_cons_self)
     ·exact hl (List.mem_cons_of_mem _ h)
theorem on_new {mem : Int → Option (Int × Bool)} (hin : ∀ id, id ≠ 0 → parM mem id ≠ 0 → lfM mem (parM mem id) = false) {A : Int → Option (List Int)} (hI : AI mem A) (hz : ∀ y, allS A y → y ≠ 0) : ∀ (n : Nat) (id : Int), finM mem n id = true → (id = 0 ∨ ¬ allS A id) → ∀ y ∈ (onR mem n A id).1, ¬ allS A y
 | 0, id, _, _, y, hy => by cases hy
 | n + 1, id, hf, hc, y, hy => by
  by_cases h0 : id = 0
  ·subst h0
   rw [onR_zero] at hy
   cases hy
  ·have hc2 := hc.resolve_left h0
   have hf2 : finM mem n (parM mem id) = true := by
    have hf3 := hf
    unfold finM at hf3
    simpa [h0] using hf3
   cases hA : A (parM mem id) with
   | some K =>
    rw [onR_some h0 hA] at hy
    rw [List.mem_singleton.1 hy]
    exact hc2
   | none =>
    rw [onR_none h0 hA] at hy
    rcases List.mem_cons.1 hy with h | h
    ·rw [h]
     exact hc2
    ·have hup : parM mem id ∉ ups mem n (parM mem id) := by
      by_cases hp : parM mem id = 0
      ·rw [hp, ups_zero]; simp
      ·exact no_loop hp n n hf2
     rw [onR_frame n A _ _ _ hup] at h
     refine on_new hin hI hz n (parM mem id) hf2 ?_ y h
     by_cases hp : parM mem id = 0
     ·exact .inl hp
     ·refine .inr fun ⟨x, K, e, hm⟩ => ?_
      rcases hI.act x K _ e hm with g | g
      ·rw [hin id h0 hp] at g; cases g
      ·exact g hA
end Go.Proofs.Ytmmahgfijiocfaa
end
section
namespace Go.Proofs.Ytmmahgfijiocfaa
open Go.RowKit Fg Reg Go.Maps Go.Shelf
attribute [local irreducible] Reg.wE VR
attribute [local go_sem] Oper.semAt_some
theorem int_partsI : (Try.prog.info? 3).map (fun i => (i.zero, i.size, i.bytes)) = some (some (.int .i64 0), 1, 8) := by kernel_rfl
set_option maxRecDepth 100000 in
theorem appK_c {H : Type} (Bm b nn nb : Nat) (D0 : DataW H) {R : Value → Option (DataW H × List MemPlace)} (sa : Option Addr) (sn sc : Nat) (ss0 : List Int) (w : World) (hBm : Bm < w.heap.size) (hm : w.cell? ⟨Bm, 0, none⟩ = some (.map (some b))) (hown : w.ownsMap Try.prog 3 R b nn D0)
  (hsn : ss0.length = sn) (hrow0 : w.ownsRow nb 3 1 (.slice sa sn sc) ss0.length (ss0.map (Value.int .i64))) (hnb : nb ≤ w.heap.size) (hmax : ss0.length + Maps.size D0 ≤ 1000000) :
  Calls Try.prog 40 #[.slice sa sn sc, .func (.func 67) #[] #[.pointer (some ⟨Bm, 0, none⟩)]] w fun e w' => ∃ (v : Value) (ss : List Int), e = .returned v ∧ ss.Perm (intKeys D0) ∧ w'.ownsRow nb 3 1 v (sn + ss.length) ((ss0 ++ ss).map (Value.int .i64)) ∧ Below nb w w' := by
 obtain ⟨i0, hi, hz0, hz1, hz2⟩ := info_parts int_partsI
 refine (callsIn_wide (n := 5)).1 ?_
 refine callsIn_of_wp_marks Try.func40 rfl trivial ?_ rfl
 simp only [Try.ntmps40, List.size_toArray, List.length_cons, List.length_nil, Nat.reduceAdd, Nat.reduceSub, Array.replicate_succ, Array.replicate_zero, List.push_toArray, List.append_toArray, List.nil_append, List.cons_append]
 gi_wp2
 have bO := Boxed.new w 31 (.slice sa sn sc)
 have hb0 : Below w.heap.size w (w.alloc (.cells #[.slice sa sn sc] 31)) := (Below.refl _ w).alloc (Nat.le_refl _) _
 refine wpIn_rangeFunc_ownG rfl (by omega) (gf := 67) (lb := #[.pointer (some ⟨Bm, 0, none⟩)]) rfl trivial (enters_of Try.func67 (by kernel_rfl) rfl)
  (AnyZI.keys_stops (ρ := keysK_ren) { keysK with } Fence.wide _ trivial rfl (by omega) Bm b nn D0 w hBm hm hown) walksK_t walksK_b hb0 (fun _ => rfl)
  (fun pre W => (∃ v, Boxed W w.heap.size 31 v ∧ W.ownsRow nb 3 1 v (sn + pre.length) ((ss0 ++ pre).map (Value.int .i64)) ∧ True) ∧ Below nb w W)
  (fun _ _ _ => False)
  (OwnFrom.and (Own.from (holdsRow_own nb w.heap.size 31 3 1 (fun pre : List Int => sn + pre.length) (fun pre : List Int => (ss0 ++ pre).map (Value.int .i64)) (fun _ _ => True)) _) (ownFrom_below hnb (by simp; omega)))
  (fun _ _ _ _ _ hs _ _ => hs)
  ⟨⟨_, bO, (by have h := hrow0.alloc (.cells #[.slice sa sn sc] 31); rw [hsn] at h; simpa using h), trivial⟩, (Below.refl _ w).alloc hnb _⟩
  (fun x => { tmps := #[.slice sa sn sc, .func (.func 67) #[] #[.pointer (some ⟨Bm, 0, none⟩)], .pointer (some ⟨w.heap.size, 0, none⟩), undef, .slice none 0 0, encZ x, .func (.func 67) #[] #[.pointer (some ⟨Bm, 0, none⟩)], encZ x, undef, undef, undef, undef, undef], defers := [] }) ?assign ?body ?done ?stop
 case assign =>
  intro l x W K hK
  gi_wp2
  exact hK
 case body =>
  rintro l pre x W ⟨⟨v, hv, hrow, -⟩, hB⟩ hlt
  have hc := hv.cell
  have hB1 := hB.size
  gi_wp2_with (gi_at_builtin; refine wpListIn_append_own _ rfl _ _ 31 rfl nb 3 i0 (.int .i64 0) 1 8 Try.underlying31 hi hz0 hz1 hz2 rfl (by decide) _ _ _ rfl (hrow.alloc _) ⟨W.heap.size, 0, none⟩ 1 1 [encZ x] rfl rfl (cell_one_new _ _ _) (by simp [Value.oneCell', encZ]) (by unfold maxLen; omega) (by omega) (by simp; omega) ?_; intro v' w1 hown' hgrow _; obtain ⟨g', cap', rfl⟩ := ownsRow_succ hown'; obtain ⟨hv1, hv2, hr2, hk2, hb2⟩ := hv.appended (by decide) hrow (by omega) (by omega) hown' hgrow; have hc1 := hv1.cell; have hf1 := hv1.frozen)
  refine ⟨hk2.from _, hk2.walks, ⟨_, hv2, ?_, trivial⟩, hB.trans hb2⟩
  rw [← List.append_assoc, List.map_append, List.length_append, List.length_singleton, ← Nat.add_assoc]
  exact hr2
 case done =>
  rintro D ys W hD ⟨hp, -⟩ ⟨⟨v, hv, hrow, -⟩, hB⟩ hK
  have hc := hv.cell
  gi_wp2
  refine ⟨by simp, .inl ⟨_, _, rfl, run_takeDeferred hK, ?_⟩⟩
  exact ⟨_, results_tmp rfl _ _ _, v, ys, rfl, hp, ownsRow_putObj hrow _ hK rfl, hB.trans (belowK_b (w := w) hnb W D _ _ (by simp at hD; omega) hK rfl rfl)⟩
 case stop =>
  rintro D c pre W _ _ h _
  exact h.elim
end Go.Proofs.Ytmmahgfijiocfaa
end
