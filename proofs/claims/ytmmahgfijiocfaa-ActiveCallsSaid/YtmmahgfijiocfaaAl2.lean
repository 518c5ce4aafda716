/- Joined texts. -/
import Derived.Test.YtmmahgfijiocfaaBs0
import Derived.Test.YtmmahgfijiocfaaBs1
import Derived.Test.YtmmahgfijiocfaaBs2
import Derived.Test.YtmmahgfijiocfaaBs3
import Derived.Test.YtmmahgfijiocfaaBs4
import Derived.Test.YtmmahgfijiocfaaBs8
import Derived.Test.YtmmahgfijiocfaaBs9
import Derived.Test.YtmmahgfijiocfaaAl1
import Derived.Maps.Keyed
import Derived.Maps.Own
import Derived.Maps.OwnOps
import Derived.DeepKeys5
import Derived.StillTail
import Derived.Deep.Quiet
import Derived.Deep.QuietTactic
import Derived.Test.YtmmahgfijiocfaaChecked
import Derived.WalkKit
import Derived.BigQuiet
import Derived.OpenShut
import Derived.Deep.RegionHeld3
import Derived.Deep.RegionWith
import Derived.Deep.DeepCutAuto
import Derived.WalkSpells
import Derived.WalkSmall
import Derived.Lib.Hide
import Derived.RowKit
import Derived.IntWalk
import Derived.Maps.RangeRun
import Derived.Deep.MidRow
import Derived.Deep.WholeRow
import Derived.Laws.CopyRow
import Derived.Deep.OwnRows
import Derived.ArgAppend
import Derived.Sort.OwnSortedInts
import Derived.Shelf.SlIterI.Nil
import Derived.Shelf.SortM.Plain
import Derived.Shelf.SortM.SortNone
import Derived.Ground.GgzProg
import Derived.Ground.SlgmProg
import Derived.Laws.AppendOwn
import Derived.Laws.AppendOwnNone
import Derived.ProofKit
import Derived.Below
import Derived.Carry
import Derived.ReadAgain
import Derived.ChangeOld
import Derived.Deep.Slices
set_option linter.unusedVariables false
set_option linter.unusedSimpArgs false
set_option maxRecDepth 100000
set_option maxHeartbeats 16000000
section
namespace Go.Proofs.Ytmmahgfijiocfaa
open Go.RowKit Fg Reg Go.Maps
attribute [local irreducible] Reg.wE VR
theorem nil_del (x : Int) (ty : TypeId) (w : World) : (Builtin.delete_ #[73, 3] ty #[.map none, .int .i64 x]).run Try.prog w = .ok (.tuple #[]) w := by kernel_rfl
theorem AS.chg {z v : World} {B p mb cb : Nat} {mem : Int → Option (Int × Bool)} {F : Int → Option Nat} {A : Int → Option (List Int)} (h : AS z B p mb cb mem F A) (hs : z.heap.size ≤ v.heap.size) (hp : v.heap[p]? = z.heap[p]?) (hm : v.heap[mb]? = z.heap[mb]?) {F2 : Int → Option Nat} {A2 : Int → Option (List Int)} (hac : AKC v cb (fun k => k = mb ∨ k = p ∨ k < B) F2 A2) : AS v B p mb cb mem F2 A2 := by
 obtain ⟨n, hn⟩ := h.mp
 exact ⟨(World.cell?_of_block hp).trans h.c0, (World.cell?_of_block hp).trans h.c1, Nat.lt_of_lt_of_le h.lt hs, h.nm, h.nc, h.mc, h.bc, ⟨n, hn.frame hm⟩, hac⟩
def rmA (id : Int) (K : List Int) : List Int := K.filter (fun y => decide (y ≠ id))
theorem sv_del (id : Int) (K : List Int) : mdel (sv K) id = sv (rmA id K) := by
 funext x
 unfold mdel sv rmA
 by_cases h : x = id
 ·rw [if_pos h, if_neg (by simp [h])]
 ·rw [if_neg h]
  by_cases hk : x ∈ K
  ·rw [if_pos hk, if_pos (by simp [h, hk])]
  ·rw [if_neg hk, if_neg (by simp [hk])]
theorem AKC.put2 {z v : World} {cb : Nat} {lo : Nat → Prop} {F : Int → Option Nat} {A : Int → Option (List Int)} (h : AKC z cb lo F A) {par : Int} {b : Nat} {K K2 : List Int} (hF : F par = some b) (hA : A par = some K) (hs : K2.Pairwise (· < ·)) (hu : ∃ n, Mp ikv uv iok (sv K2) n v b) (ho : Only (fun k => k = b) z v) : AKC v cb lo F (upd A par K2) := by
 obtain ⟨n, hn⟩ := h.mp
 obtain ⟨h1, h2, h3⟩ := h.inn par b K hF hA
 refine ⟨⟨n, hn.frame (ho.5 cb hn.lt (fun e => h2 e.symm))⟩, fun x => ?_, fun x b2 K3 e1 e2 => ?_, h.inj, fun x K3 e2 => ?_⟩
 ·unfold upd
  by_cases hx : x = par
  ·rw [if_pos hx, hx, hF]; rfl
  ·rw [if_neg hx]; exact h.dom x
 ·unfold upd at e2
  by_cases hx : x = par
  ·rw [if_pos hx] at e2
   injection e2 with e2
   subst hx e2
   rw [hF] at e1
   injection e1 with e1
   subst e1
   exact ⟨hu, h2, h3⟩
  ·rw [if_neg hx] at e2
   obtain ⟨⟨m, hm⟩, h4, h5⟩ := h.inn x b2 K3 e1 e2
   exact ⟨⟨m, hm.frame (ho.5 b2 hm.lt (fun e => hx (h.inj x par b2 e1 (by rw [e]; exact hF))))⟩, h4, h5⟩
 ·unfold upd at e2
  by_cases hx : x = par
  ·rw [if_pos hx] at e2
   injection e2 with e2
   rw [← e2]
   exact hs
  ·rw [if_neg hx] at e2
   exact h.srt x K3 e2
theorem AKC.del {z v : World} {cb : Nat} {lo : Nat → Prop} {F : Int → Option Nat} {A : Int → Option (List Int)} (h : AKC z cb lo F A) {par : Int} (hc : ∃ n, Mp ikv bv iok (mdel F par) n v cb) (ho : Only (fun k => k = cb) z v) : AKC v cb lo (mdel F par) (mdel A par) := by
 refine ⟨hc, fun x => ?_, fun x b2 K2 e1 e2 => ?_, fun x y b2 e1 e2 => ?_, fun x K2 e2 => ?_⟩
 ·unfold mdel
  by_cases hx : x = par
  ·rw [if_pos hx, if_pos hx]; rfl
  ·rw [if_neg hx, if_neg hx]; exact h.dom x
 ·unfold mdel at e1 e2
  by_cases hx : x = par
  ·rw [if_pos hx] at e1; cases e1
  ·rw [if_neg hx] at e1 e2
   obtain ⟨⟨m, hm⟩, h4, h5⟩ := h.inn x b2 K2 e1 e2
   exact ⟨⟨m, hm.frame (ho.5 b2 hm.lt h4)⟩, h4, h5⟩
 ·unfold mdel at e1 e2
  by_cases hx : x = par
  ·rw [if_pos hx] at e1; cases e1
  ·by_cases hy : y = par
   ·rw [if_pos hy] at e2; cases e2
   ·rw [if_neg hx] at e1
    rw [if_neg hy] at e2
    exact h.inj x y b2 e1 e2
 ·unfold mdel at e2
  by_cases hx : x = par
  ·rw [if_pos hx] at e2; cases e2
  ·rw [if_neg hx] at e2
   exact h.srt x K2 e2
theorem AS.del {z v : World} {B p mb cb : Nat} {mem : Int → Option (Int × Bool)} {F : Int → Option Nat} {A : Int → Option (List Int)} (h : AS z B p mb cb mem F A) {par : Int} (hc : ∃ n, Mp ikv bv iok (mdel F par) n v cb) (ho : Only (fun k => k = cb) z v) : AS v B p mb cb mem (mdel F par) (mdel A par) :=
 h.chg ho.4 (ho.5 p h.lt (fun e => h.nc e.symm)) (ho.5 mb h.mlt h.mc) (h.ch.del hc ho)
theorem AS.put2 {z v : World} {B p mb cb : Nat} {mem : Int → Option (Int × Bool)} {F : Int → Option Nat} {A : Int → Option (List Int)} (h : AS z B p mb cb mem F A) {par : Int} {b : Nat} {K K2 : List Int} (hF : F par = some b) (hA : A par = some K) (hs : K2.Pairwise (· < ·)) (hu : ∃ n, Mp ikv uv iok (sv K2) n v b) (ho : Only (fun k => k = b) z v) : AS v B p mb cb mem F (upd A par K2) := by
 have hlo := (h.ch.inn par b K hF hA).2.2
 exact h.chg ho.4 (ho.5 p h.lt (fun e => hlo (.inr (.inl e.symm)))) (ho.5 mb h.mlt (fun e => hlo (.inl e.symm))) (h.ch.put2 hF hA hs hu ho)
theorem mdel_upd (A : Int → Option (List Int)) (x : Int) (K : List Int) : mdel (upd A x K) x = mdel A x := by
 funext y
 unfold mdel upd
 by_cases h : y = x
 ·rw [if_pos h, if_pos h]
 ·rw [if_neg h, if_neg h, if_neg h]
def chA0 (A : Int → Option (List Int)) (id : Int) : List Int := (A id).getD []
def offR (mem : Int → Option (Int × Bool)) : Nat → (Int → Option (List Int)) → Int → List Int × (Int → Option (List Int))
 | 0, A, _ => ([], A)
 | n + 1, A, id => if id = 0 then ([], A) else if 0 < (rmA id (chA0 A (parM mem id))).length then ([id], upd A (parM mem id) (rmA id (chA0 A (parM mem id))))
  else (id :: (offR mem n (mdel A (parM mem id)) (parM mem id)).1, (offR mem n (mdel A (parM mem id)) (parM mem id)).2)
theorem offR_zero (mem : Int → Option (Int × Bool)) (n : Nat) (A : Int → Option (List Int)) : offR mem n A 0 = ([], A) := by
 cases n with
 | zero => rfl
 | succ n => unfold offR; rw [if_pos rfl]
theorem offR_more {mem : Int → Option (Int × Bool)} {n : Nat} {A : Int → Option (List Int)} {id : Int} (h0 : id ≠ 0) (h : 0 < (rmA id (chA0 A (parM mem id))).length) : offR mem (n + 1) A id = ([id], upd A (parM mem id) (rmA id (chA0 A (parM mem id)))) := by
 show (if id = 0 then _ else _) = _
 rw [if_neg h0, if_pos h]
theorem offR_last {mem : Int → Option (Int × Bool)} {n : Nat} {A : Int → Option (List Int)} {id : Int} (h0 : id ≠ 0) (h : ¬ 0 < (rmA id (chA0 A (parM mem id))).length) : offR mem (n + 1) A id = (id :: (offR mem n (mdel A (parM mem id)) (parM mem id)).1, (offR mem n (mdel A (parM mem id)) (parM mem id)).2) := by
 show (if id = 0 then _ else _) = _
 rw [if_neg h0, if_neg h]
theorem aof_ok {z : World} {B p mb cb : Nat} {mem : Int → Option (Int × Bool)} {F : Int → Option Nat} {A : Int → Option (List Int)} (h : AS z B p mb cb mem F A) (hm : ∀ x m, mem x = some m → iok m.1) {leaf : Int} (hi : iok leaf) (hl : lfM mem leaf = true) (hs : isA mem A leaf = true) (hfin : finM mem 17 leaf = true) :
  Calls Try.prog 11 #[.pointer (some ⟨p, 0, none⟩), .int .i64 leaf] z (OnP B p mb cb mem z (offR mem 17 A leaf).1 (offR mem 17 A leaf).2) := by
 obtain ⟨ii, ci0, cz0, cz1, cz2⟩ := int_partsA
 have CI0 := Lib.hid ci0
 have CZ0 := Lib.hid cz0
 have CZ1 := Lib.hid cz1
 have CZ2 := Lib.hid cz2
 have KI := Lib.hid (ais_c h hm hi)
 rw [hs] at KI
 have c0 := h.c0
 have c1 := h.c1
 have lt := h.lt
 have lk := lkm h hi
 rw [hl] at lk
 have f1 := mf1
 have f0 := mf0
 have nd0 := nil_del
 have nl0 := nil_len
 obtain ⟨R, hR⟩ : ∃ R, offR mem 17 A leaf = R := ⟨_, rfl⟩
 rw [hR]
 have HRR := Lib.hid hR
 have HA0 := Lib.hid h
 have HPB : Hid (p < z.heap.size) := Lib.hid lt
 have HMP := Lib.hid (show ∀ x, iok (parM mem x) from fun x => by
  unfold parM
  cases hx : mem x with
  | none => rfl
  | some m => exact hm x m hx)
 have HI := Lib.hid hi
 have HFI := Lib.hid hfin
 clear h hl hi hm hs hR hfin ci0 cz0 cz1 cz2
 go_enter Try.func11, Try.ntmps11
 go_wp2_with (first | go_guarded | (go_at_call 22; (with_reducible refine KI.out.mono ?_); rintro _ w1 ⟨rfl, hbel⟩; have HB1 := Lib.hid hbel; have HA1 := Lib.hid (HA0.out.below hbel); have HO1 := Lib.hid (OM.of_below hbel : OM B z w1); clear hbel c0 c1 lt lk))
 try go_frame
 go_loopg [6, 7] 17 (fun k9 s6 s7 wr => ∃ (m k : Nat) (id : Int) (F1 : Int → Option Nat) (A1 : Int → Option (List Int)) (done : List Int) (oo : Option Addr) (c : Nat), s6 = .slice oo k c ∧ s7 = .int .i64 id ∧ done.length = k ∧ wr.ownsRow z.heap.size 3 1 (.slice oo k c) k (done.map (Value.int .i64)) ∧ AS wr B p mb cb mem F1 A1 ∧ OM B z wr ∧ finM mem m id = true ∧ iok id ∧ done ++ (offR mem m A1 id).1 = R.1 ∧ (offR mem m A1 id).2 = R.2 ∧ k + m = 17 ∧ m ≤ k9)
 case atStart => exact ⟨17, 0, leaf, F, A, [], none, 0, rfl, rfl, rfl, World.ownsRow_nil _ _ _ _, HA1.out, HO1.out, HFI.out, HI.out, by rw [HRR.out]; rfl, by rw [HRR.out], rfl, Nat.le_refl _⟩
 case round =>
  obtain ⟨m, k, id, F1, A1, done, oo, c, rfl, rfl, hdl, hO, hA, hM, hfi, hid, hr1, hr2, hkm, hk9⟩ := hrel
  have HO := Lib.hid hO
  have HA := Lib.hid hA
  have HOM := Lib.hid hM
  have HDL := Lib.hid hdl
  have HIK := Lib.hid hid
  by_cases h0 : id = 0
  ·subst h0
   rw [offR_zero] at hr1 hr2
   have HR1 : Hid (done = R.1) := Lib.hid (by rw [← hr1, List.append_nil])
   have HR2 := Lib.hid hr2
   clear hO hA hM hfi hid hr1 hr2 hdl
   go_wp2_with (first | go_guarded)
   refine bodyPost_ret (v := .tuple #[.slice oo k c, .int .i64 0]) (by simp [results, Try.results11, go_sem, *]) rfl ?_
   exact ⟨_, F1, rfl, by rw [← HR1.out, HDL.out]; exact HO.out, by rw [← HR2.out]; exact HA.out, HOM.out⟩
  ·have q0 : (id != 0) = true := by simpa using h0
   cases m with
   | zero => exact absurd (by simpa [finM] using hfi) h0
   | succ m =>
    have hfi2 : finM mem m (parM mem id) = true := by
     unfold finM at hfi
     simpa [h0] using hfi
    have hidk := hid
    have hpk := HMP.out id
    cases hK : A1 (parM mem id) with
    | some K =>
     have hch : chA0 A1 (parM mem id) = K := by unfold chA0; rw [hK]; rfl
     obtain ⟨b, hb⟩ : ∃ b, F1 (parM mem id) = some b := Option.isSome_iff_exists.1 (by rw [hA.ch.dom, hK]; rfl)
     have hKs : (rmA id K).Pairwise (· < ·) := (hA.ch.srt _ K hK).filter _
     obtain ⟨q, hq⟩ : ∃ q, (rmA id K).length = q := ⟨_, rfl⟩
     obtain ⟨par, hpe⟩ : ∃ q, parM mem id = q := ⟨_, rfl⟩
     have lkm2 := fun (wz : World) (A2 : Int → Option (List Int)) (ha : AS wz B p mb cb mem F1 A2) => lkm ha hidk
     rw [hpe] at lkm2 hb hK hch hpk hfi2
     have lkc2 : ∀ wz A2, AS wz B p mb cb mem F1 A2 → (Instr.lookup 65 (.map (some cb)) (.int .i64 par) false).run Try.prog wz = .ok (.map (some b)) wz := fun wz A2 ha => by
      have := lkc ha hpk
      rw [hb] at this
      exact this
     have HL1 := Lib.hid lkm2
     have HL2 := Lib.hid lkc2
     have HPK := Lib.hid hpk
     have HF2 := Lib.hid hfi2
     have HIN := Lib.hid (fun (wz : World) (ha : AS wz B p mb cb mem F1 A1) => ha.ch.inn par b K hb hK)
     have hBb : B ≤ b := by have := (hA.ch.inn par b K hb hK).2.2; omega
     have HPUT : Hid (∀ wz wv, AS wz B p mb cb mem F1 A1 → (∃ n, Mp ikv uv iok (mdel (sv K) id) n wv b) → Only (fun k => k = b) wz wv → AS wv B p mb cb mem F1 (upd A1 par (rmA id K))) := Lib.hid (fun wz wv ha hu ho => ha.put2 hb hK hKs (by rw [sv_del] at hu; exact hu) ho)
     have HLEN : Hid (∀ wz, AS wz B p mb cb mem F1 (upd A1 par (rmA id K)) → ∀ ty, (Builtin.len_ #[73] ty #[.map (some b)]).run Try.prog wz = .ok (.int .i64 q) wz) := Lib.hid (fun wz ha ty => by
      have h1 : upd A1 par (rmA id K) par = some (rmA id K) := by unfold upd; rw [if_pos rfl]
      have := in_len (ndA hKs) (ha.ch.inn par b _ hb h1).1 ty
      rw [hq] at this
      exact this)
     by_cases hq0 : 0 < q
     ·have hq1 : decide ((0 : Int) < (q : Int)) = true := decide_eq_true (by omega)
      rw [offR_more h0 (by rw [hpe, hch, hq]; exact hq0), hpe, hch] at hr1 hr2
      have HR1 := Lib.hid hr1
      have HR2 := Lib.hid hr2
      clear hO hA hM hfi hid hr1 hr2 hdl hfi2 lkm2 lkc2 hidk hpk hb hK hpe h0 hch hKs hq
      go_wp2_with (first
      | go_guarded
      | (at_builtin; refine wpList_append_own _ rfl _ _ 31 rfl z.heap.size 3 ii _ 1 8 Try.underlying31 CI0.out CZ0.out CZ1.out CZ2.out rfl (by decide) (.slice oo k c) _ _ rfl (World.ownsRow.alloc HO.out _) ⟨_, 0, none⟩ 1 1 [.int .i64 id] rfl rfl ?c1 ?c2 ?c3 ?c4 ?c5 ?_; (case c1 => (intro q u hu; (rcases q with _ | q <;> simp at hu <;> (try subst hu) <;> simp [Addr.add, go_sem, *]))); (case c2 => (intro v hv; simp at hv; (first | (subst hv; rfl) | (rcases hv with rfl <;> rfl)))); (case c3 => (unfold maxLen; omega)); (case c4 => omega); (case c5 => (have := HOM.out.size; simp; omega)); intro v2 z2 hown2 hg2 _; (have HA2 := Lib.hid ((HA.out.below (Below.alloc (Below.refl _ _) (Nat.le_refl _) _)).grown hg2 (World.ownsRow.alloc HO.out _) HPB.out)); (have HOM2 := Lib.hid ((HOM.out.trans2 (Below.alloc (Below.refl _ _) (Nat.le_refl _) _)).grown hg2 (fun q hq => (HO.out.lt q hq).1))); have HL3 := HL1; obtain ⟨a2, c2, rfl⟩ := row_form hown2; (have HO2 := Lib.hid hown2); have c0 := HA2.out.c0; have c1 := HA2.out.c1; have lt := HA2.out.lt; have lk1 := HL1.out z2 _ HA2.out; have lk2 := HL2.out z2 _ HA2.out; clear hown2 hg2)
      | (obtain ⟨⟨n6, hmp6⟩, hbc6, hlo6⟩ := HIN.out z2 HA2.out; refine wpList_delete_mp _ rfl _ _ _ _ rfl ikok ikv_inj Try.underlying73 b n6 rfl hmp6 id HIK.out rfl ?_; intro w5 hu5 ho5 hs5; have HA5 := Lib.hid (HPUT.out z2 w5 HA2.out ⟨n6, hu5⟩ ho5); have HOM5 := Lib.hid (HOM2.out.put hmp6.kind (by omega) ho5); have HO5 := Lib.hid (own_put HO2.out hmp6.kind ho5); have c0 := HA5.out.c0; have c1 := HA5.out.c1; have lt := HA5.out.lt; have lk3 := HL2.out w5 _ HA5.out; have hn5 := HLEN.out w5 HA5.out; clear hu5 ho5 hs5 hmp6 hbc6 hlo6))
      refine bodyPost_ret (v := .tuple #[.slice a2 (k + 1) c2, .int .i64 0]) (by simp [results, Try.results11, go_sem, *]) rfl ?_
      refine ⟨_, F1, rfl, ?_, by rw [← HR2.out]; exact HA5.out, HOM5.out⟩
      rw [← HR1.out, List.length_append, HDL.out, List.map_append]
      exact HO5.out
     ·have hq1 : decide ((0 : Int) < (q : Int)) = false := decide_eq_false (by omega)
      rw [offR_last h0 (by rw [hpe, hch, hq]; exact hq0), hpe] at hr1 hr2
      have HR1 := Lib.hid (show (done ++ [id]) ++ (offR mem m (mdel A1 par) par).1 = R.1 by rw [List.append_assoc]; exact hr1)
      have HR2 := Lib.hid hr2
      clear hO hA hM hfi hid hr1 hr2 hdl hfi2 lkm2 lkc2 hidk hpk hb hK hpe h0 hch hKs hq
      go_wp2_with (first
      | go_guarded
      | (at_builtin; refine wpList_append_own _ rfl _ _ 31 rfl z.heap.size 3 ii _ 1 8 Try.underlying31 CI0.out CZ0.out CZ1.out CZ2.out rfl (by decide) (.slice oo k c) _ _ rfl (World.ownsRow.alloc HO.out _) ⟨_, 0, none⟩ 1 1 [.int .i64 id] rfl rfl ?c1 ?c2 ?c3 ?c4 ?c5 ?_; (case c1 => (intro q u hu; (rcases q with _ | q <;> simp at hu <;> (try subst hu) <;> simp [Addr.add, go_sem, *]))); (case c2 => (intro v hv; simp at hv; (first | (subst hv; rfl) | (rcases hv with rfl <;> rfl)))); (case c3 => (unfold maxLen; omega)); (case c4 => omega); (case c5 => (have := HOM.out.size; simp; omega)); intro v2 z2 hown2 hg2 _; (have HA2 := Lib.hid ((HA.out.below (Below.alloc (Below.refl _ _) (Nat.le_refl _) _)).grown hg2 (World.ownsRow.alloc HO.out _) HPB.out)); (have HOM2 := Lib.hid ((HOM.out.trans2 (Below.alloc (Below.refl _ _) (Nat.le_refl _) _)).grown hg2 (fun q hq => (HO.out.lt q hq).1))); have HL3 := HL1; obtain ⟨a2, c2, rfl⟩ := row_form hown2; (have HO2 := Lib.hid hown2); have c0 := HA2.out.c0; have c1 := HA2.out.c1; have lt := HA2.out.lt; have lk1 := HL1.out z2 _ HA2.out; have lk2 := HL2.out z2 _ HA2.out; clear hown2 hg2)
      | (obtain ⟨⟨n6, hmp6⟩, hbc6, hlo6⟩ := HIN.out z2 HA2.out; refine wpList_delete_mp _ rfl _ _ _ _ rfl ikok ikv_inj Try.underlying73 b n6 rfl hmp6 id HIK.out rfl ?_; intro w5 hu5 ho5 hs5; have HA5 := Lib.hid (HPUT.out z2 w5 HA2.out ⟨n6, hu5⟩ ho5); have HOM5 := Lib.hid (HOM2.out.put hmp6.kind (by omega) ho5); have HO5 := Lib.hid (own_put HO2.out hmp6.kind ho5); have c0 := HA5.out.c0; have c1 := HA5.out.c1; have lt := HA5.out.lt; have lk3 := HL2.out w5 _ HA5.out; have hn5 := HLEN.out w5 HA5.out; clear hu5 ho5 hs5 hmp6 hbc6 hlo6)
      | (obtain ⟨n7, hc7⟩ := HA5.out.ch.mp; refine wpList_delete_mp _ rfl _ _ _ _ rfl ikok ikv_inj Try.underlying65 cb n7 rfl hc7 par HPK.out rfl ?_; intro w6 hu6 ho6 hs6; have HA6 := Lib.hid (HA5.out.del ⟨n7, hu6⟩ ho6); have HOM6 := Lib.hid (HOM5.out.put hc7.kind HA5.out.bc ho6); have HO6 := Lib.hid (own_put HO5.out hc7.kind ho6); clear hu6 ho6 hs6 hc7))
      have HDL2 : Hid ((done ++ [id]).length = k + 1) := Lib.hid (by rw [List.length_append, HDL.out]; rfl)
      go_roundg m
      case rel => exact ⟨m, k + 1, par, _, _, done ++ [id], a2, c2, rfl, rfl, HDL2.out, by rw [List.map_append]; exact HO6.out, by rw [← mdel_upd A1 par (rmA id K)]; exact HA6.out, HOM6.out, HF2.out, HPK.out, HR1.out, HR2.out, by omega, Nat.le_refl _⟩
      case measure => omega
    | none =>
     have hch : chA0 A1 (parM mem id) = [] := by unfold chA0; rw [hK]; rfl
     have hb : F1 (parM mem id) = none := by have := hA.ch.dom (parM mem id); rw [hK] at this; simpa using this
     rw [offR_last h0 (by rw [hch]; simp [rmA])] at hr1 hr2
     obtain ⟨par, hpe⟩ : ∃ q, parM mem id = q := ⟨_, rfl⟩
     have lkm2 := fun (wz : World) (A2 : Int → Option (List Int)) (ha : AS wz B p mb cb mem F1 A2) => lkm ha hidk
     rw [hpe] at lkm2 hb hK hr1 hr2 hpk hfi2
     have lkc2 : ∀ wz A2, AS wz B p mb cb mem F1 A2 → (Instr.lookup 65 (.map (some cb)) (.int .i64 par) false).run Try.prog wz = .ok (.map none) wz := fun wz A2 ha => by
      have := lkc ha hpk
      rw [hb] at this
      exact this
     have HL1 := Lib.hid lkm2
     have HL2 := Lib.hid lkc2
     have HPK := Lib.hid hpk
     have HF2 := Lib.hid hfi2
     have HR1 := Lib.hid (show (done ++ [id]) ++ (offR mem m (mdel A1 par) par).1 = R.1 by rw [List.append_assoc]; exact hr1)
     have HR2 := Lib.hid hr2
     clear hO hA hM hfi hid hr1 hr2 hdl hfi2 lkm2 lkc2 hidk hpk hb hK hpe h0 hch
     go_wp2_with (first
      | go_guarded
      | (at_builtin; refine wpList_append_own _ rfl _ _ 31 rfl z.heap.size 3 ii _ 1 8 Try.underlying31 CI0.out CZ0.out CZ1.out CZ2.out rfl (by decide) (.slice oo k c) _ _ rfl (World.ownsRow.alloc HO.out _) ⟨_, 0, none⟩ 1 1 [.int .i64 id] rfl rfl ?c1 ?c2 ?c3 ?c4 ?c5 ?_; (case c1 => (intro q u hu; (rcases q with _ | q <;> simp at hu <;> (try subst hu) <;> simp [Addr.add, go_sem, *]))); (case c2 => (intro v hv; simp at hv; (first | (subst hv; rfl) | (rcases hv with rfl <;> rfl)))); (case c3 => (unfold maxLen; omega)); (case c4 => omega); (case c5 => (have := HOM.out.size; simp; omega)); intro v2 z2 hown2 hg2 _; (have HA2 := Lib.hid ((HA.out.below (Below.alloc (Below.refl _ _) (Nat.le_refl _) _)).grown hg2 (World.ownsRow.alloc HO.out _) HPB.out)); (have HOM2 := Lib.hid ((HOM.out.trans2 (Below.alloc (Below.refl _ _) (Nat.le_refl _) _)).grown hg2 (fun q hq => (HO.out.lt q hq).1))); have HL3 := HL1; obtain ⟨a2, c2, rfl⟩ := row_form hown2; (have HO2 := Lib.hid hown2); have c0 := HA2.out.c0; have c1 := HA2.out.c1; have lt := HA2.out.lt; have lk1 := HL1.out z2 _ HA2.out; have lk2 := HL2.out z2 _ HA2.out; clear hown2 hg2)
      | (obtain ⟨n7, hc7⟩ := HA2.out.ch.mp; refine wpList_delete_mp _ rfl _ _ _ _ rfl ikok ikv_inj Try.underlying65 cb n7 rfl hc7 par HPK.out rfl ?_; intro w6 hu6 ho6 hs6; have HA6 := Lib.hid (HA2.out.del ⟨n7, hu6⟩ ho6); have HOM6 := Lib.hid (HOM2.out.put hc7.kind HA2.out.bc ho6); have HO6 := Lib.hid (own_put HO2.out hc7.kind ho6); clear hu6 ho6 hs6 hc7))
     have HDL2 : Hid ((done ++ [id]).length = k + 1) := Lib.hid (by rw [List.length_append, HDL.out]; rfl)
     go_roundg m
     case rel => exact ⟨m, k + 1, par, _, _, done ++ [id], a2, c2, rfl, rfl, HDL2.out, by rw [List.map_append]; exact HO6.out, HA6.out, HOM6.out, HF2.out, HPK.out, HR1.out, HR2.out, by omega, Nat.le_refl _⟩
     case measure => omega
end Go.Proofs.Ytmmahgfijiocfaa
end
section
namespace Go.Proofs.Ytmmahgfijiocfaa
open Go.RowKit Fg Reg Go.Maps
attribute [local irreducible] Reg.wE VR
theorem aof_no1 {z : World} {B p mb cb : Nat} {mem : Int → Option (Int × Bool)} {F : Int → Option Nat} {A : Int → Option (List Int)} (h : AS z B p mb cb mem F A) {leaf : Int} (hi : iok leaf) (hl : lfM mem leaf = false) : Calls Try.prog 11 #[.pointer (some ⟨p, 0, none⟩), .int .i64 leaf] z fun ee w' => ee = .returned (.tuple #[.slice none 0 0, .int .i64 6]) ∧ Below z.heap.size z w' := by
 have HB := Lib.hid (Below.refl z.heap.size z)
 have c0 := h.c0
 have c1 := h.c1
 have lt := h.lt
 have lk := lkm h hi
 rw [hl] at lk
 have f1 := mf1
 clear h hl hi
 go_enter Try.func11, Try.ntmps11
 go_wp2
 refine bodyPost_ret (v := .tuple #[.slice none 0 0, .int .i64 6]) (by simp [results, Try.results11, go_sem, *]) rfl ?_
 exact ⟨rfl, HB.out⟩
theorem aof_no2 {z : World} {B p mb cb : Nat} {mem : Int → Option (Int × Bool)} {F : Int → Option Nat} {A : Int → Option (List Int)} (h : AS z B p mb cb mem F A) (hm : ∀ x m, mem x = some m → iok m.1) {leaf : Int} (hi : iok leaf) (hl : lfM mem leaf = true) (hs : isA mem A leaf = false) : Calls Try.prog 11 #[.pointer (some ⟨p, 0, none⟩), .int .i64 leaf] z fun ee w' => ee = .returned (.tuple #[.slice none 0 0, .int .i64 6]) ∧ Below z.heap.size z w' := by
 have KI := Lib.hid (ais_c h hm hi)
 rw [hs] at KI
 have c0 := h.c0
 have c1 := h.c1
 have lt := h.lt
 have lk := lkm h hi
 rw [hl] at lk
 have f1 := mf1
 clear h hl hi hm hs
 go_enter Try.func11, Try.ntmps11
 go_wp2_with (first | go_guarded | (go_at_call 22; (with_reducible refine KI.out.mono ?_); rintro _ w1 ⟨rfl, hbel⟩; have HB := Lib.hid hbel; clear hbel))
 refine bodyPost_ret (v := .tuple #[.slice none 0 0, .int .i64 6]) (by simp [results, Try.results11, go_sem, *]) rfl ?_
 exact ⟨rfl, HB.out⟩
theorem has23_c (zs : List Int) (a : Option Addr) (c : Nat) (x : Int) (hn : zs.length ≤ 4611686018427387904) (w : World) (hc : IntsV w a zs) :
  Calls Try.prog 10 #[.slice a zs.length c, .int .i64 x] w fun ee w' => ee = .returned (.bool (has zs x)) ∧ w = w' := by
 go_enter Try.func10, Try.ntmps10
 go_wp2_with fail
 go_loop [9] (fun i => ∃ k : Nat, k ≤ zs.length ∧ i = .int .i64 k ∧ has (zs.take k) x = false) (fun i => zs.length - (intOf i).toNat)
 case atStart => exact ⟨0, Nat.zero_le _, rfl, rfl⟩
 case round =>
  obtain ⟨k, hk, rfl, hno⟩ := hrel
  by_cases hlt : k < zs.length
  ·obtain ⟨b, o, rfl, hb, hcell⟩ := hc k hlt
   have hs := has_succ zs x k hlt
   rw [hno, Bool.false_or] at hs
   by_cases he : zs[k] = x
   ·have hy := Lib.hid (has_of hlt he)
    have he' : (zs[k] == x) = true := by simp [he]
    clear hc hs hno he
    go_wp2
    go_ret
    exact ⟨by rw [hy.out]; rfl, rfl⟩
   ·have he' : (zs[k] == x) = false := by simp [he]
    have Hs := Lib.hid (show has (zs.take (k + 1)) x = false by rw [hs]; simp [he])
    clear hc hs hno he
    go_wp2
    go_round
    case rel => exact ⟨k + 1, by omega, by go_num, Hs.out⟩
    case measure => simp [intOf]; omega
  ·obtain rfl : k = zs.length := by omega
   rw [List.take_length] at hno
   have HN := Lib.hid hno
   clear hc hno
   go_wp2
   go_ret
   exact ⟨by rw [HN.out]; rfl, rfl⟩
theorem wo_yes {L : List Int} {k : Nat} (h : k < L.length) {x : Int} (hx : L[k] ≠ x) : rmA x (L.take (k + 1)) = rmA x (L.take k) ++ [L[k]] := by
 unfold rmA
 rw [take_snoc'' L k h, List.filter_append]
 simp [hx]
theorem wo_no {L : List Int} {k : Nat} (h : k < L.length) {x : Int} (hx : L[k] = x) : rmA x (L.take (k + 1)) = rmA x (L.take k) := by
 unfold rmA
 rw [take_snoc'' L k h, List.filter_append]
 simp [hx]
theorem wo23_c (L : List Int) (n : Nat) (hn : L.length = n) (hle : n ≤ 1000) (x : Int) (ao : Option Addr) (cap : Nat) (w : World) (hI : IntsV w ao L) :
  Calls Try.prog 12 #[.slice ao n cap, .int .i64 x] w fun e w' => ∃ v, e = .returned v ∧ w'.ownsRow w.heap.size 3 1 v (rmA x L).length ((rmA x L).map (Value.int .i64)) ∧ Below w.heap.size w w' := by
 obtain ⟨ii, ci0, cz0, cz1, cz2⟩ := int_partsA
 have CI0 := Lib.hid ci0
 have CZ0 := Lib.hid cz0
 have CZ1 := Lib.hid cz1
 have CZ2 := Lib.hid cz2
 have HN := Lib.hid hn
 have HI := Lib.hid hI
 clear ci0 cz0 cz1 cz2 hn hI
 go_enter Try.func12, Try.ntmps12
 go_wp2_with fail
 go_loopg [5, 10] n (fun k9 s5 s10 wr => ∃ (i k : Nat) (oo : Option Addr) (c : Nat), s5 = .slice oo k c ∧ s10 = .int .i64 i ∧ i ≤ n ∧ (rmA x (L.take i)).length = k ∧ wr.ownsRow w.heap.size 3 1 (.slice oo k c) k ((rmA x (L.take i)).map (Value.int .i64)) ∧ Below w.heap.size w wr ∧ n - i ≤ k9)
 case atStart => exact ⟨0, 0, none, 0, rfl, rfl, Nat.zero_le _, rfl, World.ownsRow_nil _ _ _ _, Below.refl _ _, by omega⟩
 case round =>
  obtain ⟨i, k, oo, c, rfl, rfl, hi, hk, hO, hB, hk9⟩ := hrel
  have HK := Lib.hid hk
  have HO := Lib.hid hO
  have HB := Lib.hid hB
  have hk1 : k ≤ 1000 := by
   rw [← hk]
   exact Nat.le_trans (List.length_filter_le _ _) (by simp; omega)
  by_cases hlt : i < n
  ·have hlC : i < L.length := by rw [HN.out]; exact hlt
   obtain ⟨b, o, rfl, hb, hce⟩ := (HI.out.below hB) i hlC
   by_cases hx : L[i] = x
   ·have HW := Lib.hid (wo_no hlC hx)
    rw [hx] at hce
    have q : (x != x) = false := by simp
    clear hO hB hx hk hlC
    go_wp2_with (first | go_guarded)
    go_roundg (n - (i + 1))
    case rel => exact ⟨i + 1, k, oo, c, rfl, by go_num, by omega, by rw [HW.out]; exact HK.out, by rw [HW.out]; exact HO.out, HB.out, Nat.le_refl _⟩
    case measure => omega
   ·have hw := wo_yes hlC hx
    obtain ⟨y, hy⟩ : ∃ y, L[i] = y := ⟨_, rfl⟩
    rw [hy] at hce hx hw
    have HW := Lib.hid hw
    have q : (y != x) = true := by simpa using hx
    clear hO hB hx hk hlC hw hy
    go_wp2_with (first
     | go_guarded
     | (at_builtin; refine wpList_append_own _ rfl _ _ 31 rfl w.heap.size 3 ii _ 1 8 Try.underlying31 CI0.out CZ0.out CZ1.out CZ2.out rfl (by decide) (.slice oo k c) _ _ rfl (World.ownsRow.alloc HO.out _) ⟨_, 0, none⟩ 1 1 [.int .i64 y] rfl rfl ?c1 ?c2 ?c3 ?c4 ?c5 ?_; (case c1 => (intro q u hu; (rcases q with _ | q <;> simp at hu <;> (try subst hu) <;> simp [Addr.add, go_sem, *]))); (case c2 => (intro v hv; simp at hv; (first | (subst hv; rfl) | (rcases hv with rfl <;> rfl)))); (case c3 => (unfold maxLen; omega)); (case c4 => omega); (case c5 => (have := HB.out.size; simp; omega)); intro v2 z2 hown2 hg2 _; (have HB2 : Hid (Below w.heap.size w z2) := Lib.hid (HB.out.trans ((Below.alloc (Below.refl _ _) HB.out.size _).grown hg2 (by have := HB.out.size; simp; omega) (fun q hq => (HO.out.lt q hq).1)))); obtain ⟨a2, c2, rfl⟩ := row_form hown2; (have HO2 := Lib.hid hown2); clear hown2 hg2))
    go_roundg (n - (i + 1))
    case rel => exact ⟨i + 1, k + 1, a2, c2, rfl, by go_num, by omega, by rw [HW.out, List.length_append, HK.out]; rfl, by rw [HW.out, List.map_append]; exact HO2.out, HB2.out, Nat.le_refl _⟩
    case measure => omega
  ·obtain rfl : i = n := by omega
   have hf : L.take i = L := by rw [← HN.out, List.take_length]
   have HF := Lib.hid hf
   clear hO hB hk hlt hf
   go_wp2_with (first | go_guarded)
   refine bodyPost_ret (v := .slice oo k c) (by simp [results, Try.results12, go_sem, *]) rfl ?_
   have ho := HO.out
   have hk := HK.out
   rw [HF.out] at ho hk
   rw [hk]
   exact ⟨_, rfl, ho, HB.out⟩
end Go.Proofs.Ytmmahgfijiocfaa
end
section
namespace Go.Proofs.Ytmmahgfijiocfaa
open Go.RowKit Fg Reg Go.Maps
attribute [local irreducible] Reg.wE VR
def ups (mem : Int → Option (Int × Bool)) : Nat → Int → List Int
 | 0, _ => []
 | n + 1, x => if x = 0 then [] else parM mem x :: ups mem n (parM mem x)
theorem ups_zero (mem : Int → Option (Int × Bool)) (n : Nat) : ups mem n 0 = [] := by
 cases n with
 | zero => rfl
 | succ n => unfold ups; rw [if_pos rfl]
theorem ups_succ {mem : Int → Option (Int × Bool)} {n : Nat} {x : Int} (h : x ≠ 0) : ups mem (n + 1) x = parM mem x :: ups mem n (parM mem x) := by
 show (if x = 0 then _ else _) = _
 rw [if_neg h]
theorem fin_ups {mem : Int → Option (Int × Bool)} : ∀ (m n : Nat) (x : Int), finM mem n x = true → ∀ y ∈ ups mem m x, y ≠ 0 → ∃ k, k < n ∧ finM mem k y = true
 | 0, n, x, _, y, hy, _ => by cases hy
 | m + 1, n, x, hf, y, hy, h0 => by
  by_cases hx : x = 0
  ·rw [hx, ups_zero] at hy; cases hy
  ·rw [ups_succ hx] at hy
   cases n with
   | zero => exact absurd (by simpa [finM] using hf) hx
   | succ n =>
    have hf2 : finM mem n (parM mem x) = true := by
     unfold finM at hf
     simpa [hx] using hf
    rcases List.mem_cons.1 hy with h | h
    ·subst h
     exact ⟨n, by omega, hf2⟩
    ·obtain ⟨k, hk, hk2⟩ := fin_ups m n (parM mem x) hf2 y h h0
     exact ⟨k, by omega, hk2⟩
theorem no_loop {mem : Int → Option (Int × Bool)} {x : Int} (h0 : x ≠ 0) (m : Nat) : ∀ (n : Nat), finM mem n x = true → x ∉ ups mem m x := by
 intro n
 induction n using Nat.strongRecOn with
 | _ n ih =>
  intro hf hm
  obtain ⟨k, hk, hk2⟩ := fin_ups m n x hf x hm h0
  exact ih k hk hk2 hm
structure AI (mem : Int → Option (Int × Bool)) (A : Int → Option (List Int)) : Prop where
 ne : ∀ x K, A x = some K → K ≠ []
 srt : ∀ x K, A x = some K → K.Pairwise (· < ·)
 act : ∀ x K id, A x = some K → id ∈ K → lfM mem id = true ∨ A id ≠ none
 par : ∀ x K id, A x = some K → id ∈ K → parM mem id = x
def allS (A : Int → Option (List Int)) (y : Int) : Prop := ∃ x K, A x = some K ∧ y ∈ K
theorem AI.zero (mem : Int → Option (Int × Bool)) : AI mem (fun _ => none) := ⟨fun x K h => (by cases h), fun x K h => (by cases h), fun x K id h => (by cases h), fun x K id h => (by cases h)⟩
theorem upd_some {A : Int → Option (List Int)} {p x : Int} {K L : List Int} (h : upd A p L x = some K) : (x = p ∧ K = L) ∨ (x ≠ p ∧ A x = some K) := by
 unfold upd at h
 by_cases hx : x = p
 ·rw [if_pos hx] at h
  injection h with h
  exact .inl ⟨hx, h.symm⟩
 ·rw [if_neg hx] at h
  exact .inr ⟨hx, h⟩
theorem upd_none {A : Int → Option (List Int)} {p x : Int} {L : List Int} (h : A x ≠ none) : upd A p L x ≠ none := by
 unfold upd
 by_cases hx : x = p
 ·rw [if_pos hx]; simp
 ·rw [if_neg hx]; exact h
theorem AI.put {mem : Int → Option (Int × Bool)} {A : Int → Option (List Int)} (h : AI mem A) {id : Int} {L : List Int} (hL : L.Pairwise (· < ·)) (hn : L ≠ []) (hm : ∀ y ∈ L, y = id ∨ ∃ K, A (parM mem id) = some K ∧ y ∈ K) (ha : lfM mem id = true ∨ A id ≠ none) : AI mem (upd A (parM mem id) L) := by
 refine ⟨fun x K e => ?_, fun x K e => ?_, fun x K y e hy => ?_, fun x K y e hy => ?_⟩
 ·rcases upd_some e with ⟨_, rfl⟩ | ⟨_, e⟩
  ·exact hn
  ·exact h.ne x K e
 ·rcases upd_some e with ⟨_, rfl⟩ | ⟨_, e⟩
  ·exact hL
  ·exact h.srt x K e
 ·rcases upd_some e with ⟨_, rfl⟩ | ⟨_, e⟩
  ·rcases hm y hy with rfl | ⟨K2, e2, h2⟩
   ·exact ha.imp_right upd_none
   ·exact (h.act _ K2 y e2 h2).imp_right upd_none
  ·exact (h.act x K y e hy).imp_right upd_none
 ·rcases upd_some e with ⟨rfl, rfl⟩ | ⟨_, e⟩
  ·rcases hm y hy with rfl | ⟨K2, e2, h2⟩
   ·rfl
   ·exact h.par _ K2 y e2 h2
  ·exact h.par x K y e hy
theorem on_AI {mem : Int → Option (Int × Bool)} : ∀ (n : Nat) (A : Int → Option (List Int)) (id : Int), AI mem A → (id = 0 ∨ lfM mem id = true ∨ A id ≠ none) → AI mem (onR mem n A id).2
 | 0, A, id, h, _ => h
 | n + 1, A, id, h, hc => by
  by_cases h0 : id = 0
  ·subst h0
   rw [onR_zero]
   exact h
  ·have hc2 := hc.resolve_left h0
   cases hA : A (parM mem id) with
   | some K =>
    rw [onR_some h0 hA]
    exact h.put (insA_srt (h.srt _ K hA)) (fun e => by have := (insA_mem (x := id) (L := K) id).2 (.inl rfl); rw [e] at this; cases this) (fun y hy => ((insA_mem y).1 hy).imp_right fun g => ⟨K, hA, g⟩) hc2
   | none =>
    rw [onR_none h0 hA]
    refine on_AI n _ _ (h.put (List.pairwise_singleton _ _) (by simp) (fun y hy => .inl (List.mem_singleton.1 hy)) hc2) (.inr (.inr ?_))
    unfold upd
    rw [if_pos rfl]
    simp
theorem on_all {mem : Int → Option (Int × Bool)} (y : Int) : ∀ (n : Nat) (A : Int → Option (List Int)) (id : Int), allS (onR mem n A id).2 y ↔ allS A y ∨ y ∈ (onR mem n A id).1
 | 0, A, id => by show allS A y ↔ allS A y ∨ y ∈ []; simp
 | n + 1, A, id => by
  by_cases h0 : id = 0
  ·subst h0
   rw [onR_zero]
   simp
  ·have hput : ∀ L, (∀ z, z ∈ L ↔ z = id ∨ ∃ K, A (parM mem id) = some K ∧ z ∈ K) → (allS (upd A (parM mem id) L) y ↔ allS A y ∨ y = id) := fun L hL => by
    constructor
    ·rintro ⟨x, K, e, hy⟩
     rcases upd_some e with ⟨rfl, rfl⟩ | ⟨_, e⟩
     ·rcases (hL y).1 hy with h | ⟨K2, e2, h2⟩
      ·exact .inr h
      ·exact .inl ⟨_, K2, e2, h2⟩
     ·exact .inl ⟨x, K, e, hy⟩
    ·rintro (⟨x, K, e, hy⟩ | rfl)
     ·by_cases hx : x = parM mem id
      ·exact ⟨parM mem id, L, by unfold upd; rw [if_pos rfl], (hL y).2 (.inr ⟨K, by rw [← hx]; exact e, hy⟩)⟩
      ·exact ⟨x, K, by unfold upd; rw [if_neg hx]; exact e, hy⟩
     ·exact ⟨parM mem y, L, by unfold upd; rw [if_pos rfl], (hL y).2 (.inl rfl)⟩
   cases hA : A (parM mem id) with
   | some K =>
    rw [onR_some h0 hA]
    show allS (upd A _ _) y ↔ allS A y ∨ y ∈ [id]
    rw [hput (insA id K) (fun z => (insA_mem z).trans ⟨fun g => g.imp_right fun h => ⟨K, hA, h⟩, fun g => g.imp_right fun ⟨K2, e2, h2⟩ => by rw [hA] at e2; injection e2 with e2; rw [e2]; exact h2⟩), List.mem_singleton]
   | none =>
    rw [onR_none h0 hA]
    show allS (onR mem n (upd A _ _) _).2 y ↔ allS A y ∨ y ∈ id :: _
    rw [on_all y n, hput [id] (fun z => ⟨fun g => .inl (List.mem_singleton.1 g), fun g => by rcases g with rfl | ⟨K2, e2, _⟩; exact List.mem_singleton_self _; rw [hA] at e2; cases e2⟩), List.mem_cons, or_assoc]
end Go.Proofs.Ytmmahgfijiocfaa
end
section
namespace Go.Proofs.Ytmmahgfijiocfaa
open Go.RowKit Fg Reg Go.Maps
attribute [local irreducible] Reg.wE VR
structure AX (mem : Int → Option (Int × Bool)) (A : Int → Option (List Int)) (i : Int) : Prop where
 ne : ∀ x K, A x = some K → K ≠ []
 srt : ∀ x K, A x = some K → K.Pairwise (· < ·)
 act : ∀ x K id, A x = some K → id ∈ K → id = i ∨ lfM mem id = true ∨ A id ≠ none
 par : ∀ x K id, A x = some K → id ∈ K → parM mem id = x
 nz : ∀ x K, A x = some K → (0 : Int) ∉ K
theorem AI.ax {mem : Int → Option (Int × Bool)} {A : Int → Option (List Int)} (h : AI mem A) (hz : ∀ x K, A x = some K → (0 : Int) ∉ K) (i : Int) : AX mem A i := ⟨h.ne, h.srt, fun x K id e hm => .inr (h.act x K id e hm), h.par, hz⟩
theorem AX.ai {mem : Int → Option (Int × Bool)} {A : Int → Option (List Int)} {i : Int} (h : AX mem A i) (hi : ∀ x K, A x = some K → i ∉ K) : AI mem A := ⟨h.ne, h.srt, fun x K id e hm => (h.act x K id e hm).resolve_left (fun g => hi x K e (g ▸ hm)), h.par⟩
theorem mdel_some {A : Int → Option (List Int)} {p x : Int} {K : List Int} (h : mdel A p x = some K) : x ≠ p ∧ A x = some K := by
 unfold mdel at h
 by_cases hx : x = p
 ·rw [if_pos hx] at h; cases h
 ·rw [if_neg hx] at h
  exact ⟨hx, h⟩
theorem rm_mem {id y : Int} {K : List Int} : y ∈ rmA id K ↔ y ∈ K ∧ y ≠ id := by
 unfold rmA
 rw [List.mem_filter]
 simp
theorem off_AI {mem : Int → Option (Int × Bool)} : ∀ (n : Nat) (A : Int → Option (List Int)) (id : Int), finM mem n id = true → AX mem A id → AI mem (offR mem n A id).2 ∧ ∀ x K, (offR mem n A id).2 x = some K → (0 : Int) ∉ K
 | 0, A, id, hf, h => by
  have h0 : id = 0 := by simpa [finM] using hf
  subst h0
  exact ⟨h.ai h.nz, h.nz⟩
 | n + 1, A, id, hf, h => by
  by_cases h0 : id = 0
  ·subst h0
   rw [offR_zero]
   exact ⟨h.ai h.nz, h.nz⟩
  ·have hf2 : finM mem n (parM mem id) = true := by
    have hf3 := hf
    unfold finM at hf3
    simpa [h0] using hf3
   by_cases hl : 0 < (rmA id (chA0 A (parM mem id))).length
   ·rw [offR_more h0 hl]
    obtain ⟨L, hL⟩ : ∃ L, rmA id (chA0 A (parM mem id)) = L := ⟨_, rfl⟩
    obtain ⟨K, hK⟩ : ∃ K, A (parM mem id) = some K := by
     cases hA : A (parM mem id) with
     | some K => exact ⟨K, rfl⟩
     | none => unfold chA0 at hl; rw [hA] at hl; simp [rmA] at hl
    have hc : chA0 A (parM mem id) = K := by unfold chA0; rw [hK]; rfl
    rw [hc] at hL hl
    rw [hc, hL]
    rw [hL] at hl
    have hs : ∀ y, y ∈ L → y ∈ K ∧ y ≠ id := fun y hy => by rw [← hL] at hy; exact rm_mem.1 hy
    have hx : AX mem (upd A (parM mem id) L) id := by
     refine ⟨fun x K2 e => ?_, fun x K2 e => ?_, fun x K2 y e hy => ?_, fun x K2 y e hy => ?_, fun x K2 e => ?_⟩
     ·rcases upd_some e with ⟨_, rfl⟩ | ⟨_, e⟩
      ·exact List.length_pos_iff.1 hl
      ·exact h.ne x K2 e
     ·rcases upd_some e with ⟨_, rfl⟩ | ⟨_, e⟩
      ·rw [← hL]; exact (h.srt _ K hK).filter _
      ·exact h.srt x K2 e
     ·rcases upd_some e with ⟨_, rfl⟩ | ⟨_, e⟩
      ·exact (h.act _ K y hK (hs y hy).1).imp_right fun g => g.imp_right upd_none
      ·exact (h.act x K2 y e hy).imp_right fun g => g.imp_right upd_none
     ·rcases upd_some e with ⟨rfl, rfl⟩ | ⟨_, e⟩
      ·exact h.par _ K y hK (hs y hy).1
      ·exact h.par x K2 y e hy
     ·rcases upd_some e with ⟨_, rfl⟩ | ⟨_, e⟩
      ·exact fun g => h.nz _ K hK (hs 0 g).1
      ·exact h.nz x K2 e
    refine ⟨hx.ai fun x K2 e hm => ?_, hx.nz⟩
    have hp := hx.par x K2 id e hm
    rcases upd_some e with ⟨_, rfl⟩ | ⟨hne, _⟩
    ·exact (hs id hm).2 rfl
    ·exact hne hp.symm
   ·rw [offR_last h0 hl]
    refine off_AI n (mdel A (parM mem id)) (parM mem id) hf2 ⟨fun x K e => h.ne x K (mdel_some e).2, fun x K e => h.srt x K (mdel_some e).2, fun x K y e hy => ?_, fun x K y e hy => h.par x K y (mdel_some e).2 hy, fun x K e => h.nz x K (mdel_some e).2⟩
    obtain ⟨hne, e2⟩ := mdel_some e
    by_cases hy2 : y = parM mem id
    ·exact .inl hy2
    ·rcases h.act x K y e2 hy with g | g | g
     ·exact absurd ((h.par x K y e2 hy).symm.trans (by rw [g])) hne
     ·exact .inr (.inl g)
     ·refine .inr (.inr ?_)
      unfold mdel
      rw [if_neg hy2]
      exact g
end Go.Proofs.Ytmmahgfijiocfaa
end
section
namespace Go.Proofs.Ytmmahgfijiocfaa
open Go.RowKit Fg Reg Go.Maps
attribute [local irreducible] Reg.wE VR
def onE (mem : Int → Option (Int × Bool)) (A : Int → Option (List Int)) (id : Int) : Int := if lfM mem id = false then 6 else if isA mem A id = true then 8 else 0
def onO (mem : Int → Option (Int × Bool)) (A : Int → Option (List Int)) (id : Int) : List Int := if onE mem A id = 0 then (onR mem 17 A id).1 else []
def onS (mem : Int → Option (Int × Bool)) (A : Int → Option (List Int)) (id : Int) : Int → Option (List Int) := if onE mem A id = 0 then (onR mem 17 A id).2 else A
def ofE (mem : Int → Option (Int × Bool)) (A : Int → Option (List Int)) (id : Int) : Int := if lfM mem id = false then 6 else if isA mem A id = true then 0 else 6
def ofO (mem : Int → Option (Int × Bool)) (A : Int → Option (List Int)) (id : Int) : List Int := if ofE mem A id = 0 then (offR mem 17 A id).1 else []
def ofS (mem : Int → Option (Int × Bool)) (A : Int → Option (List Int)) (id : Int) : Int → Option (List Int) := if ofE mem A id = 0 then (offR mem 17 A id).2 else A
def OnG (B p mb cb : Nat) (mem : Int → Option (Int × Bool)) (z : World) (E : Int) (out : List Int) (A2 : Int → Option (List Int)) (e : Ending) (z' : World) : Prop := ∃ v F2, e = .returned (.tuple #[v, .int .i64 E]) ∧ z'.ownsRow z.heap.size 3 1 v out.length (out.map (Value.int .i64)) ∧ AS z' B p mb cb mem F2 A2 ∧ OM B z z'
theorem aon_c {z : World} {B p mb cb : Nat} {mem : Int → Option (Int × Bool)} {F : Int → Option Nat} {A : Int → Option (List Int)} (h : AS z B p mb cb mem F A) (hm : ∀ x m, mem x = some m → iok m.1) {id : Int} (hi : iok id) (hB : B ≤ z.heap.size) (hf : lfM mem id = true → finM mem 17 id = true) : Calls Try.prog 15 #[.pointer (some ⟨p, 0, none⟩), .int .i64 id] z (OnG B p mb cb mem z (onE mem A id) (onO mem A id) (onS mem A id)) := by
 by_cases hl : lfM mem id = true
 ·by_cases hs : isA mem A id = true
  ·have e : onE mem A id = 8 := by unfold onE; rw [if_neg (by simp [hl]), if_pos hs]
   have e2 : onO mem A id = [] := by unfold onO; rw [e]; rfl
   have e3 : onS mem A id = A := by unfold onS; rw [e]; rfl
   rw [e, e2, e3]
   refine (aon_same h hm hi hl hs).mono ?_
   rintro _ z' ⟨rfl, hb⟩
   exact ⟨_, F, rfl, World.ownsRow_nil _ _ _ _, h.below hb, OM.of_below hb⟩
  ·have hs2 : isA mem A id = false := by simpa using hs
   have e : onE mem A id = 0 := by unfold onE; rw [if_neg (by simp [hl]), if_neg hs]
   have e2 : onO mem A id = (onR mem 17 A id).1 := by unfold onO; rw [e]; rfl
   have e3 : onS mem A id = (onR mem 17 A id).2 := by unfold onS; rw [e]; rfl
   rw [e, e2, e3]
   exact (aon_ok h hm hi hl hs2 hB (hf hl)).mono fun _ _ g => g
 ·have hl2 : lfM mem id = false := by simpa using hl
  have e : onE mem A id = 6 := by unfold onE; rw [if_pos hl2]
  have e2 : onO mem A id = [] := by unfold onO; rw [e]; rfl
  have e3 : onS mem A id = A := by unfold onS; rw [e]; rfl
  rw [e, e2, e3]
  refine (aon_no h hi hl2).mono ?_
  rintro _ z' ⟨rfl, hb⟩
  exact ⟨_, F, rfl, World.ownsRow_nil _ _ _ _, h.below hb, OM.of_below hb⟩
theorem aof_c {z : World} {B p mb cb : Nat} {mem : Int → Option (Int × Bool)} {F : Int → Option Nat} {A : Int → Option (List Int)} (h : AS z B p mb cb mem F A) (hm : ∀ x m, mem x = some m → iok m.1) {id : Int} (hi : iok id) (hf : lfM mem id = true → finM mem 17 id = true) : Calls Try.prog 11 #[.pointer (some ⟨p, 0, none⟩), .int .i64 id] z (OnG B p mb cb mem z (ofE mem A id) (ofO mem A id) (ofS mem A id)) := by
 have hno : ∀ (_ : ofE mem A id = 6) (_ : Calls Try.prog 11 #[.pointer (some ⟨p, 0, none⟩), .int .i64 id] z fun ee w' => ee = .returned (.tuple #[.slice none 0 0, .int .i64 6]) ∧ Below z.heap.size z w'), Calls Try.prog 11 #[.pointer (some ⟨p, 0, none⟩), .int .i64 id] z (OnG B p mb cb mem z (ofE mem A id) (ofO mem A id) (ofS mem A id)) := fun e K => by
  have e2 : ofO mem A id = [] := by unfold ofO; rw [e]; rfl
  have e3 : ofS mem A id = A := by unfold ofS; rw [e]; rfl
  rw [e, e2, e3]
  refine K.mono ?_
  rintro _ z' ⟨rfl, hb⟩
  exact ⟨_, F, rfl, World.ownsRow_nil _ _ _ _, h.below hb, OM.of_below hb⟩
 by_cases hl : lfM mem id = true
 ·by_cases hs : isA mem A id = true
  ·have e : ofE mem A id = 0 := by unfold ofE; rw [if_neg (by simp [hl]), if_pos hs]
   have e2 : ofO mem A id = (offR mem 17 A id).1 := by unfold ofO; rw [e]; rfl
   have e3 : ofS mem A id = (offR mem 17 A id).2 := by unfold ofS; rw [e]; rfl
   rw [e, e2, e3]
   exact (aof_ok h hm hi hl hs (hf hl)).mono fun _ _ g => g
  ·have hs2 : isA mem A id = false := by simpa using hs
   exact hno (by unfold ofE; rw [if_neg (by simp [hl]), if_neg hs]) (aof_no2 h hm hi hl hs2)
 ·have hl2 : lfM mem id = false := by simpa using hl
  exact hno (by unfold ofE; rw [if_pos hl2]) (aof_no1 h hi hl2)
theorem isA_all {mem : Int → Option (Int × Bool)} {A : Int → Option (List Int)} {id : Int} (h0 : id ≠ 0) (h : isA mem A id = true) : allS A id := by
 unfold isA at h
 rw [if_neg h0] at h
 cases hc : mem id with
 | none => rw [hc] at h; cases h
 | some m =>
  rw [hc] at h
  cases hA : A m.1 with
  | none => simp [hA] at h
  | some K => exact ⟨m.1, K, hA, by simpa [hA] using h⟩
theorem all_isA {mem : Int → Option (Int × Bool)} {A : Int → Option (List Int)} (hI : AI mem A) {id : Int} (h0 : id ≠ 0) (hm : (mem id).isSome = true) (h : allS A id) : isA mem A id = true := by
 obtain ⟨x, K, e, hk⟩ := h
 have hp := hI.par x K id e hk
 unfold isA
 rw [if_neg h0]
 obtain ⟨m, hc⟩ := Option.isSome_iff_exists.1 hm
 have hpm : m.1 = x := by unfold parM at hp; rw [hc] at hp; exact hp
 rw [hc]
 show (match A m.1 with | some K => decide (id ∈ K) | none => false) = true
 rw [hpm, e]
 simpa using hk
end Go.Proofs.Ytmmahgfijiocfaa
end
