/- Joined texts. -/
import Derived.Test.YtmmahgfijiocfaaBs0
import Derived.Test.YtmmahgfijiocfaaBs1
import Derived.Test.YtmmahgfijiocfaaBs2
import Derived.Test.YtmmahgfijiocfaaBs3
import Derived.Test.YtmmahgfijiocfaaBs4
import Derived.Test.YtmmahgfijiocfaaBs5
import Derived.Test.YtmmahgfijiocfaaBs8
import Derived.Test.YtmmahgfijiocfaaBs9
import Derived.Maps.Keyed
import Derived.Maps.Own
import Derived.Maps.OwnOps
import Derived.DeepKeys5
import Derived.StillTail
import Derived.Deep.Quiet
import Derived.Deep.QuietTactic
import Derived.Test.YtmmahgfijiocfaaChecked
import Derived.WalkKit
import Derived.BigQuiet
import Derived.OpenShut
import Derived.Deep.RegionHeld3
import Derived.Deep.RegionWith
import Derived.Deep.DeepCutAuto
import Derived.WalkSpells
import Derived.WalkSmall
import Derived.Lib.Hide
import Derived.RowKit
import Derived.IntWalk
import Derived.LoopN
import Derived.ProofKit
import Derived.Below
import Derived.Carry
import Derived.ReadAgain
import Derived.ChangeOld
import Derived.Deep.Slices
import Derived.Maps.RangeRun
import Derived.Sort.OwnSortedInts
import Derived.Shelf.SlIterI.Nil
import Derived.Shelf.SortM.Plain
import Derived.Shelf.SortM.SortNone
import Derived.Ground.GgzProg
import Derived.Ground.SlgmProg
import Derived.Laws.AppendOwn
import Derived.Laws.AppendOwnNone
import Derived.Deep.OwnRows
import Derived.ArgAppend
import Derived.Deep.MidRow
import Derived.Deep.WholeRow
import Derived.Laws.CopyRow
set_option linter.unusedVariables false
set_option linter.unusedSimpArgs false
set_option maxRecDepth 100000
set_option maxHeartbeats 16000000
section
namespace Go.Proofs.Ytmmahgfijiocfaa
open Go.RowKit Fg Reg Go.MapKept Go.Maps
section
variable {P : Program} {κ ν : Type} {k : TypeId} {kv : κ → Value} {vv : ν → Value} {ok : κ → Prop}
variable {f : κ → Option ν} {n : Nat} {w : World} {b : Nat}
variable {t e : TypeId}
theorem wpList_mapUpdate_mp [DecidableEq κ] (w : World) {ops : Array Oper} {rest : List Oper} {o : Oper} {a : Act} {Q : Exit → Act → World → Prop}
  (hg : o.guard = none) (m x v : Operand) (t : TypeId) (hop : o.op = Op.mapUpdate t m x v)
  (K : KeyOk P k kv ok) (ht : P.underlying t = some (.map k e)) (b n : Nat)
  (hm : a.eval m = .map (some b)) (h : Mp kv vv ok f n w b) (key : κ) (val : ν) (hk : ok key) (hx : a.eval x = kv key) (hv : a.eval v = vv val)
  (hK : ∀ w', Mp kv vv ok (upd f key val) (n + 1) w' b → Only (fun i => i = b) w w' → w'.heap.size = w.heap.size → wpList P ops Q rest (a.put o.dst undef) w') :
  wpList P ops Q (o :: rest) a w := by
 refine wpList_plain hg fun K' hK' => ?_
 obtain ⟨w', hrun, r1, r2, r3⟩ := h.update K ht hk val
 unfold Oper.wp
 simp [execOp, hop, hm, hx, hv, hrun, Result.andThen]
 exact hK' _ _ (hK w' r1 r2 r3)
end
end Go.Proofs.Ytmmahgfijiocfaa
end
section
namespace Go.Proofs.Ytmmahgfijiocfaa
open Go.RowKit Fg Reg Go.Maps
attribute [local irreducible] Reg.wE
theorem ids1_c (c : Cls) (w : World) : Calls Try.prog 64 #[.agg #[.int .i64 c.id, .int .i64 c.par, .bool c.leaf, .int .u64 c.ra, .int .u64 c.rb, .int .u64 c.rc, .int .u64 c.la, .int .u64 c.lb, .int .u64 c.lc, .int .u64 c.ua, .int .u64 c.ub, .int .u64 c.uc, .int .i64 c.pk, .int .i64 c.bt]] w fun ee w' => ee = .returned (.bool true) ∧ Below w.heap.size w w' := by
 go_enter Try.func64, Try.ntmps64
 go_wp2
 refine bodyPost_ret (v := (.bool true)) (by simp [results, Try.results64, go_sem, *]) rfl ⟨rfl, ?_⟩
 exact bub
theorem thoseAll_c {w : World} {tb mb : Nat} {f : Int → Option Cls} (h : HT w tb mb f) (L : List Int) (hL : L.Nodup) (hm : ∀ x, (f x).isSome = true ↔ x ∈ L) (hn : L.length ≤ 1000) (hok : ∀ x ∈ L, iok x) :
  Calls Try.prog 43 #[.pointer (some ⟨tb, 0, none⟩), .func (.func 64) #[] #[]] w fun e w' => ∃ (v : Value) (M : List Int), e = .returned v ∧ M.Perm L ∧ w'.ownsRow (w.heap.size + 1) 3 1 v M.length ((M.mergeSort (fun x y => decide (x ≤ y))).map (Value.int .i64)) ∧ Below w.heap.size w w' := by
 obtain ⟨n0, hmp⟩ := h.mp
 obtain ⟨ii, ci0, cz0, cz1, cz2⟩ := int_partsH
 have CI0 := Lib.hid ci0
 have CZ0 := Lib.hid cz0
 have CZ1 := Lib.hid cz1
 have CZ2 := Lib.hid cz2
 have HMP := Lib.hid hmp
 have HMB := Lib.hid h.mlt
 have HL := Lib.hid hL
 have HM := Lib.hid hm
 have HOK := Lib.hid hok
 have c0 := h.c0
 have lt := h.lt
 obtain ⟨base, hbase⟩ : ∃ base, w.heap.size + 1 = base := ⟨_, rfl⟩
 rw [hbase]
 have HBA := Lib.hid hbase
 clear h hmp hL hm hok hbase ci0 cz0 cz1 cz2
 go_enter Try.func43, Try.ntmps43
 go_wp2_with (first | go_guarded | (refine wpList_range_itm rfl _ 85 _ _ rfl Try.underlying85 mb n0 _ rfl HMP.out rfl ?_; intro w1 hI hbel hs1; have HI0 := Lib.hid hI; have HB0 := Lib.hid hbel; clear hI hbel))
 go_frame
 go_loopg [5] L.length (fun k9 s5 wr => ∃ (ks : List Int) (m : Nat) (ao : Option Addr) (c : Nat), s5 = .slice ao m c ∧ ks.length = m ∧ ks.Nodup ∧ (∀ x ∈ ks, x ∈ L) ∧ L.length - m ≤ k9 ∧ ItM ikv clv iok f ks wr w.heap.size mb ∧ wr.ownsRow base 3 1 (.slice ao m c) m (ks.map (Value.int .i64)) ∧ base ≤ wr.heap.size ∧ Below w.heap.size w wr)
 case atStart => exact ⟨[], 0, none, 0, rfl, rfl, List.nodup_nil, fun x hx => by simp at hx, by simp, HI0.out, World.ownsRow_nil _ _ _ _, by rw [hs1]; exact Nat.le_of_eq HBA.out.symm, HB0.out⟩
 case round =>
  obtain ⟨ks, m, ao, c, rfl, hkm, hnd, hsub, hk, hI, hO, hbs, hB⟩ := hrel
  have HI := Lib.hid hI
  have HO := Lib.hid hO
  have HB := Lib.hid hB
  have HND := Lib.hid hnd
  have HSUB := Lib.hid hsub
  have HKM := Lib.hid hkm
  have hml : m ≤ L.length := by rw [← hkm]; exact len_sub hnd hsub
  clear hI hO hnd hsub hkm
  by_cases hall : ∃ x v, iok x ∧ f x = some v ∧ x ∉ ks
  ·have HALL := Lib.hid hall
   clear hall
   go_wp2_with (first
    | go_guarded
    | (refine wpList_next_more rfl _ rfl w.heap.size mb rfl HI.out HALL.out (fun a b _ _ h => by simpa [ikv] using h) ?_; intro x cl w3 hx hnx hf hen hI3 ho3 hs3; (simp only [ikv, clv] at hen ⊢); have HI3 := Lib.hid hI3; have HO3 := Lib.hid (row_only HO.out ho3 (fun k hk hb => by have := HBA.out; omega)); have HON := Lib.hid ho3; have HX := Lib.hid hx; have HNX := Lib.hid hnx; have HF := Lib.hid hf; clear hI3 ho3 hx hnx hf)
    | (go_at_call 64; (with_reducible refine (ids1_c _ _).mono ?_); rintro _ w5 ⟨rfl, hbel⟩; have hs5 := hbel.size; (try simp at hs5); have HI5 := Lib.hid ((HI3.out.frame (heap_alloc_old _ _ HI3.out.lt.1) (heap_alloc_old _ _ HI3.out.lt.2)).below hbel); have HO5 := Lib.hid (row_bel (World.ownsRow.alloc HO3.out _) hbel); have HB5 : Hid (Below base w3 w5) := Lib.hid ((Below.alloc (Below.refl _ _) (by omega) _).trans (hbel.mono (by simp; omega))); clear hbel)
    | (at_builtin; refine wpList_append_own _ rfl _ _ 31 rfl base 3 ii (.int .i64 0) 1 8 Try.underlying31 CI0.out CZ0.out CZ1.out CZ2.out rfl (by decide) (.slice ao m c) _ _ rfl (World.ownsRow.alloc HO5.out _) ⟨_, 0, none⟩ 1 1 [Value.int .i64 x] rfl rfl ?c1 ?c2 ?c3 ?c4 ?c5 ?_; (case c1 => (intro q u hu; rcases q with _ | q <;> simp at hu <;> (try subst hu) <;> simp [Addr.add, go_sem, *])); (case c2 => (intro v hv; simp at hv; subst hv; rfl)); (case c3 => (unfold maxLen; omega)); (case c4 => omega); (case c5 => (simp; omega)); intro v2 z2 hown2 hg2 _; (have hb2 : Below base w5 z2 := (Below.alloc (Below.refl _ _) (by omega) _).grown hg2 (by simp; omega) (fun q hq => (HO5.out.lt q hq).1)); obtain ⟨a2, c2, rfl⟩ := row_form hown2; (have HO2 := Lib.hid hown2); (have HB2 := Lib.hid hb2); clear hown2 hg2 hb2))
   have hnd2 : (ks ++ [x]).Nodup := List.nodup_append.2 ⟨HND.out, by simp, fun a ha b hb => by rw [List.mem_singleton] at hb; subst hb; rintro rfl; exact HNX.out ha⟩
   have hsub2 : ∀ y ∈ ks ++ [x], y ∈ L := fun y hy => by
    rcases List.mem_append.1 hy with g | g
    ·exact HSUB.out y g
    ·rw [List.mem_singleton] at g; subst g; exact (HM.out y).1 (by rw [HF.out]; rfl)
   have hm1 := len_sub hnd2 hsub2
   rw [List.length_append, List.length_singleton, HKM.out] at hm1
   go_roundg (L.length - (m + 1))
   case rel =>
    refine ⟨ks ++ [x], m + 1, a2, c2, rfl, by rw [List.length_append, List.length_singleton, HKM.out], hnd2, hsub2, Nat.le_refl _, ?_, ?_, ?_, ?_⟩
    ·exact HI5.out.frame (HB2.out.block _ (by have := HBA.out; omega)) (HB2.out.block _ (by have := HBA.out; have := HMB.out; omega))
    ·rw [List.map_append]; exact HO2.out
    ·have h5 := HB5.out.size
     have h2 := HB2.out.size
     omega
    ·have hbw := HB.out.size
     have h1 : Below w.heap.size wr w3 := ⟨HON.out.1, HON.out.2, HON.out.3, HON.out.4, fun k hk => HON.out.5 k (by omega) (by omega)⟩
     have hba := HBA.out
     exact HB.out.trans (h1.trans ((HB5.out.mono (by omega)).trans (HB2.out.mono (by omega))))
   case measure => omega
  ·have hd : ∀ x v, iok x → f x = some v → x ∈ ks := fun x v hx hf => Classical.byContradiction fun hn => hall ⟨x, v, hx, hf, hn⟩
   have hpm : ks.Perm L := (List.perm_ext_iff_of_nodup HND.out HL.out).2 fun x => ⟨HSUB.out x, fun hx => by
    obtain ⟨v, hv⟩ := Option.isSome_iff_exists.1 ((HM.out x).2 hx)
    exact hd x v (HOK.out x hx) hv⟩
   have HD := Lib.hid hd
   have HPM := Lib.hid hpm
   clear hd hpm hall
   have hkm := HKM.out
   subst hkm
   go_wp2_with (first
    | go_guarded
    | (refine wpList_next_end rfl _ rfl w.heap.size mb rfl HI.out HD.out ?_)
    | (go_at_call 42; (with_reducible refine (sortI_c HO.out (by omega)).mono ?_); rintro _ w5 ⟨rfl, hrow, hbel⟩; have HR5 := Lib.hid hrow; have HO5 := Lib.hid hbel; clear hrow hbel))
   go_ret
   have hbw := HB.out.size
   have hba := HBA.out
   have h1 : Below w.heap.size wr w5 := ⟨HO5.out.1, HO5.out.2, HO5.out.3, HO5.out.4, fun k hk => HO5.out.5 k (by omega) (by omega)⟩
   exact ⟨_, ks, rfl, HPM.out, HR5.out, HB.out.trans h1⟩
end Go.Proofs.Ytmmahgfijiocfaa
end
section
namespace Go.Proofs.Ytmmahgfijiocfaa
open Go.RowKit Fg Reg Go.Maps
attribute [local irreducible] Reg.wE
theorem ids_c {w : World} {tb mb : Nat} {f : Int → Option Cls} (h : HT w tb mb f) (L : List Int) (hL : L.Pairwise (· < ·)) (hm : ∀ x, (f x).isSome = true ↔ x ∈ L) (hn : L.length ≤ 1000) (hok : ∀ x ∈ L, iok x) :
  Calls Try.prog 31 #[.pointer (some ⟨tb, 0, none⟩)] w fun e w' => ∃ v, e = .returned v ∧ w'.ownsRow (w.heap.size + 1) 3 1 v L.length (L.map (Value.int .i64)) ∧ Below w.heap.size w w' := by
 have K : Hid (Calls Try.prog 43 #[.pointer (some ⟨tb, 0, none⟩), .func (.func 64) #[] #[]] w fun e w' => ∃ v : Value, e = .returned v ∧ w'.ownsRow (w.heap.size + 1) 3 1 v L.length (L.map (Value.int .i64)) ∧ Below w.heap.size w w') := Lib.hid (by
  refine (thoseAll_c h L (nd_lt hL) hm hn hok).mono ?_
  rintro e w' ⟨v, M, rfl, hp, hr, hb⟩
  rw [ms_eq hL hp, hp.length_eq] at hr
  exact ⟨v, rfl, hr, hb⟩)
 clear h hm hok
 go_enter Try.func31, Try.ntmps31
 go_wp2_with (first | go_guarded | (go_at_call 43; (with_reducible refine K.out.mono ?_); rintro _ w1 ⟨v, rfl, hr, hb⟩))
 go_ret
 exact ⟨v, rfl, hr, hb⟩
end Go.Proofs.Ytmmahgfijiocfaa
end
section
namespace Go.Proofs.Ytmmahgfijiocfaa
open Go.RowKit Fg Reg Go.MapKept Go.Maps
section
variable {P : Program} {κ ν : Type} {k : TypeId} {kv : κ → Value} {vv : ν → Value} {ok : κ → Prop}
variable {f : κ → Option ν} {n : Nat} {w : World} {b : Nat} {t e : TypeId}
theorem Mp.fit [DecidableEq κ] (h : Mp kv vv ok f n w b) (hinj : ∀ x y, kv x = kv y → x = y) (ks : List κ) (hn : ks.Nodup) (hk : ∀ x, x ∈ ks ↔ (f x).isSome = true) : Mp kv vv ok f ks.length w b := by
 obtain ⟨es, clock, hb, hE⟩ := h
 exact ⟨es, clock, hb, hE.stamped, Nat.le_of_eq (hE.count hinj ks hn hk), hE.ent, hE.has⟩
end
end Go.Proofs.Ytmmahgfijiocfaa
end
section
namespace Go.Proofs.Ytmmahgfijiocfaa
open Go.RowKit Fg Reg Go.Maps
attribute [local irreducible] Reg.wE VR
theorem msA {L M : List Int} (h : L.Pairwise (· < ·)) (hp : M.Perm L) : M.mergeSort (fun x y => decide (x ≤ y)) = L := by
 refine List.Perm.eq_of_pairwise (le := fun x y : Int => x ≤ y) (fun a b _ _ h1 h2 => by omega) ?_ ?_ ((List.mergeSort_perm _ _).trans hp)
 ·refine List.Pairwise.imp ?_ (List.pairwise_mergeSort (le := fun x y => decide ((x : Int) ≤ y)) (fun a b c h1 h2 => ?_) (fun a b => ?_) M)
  ·intro a b h; exact of_decide_eq_true h
  ·have h1 := of_decide_eq_true h1; have h2 := of_decide_eq_true h2; exact decide_eq_true (by omega)
  ·simp only [Bool.or_eq_true, decide_eq_true_eq]; omega
 ·exact h.imp fun h => by omega
theorem ndA {L : List Int} (h : L.Pairwise (· < ·)) : L.Nodup := h.imp fun h => by omega
def insA (x : Int) (L : List Int) : List Int := L.filter (fun y => decide (y < x)) ++ x :: L.filter (fun y => decide (x < y))
theorem insA_mem {x : Int} {L : List Int} (y : Int) : y ∈ insA x L ↔ y = x ∨ y ∈ L := by
 unfold insA
 simp only [List.mem_append, List.mem_filter, List.mem_cons, decide_eq_true_eq]
 constructor
 ·rintro (⟨h, _⟩ | h | ⟨h, _⟩)
  ·exact .inr h
  ·exact .inl h
  ·exact .inr h
 ·rintro (h | h)
  ·exact .inr (.inl h)
  ·rcases Int.lt_trichotomy y x with g | g | g
   ·exact .inl ⟨h, g⟩
   ·exact .inr (.inl g)
   ·exact .inr (.inr ⟨h, g⟩)
theorem insA_srt {x : Int} {L : List Int} (h : L.Pairwise (· < ·)) : (insA x L).Pairwise (· < ·) := by
 unfold insA
 rw [List.pairwise_append, List.pairwise_cons]
 refine ⟨h.filter _, ⟨fun y hy => by simpa using (List.mem_filter.1 hy).2, h.filter _⟩, fun a ha b hb => ?_⟩
 have h1 : a < x := by simpa using (List.mem_filter.1 ha).2
 rcases List.mem_cons.1 hb with rfl | hb
 ·exact h1
 ·have h2 : x < b := by simpa using (List.mem_filter.1 hb).2
  omega
theorem insA_len {x : Int} : ∀ {L : List Int}, x ∉ L → (insA x L).length = L.length + 1
 | [], _ => rfl
 | y :: L, h => by
  have ih := insA_len (x := x) (L := L) fun g => h (List.mem_cons_of_mem _ g)
  have hy : y ≠ x := fun g => h (by rw [g]; exact List.mem_cons_self)
  unfold insA at ih ⊢
  simp only [List.filter_cons, List.length_append, List.length_cons] at ih ⊢
  rcases Int.lt_trichotomy y x with g | g | g
  ·have g2 : ¬ x < y := by omega
   simp [g, g2]
   omega
  ·exact absurd g hy
  ·have g2 : ¬ y < x := by omega
   simp [g, g2]
   omega
def memv (m : Int × Bool) : Value := .agg #[.int .i64 m.1, .bool m.2]
def bv (b : Nat) : Value := .map (some b)
def uv (_ : Unit) : Value := .agg #[]
def sv (K : List Int) : Int → Option Unit := fun x => if x ∈ K then some () else none
theorem sv_some (K : List Int) (x : Int) : (sv K x).isSome = decide (x ∈ K) := by
 unfold sv
 by_cases h : x ∈ K
 ·simp [h]
 ·simp [h]
structure AKC (z : World) (cb : Nat) (lo : Nat → Prop) (F : Int → Option Nat) (A : Int → Option (List Int)) : Prop where
 mp : ∃ n, Mp ikv bv iok F n z cb
 dom : ∀ x, (F x).isSome = (A x).isSome
 inn : ∀ x b K, F x = some b → A x = some K → (∃ n, Mp ikv uv iok (sv K) n z b) ∧ b ≠ cb ∧ ¬ lo b
 inj : ∀ x y b, F x = some b → F y = some b → x = y
 srt : ∀ x K, A x = some K → K.Pairwise (· < ·)
structure AS (z : World) (B p mb cb : Nat) (mem : Int → Option (Int × Bool)) (F : Int → Option Nat) (A : Int → Option (List Int)) : Prop where
 c0 : z.cell? ⟨p, 0, none⟩ = some (.map (some mb))
 c1 : z.cell? ⟨p, 1, none⟩ = some (.map (some cb))
 lt : p < z.heap.size
 nm : mb ≠ p
 nc : cb ≠ p
 mc : mb ≠ cb
 bc : B ≤ cb
 mp : ∃ n, Mp ikv memv iok mem n z mb
 ch : AKC z cb (fun k => k = mb ∨ k = p ∨ k < B) F A
theorem AKC.frame {z z' : World} {cb : Nat} {lo : Nat → Prop} {F : Int → Option Nat} {A : Int → Option (List Int)} (h : AKC z cb lo F A) (hb : ∀ b, b < z.heap.size → ¬ lo b → z'.heap[b]? = z.heap[b]?) (hc : ¬ lo cb) : AKC z' cb lo F A := by
 obtain ⟨n, hn⟩ := h.mp
 refine ⟨⟨n, hn.frame (hb cb hn.lt hc)⟩, h.dom, fun x b K h1 h2 => ?_, h.inj, h.srt⟩
 obtain ⟨⟨m, hm⟩, h3, h4⟩ := h.inn x b K h1 h2
 exact ⟨⟨m, hm.frame (hb b hm.lt h4)⟩, h3, h4⟩
theorem AS.mlt {z : World} {B p mb cb : Nat} {mem : Int → Option (Int × Bool)} {F : Int → Option Nat} {A : Int → Option (List Int)} (h : AS z B p mb cb mem F A) : mb < z.heap.size := by
 obtain ⟨n, hn⟩ := h.mp
 exact hn.lt
theorem AS.clt {z : World} {B p mb cb : Nat} {mem : Int → Option (Int × Bool)} {F : Int → Option Nat} {A : Int → Option (List Int)} (h : AS z B p mb cb mem F A) : cb < z.heap.size := by
 have hF := h.ch
 obtain ⟨n, hn⟩ := hF.mp
 exact hn.lt
theorem AS.ncb {z : World} {B p mb cb : Nat} {mem : Int → Option (Int × Bool)} {F : Int → Option Nat} {A : Int → Option (List Int)} (h : AS z B p mb cb mem F A) : ¬ (cb = mb ∨ cb = p ∨ cb < B) := by
 have h1 := h.mc
 have h2 := h.nc
 have h3 := h.bc
 omega
theorem AS.frame {z z' : World} {B p mb cb : Nat} {mem : Int → Option (Int × Bool)} {F : Int → Option Nat} {A : Int → Option (List Int)} (h : AS z B p mb cb mem F A) (hs : z.heap.size ≤ z'.heap.size) (hb : ∀ b, b < z.heap.size → z'.heap[b]? = z.heap[b]?) : AS z' B p mb cb mem F A := by
 obtain ⟨n, hn⟩ := h.mp
 have hF := h.ch
 exact ⟨(World.cell?_of_block (hb p h.lt)).trans h.c0, (World.cell?_of_block (hb p h.lt)).trans h.c1, Nat.lt_of_lt_of_le h.lt hs, h.nm, h.nc, h.mc, h.bc, ⟨n, hn.frame (hb mb hn.lt)⟩, hF.frame (fun b h1 _ => hb b h1) h.ncb⟩
theorem AS.below {z z' : World} {B p mb cb : Nat} {mem : Int → Option (Int × Bool)} {F : Int → Option Nat} {A : Int → Option (List Int)} (h : AS z B p mb cb mem F A) (hb : Below z.heap.size z z') : AS z' B p mb cb mem F A := h.frame hb.size fun b hl => hb.block b hl
theorem m_zv (w : World) : (zeroValue 72).run Try.prog w = .ok (.agg #[.int .i64 0, .bool false]) w := by kernel_rfl
theorem b_zv (w : World) : (zeroValue 73).run Try.prog w = .ok (.map none) w := by kernel_rfl
theorem u_zv (w : World) : (zeroValue 75).run Try.prog w = .ok (.agg #[]) w := by kernel_rfl
theorem AS.lookM {z : World} {B p mb cb : Nat} {mem : Int → Option (Int × Bool)} {F : Int → Option Nat} {A : Int → Option (List Int)} (h : AS z B p mb cb mem F A) {i : Int} (hi : iok i) (c : Bool) : (Instr.lookup 64 (.map (some mb)) (.int .i64 i) c).run Try.prog z = .ok (if c then .tuple #[mget (.agg #[.int .i64 0, .bool false]) memv (mem i), .bool (mem i).isSome] else mget (.agg #[.int .i64 0, .bool false]) memv (mem i)) z := by
 obtain ⟨n, hn⟩ := h.mp
 exact Mp.look c hn ikok Try.underlying64 (m_zv z) hi
theorem AKC.look {z : World} {cb : Nat} {lo : Nat → Prop} {F : Int → Option Nat} {A : Int → Option (List Int)} (h : AKC z cb lo F A) {i : Int} (hi : iok i) : (Instr.lookup 65 (.map (some cb)) (.int .i64 i) false).run Try.prog z = .ok (mget (.map none) bv (F i)) z := by
 obtain ⟨n, hn⟩ := h.mp
 exact Mp.look false hn ikok Try.underlying65 (b_zv z) hi
theorem in_look {z : World} {b : Nat} {K : List Int} (h : ∃ n, Mp ikv uv iok (sv K) n z b) {i : Int} (hi : iok i) : (Instr.lookup 73 (.map (some b)) (.int .i64 i) true).run Try.prog z = .ok (.tuple #[.agg #[], .bool (decide (i ∈ K))]) z := by
 obtain ⟨n, hn⟩ := h
 have := Mp.look true hn ikok Try.underlying73 (u_zv z) hi
 rw [sv_some] at this
 rw [show mget (.agg #[]) uv (sv K i) = .agg #[] by cases sv K i <;> rfl] at this
 exact this
theorem in_len {z : World} {b : Nat} {K : List Int} (hK : K.Nodup) (h : ∃ n, Mp ikv uv iok (sv K) n z b) (ty : TypeId) : (Builtin.len_ #[73] ty #[.map (some b)]).run Try.prog z = .ok (.int .i64 K.length) z := by
 obtain ⟨n, hn⟩ := h
 exact Mp.len hn ikv_inj Try.underlying73 K hK (fun x => by rw [sv_some]; simp) ty
theorem nil_look (x : Int) (z : World) : (Instr.lookup 73 (.map none) (.int .i64 x) true).run Try.prog z = .ok (.tuple #[.agg #[], .bool false]) z := by kernel_rfl
theorem nil_len (ty : TypeId) (z : World) : (Builtin.len_ #[73] ty #[.map none]).run Try.prog z = .ok (.int .i64 0) z := by kernel_rfl
def isA (mem : Int → Option (Int × Bool)) (A : Int → Option (List Int)) (id : Int) : Bool :=
 if id = 0 then (match A 0 with | some K => decide (0 < K.length) | none => false)
 else match mem id with | some m => (match A m.1 with | some K => decide (id ∈ K) | none => false) | none => false
end Go.Proofs.Ytmmahgfijiocfaa
end
section
namespace Go.Proofs.Ytmmahgfijiocfaa
open Go.RowKit Fg Reg Go.Maps
attribute [local irreducible] Reg.wE VR
theorem u_info : (Try.prog.info? 75).map (·.size) = some 0 := by kernel_rfl
theorem u_alloc (w : World) : (Instr.alloc 75 true (.tuple #[])).run Try.prog w = .ok (.pointer (some ⟨w.heap.size, 0, none⟩)) (w.alloc (.cells #[] 75)) := by kernel_rfl
theorem m_info : (Try.prog.info? 72).map (·.size) = some 2 := by kernel_rfl
theorem m_one (p : Int) (l : Bool) : (#[.int .i64 p, .bool l] : Array Value).all (·.oneCell') = true := by kernel_rfl
theorem m_alloc (w : World) : (Instr.alloc 72 true (.tuple #[])).run Try.prog w = .ok (.pointer (some ⟨w.heap.size, 0, none⟩)) (w.alloc (.cells #[.int .i64 0, .bool false] 72)) := by kernel_rfl
theorem isA_of {z : World} {B p mb cb : Nat} {mem : Int → Option (Int × Bool)} {F : Int → Option Nat} {A : Int → Option (List Int)} (h : AS z B p mb cb mem F A) (hm : ∀ x m, mem x = some m → iok m.1) {id : Int} (hid : iok id) (h0 : ¬ id = 0) :
  ∃ par lf ok V r, isA mem A id = (ok && r) ∧ (∀ w, Below z.heap.size z w → (Instr.lookup 64 (.map (some mb)) (.int .i64 id) true).run Try.prog w = .ok (.tuple #[.agg #[.int .i64 par, .bool lf], .bool ok]) w) ∧
   (∀ w, Below z.heap.size z w → (Instr.lookup 65 (.map (some cb)) (.int .i64 par) false).run Try.prog w = .ok V w) ∧ ∀ w, Below z.heap.size z w → (Instr.lookup 73 V (.int .i64 id) true).run Try.prog w = .ok (.tuple #[.agg #[], .bool r]) w := by
 have hL : ∀ w, Below z.heap.size z w → AS w B p mb cb mem F A := fun w hw => h.below hw
 have hpar : ∀ par, iok par → ∃ V r, (match A par with | some K => decide (id ∈ K) | none => false) = r ∧ (∀ w, Below z.heap.size z w → (Instr.lookup 65 (.map (some cb)) (.int .i64 par) false).run Try.prog w = .ok V w) ∧ ∀ w, Below z.heap.size z w → (Instr.lookup 73 V (.int .i64 id) true).run Try.prog w = .ok (.tuple #[.agg #[], .bool r]) w := fun par hpk => by
  have hF := h.ch
  have hFw : ∀ w, Below z.heap.size z w → AKC w cb (fun k => k = mb ∨ k = p ∨ k < B) F A := fun w hw => hF.frame (fun b hl _ => hw.block b hl) h.ncb
  have hd := hF.dom par
  cases hA : A par with
  | none =>
   have hFn : F par = none := by rw [hA] at hd; simpa using hd
   refine ⟨.map none, false, rfl, fun w hw => ?_, fun w _ => nil_look id w⟩
   have := (hFw w hw).look hpk
   rw [hFn] at this
   exact this
  | some K =>
   obtain ⟨b, hb⟩ : ∃ b, F par = some b := Option.isSome_iff_exists.1 (by rw [hd, hA]; rfl)
   refine ⟨.map (some b), decide (id ∈ K), rfl, fun w hw => ?_, fun w hw => in_look ((hFw w hw).inn par b K hb hA).1 hid⟩
   have := (hFw w hw).look hpk
   rw [hb] at this
   exact this
 cases hc : mem id with
 | none =>
  obtain ⟨V, r, hr, h1, h2⟩ := hpar 0 rfl
  refine ⟨0, false, false, V, r, by unfold isA; rw [if_neg h0, hc]; rfl, fun w hw => ?_, h1, h2⟩
  have := (hL w hw).lookM hid true
  rw [hc] at this
  exact this
 | some m =>
  obtain ⟨V, r, hr, h1, h2⟩ := hpar m.1 (hm id m hc)
  refine ⟨m.1, m.2, true, V, r, by unfold isA; rw [if_neg h0, hc, Bool.true_and]; exact hr, fun w hw => ?_, h1, h2⟩
  have := (hL w hw).lookM hid true
  rw [hc] at this
  exact this
theorem ais_c {z : World} {B p mb cb : Nat} {mem : Int → Option (Int × Bool)} {F : Int → Option Nat} {A : Int → Option (List Int)} (h : AS z B p mb cb mem F A) (hm : ∀ x m, mem x = some m → iok m.1) {id : Int} (hid : iok id) :
  Calls Try.prog 22 #[.pointer (some ⟨p, 0, none⟩), .int .i64 id] z fun ee w' => ee = .returned (.bool (isA mem A id)) ∧ Below z.heap.size z w' := by
 have HB0 := Lib.hid (Below.refl z.heap.size z)
 have c0 := h.c0
 have c1 := h.c1
 have lt := h.lt
 by_cases h0 : id = 0
 ·subst h0
  have hF := h.ch
  have hl := hF.look (i := 0) rfl
  have hd := hF.dom 0
  cases hA : A 0 with
  | none =>
   have hFn : F 0 = none := by rw [hA] at hd; simpa using hd
   have e : isA mem A 0 = false := by unfold isA; rw [if_pos rfl, hA]
   rw [e]
   have hl2 : (Instr.lookup 65 (.map (some cb)) (.int .i64 0) false).run Try.prog z = .ok (.map none) z := by rw [hFn] at hl; exact hl
   have hn := fun ty => nil_len ty z
   clear hl h hF hd hA hFn e
   go_enter Try.func22, Try.ntmps22
   go_wp2
   go_ret
   exact ⟨rfl, HB0.out⟩
  | some K =>
   obtain ⟨b, hb⟩ : ∃ b, F 0 = some b := Option.isSome_iff_exists.1 (by rw [hd, hA]; rfl)
   obtain ⟨n, hn0⟩ : ∃ n, K.length = n := ⟨_, rfl⟩
   obtain ⟨r, hr⟩ : ∃ r, decide (0 < n) = r := ⟨_, rfl⟩
   have e : isA mem A 0 = r := by unfold isA; rw [if_pos rfl, hA, ← hr, ← hn0]
   rw [e]
   have hl2 : (Instr.lookup 65 (.map (some cb)) (.int .i64 0) false).run Try.prog z = .ok (.map (some b)) z := by rw [hb] at hl; exact hl
   have hn := fun ty => in_len (ndA (hF.srt 0 K hA)) (hF.inn 0 b K hb hA).1 ty
   rw [hn0] at hn
   have q : decide ((0 : Int) < (n : Int)) = r := by rw [← hr]; simp
   have HR := Lib.hid hr
   clear hl h hF hd hA hb e hr
   go_enter Try.func22, Try.ntmps22
   go_wp2
   go_ret
   exact ⟨by first | rw [HR.out]; rfl | rfl | simp [HR.out], HB0.out⟩
 ·have q0 : (id == 0) = false := by simpa using h0
  obtain ⟨par, lf, ok, V, r, hi, h1, h2, h3⟩ := isA_of h hm hid h0
  rw [hi]
  have hk1 := h1 z (Below.refl _ _)
  have H2 := Lib.hid h2
  have H3 := Lib.hid h3
  have C1 := Lib.hid c1
  have LT := Lib.hid lt
  have ALL := Lib.hid m_alloc
  have INF := Lib.hid m_info
  have ONE := Lib.hid m_one
  clear h hm hi h1 h2 h3 h0 hid
  go_enter Try.func22, Try.ntmps22
  go_wp2_with (first
   | go_guarded
   | (refine wpList_var_new rfl rfl 72 #[.int .i64 0, .bool false] ALL.out rfl _ _ rfl #[.int .i64 par, .bool lf] rfl rfl INF.out rfl (ONE.out _ _) ?_; intro w5 hs5 hb5 hv5; have HV5 := Lib.hid hv5; have HB5 := Lib.hid hb5; clear hb5 hv5 hk1 c0 c1 lt))
  have hbq : Below z.heap.size z w5.drew := HB5.out.drew
  have hf := fun (wz : World) (hb : Below z.heap.size z wz) => (⟨(hb.cell (p := ⟨p, 1, none⟩) LT.out).trans C1.out, Nat.lt_of_lt_of_le LT.out hb.size, H2.out wz hb, H3.out wz hb⟩ : wz.cell? ⟨p, 1, none⟩ = some (.map (some cb)) ∧ p < wz.heap.size ∧ (Instr.lookup 65 (.map (some cb)) (.int .i64 par) false).run Try.prog wz = .ok V wz ∧ (Instr.lookup 73 V (.int .i64 id) true).run Try.prog wz = .ok (.tuple #[.agg #[], .bool r]) wz)
  have HF := Lib.hid hf
  have hv : VR w5.drew z.heap.size 72 #[.int .i64 par, .bool lf] := HV5.out.frame rfl
  obtain ⟨Cl, hCl⟩ : ∃ Cl : List (Nat × Value) → World → Prop, Cl = ((fun ps wz => ((wz.cell? ⟨z.heap.size, 0, none⟩ = some (.int .i64 par) ∧ z.heap.size < wz.heap.size) ∧ (wz.cell? ⟨p, 1, none⟩ = some (.map (some cb)) ∧ p < wz.heap.size ∧ (Instr.lookup 65 (.map (some cb)) (.int .i64 par) false).run Try.prog wz = .ok V wz ∧ (Instr.lookup 73 V (.int .i64 id) true).run Try.prog wz = .ok (.tuple #[.agg #[], .bool r]) wz)) ∧ (match ps with
   | [] => wz = w5.drew
   | [(_, v)] => v = .pointer (some ⟨w5.heap.size, 0, none⟩) ∧ wz = w5.drew.alloc (.cells #[] 75)
   | [_, _] => Below z.heap.size z wz
   | _ => True))) := ⟨_, rfl⟩; have HCl := Lib.hid hCl; clear hCl; refine Reg2.wp_region_lineS [(0, false), (1, false), (2, false), (3, false), (4, false), (5, false), (6, false), (7, false), (8, false), (9, false), (10, false), (11, false), (12, false), (13, false), (14, false)] [12, 13] Cl (by kernel_rfl) (by kernel_rfl) (by kernel_rfl) (by simp only [HCl.out, zD, zE]; exact ⟨⟨⟨hv.cell 0 rfl, hv.lt⟩, HF.out _ hbq⟩, (by first | rfl | trivial)⟩) ?_
  clear hbq hf hv
  (repeat ((first | (refine Reg2.wS_skip gtb (by rfl) ?_) | (refine Reg2.wS_open gtb (by rfl) (by rfl) ?_; apply Exists.intro; refine ⟨fun vs wq hw => ?_, ?_⟩; (focus (simp only [HCl.out, zD, zE] at hw; go_split_ands; go_simp <;> exact ebb)))); simp only [Act.put, Nat.reduceAdd, zA, zB, zC, zD, zE]))
  refine Reg2.wS_eff gtb (by rfl) (by rfl) (fun wq hw => ?_) (fun u9 hu => ?_)
  focus
   simp only [HCl.out, zD, zE] at hw
   obtain ⟨-, rfl⟩ := hw
   have hb : Below z.heap.size z (w5.drew.alloc (.cells #[] 75)) := HB5.out.drew.alloc (by have := HB5.out.size; simp; omega) _
   have hv : VR (w5.drew.alloc (.cells #[] 75)) z.heap.size 72 #[.int .i64 par, .bool lf] := (HV5.out.frame rfl : VR w5.drew z.heap.size 72 #[.int .i64 par, .bool lf]).alloc _
   refine effv_alloc 75 rfl (u_alloc _) ?_
   simp only [HCl.out, zD, zE]
   exact ⟨⟨⟨hv.cell 0 rfl, hv.lt⟩, HF.out _ hb⟩, rfl, (by first | rfl | trivial)⟩
  (obtain ⟨wz, hz⟩ := hu; rw [HCl.out] at hz; (try simp only [List.nil_append, List.cons_append] at hz); (try dsimp only at hz))
  obtain ⟨-, rfl, -⟩ := hz
  clear wz
  simp only [Act.put, Nat.reduceAdd, zA, zB, zC, zD, zE]
  (repeat ((first | (refine Reg2.wS_skip gtb (by rfl) ?_) | (refine Reg2.wS_open gtb (by rfl) (by rfl) ?_; apply Exists.intro; refine ⟨fun vs wq hw => ?_, ?_⟩; (focus (simp only [HCl.out, zD, zE] at hw; go_split_ands; go_simp <;> exact ebb)))); simp only [Act.put, Nat.reduceAdd, zA, zB, zC, zD, zE]))
  refine Reg2.wS_eff gtb (by rfl) (by rfl) (fun wq hw => ?_) (fun u9 hu => ?_)
  focus
   simp only [HCl.out, zD, zE] at hw
   obtain ⟨-, -, rfl⟩ := hw
   have hb : Below z.heap.size z (w5.drew.alloc (.cells #[] 75)) := HB5.out.drew.alloc (by have := HB5.out.size; simp; omega) _
   have hv : VR (w5.drew.alloc (.cells #[] 75)) z.heap.size 72 #[.int .i64 par, .bool lf] := (HV5.out.frame rfl : VR w5.drew z.heap.size 72 #[.int .i64 par, .bool lf]).alloc _
   refine effv_store 75 _ _ rfl rfl rfl (run_storeAt_new (P := Try.prog) w5.drew 75 #[] #[] u_info rfl (by simp)) ?_
   simp only [HCl.out, zD, zE]
   exact ⟨⟨⟨hv.cell 0 rfl, hv.lt⟩, HF.out _ hb⟩, hb⟩
  clear hu
  simp only [Act.put, Nat.reduceAdd, zA, zB, zC, zD, zE]
  (repeat ((first | (refine Reg2.wS_skip gtb (by rfl) ?_) | (refine Reg2.wS_open gtb (by rfl) (by rfl) ?_; apply Exists.intro; refine ⟨fun vs wq hw => ?_, ?_⟩; (focus (simp only [HCl.out, zD, zE] at hw; go_split_ands; go_simp <;> exact ebb)))); simp only [Act.put, Nat.reduceAdd, zA, zB, zC, zD, zE]))
  refine Reg2.wS_nil ?_; intro w' hw; simp only [HCl.out, zD, zE] at hw; clear HCl
  obtain ⟨-, hb6⟩ := hw
  have HB6 := Lib.hid hb6
  clear hb6
  cases ok <;> cases r
  all_goals
   (go_wp2_with (first | go_guarded)
    go_ret
    exact ⟨rfl, HB6.out⟩)
end Go.Proofs.Ytmmahgfijiocfaa
end
section
namespace Go.Proofs.Ytmmahgfijiocfaa
open Go.RowKit Fg Reg Go.Maps
attribute [local irreducible] Reg.wE VR
section
variable {P : Program} {κ ν : Type} {k : TypeId} {kv : κ → Value} {vv : ν → Value} {ok : κ → Prop} {f : κ → Option ν} {n : Nat} {w : World} {b : Nat} {t e : TypeId}
theorem wpList_insert_mp [DecidableEq κ] (w : World) {ops : Array Oper} {rest : List Oper} {o : Oper} {a : Act} {Q : Exit → Act → World → Prop}
  (hg : o.guard = none) (m x v : Operand) (t : TypeId) (hop : o.op = Op.insert t m x v)
  (K : KeyOk P k kv ok) (ht : P.underlying t = some (.map k e)) (b n : Nat)
  (hm : a.eval m = .map (some b)) (h : Mp kv vv ok f n w b) (key : κ) (val : ν) (hk : ok key) (hx : a.eval x = kv key) (hv : a.eval v = vv val)
  (hK : ∀ w', Mp kv vv ok (upd f key val) (n + 1) w' b → Only (fun i => i = b) w w' → w'.heap.size = w.heap.size → wpList P ops Q rest (a.put o.dst undef) w') :
  wpList P ops Q (o :: rest) a w := by
 refine wpList_plain hg fun K' hK' => ?_
 obtain ⟨w', hrun, r1, r2, r3⟩ := h.update K ht hk val
 unfold Oper.wp
 simp [execOp, hop, hm, hx, hv, hrun, Result.andThen]
 exact hK' _ _ (hK w' r1 r2 r3)
end
def OM (B : Nat) (z w : World) : Prop := Only (fun k => B ≤ k ∧ ∃ es ck, z.heap[k]? = some (.map es ck)) z w
theorem OM.size {B : Nat} {z w : World} (h : OM B z w) : z.heap.size ≤ w.heap.size := h.4
theorem OM.of_below {B : Nat} {z w : World} (h : Below z.heap.size z w) : OM B z w := ⟨h.os, h.tape, h.output, h.size, fun k hk _ => h.block k hk⟩
theorem OM.trans2 {B : Nat} {z w v : World} (h : OM B z w) (hb : Below w.heap.size w v) : OM B z v := ⟨hb.os.trans h.1, hb.tape.trans h.2, hb.output.trans h.3, Nat.le_trans h.4 hb.size, fun k hk hs => (hb.block k (Nat.lt_of_lt_of_le hk h.4)).trans (h.5 k hk hs)⟩
theorem OM.grown {B : Nat} {z w v : World} {row : Option Nat} (h : OM B z w) (hg : w.grownBy v row) (hr : ∀ k, row = some k → z.heap.size ≤ k) : OM B z v := ⟨hg.os.trans h.1, hg.tape.trans h.2, hg.output.trans h.3, Nat.le_trans h.4 hg.size, fun k hk hs => (hg.block k (Nat.lt_of_lt_of_le hk h.4) (fun e => by have := hr k e.symm; omega)).trans (h.5 k hk hs)⟩
theorem OM.put {B : Nat} {z w v : World} {b : Nat} (h : OM B z w) (hk : ∃ es ck, w.heap[b]? = some (.map es ck)) (hB : B ≤ b) (ho : Only (fun k => k = b) w v) : OM B z v := ⟨ho.1.trans h.1, ho.2.trans h.2, ho.3.trans h.3, Nat.le_trans h.4 ho.4, fun k hl hs => by
 have hn : ¬ k = b := fun e => by
  subst e
  have := h.5 k hl hs
  rw [this] at hk
  exact hs ⟨hB, hk⟩
 exact (ho.5 k (Nat.lt_of_lt_of_le hl h.4) hn).trans (h.5 k hl hs)⟩
theorem Mp.kind {κ ν : Type} {kv : κ → Value} {vv : ν → Value} {ok : κ → Prop} {f : κ → Option ν} {n : Nat} {w : World} {b : Nat} (h : Mp kv vv ok f n w b) : ∃ es ck, w.heap[b]? = some (.map es ck) := by
 obtain ⟨es, ck, hb, _⟩ := h
 exact ⟨es, ck, hb⟩
theorem own_put {w v : World} {base : Nat} {e : TypeId} {size n : Nat} {r : Value} {xs : List Value} (h : w.ownsRow base e size r n xs) {b : Nat} (hk : ∃ es ck, w.heap[b]? = some (.map es ck)) (ho : Only (fun k => k = b) w v) : v.ownsRow base e size r n xs := by
 refine ⟨h.1, ?_⟩
 rcases h.2 with h' | ⟨g, cap, cur, h1, h2, h3, h4⟩
 ·exact .inl h'
 ·refine .inr ⟨g, cap, cur, h1, h2, ?_, h4⟩
  have hlt := (Array.getElem?_eq_some_iff.1 h3).1
  have hne : ¬ g = b := fun e => by
   subst e
   obtain ⟨es, ck, he⟩ := hk
   rw [h3] at he
   cases he
  exact (ho.5 g hlt hne).trans h3
theorem AS.keep {z v : World} {B p mb cb : Nat} {mem : Int → Option (Int × Bool)} {F : Int → Option Nat} {A : Int → Option (List Int)} (h : AS z B p mb cb mem F A) (hs : z.heap.size ≤ v.heap.size) (hp : v.heap[p]? = z.heap[p]?) (hm : ∀ b : Nat, (∃ es ck, z.heap[b]? = some (Obj.map es ck)) → v.heap[b]? = z.heap[b]?) : AS v B p mb cb mem F A := by
 obtain ⟨n, hn⟩ := h.mp
 have hF := h.ch
 refine ⟨(World.cell?_of_block hp).trans h.c0, (World.cell?_of_block hp).trans h.c1, Nat.lt_of_lt_of_le h.lt hs, h.nm, h.nc, h.mc, h.bc, ⟨n, hn.frame (hm mb hn.kind)⟩, ?_⟩
 obtain ⟨m, hm2⟩ := hF.mp
 refine ⟨⟨m, hm2.frame (hm cb hm2.kind)⟩, hF.dom, fun x b K h1 h2 => ?_, hF.inj, hF.srt⟩
 obtain ⟨⟨q, hq⟩, h3, h4⟩ := hF.inn x b K h1 h2
 exact ⟨⟨q, hq.frame (hm b hq.kind)⟩, h3, h4⟩
theorem AS.grown {z v : World} {B p mb cb : Nat} {mem : Int → Option (Int × Bool)} {F : Int → Option Nat} {A : Int → Option (List Int)} (h : AS z B p mb cb mem F A) {base : Nat} {e : TypeId} {size n : Nat} {r : Value} {xs : List Value} (hg : z.grownBy v r.ownBlock) (ho : z.ownsRow base e size r n xs) (hpb : p < base) : AS v B p mb cb mem F A := by
 refine h.keep hg.size (hg.block p h.lt fun e' => ?_) fun b hb => ?_
 ·have := (ho.lt p e'.symm).1
  omega
 ·obtain ⟨es, ck, hb⟩ := hb
  refine hg.block b (Array.getElem?_eq_some_iff.1 hb).1 fun e' => ?_
  rcases ho.2 with ⟨rfl, _⟩ | ⟨g, cap, cur, rfl, h2, h3, h4⟩
  ·cases e'
  ·injection e' with e'
   have h5 : z.heap[g]? = some (.map es ck) := by first | (rw [← e']; exact hb) | (rw [e'] at hb; exact hb)
   rw [h3] at h5
   cases h5
def parM (mem : Int → Option (Int × Bool)) (x : Int) : Int := match mem x with | some m => m.1 | none => 0
def lfM (mem : Int → Option (Int × Bool)) (x : Int) : Bool := match mem x with | some m => m.2 | none => false
def finM (mem : Int → Option (Int × Bool)) : Nat → Int → Bool
 | 0, x => x == 0
 | n + 1, x => (x == 0) || finM mem n (parM mem x)
def onR (mem : Int → Option (Int × Bool)) : Nat → (Int → Option (List Int)) → Int → List Int × (Int → Option (List Int))
 | 0, A, _ => ([], A)
 | n + 1, A, id => if id = 0 then ([], A) else match A (parM mem id) with
  | some K => ([id], upd A (parM mem id) (insA id K))
  | none => (id :: (onR mem n (upd A (parM mem id) [id]) (parM mem id)).1, (onR mem n (upd A (parM mem id) [id]) (parM mem id)).2)
theorem onR_zero (mem : Int → Option (Int × Bool)) (n : Nat) (A : Int → Option (List Int)) : onR mem n A 0 = ([], A) := by
 cases n with
 | zero => rfl
 | succ n => unfold onR; rw [if_pos rfl]
theorem onR_some {mem : Int → Option (Int × Bool)} {n : Nat} {A : Int → Option (List Int)} {id : Int} {K : List Int} (h0 : id ≠ 0) (h : A (parM mem id) = some K) : onR mem (n + 1) A id = ([id], upd A (parM mem id) (insA id K)) := by
 show (if id = 0 then _ else _) = _
 rw [if_neg h0, h]
theorem onR_none {mem : Int → Option (Int × Bool)} {n : Nat} {A : Int → Option (List Int)} {id : Int} (h0 : id ≠ 0) (h : A (parM mem id) = none) : onR mem (n + 1) A id = (id :: (onR mem n (upd A (parM mem id) [id]) (parM mem id)).1, (onR mem n (upd A (parM mem id) [id]) (parM mem id)).2) := by
 show (if id = 0 then _ else _) = _
 rw [if_neg h0, h]
theorem sv_ins (id : Int) (K : List Int) : upd (sv K) id () = sv (insA id K) := by
 funext x
 unfold upd sv
 by_cases h : x = id
 ·rw [if_pos h, if_pos ((insA_mem x).2 (.inl h))]
 ·rw [if_neg h]
  by_cases hk : x ∈ K
  ·rw [if_pos hk, if_pos ((insA_mem x).2 (.inr hk))]
  ·rw [if_neg hk, if_neg (fun g => by rcases (insA_mem x).1 g with g | g; exact h g; exact hk g)]
theorem sv_one (id : Int) : upd (fun _ => none) id () = sv [id] := by
 funext x
 unfold upd sv
 by_cases h : x = id
 ·simp [h]
 ·simp [h]
theorem AKC.put {z v : World} {cb : Nat} {lo : Nat → Prop} {F : Int → Option Nat} {A : Int → Option (List Int)} (h : AKC z cb lo F A) {par id : Int} {b : Nat} {K : List Int} (hF : F par = some b) (hA : A par = some K) (hu : ∃ n, Mp ikv uv iok (upd (sv K) id ()) n v b) (ho : Only (fun k => k = b) z v) : AKC v cb lo F (upd A par (insA id K)) := by
 obtain ⟨n, hn⟩ := h.mp
 obtain ⟨h1, h2, h3⟩ := h.inn par b K hF hA
 refine ⟨⟨n, hn.frame (ho.5 cb hn.lt (fun e => h2 e.symm))⟩, fun x => ?_, fun x b2 K2 e1 e2 => ?_, h.inj, fun x K2 e2 => ?_⟩
 ·unfold upd
  by_cases hx : x = par
  ·rw [if_pos hx, hx, hF]; rfl
  ·rw [if_neg hx]; exact h.dom x
 ·unfold upd at e2
  by_cases hx : x = par
  ·rw [if_pos hx] at e2
   injection e2 with e2
   subst hx e2
   rw [hF] at e1
   injection e1 with e1
   subst e1
   rw [sv_ins] at hu
   exact ⟨hu, h2, h3⟩
  ·rw [if_neg hx] at e2
   obtain ⟨⟨m, hm⟩, h4, h5⟩ := h.inn x b2 K2 e1 e2
   exact ⟨⟨m, hm.frame (ho.5 b2 hm.lt (fun e => hx (h.inj x par b2 e1 (by rw [e]; exact hF))))⟩, h4, h5⟩
 ·unfold upd at e2
  by_cases hx : x = par
  ·rw [if_pos hx] at e2
   injection e2 with e2
   rw [← e2]
   exact insA_srt (h.srt par K hA)
  ·rw [if_neg hx] at e2
   exact h.srt x K2 e2
theorem AKC.new {z z2 v : World} {cb nb : Nat} {lo : Nat → Prop} {F : Int → Option Nat} {A : Int → Option (List Int)} (h : AKC z cb lo F A) {par id : Int} (hA : A par = none) (hb : Below z.heap.size z z2) (hnb : z.heap.size ≤ nb) (hlo : ¬ lo nb) (hu : ∃ n, Mp ikv uv iok (upd (fun _ => none) id ()) n z2 nb) (hc : ∃ n, Mp ikv bv iok (upd F par nb) n v cb) (hcl : ∀ q, lo q → q ≠ cb) (ho : Only (fun k => k = cb) z2 v) : AKC v cb lo (upd F par nb) (upd A par [id]) := by
 obtain ⟨n, hn⟩ := h.mp
 have hncb : nb ≠ cb := by have := hn.lt; omega
 refine ⟨hc, fun x => ?_, fun x b2 K2 e1 e2 => ?_, fun x y b2 e1 e2 => ?_, fun x K2 e2 => ?_⟩
 ·unfold upd
  by_cases hx : x = par
  ·rw [if_pos hx, if_pos hx]; rfl
  ·rw [if_neg hx, if_neg hx]; exact h.dom x
 ·unfold upd at e1 e2
  by_cases hx : x = par
  ·rw [if_pos hx] at e1 e2
   injection e1 with e1
   injection e2 with e2
   subst e1 e2
   rw [sv_one] at hu
   obtain ⟨m, hm⟩ := hu
   exact ⟨⟨m, hm.frame (ho.5 _ hm.lt hncb)⟩, hncb, hlo⟩
  ·rw [if_neg hx] at e1 e2
   obtain ⟨⟨m, hm⟩, h4, h5⟩ := h.inn x b2 K2 e1 e2
   exact ⟨⟨m, (hm.frame (hb.block b2 hm.lt)).frame (ho.5 b2 (Nat.lt_of_lt_of_le hm.lt hb.size) h4)⟩, h4, h5⟩
 ·have hold : ∀ x b, F x = some b → b ≠ nb := fun x b e => by
   obtain ⟨K, hK⟩ : ∃ K, A x = some K := Option.isSome_iff_exists.1 (by rw [← h.dom x, e]; rfl)
   obtain ⟨⟨m, hm⟩, -, -⟩ := h.inn x b K e hK
   have := hm.lt
   omega
  unfold upd at e1 e2
  by_cases hx : x = par
  ·by_cases hy : y = par
   ·rw [hx, hy]
   ·rw [if_pos hx] at e1
    rw [if_neg hy] at e2
    injection e1 with e1
    exact absurd e1.symm (hold y b2 e2)
  ·by_cases hy : y = par
   ·rw [if_neg hx] at e1
    rw [if_pos hy] at e2
    injection e2 with e2
    exact absurd e2.symm (hold x b2 e1)
   ·rw [if_neg hx] at e1
    rw [if_neg hy] at e2
    exact h.inj x y b2 e1 e2
 ·unfold upd at e2
  by_cases hx : x = par
  ·rw [if_pos hx] at e2
   injection e2 with e2
   rw [← e2]
   exact List.pairwise_singleton _ _
  ·rw [if_neg hx] at e2
   exact h.srt x K2 e2
end Go.Proofs.Ytmmahgfijiocfaa
end
section
namespace Go.Proofs.Ytmmahgfijiocfaa
open Go.RowKit Fg Reg Go.Maps
attribute [local irreducible] Reg.wE VR
theorem int_partsA : ∃ i, Try.prog.info? 3 = some i ∧ i.zero = some (.int .i64 0) ∧ i.size = 1 ∧ i.bytes = 8 := ⟨_, rfl, rfl, rfl, rfl⟩
theorem mf0 (p : Int) (l : Bool) (w : World) : (Instr.field 72 (.agg #[.int .i64 p, .bool l]) 0).run Try.prog w = .ok (.int .i64 p) w := by kernel_rfl
theorem mf1 (p : Int) (l : Bool) (w : World) : (Instr.field 72 (.agg #[.int .i64 p, .bool l]) 1).run Try.prog w = .ok (.bool l) w := by kernel_rfl
theorem map_ne (b : Nat) (w : World) : (binOp BinOp.neq 73 (.map (some b)) (.map none)).run Try.prog w = .ok (.bool true) w := by kernel_rfl
theorem map_nn (w : World) : (binOp BinOp.neq 73 (.map none) (.map none)).run Try.prog w = .ok (.bool false) w := by kernel_rfl
theorem mg_of (mem : Int → Option (Int × Bool)) (x : Int) : mget (.agg #[.int .i64 0, .bool false]) memv (mem x) = .agg #[.int .i64 (parM mem x), .bool (lfM mem x)] := by
 unfold parM lfM
 cases mem x <;> rfl
theorem lkm {z : World} {B p mb cb : Nat} {mem : Int → Option (Int × Bool)} {F : Int → Option Nat} {A : Int → Option (List Int)} (h : AS z B p mb cb mem F A) {i : Int} (hi : iok i) : (Instr.lookup 64 (.map (some mb)) (.int .i64 i) false).run Try.prog z = .ok (.agg #[.int .i64 (parM mem i), .bool (lfM mem i)]) z := by
 have := h.lookM hi false
 rw [mg_of] at this
 exact this
theorem lkc {z : World} {B p mb cb : Nat} {mem : Int → Option (Int × Bool)} {F : Int → Option Nat} {A : Int → Option (List Int)} (h : AS z B p mb cb mem F A) {i : Int} (hi : iok i) : (Instr.lookup 65 (.map (some cb)) (.int .i64 i) false).run Try.prog z = .ok (mget (.map none) bv (F i)) z := h.ch.look hi
theorem aon_no {z : World} {B p mb cb : Nat} {mem : Int → Option (Int × Bool)} {F : Int → Option Nat} {A : Int → Option (List Int)} (h : AS z B p mb cb mem F A) {leaf : Int} (hi : iok leaf) (hl : lfM mem leaf = false) : Calls Try.prog 15 #[.pointer (some ⟨p, 0, none⟩), .int .i64 leaf] z fun ee w' => ee = .returned (.tuple #[.slice none 0 0, .int .i64 6]) ∧ Below z.heap.size z w' := by
 have HB := Lib.hid (Below.refl z.heap.size z)
 have c0 := h.c0
 have c1 := h.c1
 have lt := h.lt
 have lk := lkm h hi
 rw [hl] at lk
 have f1 := mf1
 clear h hl hi
 go_enter Try.func15, Try.ntmps15
 go_wp2
 refine bodyPost_ret (v := .tuple #[.slice none 0 0, .int .i64 6]) (by simp [results, Try.results15, go_sem, *]) rfl ?_
 exact ⟨rfl, HB.out⟩
theorem aon_same {z : World} {B p mb cb : Nat} {mem : Int → Option (Int × Bool)} {F : Int → Option Nat} {A : Int → Option (List Int)} (h : AS z B p mb cb mem F A) (hm : ∀ x m, mem x = some m → iok m.1) {leaf : Int} (hi : iok leaf) (hl : lfM mem leaf = true) (hs : isA mem A leaf = true) : Calls Try.prog 15 #[.pointer (some ⟨p, 0, none⟩), .int .i64 leaf] z fun ee w' => ee = .returned (.tuple #[.slice none 0 0, .int .i64 8]) ∧ Below z.heap.size z w' := by
 have KI := Lib.hid (ais_c h hm hi)
 rw [hs] at KI
 have c0 := h.c0
 have c1 := h.c1
 have lt := h.lt
 have lk := lkm h hi
 rw [hl] at lk
 have f1 := mf1
 clear h hl hi hm hs
 go_enter Try.func15, Try.ntmps15
 go_wp2_with (first | go_guarded | (go_at_call 22; (with_reducible refine KI.out.mono ?_); rintro _ w1 ⟨rfl, hbel⟩; have HB := Lib.hid hbel; clear hbel))
 refine bodyPost_ret (v := .tuple #[.slice none 0 0, .int .i64 8]) (by simp [results, Try.results15, go_sem, *]) rfl ?_
 exact ⟨rfl, HB.out⟩
def OnP (B p mb cb : Nat) (mem : Int → Option (Int × Bool)) (z : World) (out : List Int) (A2 : Int → Option (List Int)) (e : Ending) (z' : World) : Prop := ∃ v F2, e = .returned (.tuple #[v, .int .i64 0]) ∧ z'.ownsRow z.heap.size 3 1 v out.length (out.map (Value.int .i64)) ∧ AS z' B p mb cb mem F2 A2 ∧ OM B z z'
theorem aon_ok {z : World} {B p mb cb : Nat} {mem : Int → Option (Int × Bool)} {F : Int → Option Nat} {A : Int → Option (List Int)} (h : AS z B p mb cb mem F A) (hm : ∀ x m, mem x = some m → iok m.1) {leaf : Int} (hi : iok leaf) (hl : lfM mem leaf = true) (hs : isA mem A leaf = false) (hBz : B ≤ z.heap.size) (hfin : finM mem 17 leaf = true) :
  Calls Try.prog 15 #[.pointer (some ⟨p, 0, none⟩), .int .i64 leaf] z (OnP B p mb cb mem z (onR mem 17 A leaf).1 (onR mem 17 A leaf).2) := by
 obtain ⟨ii, ci0, cz0, cz1, cz2⟩ := int_partsA
 have CI0 := Lib.hid ci0
 have CZ0 := Lib.hid cz0
 have CZ1 := Lib.hid cz1
 have CZ2 := Lib.hid cz2
 have KI := Lib.hid (ais_c h hm hi)
 rw [hs] at KI
 have c0 := h.c0
 have c1 := h.c1
 have lt := h.lt
 have lk := lkm h hi
 rw [hl] at lk
 have f1 := mf1
 have f0 := mf0
 have nn0 := map_nn
 have nn1 := map_ne
 have hmm := @run_makeMap Try.prog
 obtain ⟨R, hR⟩ : ∃ R, onR mem 17 A leaf = R := ⟨_, rfl⟩
 rw [hR]
 have HRR := Lib.hid hR
 have HA0 := Lib.hid h
 have HPB : Hid (p < z.heap.size) := Lib.hid lt
 have HMP := Lib.hid (show ∀ x, iok (parM mem x) from fun x => by
  unfold parM
  cases hx : mem x with
  | none => rfl
  | some m => exact hm x m hx)
 have HI := Lib.hid hi
 have HFI := Lib.hid hfin
 have HBZ := Lib.hid hBz
 clear h hl hi hm hs hR hfin hBz ci0 cz0 cz1 cz2
 go_enter Try.func15, Try.ntmps15
 go_wp2_with (first | go_guarded | (go_at_call 22; (with_reducible refine KI.out.mono ?_); rintro _ w1 ⟨rfl, hbel⟩; have HB1 := Lib.hid hbel; have HA1 := Lib.hid (HA0.out.below hbel); have HO1 := Lib.hid (OM.of_below hbel : OM B z w1); clear hbel c0 c1 lt lk))
 try go_frame
 go_loopg [6, 7] 17 (fun k9 s6 s7 wr => ∃ (m k : Nat) (id : Int) (F1 : Int → Option Nat) (A1 : Int → Option (List Int)) (done : List Int) (oo : Option Addr) (c : Nat), s6 = .slice oo k c ∧ s7 = .int .i64 id ∧ done.length = k ∧ wr.ownsRow z.heap.size 3 1 (.slice oo k c) k (done.map (Value.int .i64)) ∧ AS wr B p mb cb mem F1 A1 ∧ OM B z wr ∧ finM mem m id = true ∧ iok id ∧ done ++ (onR mem m A1 id).1 = R.1 ∧ (onR mem m A1 id).2 = R.2 ∧ k + m = 17 ∧ m ≤ k9)
 case atStart => exact ⟨17, 0, leaf, F, A, [], none, 0, rfl, rfl, rfl, World.ownsRow_nil _ _ _ _, HA1.out, HO1.out, HFI.out, HI.out, by rw [HRR.out]; rfl, by rw [HRR.out], rfl, Nat.le_refl _⟩
 case round =>
  obtain ⟨m, k, id, F1, A1, done, oo, c, rfl, rfl, hdl, hO, hA, hM, hfi, hid, hr1, hr2, hkm, hk9⟩ := hrel
  have HO := Lib.hid hO
  have HA := Lib.hid hA
  have HOM := Lib.hid hM
  have HDL := Lib.hid hdl
  have HIK := Lib.hid hid
  by_cases h0 : id = 0
  ·subst h0
   rw [onR_zero] at hr1 hr2
   have HR1 : Hid (done = R.1) := Lib.hid (by rw [← hr1, List.append_nil])
   have HR2 := Lib.hid hr2
   clear hO hA hM hfi hid hr1 hr2 hdl
   go_wp2_with (first | go_guarded)
   refine bodyPost_ret (v := .tuple #[.slice oo k c, .int .i64 0]) (by simp [results, Try.results15, go_sem, *]) rfl ?_
   exact ⟨_, F1, rfl, by rw [← HR1.out, HDL.out]; exact HO.out, by rw [← HR2.out]; exact HA.out, HOM.out⟩
  ·have q0 : (id != 0) = true := by simpa using h0
   cases m with
   | zero => exact absurd (by simpa [finM] using hfi) h0
   | succ m =>
    have hfi2 : finM mem m (parM mem id) = true := by
     unfold finM at hfi
     simpa [h0] using hfi
    have hidk := hid
    have hpk := HMP.out id
    cases hK : A1 (parM mem id) with
    | some K =>
     rw [onR_some h0 hK] at hr1 hr2
     obtain ⟨b, hb⟩ : ∃ b, F1 (parM mem id) = some b := Option.isSome_iff_exists.1 (by rw [hA.ch.dom, hK]; rfl)
     obtain ⟨par, hpe⟩ : ∃ q, parM mem id = q := ⟨_, rfl⟩
     have lkm2 := fun (wz : World) (ha : AS wz B p mb cb mem F1 A1) => lkm ha hidk
     rw [hpe] at lkm2 hb hK hr2 hpk
     have lkc2 : ∀ wz, AS wz B p mb cb mem F1 A1 → (Instr.lookup 65 (.map (some cb)) (.int .i64 par) false).run Try.prog wz = .ok (.map (some b)) wz := fun wz ha => by
      have := lkc ha hpk
      rw [hb] at this
      exact this
     have HL1 := Lib.hid lkm2
     have HL2 := Lib.hid lkc2
     have HIN := Lib.hid (fun (wz : World) (ha : AS wz B p mb cb mem F1 A1) => ha.ch.inn par b K hb hK)
     have HPUT := Lib.hid (fun (wz wv : World) (ha : AS wz B p mb cb mem F1 A1) (hu : ∃ n, Mp ikv uv iok (upd (sv K) id ()) n wv b) (ho : Only (fun k => k = b) wz wv) => ha.ch.put hb hK hu ho)
     have HR1 := Lib.hid hr1
     have HR2 := Lib.hid hr2
     clear hO hA hM hfi hid hr1 hr2 hdl hfi2 lkm2 lkc2 hidk hpk hb hK hpe h0
     go_wp2_with (first
      | go_guarded
      | (at_builtin; refine wpList_append_own _ rfl _ _ 31 rfl z.heap.size 3 ii _ 1 8 Try.underlying31 CI0.out CZ0.out CZ1.out CZ2.out rfl (by decide) (.slice oo k c) _ _ rfl (World.ownsRow.alloc HO.out _) ⟨_, 0, none⟩ 1 1 [.int .i64 id] rfl rfl ?c1 ?c2 ?c3 ?c4 ?c5 ?_; (case c1 => (intro q u hu; (rcases q with _ | q <;> simp at hu <;> (try subst hu) <;> simp [Addr.add, go_sem, *]))); (case c2 => (intro v hv; simp at hv; (first | (subst hv; rfl) | (rcases hv with rfl <;> rfl)))); (case c3 => (unfold maxLen; omega)); (case c4 => omega); (case c5 => (have := HOM.out.size; simp; omega)); intro v2 z2 hown2 hg2 _; (have HA2 := Lib.hid ((HA.out.below (Below.alloc (Below.refl _ _) (Nat.le_refl _) _)).grown hg2 (World.ownsRow.alloc HO.out _) HPB.out)); (have HOM2 := Lib.hid ((HOM.out.trans2 (Below.alloc (Below.refl _ _) (Nat.le_refl _) _)).grown hg2 (fun q hq => (HO.out.lt q hq).1))); have HL3 := HL1; obtain ⟨a2, c2, rfl⟩ := row_form hown2; (have HO2 := Lib.hid hown2); have c0 := HA2.out.c0; have c1 := HA2.out.c1; have lt := HA2.out.lt; have lk1 := HL1.out z2 HA2.out; have lk2 := HL2.out z2 HA2.out; clear hown2 hg2)
      | (obtain ⟨⟨n6, hmp6⟩, hbc6, hlo6⟩ := HIN.out z2 HA2.out; refine wpList_mapUpdate_mp _ rfl _ _ _ _ rfl ikok Try.underlying73 b n6 rfl hmp6 id () HIK.out rfl rfl ?_; intro w6 hu6 ho6 hs6; have HX := Lib.hid hlo6; have HBC := Lib.hid hbc6; have HK6 := Lib.hid hmp6.kind; have HC6 := Lib.hid (HPUT.out z2 w6 HA2.out ⟨_, hu6⟩ ho6); have HY6 := Lib.hid ho6; clear hu6 ho6 hmp6 hlo6 hbc6))
     refine bodyPost_ret (v := .tuple #[.slice a2 (k + 1) c2, .int .i64 0]) (by simp [results, Try.results15, go_sem, *]) rfl ?_
     have hbB : B ≤ b := by have := HX.out; omega
     refine ⟨_, F1, rfl, ?_, ?_, HOM2.out.put HK6.out hbB HY6.out⟩
     ·rw [← HR1.out, List.length_append, HDL.out, List.map_append]
      exact own_put HO2.out HK6.out HY6.out
     ·rw [← HR2.out]
      have ha := HA2.out
      have hlo := HX.out
      obtain ⟨nm, hnm⟩ := ha.mp
      have ho := HY6.out
      have hpn : ¬ p = b := fun e => hlo (.inr (.inl e.symm))
      have hmn : ¬ mb = b := fun e => hlo (.inl e.symm)
      exact ⟨(World.cell?_of_block (ho.5 p ha.lt hpn)).trans ha.c0, (World.cell?_of_block (ho.5 p ha.lt hpn)).trans ha.c1, Nat.lt_of_lt_of_le ha.lt ho.4, ha.nm, ha.nc, ha.mc, ha.bc, ⟨nm, hnm.frame (ho.5 mb hnm.lt hmn)⟩, HC6.out⟩
    | none =>
     rw [onR_none h0 hK] at hr1 hr2
     have hb : F1 (parM mem id) = none := by have := hA.ch.dom (parM mem id); rw [hK] at this; simpa using this
     obtain ⟨par, hpe⟩ : ∃ q, parM mem id = q := ⟨_, rfl⟩
     have lkm2 := fun (wz : World) (ha : AS wz B p mb cb mem F1 A1) => lkm ha hidk
     rw [hpe] at lkm2 hb hK hr1 hr2 hpk hfi2
     have lkc2 : ∀ wz, AS wz B p mb cb mem F1 A1 → (Instr.lookup 65 (.map (some cb)) (.int .i64 par) false).run Try.prog wz = .ok (.map none) wz := fun wz ha => by
      have := lkc ha hpk
      rw [hb] at this
      exact this
     have HL1 := Lib.hid lkm2
     have HL2 := Lib.hid lkc2
     have HKN := Lib.hid hK
     have HPK := Lib.hid hpk
     have HF2 := Lib.hid hfi2
     have HR1 := Lib.hid (show (done ++ [id]) ++ (onR mem m (upd A1 par [id]) par).1 = R.1 by rw [List.append_assoc]; exact hr1)
     have HR2 := Lib.hid hr2
     clear hO hA hM hfi hid hr1 hr2 hdl hfi2 lkm2 lkc2 hidk hpk hb hK hpe h0
     go_wp2_with (first
      | go_guarded
      | (at_builtin; refine wpList_append_own _ rfl _ _ 31 rfl z.heap.size 3 ii _ 1 8 Try.underlying31 CI0.out CZ0.out CZ1.out CZ2.out rfl (by decide) (.slice oo k c) _ _ rfl (World.ownsRow.alloc HO.out _) ⟨_, 0, none⟩ 1 1 [.int .i64 id] rfl rfl ?c1 ?c2 ?c3 ?c4 ?c5 ?_; (case c1 => (intro q u hu; (rcases q with _ | q <;> simp at hu <;> (try subst hu) <;> simp [Addr.add, go_sem, *]))); (case c2 => (intro v hv; simp at hv; (first | (subst hv; rfl) | (rcases hv with rfl <;> rfl)))); (case c3 => (unfold maxLen; omega)); (case c4 => omega); (case c5 => (have := HOM.out.size; simp; omega)); intro v2 z2 hown2 hg2 _; (have HA2 := Lib.hid ((HA.out.below (Below.alloc (Below.refl _ _) (Nat.le_refl _) _)).grown hg2 (World.ownsRow.alloc HO.out _) HPB.out)); (have HOM2 := Lib.hid ((HOM.out.trans2 (Below.alloc (Below.refl _ _) (Nat.le_refl _) _)).grown hg2 (fun q hq => (HO.out.lt q hq).1))); have HL3 := HL1; obtain ⟨a2, c2, rfl⟩ := row_form hown2; (have HO2 := Lib.hid hown2); have c0 := HA2.out.c0; have c1 := HA2.out.c1; have lt := HA2.out.lt; have lk1 := HL1.out z2 HA2.out; have lk2 := HL2.out z2 HA2.out; clear hown2 hg2)
      | (refine wpList_insert_mp _ rfl _ _ _ _ rfl ikok Try.underlying73 z2.heap.size 0 rfl (Mp.made ikv uv iok z2) id () HIK.out rfl rfl ?_; intro w5 hu5 ho5 hs5; have HU5 := Lib.hid hu5; have HB5 : Hid (Below z2.heap.size z2 w5) := Lib.hid ((Below.alloc (Below.refl _ _) (Nat.le_refl _) _).trans ⟨ho5.1, ho5.2, ho5.3, ho5.4, fun k hk => ho5.5 k (by simp; omega) (by omega)⟩); clear hu5 ho5 hs5)
      | (obtain ⟨n7, hc7⟩ := HA2.out.ch.mp; have hc8 := hc7.below HB5.out hc7.lt; refine wpList_mapUpdate_mp _ rfl _ _ _ _ rfl ikok Try.underlying65 cb n7 rfl hc8 par z2.heap.size HPK.out rfl rfl ?_; intro w6 hu6 ho6 hs6; have HU6 := Lib.hid hu6; have HY6 := Lib.hid ho6; have HK6 := Lib.hid hc8.kind; clear hu6 ho6 hc7 hc8))
     have ha := HA2.out
     have ho := HY6.out
     have hb5 := HB5.out
     obtain ⟨nm, hnm⟩ := ha.mp
     have hmc : ¬ mb = cb := ha.mc
     have hpc : ¬ p = cb := fun e => ha.nc e.symm
     have hlo : ¬ (z2.heap.size = mb ∨ z2.heap.size = p ∨ z2.heap.size < B) := by
      have h1 := hnm.lt
      have h2 := ha.lt
      have h3 := HBZ.out
      have h4 := HOM2.out.size
      omega
     have hac := ha.ch.new HKN.out hb5 (Nat.le_refl _) hlo ⟨_, HU5.out⟩ ⟨_, HU6.out⟩ (fun q hq e => ha.ncb (by rw [← e]; exact hq)) ho
     have hpl : p < w5.heap.size := Nat.lt_of_lt_of_le ha.lt hb5.size
     have hml : mb < w5.heap.size := Nat.lt_of_lt_of_le hnm.lt hb5.size
     have hp6 : w6.heap[p]? = z2.heap[p]? := (ho.5 p hpl hpc).trans (hb5.block p ha.lt)
     have has : AS w6 B p mb cb mem (upd F1 par z2.heap.size) (upd A1 par [id]) := ⟨(World.cell?_of_block hp6).trans ha.c0, (World.cell?_of_block hp6).trans ha.c1, Nat.lt_of_lt_of_le hpl ho.4, ha.nm, ha.nc, ha.mc, ha.bc, ⟨nm, hnm.frame ((ho.5 mb hml hmc).trans (hb5.block mb hnm.lt))⟩, hac⟩
     have HAS := Lib.hid has
     have HOM6 := Lib.hid ((HOM2.out.trans2 hb5).put HK6.out ha.bc ho)
     have HO6 := Lib.hid (own_put (row_bel HO2.out hb5) HK6.out ho)
     have HDL2 : Hid ((done ++ [id]).length = k + 1) := Lib.hid (by rw [List.length_append, HDL.out]; rfl)
     clear ha ho hb5 hnm hmc hpc hlo hac hpl hml hp6 has
     go_roundg m
     case rel => exact ⟨m, k + 1, par, _, _, done ++ [id], a2, c2, rfl, rfl, HDL2.out, by rw [List.map_append]; exact HO6.out, HAS.out, HOM6.out, HF2.out, HPK.out, HR1.out, HR2.out, by omega, Nat.le_refl _⟩
     case measure => omega
end Go.Proofs.Ytmmahgfijiocfaa
end
