/- Joined texts. -/
import Derived.Test.YtmmahgfijiocfaaBs0
import Derived.Test.YtmmahgfijiocfaaBs1
import Derived.Test.YtmmahgfijiocfaaBs2
import Derived.Test.YtmmahgfijiocfaaBs3
import Derived.Test.YtmmahgfijiocfaaBs4
import Derived.Test.YtmmahgfijiocfaaBs8
import Derived.Test.YtmmahgfijiocfaaBs9
import Derived.Test.YtmmahgfijiocfaaAl1
import Derived.Test.YtmmahgfijiocfaaAl2
import Derived.Test.YtmmahgfijiocfaaAl4
import Derived.Test.YtmmahgfijiocfaaAl10
import Derived.Maps.Keyed
import Derived.Maps.Own
import Derived.Maps.OwnOps
import Derived.DeepKeys5
import Derived.StillTail
import Derived.Deep.Quiet
import Derived.Deep.QuietTactic
import Derived.Test.YtmmahgfijiocfaaChecked
import Derived.WalkKit
import Derived.BigQuiet
import Derived.OpenShut
import Derived.Deep.RegionHeld3
import Derived.Deep.RegionWith
import Derived.Deep.DeepCutAuto
import Derived.WalkSpells
import Derived.WalkSmall
import Derived.Lib.Hide
import Derived.RowKit
import Derived.IntWalk
import Derived.Maps.RangeRun
import Derived.Deep.MidRow
import Derived.Deep.WholeRow
import Derived.Laws.CopyRow
import Derived.Deep.OwnRows
import Derived.ArgAppend
import Derived.Sort.OwnSortedInts
import Derived.Shelf.SlIterI.Nil
import Derived.Shelf.SortM.Plain
import Derived.Shelf.SortM.SortNone
import Derived.Ground.GgzProg
import Derived.Ground.SlgmProg
import Derived.Laws.AppendOwn
import Derived.Laws.AppendOwnNone
import Derived.Shelf.SlIterI.Stops
import Derived.RangeFuncCalls
import Derived.RangeFuncLeaves
import Derived.RangeFuncBox
import Derived.Maps.AppendAt
import Derived.Shelf.Abstract
import Derived.OwnWalkIn
import Derived.TacticsInMore
import Derived.LoopNIn
import Derived.LoopIn
set_option linter.unusedVariables false
set_option linter.unusedSimpArgs false
set_option maxRecDepth 100000
set_option maxHeartbeats 16000000
section
namespace Go.Proofs.Ytmmahgfijiocfaa
open Go.RowKit Fg Reg Go.Maps Go.Sort Go.Shelf
attribute [local irreducible] Reg.wE VR
theorem ownsMapA_alloc {H : Type} {P : Program} {t : TypeId} {R : Value → Option (DataW H × List MemPlace)} {b n : Nat} {D : DataW H} {w : World} (h : w.ownsMap P t R b n D) (o : Obj) : (w.alloc o).ownsMap P t R b n D := by
 have hbl := h.lt
 obtain ⟨es, clock, hb, Ft, hs, hD⟩ := h
 exact ⟨es, clock, (RowKit.Below.heap_alloc _ _ b hbl).trans hb, Ft, hs, hD⟩
theorem mp_frameA {K : List Int} {z w : World} {b : Nat} (h : ∃ n, Mp ikv uv iok (sv K) n z b) (e : w.heap[b]? = z.heap[b]?) : ∃ n, Mp ikv uv iok (sv K) n w b := by
 obtain ⟨n, es, ck, hb, hE⟩ := h
 exact ⟨n, es, ck, e.trans hb, hE⟩
theorem appS_c {K : List Int} (hK : K.Pairwise (· < ·)) (hn : K.length ≤ 1000) (b nb : Nat) (sa : Option Addr) (sn sc : Nat) (ss0 : List Int) (w : World) (h : ∃ n, Mp ikv uv iok (sv K) n w b) (hsn : ss0.length = sn) (hrow0 : w.ownsRow nb 3 1 (.slice sa sn sc) ss0.length (ss0.map (Value.int .i64))) (hnb : nb ≤ w.heap.size) (hmax : ss0.length ≤ 1000) :
  Calls Try.prog 40 #[.slice sa sn sc, .func (.func 67) #[] #[.pointer (some ⟨w.heap.size, 0, none⟩)]] (w.alloc (.cells #[.map (some b)] 73)) fun e w' => ∃ (v : Value) (ss : List Int), e = .returned v ∧ ss.Perm K ∧ w'.ownsRow nb 3 1 v (sn + ss.length) ((ss0 ++ ss).map (Value.int .i64)) ∧ Below nb w w' := by
 obtain ⟨n, h0⟩ := h
 have hkk : ∀ x, x ∈ K ↔ (sv K x).isSome = true := fun x => by rw [sv_some]; simp
 have h1 := h0.fit ikv_inj K (ndA hK) hkk
 obtain ⟨D, ho, hs, hm, hd⟩ := Mp.ownsK (by unfold maxLen; omega) h1
 have hbl := ho.lt
 have ho2 := ownsMapA_alloc ho (.cells #[.map (some b)] 73)
 refine (appK_c w.heap.size b _ nb D sa sn sc ss0 (w.alloc (.cells #[.map (some b)] 73)) (by simp) (by simp) ho2 hsn (hrow0.alloc _) (by simp; omega) (by omega)).mono ?_
 rintro e w' ⟨v, ss, rfl, hp, hr, hb⟩
 exact ⟨v, ss, rfl, hp.trans (perm_of_mem hd (ndA hK) fun x => (hm x).trans (hkk x).symm), hr, (Below.alloc (Below.refl _ _) hnb _).trans hb⟩
theorem int_partsJ : ∃ i, Try.prog.info? 3 = some i ∧ i.zero = some (.int .i64 0) ∧ i.size = 1 ∧ i.bytes = 8 := ⟨_, rfl, rfl, rfl, rfl⟩
theorem len_subA : ∀ {A L : List Int}, A.Nodup → (∀ x ∈ A, x ∈ L) → A.length ≤ L.length
 | [], L, _, _ => Nat.zero_le _
 | a :: A, L, h, hs => by
  rw [List.nodup_cons] at h
  have ha : a ∈ L := hs a List.mem_cons_self
  have := len_subA (L := L.erase a) h.2 fun x hx => (List.mem_erase_of_ne (fun e => h.1 (by rw [← e]; exact hx))).2 (hs x (List.mem_cons_of_mem _ hx))
  rw [List.length_erase_of_mem ha] at this
  have hp := List.length_pos_of_mem ha
  rw [List.length_cons]
  omega
def AllP (z : World) (A : Int → Option (List Int)) (e : Ending) (z' : World) : Prop := ∃ (v : Value) (M : List Int), e = .returned v ∧ z'.ownsRow z.heap.size 3 1 v M.length (M.map (Value.int .i64)) ∧ M.Pairwise (· < ·) ∧ (∀ y, y ∈ M ↔ allS A y) ∧ Below z.heap.size z z'
theorem srt_lt {M : List Int} (h : M.Nodup) : (M.mergeSort (fun x y => decide (x ≤ y))).Pairwise (· < ·) := by
 have h1 : (M.mergeSort (fun x y => decide (x ≤ y))).Pairwise (fun x y => decide (x ≤ y) = true) := List.pairwise_mergeSort (fun a b c h1 h2 => by simp at h1 h2 ⊢; omega) (fun a b => by simp; omega) M
 have h2 : (M.mergeSort (fun x y => decide (x ≤ y))).Nodup := (List.mergeSort_perm M _).nodup_iff.2 h
 exact (h1.and h2).imp fun {a b} h => by have := h.1; have := h.2; simp at *; omega
theorem aal_c {z : World} {B p mb cb : Nat} {mem : Int → Option (Int × Bool)} {F : Int → Option Nat} {A : Int → Option (List Int)} (h : AS z B p mb cb mem F A) (hI : AI mem A) (hok : ∀ x K, A x = some K → iok x) (U : List Int) (hU : ∀ y, allS A y → y ∈ U) (hl : U.length ≤ 1000) : Calls Try.prog 19 #[.pointer (some ⟨p, 0, none⟩)] z (AllP z A) := by
 obtain ⟨ii, ci0, cz0, cz1, cz2⟩ := int_partsJ
 have CI0 := Lib.hid ci0
 have CZ0 := Lib.hid cz0
 have CZ1 := Lib.hid cz1
 have CZ2 := Lib.hid cz2
 have c0 := h.c0
 have c1 := h.c1
 have lt := h.lt
 obtain ⟨n0, hmp⟩ := h.ch.mp
 have HMP := Lib.hid hmp
 have HCH := Lib.hid h.ch
 have HCL := Lib.hid h.clt
 have HI9 := Lib.hid hI
 have HU := Lib.hid hU
 have HOK := Lib.hid hok
 have hge : ∀ x b K, F x = some b → A x = some K → b < z.heap.size := fun x b K e1 e2 => by
  obtain ⟨n, es, ck, hb, -⟩ := (h.ch.inn x b K e1 e2).1
  exact (Array.getElem?_eq_some_iff.1 hb).1
 have HGE := Lib.hid hge
 have KE := Lib.hid keysK_c
 obtain ⟨base, hbase⟩ : ∃ base, z.heap.size + 1 = base := ⟨_, rfl⟩
 have HBA := Lib.hid hbase
 clear h hmp hI hU hok hge hbase ci0 cz0 cz1 cz2
 go_enter Try.func19, Try.ntmps19
 go_wp2_with (first | go_guarded | (refine wpList_range_itm rfl _ 65 _ _ rfl Try.underlying65 cb n0 _ rfl HMP.out rfl ?_; intro w1 hI hbel hs1; have HI0 := Lib.hid hI; have HB0 := Lib.hid hbel; clear hI hbel c0 c1 lt))
 go_frame
 go_loopg [3] U.length (fun k9 s3 wr => ∃ (ks L : List Int) (m : Nat) (ao : Option Addr) (c : Nat), s3 = .slice ao m c ∧ L.length = m ∧ L.Nodup ∧ (∀ y, y ∈ L ↔ ∃ x ∈ ks, y ∈ chA A x) ∧ U.length - m ≤ k9 ∧ ItM ikv bv iok F ks wr z.heap.size cb ∧ wr.ownsRow base 3 1 (.slice ao m c) m (L.map (Value.int .i64)) ∧ base ≤ wr.heap.size ∧ Below z.heap.size z wr)
 case atStart => exact ⟨[], [], 0, none, 0, rfl, rfl, List.nodup_nil, fun y => by simp, by simp, HI0.out, World.ownsRow_nil _ _ _ _, by rw [hs1]; exact Nat.le_of_eq HBA.out.symm, HB0.out⟩
 case round =>
  obtain ⟨ks, L, m, ao, c, rfl, hkm, hnd, hmem, hk, hI, hO, hbs, hB⟩ := hrel
  have hsubL : ∀ y ∈ L, y ∈ U := fun y hy => by
   obtain ⟨x, -, hc⟩ := (hmem y).1 hy
   unfold chA at hc
   cases hA : A x with
   | none => rw [hA] at hc; cases hc
   | some K => rw [hA] at hc; exact HU.out y ⟨x, K, hA, hc⟩
  have hml : m ≤ U.length := by rw [← hkm]; exact len_subA hnd hsubL
  have HI := Lib.hid hI
  have HO := Lib.hid hO
  have HB := Lib.hid hB
  have HND := Lib.hid hnd
  have HME := Lib.hid hmem
  have HKM := Lib.hid hkm
  have HSU := Lib.hid hsubL
  clear hI hO hnd hmem hkm hsubL
  by_cases hall : ∃ x v, iok x ∧ F x = some v ∧ x ∉ ks
  ·have HALL := Lib.hid hall
   clear hall
   go_wp2_with (first
    | go_guarded
    | (refine wpList_next_more rfl _ rfl z.heap.size cb rfl HI.out HALL.out (fun a b _ _ h => by simpa [ikv] using h) ?_; intro x b w3 hx hnx hf hen hI3 ho3 hs3; (simp only [ikv, bv] at hen ⊢); obtain ⟨K, hKA⟩ : ∃ K, A x = some K := (Option.isSome_iff_exists.1 (by rw [← HCH.out.dom x, hf]; rfl)); have HI3 := Lib.hid hI3; have HO3 := Lib.hid (row_only HO.out ho3 (fun k hk hb => by have := HBA.out; omega)); have HON := Lib.hid ho3; have HX := Lib.hid hx; have HNX := Lib.hid hnx; have HF := Lib.hid hf; have HKA := Lib.hid hKA; have hKU : K.length ≤ U.length := (len_subA (ndA (HCH.out.srt x K hKA)) (fun y hy => HU.out y ⟨x, K, hKA, hy⟩)); have HMB : Hid (∃ n, Mp ikv uv iok (sv K) n w3 b) := Lib.hid (mp_frameA (HCH.out.inn x b K hf hKA).1 (by rw [ho3.5 b (by have := HGE.out x b K hf hKA; have := HB.out.size; omega) (by have := HGE.out x b K hf hKA; omega), HB.out.block b (HGE.out x b K hf hKA)])); clear hI3 ho3 hx hnx hf hKA)
    | (go_at_call 41; (with_reducible refine (KE.out _ _).mono ?_); rintro _ w4 ⟨rfl, rfl⟩)
    | (go_at_call 40; (have KS := appS_c (HCH.out.srt x K HKA.out) (by omega) b base ao m c L w3 HMB.out HKM.out (by have := HO3.out; rw [HKM.out]; exact this) (by omega) (by have := HKM.out; omega)); rw [hs3] at KS; (with_reducible refine KS.mono ?_); clear KS; rintro _ w5 ⟨v5, ss, rfl, hp, hrow, hbel⟩; rw [hp.length_eq] at hrow; obtain ⟨a5, c5, rfl⟩ := row_form hrow; have HP := Lib.hid hp; have HR5 := Lib.hid hrow; have HB5 := Lib.hid hbel; clear hp hrow hbel))
   have hKne : 1 ≤ K.length := by
    have := HI9.out.ne x K HKA.out
    cases K with
    | nil => exact absurd rfl this
    | cons a l => simp
   have hch : chA A x = K := by unfold chA; rw [HKA.out]; rfl
   have hdis : ∀ y ∈ L, y ∉ K := fun y hy hyK => by
    obtain ⟨x2, hx2, hc⟩ := (HME.out y).1 hy
    unfold chA at hc
    cases hA : A x2 with
    | none => rw [hA] at hc; cases hc
    | some K2 =>
     rw [hA] at hc
     have e1 := HI9.out.par x2 K2 y hA hc
     have e2 := HI9.out.par x K y HKA.out hyK
     exact HNX.out (by rw [← e2, e1]; exact hx2)
   have hnd2 : (L ++ ss).Nodup := List.nodup_append.2 ⟨HND.out, HP.out.nodup_iff.2 (ndA (HCH.out.srt x K HKA.out)), fun a ha b hb e => hdis a ha (by rw [e]; exact HP.out.mem_iff.1 hb)⟩
   have hmem2 : ∀ y, y ∈ L ++ ss ↔ ∃ x2 ∈ ks ++ [x], y ∈ chA A x2 := fun y => by
    rw [List.mem_append, HME.out y, HP.out.mem_iff]
    constructor
    ·rintro (⟨x2, h1, h2⟩ | h1)
     ·exact ⟨x2, List.mem_append_left _ h1, h2⟩
     ·exact ⟨x, by simp, by rw [hch]; exact h1⟩
    ·rintro ⟨x2, h1, h2⟩
     rcases List.mem_append.1 h1 with g | g
     ·exact .inl ⟨x2, g, h2⟩
     ·rw [List.mem_singleton] at g; subst g; rw [hch] at h2; exact .inr h2
   have hm1 : m + K.length ≤ U.length := by
    have h9 := len_subA (L := U) hnd2 (fun y hy => by
     rcases List.mem_append.1 hy with g | g
     ·exact HSU.out y g
     ·exact HU.out y ⟨x, K, HKA.out, HP.out.mem_iff.1 g⟩)
    rw [List.length_append, HKM.out, HP.out.length_eq] at h9
    exact h9
   go_roundg (U.length - (m + K.length))
   case rel =>
    have hb5 := HB5.out.size
    refine ⟨ks ++ [x], L ++ ss, m + K.length, a5, c5, rfl, by rw [List.length_append, HKM.out, HP.out.length_eq], hnd2, hmem2, Nat.le_refl _, ?_, HR5.out, by omega, ?_⟩
    ·have hi := HI3.out
     exact hi.frame (HB5.out.block _ (by have := HBA.out; omega)) (HB5.out.block _ (by have := HBA.out; have := HCL.out; omega))
    ·have hbw := HB.out.size
     have h1 : Below z.heap.size wr w3 := ⟨HON.out.1, HON.out.2, HON.out.3, HON.out.4, fun k hk => HON.out.5 k (by omega) (by omega)⟩
     have hba := HBA.out
     exact HB.out.trans (h1.trans (HB5.out.mono (by omega)))
   case measure => omega
  ·have hd : ∀ x v, iok x → F x = some v → x ∈ ks := fun x v hx hf => Classical.byContradiction fun hn => hall ⟨x, v, hx, hf, hn⟩
   have hmm : ∀ y, y ∈ L ↔ allS A y := fun y => by
    rw [HME.out y]
    constructor
    ·rintro ⟨x, -, hc⟩
     unfold chA at hc
     cases hA : A x with
     | none => rw [hA] at hc; cases hc
     | some K => rw [hA] at hc; exact ⟨x, K, hA, hc⟩
    ·rintro ⟨x, K, hA, hy⟩
     obtain ⟨b, hb⟩ : ∃ b, F x = some b := Option.isSome_iff_exists.1 (by rw [HCH.out.dom x, hA]; rfl)
     exact ⟨x, hd x b (HOK.out x K hA) hb, by unfold chA; rw [hA]; exact hy⟩
   have HD := Lib.hid hd
   have HMM := Lib.hid hmm
   clear hd hmm hall
   have hkm := HKM.out
   subst hkm
   go_wp2_with (first
    | go_guarded
    | (refine wpList_next_end rfl _ rfl z.heap.size cb rfl HI.out HD.out ?_)
    | (go_at_call 42; (with_reducible refine (sortI_c HO.out (by omega)).mono ?_); rintro _ w5 ⟨rfl, hrow, hbel⟩; have HR5 := Lib.hid hrow; have HO5 := Lib.hid hbel; clear hrow hbel))
   refine bodyPost_ret (v := .slice ao L.length c) (by simp [results, Try.results19, go_sem, *]) rfl ?_
   have hbw := HB.out.size
   have hba := HBA.out
   have h1 : Below z.heap.size wr w5 := ⟨HO5.out.1, HO5.out.2, HO5.out.3, HO5.out.4, fun k hk => HO5.out.5 k (by omega) (by omega)⟩
   have hr := HR5.out
   have hlen : (L.mergeSort (fun x y => decide (x ≤ y))).length = L.length := List.length_mergeSort L
   rw [← hlen] at hr
   exact ⟨_, L.mergeSort (fun x y => decide (x ≤ y)), by rw [hlen], ownsRow_base_a hr (by omega), srt_lt HND.out, fun y => by rw [(List.mergeSort_perm L _).mem_iff]; exact HMM.out y, HB.out.trans h1⟩
end Go.Proofs.Ytmmahgfijiocfaa
end
