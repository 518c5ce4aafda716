/- Joined texts. -/
import Derived.Test.YtmmahgfijiocfaaBs0
import Derived.Test.YtmmahgfijiocfaaBs1
import Derived.Test.YtmmahgfijiocfaaBs2
import Derived.Test.YtmmahgfijiocfaaBs4
import Derived.Laws.AppendOwn
import Derived.Laws.AppendOwnNone
import Derived.Deep.Onto
set_option linter.unusedVariables false
set_option linter.unusedSimpArgs false
set_option maxRecDepth 100000
set_option maxHeartbeats 16000000
section
namespace Go.Proofs.Ytmmahgfijiocfaa
open Go.RowKit Fg Reg Go.Maps
attribute [local irreducible] Reg.wE
theorem int_partsH : ∃ i, Try.prog.info? 3 = some i ∧ i.zero = some (.int .i64 0) ∧ i.size = 1 ∧ i.bytes = 8 := ⟨_, rfl, rfl, rfl, rfl⟩
theorem len_sub : ∀ {A L : List Int}, A.Nodup → (∀ x ∈ A, x ∈ L) → A.length ≤ L.length
 | [], L, _, _ => Nat.zero_le _
 | a :: A, L, h, hs => by
  rw [List.nodup_cons] at h
  have ha : a ∈ L := hs a List.mem_cons_self
  have := len_sub (L := L.erase a) h.2 fun x hx => (List.mem_erase_of_ne (fun e => h.1 (by rw [← e]; exact hx))).2 (hs x (List.mem_cons_of_mem _ hx))
  rw [List.length_erase_of_mem ha] at this
  have hp := List.length_pos_of_mem ha
  rw [List.length_cons]
  omega
end Go.Proofs.Ytmmahgfijiocfaa
end
section
namespace Go.Proofs.Ytmmahgfijiocfaa
open Go.RowKit Fg Reg Go.Maps
attribute [local irreducible] Reg.wE
theorem ms_eq {L M : List Int} (h : L.Pairwise (· < ·)) (hp : M.Perm L) : M.mergeSort (fun x y => decide (x ≤ y)) = L := by
 refine List.Perm.eq_of_pairwise (le := fun x y : Int => x ≤ y) (fun a b _ _ h1 h2 => by omega) ?_ ?_ ((List.mergeSort_perm _ _).trans hp)
 ·refine List.Pairwise.imp ?_ (List.pairwise_mergeSort (le := fun x y => decide ((x : Int) ≤ y)) (fun a b c h1 h2 => ?_) (fun a b => ?_) M)
  ·intro a b h; exact of_decide_eq_true h
  ·have h1 := of_decide_eq_true h1; have h2 := of_decide_eq_true h2; exact decide_eq_true (by omega)
  ·simp only [Bool.or_eq_true, decide_eq_true_eq]; omega
 ·exact h.imp fun h => by omega
theorem nd_lt {L : List Int} (h : L.Pairwise (· < ·)) : L.Nodup := h.imp fun h => by omega
end Go.Proofs.Ytmmahgfijiocfaa
end
section
namespace Go.Proofs.Ytmmahgfijiocfaa
open Go.RowKit Fg Reg Go.Maps
attribute [local irreducible] Reg.wE
theorem lea1_c (c : Cls) (w : World) : Calls Try.prog 44 #[.agg #[.int .i64 c.id, .int .i64 c.par, .bool c.leaf, .int .u64 c.ra, .int .u64 c.rb, .int .u64 c.rc, .int .u64 c.la, .int .u64 c.lb, .int .u64 c.lc, .int .u64 c.ua, .int .u64 c.ub, .int .u64 c.uc, .int .i64 c.pk, .int .i64 c.bt]] w fun ee w' => ee = .returned (.bool c.leaf) ∧ Below w.heap.size w w' := by
 go_enter Try.func44, Try.ntmps44
 go_wp2
 refine bodyPost_ret (v := (.bool c.leaf)) (by simp [results, Try.results44, go_sem, *]) rfl ⟨rfl, ?_⟩
 exact bub
def sel (f : Int → Option Cls) (p : Cls → Bool) (x : Int) : Bool := match f x with | some c => p c | none => false
theorem thoseLeaf_c {w : World} {tb mb : Nat} {f : Int → Option Cls} (h : HT w tb mb f) (L : List Int) (hL : L.Nodup) (hm : ∀ x, (f x).isSome = true ↔ x ∈ L) (hn : L.length ≤ 1000) (hok : ∀ x ∈ L, iok x) :
  Calls Try.prog 43 #[.pointer (some ⟨tb, 0, none⟩), .func (.func 44) #[] #[]] w fun e w' => ∃ (v : Value) (M : List Int), e = .returned v ∧ M.Perm (L.filter (sel f Cls.leaf)) ∧ w'.ownsRow (w.heap.size + 1) 3 1 v M.length ((M.mergeSort (fun x y => decide (x ≤ y))).map (Value.int .i64)) ∧ Below w.heap.size w w' := by
 obtain ⟨n0, hmp⟩ := h.mp
 obtain ⟨ii, ci0, cz0, cz1, cz2⟩ := int_partsH
 have CI0 := Lib.hid ci0
 have CZ0 := Lib.hid cz0
 have CZ1 := Lib.hid cz1
 have CZ2 := Lib.hid cz2
 have HMP := Lib.hid hmp
 have HMB := Lib.hid h.mlt
 have HL := Lib.hid hL
 have HM := Lib.hid hm
 have HOK := Lib.hid hok
 have c0 := h.c0
 have lt := h.lt
 obtain ⟨base, hbase⟩ : ∃ base, w.heap.size + 1 = base := ⟨_, rfl⟩
 rw [hbase]
 have HBA := Lib.hid hbase
 clear h hmp hL hm hok hbase ci0 cz0 cz1 cz2
 go_enter Try.func43, Try.ntmps43
 go_wp2_with (first | go_guarded | (refine wpList_range_itm rfl _ 85 _ _ rfl Try.underlying85 mb n0 _ rfl HMP.out rfl ?_; intro w1 hI hbel hs1; have HI0 := Lib.hid hI; have HB0 := Lib.hid hbel; clear hI hbel))
 go_frame
 go_loopg [5] L.length (fun k9 s5 wr => ∃ (ks M : List Int) (m : Nat) (ao : Option Addr) (c : Nat), s5 = .slice ao m c ∧ M.length = m ∧ M = ks.filter (sel f Cls.leaf) ∧ ks.Nodup ∧ (∀ x ∈ ks, x ∈ L) ∧ L.length - ks.length ≤ k9 ∧ ItM ikv clv iok f ks wr w.heap.size mb ∧ wr.ownsRow base 3 1 (.slice ao m c) m (M.map (Value.int .i64)) ∧ base ≤ wr.heap.size ∧ Below w.heap.size w wr)
 case atStart => exact ⟨[], [], 0, none, 0, rfl, rfl, rfl, List.nodup_nil, fun x hx => by simp at hx, by simp, HI0.out, World.ownsRow_nil _ _ _ _, by rw [hs1]; exact Nat.le_of_eq HBA.out.symm, HB0.out⟩
 case round =>
  obtain ⟨ks, M, m, ao, c, rfl, hkm, hMf, hnd, hsub, hk, hI, hO, hbs, hB⟩ := hrel
  have HI := Lib.hid hI
  have HO := Lib.hid hO
  have HB := Lib.hid hB
  have HND := Lib.hid hnd
  have HSUB := Lib.hid hsub
  have HKM := Lib.hid hkm
  have hkl : ks.length ≤ L.length := len_sub hnd hsub
  have hml : m ≤ L.length := by rw [← hkm, hMf]; exact Nat.le_trans (List.length_filter_le _ _) hkl
  have HMF := Lib.hid hMf
  obtain ⟨kn, hkn⟩ : ∃ kn, ks.length = kn := ⟨_, rfl⟩
  rw [hkn] at hk hkl
  have HKN := Lib.hid hkn
  clear hMf hkn
  clear hI hO hnd hsub hkm
  by_cases hall : ∃ x v, iok x ∧ f x = some v ∧ x ∉ ks
  ·have HALL := Lib.hid hall
   clear hall
   go_wp2_with (first
    | go_guarded
    | (refine wpList_next_more rfl _ rfl w.heap.size mb rfl HI.out HALL.out (fun a b _ _ h => by simpa [ikv] using h) ?_; intro x cl w3 hx hnx hf hen hI3 ho3 hs3; (simp only [ikv, clv] at hen ⊢); have HI3 := Lib.hid hI3; have HO3 := Lib.hid (row_only HO.out ho3 (fun k hk hb => by have := HBA.out; omega)); have HON := Lib.hid ho3; have HX := Lib.hid hx; have HNX := Lib.hid hnx; have HF := Lib.hid hf; clear hI3 ho3 hx hnx hf)
    | (go_at_call 44; (with_reducible refine (lea1_c _ _).mono ?_); rintro _ w5 ⟨rfl, hbel⟩; have hs5 := hbel.size; (try simp at hs5); have HI5 := Lib.hid ((HI3.out.frame (heap_alloc_old _ _ HI3.out.lt.1) (heap_alloc_old _ _ HI3.out.lt.2)).below hbel); have HO5 := Lib.hid (row_bel (World.ownsRow.alloc HO3.out _) hbel); have HB5 : Hid (Below base w3 w5) := Lib.hid ((Below.alloc (Below.refl _ _) (by omega) _).trans (hbel.mono (by simp; omega))); clear hbel; cases hlf : cl.leaf)
    | (at_builtin; refine wpList_append_own _ rfl _ _ 31 rfl base 3 ii (.int .i64 0) 1 8 Try.underlying31 CI0.out CZ0.out CZ1.out CZ2.out rfl (by decide) (.slice ao m c) _ _ rfl (World.ownsRow.alloc HO5.out _) ⟨_, 0, none⟩ 1 1 [Value.int .i64 x] rfl rfl ?c1 ?c2 ?c3 ?c4 ?c5 ?_; (case c1 => (intro q u hu; rcases q with _ | q <;> simp at hu <;> (try subst hu) <;> simp [Addr.add, go_sem, *])); (case c2 => (intro v hv; simp at hv; subst hv; rfl)); (case c3 => (unfold maxLen; omega)); (case c4 => omega); (case c5 => (simp; omega)); intro v2 z2 hown2 hg2 _; (have hb2 : Below base w5 z2 := (Below.alloc (Below.refl _ _) (by omega) _).grown hg2 (by simp; omega) (fun q hq => (HO5.out.lt q hq).1)); obtain ⟨a2, c2, rfl⟩ := row_form hown2; (have HO2 := Lib.hid hown2); (have HB2 := Lib.hid hb2); clear hown2 hg2 hb2))
   ·have hnd2 : (ks ++ [x]).Nodup := List.nodup_append.2 ⟨HND.out, by simp, fun a ha b hb => by rw [List.mem_singleton] at hb; subst hb; rintro rfl; exact HNX.out ha⟩
    have hsub2 : ∀ y ∈ ks ++ [x], y ∈ L := fun y hy => by
     rcases List.mem_append.1 hy with g | g
     ·exact HSUB.out y g
     ·rw [List.mem_singleton] at g; subst g; exact (HM.out y).1 (by rw [HF.out]; rfl)
    have hm1 := len_sub hnd2 hsub2
    rw [List.length_append, List.length_singleton, HKN.out] at hm1
    have hsl : sel f Cls.leaf x = cl.leaf := by unfold sel; rw [HF.out]
    rw [hlf] at hsl
    go_roundg (L.length - (kn + 1))
    case rel =>
     refine ⟨ks ++ [x], M, m, ao, c, rfl, HKM.out, by rw [List.filter_append, ← HMF.out, List.filter_cons, if_neg (by rw [hsl]; simp)]; simp, hnd2, hsub2, by rw [List.length_append, List.length_singleton, HKN.out]; exact Nat.le_refl _, HI5.out, HO5.out, ?_, ?_⟩
     ·have h5 := HB5.out.size
      omega
     ·have hbw := HB.out.size
      have h1 : Below w.heap.size wr w3 := ⟨HON.out.1, HON.out.2, HON.out.3, HON.out.4, fun k hk => HON.out.5 k (by omega) (by omega)⟩
      have hba := HBA.out
      exact HB.out.trans (h1.trans (HB5.out.mono (by omega)))
    case measure => omega
   ·have hnd2 : (ks ++ [x]).Nodup := List.nodup_append.2 ⟨HND.out, by simp, fun a ha b hb => by rw [List.mem_singleton] at hb; subst hb; rintro rfl; exact HNX.out ha⟩
    have hsub2 : ∀ y ∈ ks ++ [x], y ∈ L := fun y hy => by
     rcases List.mem_append.1 hy with g | g
     ·exact HSUB.out y g
     ·rw [List.mem_singleton] at g; subst g; exact (HM.out y).1 (by rw [HF.out]; rfl)
    have hm1 := len_sub hnd2 hsub2
    rw [List.length_append, List.length_singleton, HKN.out] at hm1
    have hsl : sel f Cls.leaf x = cl.leaf := by unfold sel; rw [HF.out]
    rw [hlf] at hsl
    go_roundg (L.length - (kn + 1))
    case rel =>
     refine ⟨ks ++ [x], M ++ [x], m + 1, a2, c2, rfl, by rw [List.length_append, List.length_singleton, HKM.out], by rw [List.filter_append, ← HMF.out, List.filter_cons, if_pos hsl]; rfl, hnd2, hsub2, by rw [List.length_append, List.length_singleton, HKN.out]; exact Nat.le_refl _, ?_, ?_, ?_, ?_⟩
     ·exact HI5.out.frame (HB2.out.block _ (by have := HBA.out; omega)) (HB2.out.block _ (by have := HBA.out; have := HMB.out; omega))
     ·rw [List.map_append]; exact HO2.out
     ·have h5 := HB5.out.size
      have h2 := HB2.out.size
      omega
     ·have hbw := HB.out.size
      have h1 : Below w.heap.size wr w3 := ⟨HON.out.1, HON.out.2, HON.out.3, HON.out.4, fun k hk => HON.out.5 k (by omega) (by omega)⟩
      have hba := HBA.out
      exact HB.out.trans (h1.trans ((HB5.out.mono (by omega)).trans (HB2.out.mono (by omega))))
    case measure => omega
  ·have hd : ∀ x v, iok x → f x = some v → x ∈ ks := fun x v hx hf => Classical.byContradiction fun hn => hall ⟨x, v, hx, hf, hn⟩
   have hpk : ks.Perm L := (List.perm_ext_iff_of_nodup HND.out HL.out).2 fun x => ⟨HSUB.out x, fun hx => by
    obtain ⟨v, hv⟩ := Option.isSome_iff_exists.1 ((HM.out x).2 hx)
    exact hd x v (HOK.out x hx) hv⟩
   have HD := Lib.hid hd
   have hpm : M.Perm (L.filter (sel f Cls.leaf)) := by rw [HMF.out]; exact hpk.filter _
   have HPM := Lib.hid hpm
   clear hd hpm hpk hall
   have hkm := HKM.out
   subst hkm
   go_wp2_with (first
    | go_guarded
    | (refine wpList_next_end rfl _ rfl w.heap.size mb rfl HI.out HD.out ?_)
    | (go_at_call 42; (with_reducible refine (sortI_c HO.out (by omega)).mono ?_); rintro _ w5 ⟨rfl, hrow, hbel⟩; have HR5 := Lib.hid hrow; have HO5 := Lib.hid hbel; clear hrow hbel))
   go_ret
   have hbw := HB.out.size
   have hba := HBA.out
   have h1 : Below w.heap.size wr w5 := ⟨HO5.out.1, HO5.out.2, HO5.out.3, HO5.out.4, fun k hk => HO5.out.5 k (by omega) (by omega)⟩
   exact ⟨_, M, rfl, HPM.out, HR5.out, HB.out.trans h1⟩
end Go.Proofs.Ytmmahgfijiocfaa
end
section
namespace Go.Proofs.Ytmmahgfijiocfaa
open Go.RowKit Fg Reg Go.Maps
attribute [local irreducible] Reg.wE
theorem leaves_c {w : World} {tb mb : Nat} {f : Int → Option Cls} (h : HT w tb mb f) (L : List Int) (hL : L.Pairwise (· < ·)) (hm : ∀ x, (f x).isSome = true ↔ x ∈ L) (hn : L.length ≤ 1000) (hok : ∀ x ∈ L, iok x) :
  Calls Try.prog 20 #[.pointer (some ⟨tb, 0, none⟩)] w fun e w' => ∃ v, e = .returned v ∧ w'.ownsRow (w.heap.size + 1) 3 1 v (L.filter (sel f Cls.leaf)).length ((L.filter (sel f Cls.leaf)).map (Value.int .i64)) ∧ Below w.heap.size w w' := by
 have K : Hid (Calls Try.prog 43 #[.pointer (some ⟨tb, 0, none⟩), .func (.func 44) #[] #[]] w fun e w' => ∃ v : Value, e = .returned v ∧ w'.ownsRow (w.heap.size + 1) 3 1 v (L.filter (sel f Cls.leaf)).length ((L.filter (sel f Cls.leaf)).map (Value.int .i64)) ∧ Below w.heap.size w w') := Lib.hid (by
  refine (thoseLeaf_c h L (nd_lt hL) hm hn hok).mono ?_
  rintro e w' ⟨v, M, rfl, hp, hr, hb⟩
  rw [ms_eq (hL.filter _) hp, hp.length_eq] at hr
  exact ⟨v, rfl, hr, hb⟩)
 clear h hm hok
 go_enter Try.func20, Try.ntmps20
 go_wp2_with (first | go_guarded | (go_at_call 43; (with_reducible refine K.out.mono ?_); rintro _ w1 ⟨v, rfl, hr, hb⟩))
 go_ret
 exact ⟨v, rfl, hr, hb⟩
end Go.Proofs.Ytmmahgfijiocfaa
end
section
namespace Go.Proofs.Ytmmahgfijiocfaa
open Go.RowKit Fg Reg Go.Maps
attribute [local irreducible] Reg.wE
theorem chi1_c (c : Cls) (cb : Nat) (num : Int) (w : World) (hc : w.cell? ⟨cb, 0, none⟩ = some (.int .i64 num)) (hl : cb < w.heap.size) : Calls Try.prog 70 #[.agg #[.int .i64 c.id, .int .i64 c.par, .bool c.leaf, .int .u64 c.ra, .int .u64 c.rb, .int .u64 c.rc, .int .u64 c.la, .int .u64 c.lb, .int .u64 c.lc, .int .u64 c.ua, .int .u64 c.ub, .int .u64 c.uc, .int .i64 c.pk, .int .i64 c.bt], .pointer (some ⟨cb, 0, none⟩)] w fun ee w' => ee = .returned (.bool (c.par == num)) ∧ Below w.heap.size w w' := by
 go_enter Try.func70, Try.ntmps70
 go_wp2
 refine bodyPost_ret (v := (.bool (c.par == num))) (by simp [results, Try.results70, go_sem, *]) rfl ⟨rfl, ?_⟩
 exact bub
theorem thoseChi_c {cb : Nat} {num : Int} {w : World} {tb mb : Nat} {f : Int → Option Cls} (h : HT w tb mb f) (L : List Int) (hcb : w.cell? ⟨cb, 0, none⟩ = some (.int .i64 num)) (hcl : cb < w.heap.size) (hL : L.Nodup) (hm : ∀ x, (f x).isSome = true ↔ x ∈ L) (hn : L.length ≤ 1000) (hok : ∀ x ∈ L, iok x) :
  Calls Try.prog 43 #[.pointer (some ⟨tb, 0, none⟩), .func (.func 70) #[] #[.pointer (some ⟨cb, 0, none⟩)]] w fun e w' => ∃ (v : Value) (M : List Int), e = .returned v ∧ M.Perm (L.filter (sel f (fun c => c.par == num))) ∧ w'.ownsRow (w.heap.size + 1) 3 1 v M.length ((M.mergeSort (fun x y => decide (x ≤ y))).map (Value.int .i64)) ∧ Below w.heap.size w w' := by
 obtain ⟨n0, hmp⟩ := h.mp
 obtain ⟨ii, ci0, cz0, cz1, cz2⟩ := int_partsH
 have CI0 := Lib.hid ci0
 have CZ0 := Lib.hid cz0
 have CZ1 := Lib.hid cz1
 have CZ2 := Lib.hid cz2
 have HMP := Lib.hid hmp
 have HMB := Lib.hid h.mlt
 have HCB := Lib.hid hcb
 have HCL := Lib.hid hcl
 have HL := Lib.hid hL
 have HM := Lib.hid hm
 have HOK := Lib.hid hok
 have c0 := h.c0
 have lt := h.lt
 obtain ⟨base, hbase⟩ : ∃ base, w.heap.size + 1 = base := ⟨_, rfl⟩
 rw [hbase]
 have HBA := Lib.hid hbase
 clear hcb hcl h hmp hL hm hok hbase ci0 cz0 cz1 cz2
 go_enter Try.func43, Try.ntmps43
 go_wp2_with (first | go_guarded | (refine wpList_range_itm rfl _ 85 _ _ rfl Try.underlying85 mb n0 _ rfl HMP.out rfl ?_; intro w1 hI hbel hs1; have HI0 := Lib.hid hI; have HB0 := Lib.hid hbel; clear hI hbel))
 go_frame
 go_loopg [5] L.length (fun k9 s5 wr => ∃ (ks M : List Int) (m : Nat) (ao : Option Addr) (c : Nat), s5 = .slice ao m c ∧ M.length = m ∧ M = ks.filter (sel f (fun c => c.par == num)) ∧ ks.Nodup ∧ (∀ x ∈ ks, x ∈ L) ∧ L.length - ks.length ≤ k9 ∧ ItM ikv clv iok f ks wr w.heap.size mb ∧ wr.ownsRow base 3 1 (.slice ao m c) m (M.map (Value.int .i64)) ∧ base ≤ wr.heap.size ∧ Below w.heap.size w wr)
 case atStart => exact ⟨[], [], 0, none, 0, rfl, rfl, rfl, List.nodup_nil, fun x hx => by simp at hx, by simp, HI0.out, World.ownsRow_nil _ _ _ _, by rw [hs1]; exact Nat.le_of_eq HBA.out.symm, HB0.out⟩
 case round =>
  obtain ⟨ks, M, m, ao, c, rfl, hkm, hMf, hnd, hsub, hk, hI, hO, hbs, hB⟩ := hrel
  have HI := Lib.hid hI
  have HO := Lib.hid hO
  have HB := Lib.hid hB
  have HND := Lib.hid hnd
  have HSUB := Lib.hid hsub
  have HKM := Lib.hid hkm
  have hkl : ks.length ≤ L.length := len_sub hnd hsub
  have hml : m ≤ L.length := by rw [← hkm, hMf]; exact Nat.le_trans (List.length_filter_le _ _) hkl
  have HMF := Lib.hid hMf
  obtain ⟨kn, hkn⟩ : ∃ kn, ks.length = kn := ⟨_, rfl⟩
  rw [hkn] at hk hkl
  have HKN := Lib.hid hkn
  clear hMf hkn
  clear hI hO hnd hsub hkm
  by_cases hall : ∃ x v, iok x ∧ f x = some v ∧ x ∉ ks
  ·have HALL := Lib.hid hall
   clear hall
   go_wp2_with (first
    | go_guarded
    | (refine wpList_next_more rfl _ rfl w.heap.size mb rfl HI.out HALL.out (fun a b _ _ h => by simpa [ikv] using h) ?_; intro x cl w3 hx hnx hf hen hI3 ho3 hs3; (simp only [ikv, clv] at hen ⊢); have HI3 := Lib.hid hI3; have HO3 := Lib.hid (row_only HO.out ho3 (fun k hk hb => by have := HBA.out; omega)); have HON := Lib.hid ho3; have HL3 : Hid (cb < w3.heap.size) := Lib.hid (by have := HB.out.size; have := HCL.out; omega); have CB3 : Hid (w3.cell? ⟨cb, 0, none⟩ = some (.int .i64 num)) := Lib.hid (by have hbw := HB.out.size; have h1 : Below w.heap.size wr w3 := ⟨ho3.1, ho3.2, ho3.3, ho3.4, fun k hk => ho3.5 k (by omega) (by omega)⟩; exact ((HB.out.trans h1).cell (p := ⟨cb, 0, none⟩) HCL.out).trans HCB.out); have HX := Lib.hid hx; have HNX := Lib.hid hnx; have HF := Lib.hid hf; clear hI3 ho3 hx hnx hf)
    | (go_at_call 70; (with_reducible refine (chi1_c _ cb num _ (((Below.alloc (Below.refl w3.heap.size w3) (Nat.le_refl _) _).cell (p := ⟨cb, 0, none⟩) HL3.out).trans CB3.out) (by have := HL3.out; simp; omega)).mono ?_); rintro _ w5 ⟨rfl, hbel⟩; have hs5 := hbel.size; (try simp at hs5); have HI5 := Lib.hid ((HI3.out.frame (heap_alloc_old _ _ HI3.out.lt.1) (heap_alloc_old _ _ HI3.out.lt.2)).below hbel); have HO5 := Lib.hid (row_bel (World.ownsRow.alloc HO3.out _) hbel); have HB5 : Hid (Below base w3 w5) := Lib.hid ((Below.alloc (Below.refl _ _) (by omega) _).trans (hbel.mono (by simp; omega))); clear hbel; cases hlf : (cl.par == num))
    | (at_builtin; refine wpList_append_own _ rfl _ _ 31 rfl base 3 ii (.int .i64 0) 1 8 Try.underlying31 CI0.out CZ0.out CZ1.out CZ2.out rfl (by decide) (.slice ao m c) _ _ rfl (World.ownsRow.alloc HO5.out _) ⟨_, 0, none⟩ 1 1 [Value.int .i64 x] rfl rfl ?c1 ?c2 ?c3 ?c4 ?c5 ?_; (case c1 => (intro q u hu; rcases q with _ | q <;> simp at hu <;> (try subst hu) <;> simp [Addr.add, go_sem, *])); (case c2 => (intro v hv; simp at hv; subst hv; rfl)); (case c3 => (unfold maxLen; omega)); (case c4 => omega); (case c5 => (simp; omega)); intro v2 z2 hown2 hg2 _; (have hb2 : Below base w5 z2 := (Below.alloc (Below.refl _ _) (by omega) _).grown hg2 (by simp; omega) (fun q hq => (HO5.out.lt q hq).1)); obtain ⟨a2, c2, rfl⟩ := row_form hown2; (have HO2 := Lib.hid hown2); (have HB2 := Lib.hid hb2); clear hown2 hg2 hb2))
   ·have hnd2 : (ks ++ [x]).Nodup := List.nodup_append.2 ⟨HND.out, by simp, fun a ha b hb => by rw [List.mem_singleton] at hb; subst hb; rintro rfl; exact HNX.out ha⟩
    have hsub2 : ∀ y ∈ ks ++ [x], y ∈ L := fun y hy => by
     rcases List.mem_append.1 hy with g | g
     ·exact HSUB.out y g
     ·rw [List.mem_singleton] at g; subst g; exact (HM.out y).1 (by rw [HF.out]; rfl)
    have hm1 := len_sub hnd2 hsub2
    rw [List.length_append, List.length_singleton, HKN.out] at hm1
    have hsl : sel f (fun c => c.par == num) x = (cl.par == num) := by unfold sel; rw [HF.out]
    rw [hlf] at hsl
    go_roundg (L.length - (kn + 1))
    case rel =>
     refine ⟨ks ++ [x], M, m, ao, c, rfl, HKM.out, by rw [List.filter_append, ← HMF.out, List.filter_cons, if_neg (by rw [hsl]; simp)]; simp, hnd2, hsub2, by rw [List.length_append, List.length_singleton, HKN.out]; exact Nat.le_refl _, HI5.out, HO5.out, ?_, ?_⟩
     ·have h5 := HB5.out.size
      omega
     ·have hbw := HB.out.size
      have h1 : Below w.heap.size wr w3 := ⟨HON.out.1, HON.out.2, HON.out.3, HON.out.4, fun k hk => HON.out.5 k (by omega) (by omega)⟩
      have hba := HBA.out
      exact HB.out.trans (h1.trans (HB5.out.mono (by omega)))
    case measure => omega
   ·have hnd2 : (ks ++ [x]).Nodup := List.nodup_append.2 ⟨HND.out, by simp, fun a ha b hb => by rw [List.mem_singleton] at hb; subst hb; rintro rfl; exact HNX.out ha⟩
    have hsub2 : ∀ y ∈ ks ++ [x], y ∈ L := fun y hy => by
     rcases List.mem_append.1 hy with g | g
     ·exact HSUB.out y g
     ·rw [List.mem_singleton] at g; subst g; exact (HM.out y).1 (by rw [HF.out]; rfl)
    have hm1 := len_sub hnd2 hsub2
    rw [List.length_append, List.length_singleton, HKN.out] at hm1
    have hsl : sel f (fun c => c.par == num) x = (cl.par == num) := by unfold sel; rw [HF.out]
    rw [hlf] at hsl
    go_roundg (L.length - (kn + 1))
    case rel =>
     refine ⟨ks ++ [x], M ++ [x], m + 1, a2, c2, rfl, by rw [List.length_append, List.length_singleton, HKM.out], by rw [List.filter_append, ← HMF.out, List.filter_cons, if_pos hsl]; rfl, hnd2, hsub2, by rw [List.length_append, List.length_singleton, HKN.out]; exact Nat.le_refl _, ?_, ?_, ?_, ?_⟩
     ·exact HI5.out.frame (HB2.out.block _ (by have := HBA.out; omega)) (HB2.out.block _ (by have := HBA.out; have := HMB.out; omega))
     ·rw [List.map_append]; exact HO2.out
     ·have h5 := HB5.out.size
      have h2 := HB2.out.size
      omega
     ·have hbw := HB.out.size
      have h1 : Below w.heap.size wr w3 := ⟨HON.out.1, HON.out.2, HON.out.3, HON.out.4, fun k hk => HON.out.5 k (by omega) (by omega)⟩
      have hba := HBA.out
      exact HB.out.trans (h1.trans ((HB5.out.mono (by omega)).trans (HB2.out.mono (by omega))))
    case measure => omega
  ·have hd : ∀ x v, iok x → f x = some v → x ∈ ks := fun x v hx hf => Classical.byContradiction fun hn => hall ⟨x, v, hx, hf, hn⟩
   have hpk : ks.Perm L := (List.perm_ext_iff_of_nodup HND.out HL.out).2 fun x => ⟨HSUB.out x, fun hx => by
    obtain ⟨v, hv⟩ := Option.isSome_iff_exists.1 ((HM.out x).2 hx)
    exact hd x v (HOK.out x hx) hv⟩
   have HD := Lib.hid hd
   have hpm : M.Perm (L.filter (sel f (fun c => c.par == num))) := by rw [HMF.out]; exact hpk.filter _
   have HPM := Lib.hid hpm
   clear hd hpm hpk hall
   have hkm := HKM.out
   subst hkm
   go_wp2_with (first
    | go_guarded
    | (refine wpList_next_end rfl _ rfl w.heap.size mb rfl HI.out HD.out ?_)
    | (go_at_call 42; (with_reducible refine (sortI_c HO.out (by omega)).mono ?_); rintro _ w5 ⟨rfl, hrow, hbel⟩; have HR5 := Lib.hid hrow; have HO5 := Lib.hid hbel; clear hrow hbel))
   go_ret
   have hbw := HB.out.size
   have hba := HBA.out
   have h1 : Below w.heap.size wr w5 := ⟨HO5.out.1, HO5.out.2, HO5.out.3, HO5.out.4, fun k hk => HO5.out.5 k (by omega) (by omega)⟩
   exact ⟨_, M, rfl, HPM.out, HR5.out, HB.out.trans h1⟩
end Go.Proofs.Ytmmahgfijiocfaa
end
section
namespace Go.Proofs.Ytmmahgfijiocfaa
open Go.RowKit Fg Reg Go.Maps
attribute [local irreducible] Reg.wE
theorem children_c {w : World} {tb mb : Nat} {f : Int → Option Cls} (h : HT w tb mb f) (num : Int) (L : List Int) (hL : L.Pairwise (· < ·)) (hm : ∀ x, (f x).isSome = true ↔ x ∈ L) (hn : L.length ≤ 1000) (hok : ∀ x ∈ L, iok x) :
  Calls Try.prog 45 #[.pointer (some ⟨tb, 0, none⟩), .int .i64 num] w fun e w' => ∃ v, e = .returned v ∧ w'.ownsRow (w.heap.size + 1) 3 1 v (L.filter (sel f (fun c => c.par == num))).length ((L.filter (sel f (fun c => c.par == num))).map (Value.int .i64)) ∧ Below w.heap.size w w' := by
 have hb0 : Below w.heap.size w (w.alloc (.cells #[.int .i64 num] 3)) := bub
 have hT : HT (w.alloc (.cells #[.int .i64 num] 3)) tb mb f := h.below hb0
 have K : Hid (Calls Try.prog 43 #[.pointer (some ⟨tb, 0, none⟩), .func (.func 70) #[] #[.pointer (some ⟨(w.heap.size), 0, none⟩)]] (w.alloc (.cells #[.int .i64 num] 3)) fun e w' => ∃ v : Value, e = .returned v ∧ w'.ownsRow (w.heap.size + 1) 3 1 v (L.filter (sel f (fun c => c.par == num))).length ((L.filter (sel f (fun c => c.par == num))).map (Value.int .i64)) ∧ Below w.heap.size w w') := Lib.hid (by
  refine (thoseChi_c (cb := w.heap.size) (num := num) hT L (by simp [go_sem]) (by simp) (nd_lt hL) hm hn hok).mono ?_
  rintro e w' ⟨v, M, rfl, hp, hr, hb⟩
  rw [ms_eq (hL.filter _) hp, hp.length_eq] at hr
  exact ⟨v, rfl, World.ownsRow.mono hr (by simp), hb0.trans (hb.mono (by simp))⟩)
 clear h hm hok hT hb0
 go_enter Try.func45, Try.ntmps45
 go_wp2_with (first | go_guarded | (go_at_call 43; (with_reducible refine K.out.mono ?_); rintro _ w1 ⟨v, rfl, hr, hb⟩))
 go_ret
 exact ⟨v, rfl, hr, hb⟩
end Go.Proofs.Ytmmahgfijiocfaa
end
section
namespace Go.Proofs.Ytmmahgfijiocfaa
open Go.RowKit Fg
def cmp (x y : Int) : Int := if x = y then 0 else if x < y then -1 else 1
end Go.Proofs.Ytmmahgfijiocfaa
namespace Go.Proofs.Ytmmahgfijiocfaa
open Go.RowKit Fg Reg
end Go.Proofs.Ytmmahgfijiocfaa
namespace Go.Proofs.Ytmmahgfijiocfaa
open Go.RowKit Fg Reg
end Go.Proofs.Ytmmahgfijiocfaa
namespace Go.Proofs.Ytmmahgfijiocfaa
open Go.RowKit Fg Reg
def Filled (w : World) (b k : Nat) (ds : List Int) : Prop :=
 (∀ j, j < 39 → ∃ x, w.cell? ⟨b, j, none⟩ = some (.int .u8 x)) ∧ (∀ j, j < 39 → w.frozen? ⟨b, j, none⟩ = false) ∧ ∀ j x, ds[j]? = some x → w.cell? ⟨b, 39 - k + j, none⟩ = some (.int .u8 x)
theorem Filled.below {w w' : World} {b k : Nat} {ds : List Int} (h : Filled w b k ds) (hb : Below w.heap.size w w') (hlt : b < w.heap.size) : Filled w' b k ds :=
 ⟨fun j hj => let ⟨x, hx⟩ := h.1 j hj; ⟨x, (hb.cell (p := ⟨b, j, none⟩) hlt).trans hx⟩, fun j hj => (hb.frozen (p := ⟨b, j, none⟩) hlt).trans (h.2.1 j hj), fun j x hj => (hb.cell (p := ⟨b, _, none⟩) hlt).trans (h.2.2 j x hj)⟩
theorem Filled.put {w : World} {b k : Nat} {ds : List Int} (h : Filled w b k ds) (hk : k < 39) (x : Int) : Filled (w.setCell ⟨b, 39 - k - 1, none⟩ (.int .u8 x)) b (k + 1) (x :: ds) := by
 obtain ⟨h1, h2, h3⟩ := h
 refine ⟨fun j hj => ?_, fun j hj => by rw [World.frozen?_setCell]; exact h2 j hj, fun j y hj => ?_⟩
 ·obtain ⟨y, hy⟩ := h1 j hj
  by_cases e : 39 - k - 1 = j
  ·subst e; exact ⟨x, World.cell?_setCell_same w _ _ hy⟩
  ·exact ⟨y, (World.cell?_setCell_other w _ _ _ (fun h => e (congrArg Addr.off h))).trans hy⟩
 ·cases j with
  | zero =>
   have hx : x = y := by simpa using hj
   subst hx
   obtain ⟨z, hz⟩ := h1 (39 - k - 1) (by omega)
   have : (⟨b, 39 - (k + 1) + 0, none⟩ : Addr) = ⟨b, 39 - k - 1, none⟩ := by rw [show 39 - (k + 1) + 0 = 39 - k - 1 by omega]
   rw [this]
   exact World.cell?_setCell_same w _ _ hz
  | succ j =>
   have hj' : ds[j]? = some y := by simpa using hj
   have := h3 j y hj'
   rw [show 39 - (k + 1) + (j + 1) = 39 - k + j by omega]
   refine (World.cell?_setCell_other w _ _ _ (fun h => ?_)).trans this
   have : 39 - k - 1 = 39 - k + j := congrArg Addr.off h
   omega
theorem Filled.alloc {w : World} {b k : Nat} {ds : List Int} (h : Filled w b k ds) (hlt : b < w.heap.size) (o : Obj) : Filled (w.alloc o) b k ds :=
 h.below ((Below.refl _ _).alloc (Nat.le_refl _) o) hlt
end Go.Proofs.Ytmmahgfijiocfaa
end
section
namespace Go.Proofs.Ytmmahgfijiocfaa
open Go.RowKit Fg Reg
end Go.Proofs.Ytmmahgfijiocfaa
namespace Go.Proofs.Ytmmahgfijiocfaa
open Go.RowKit Fg Reg
end Go.Proofs.Ytmmahgfijiocfaa
namespace Go.Proofs.Ytmmahgfijiocfaa
open Go.RowKit Fg Reg
end Go.Proofs.Ytmmahgfijiocfaa
namespace Go.Proofs.Ytmmahgfijiocfaa
open Go.RowKit Fg Reg
def nv (Q : Int) : Int := if hi Q = 0 then lo Q else 0
def ne (Q : Int) : Int := if hi Q = 0 then 0 else 20
def cl (n d : Int) : Int := if n % d = 0 then n / d else n / d + 1
end Go.Proofs.Ytmmahgfijiocfaa
namespace Go.Proofs.Ytmmahgfijiocfaa
open Go.RowKit Fg Reg
end Go.Proofs.Ytmmahgfijiocfaa
namespace Go.Proofs.Ytmmahgfijiocfaa
open Go.RowKit Fg Reg
end Go.Proofs.Ytmmahgfijiocfaa
namespace Go.Proofs.Ytmmahgfijiocfaa
open Go.RowKit Fg Reg
end Go.Proofs.Ytmmahgfijiocfaa
namespace Go.Proofs.Ytmmahgfijiocfaa
open Go.RowKit Fg Reg
end Go.Proofs.Ytmmahgfijiocfaa
end
