/- Joined texts. -/
import Derived.Test.YtmmahgfijiocfaaBs0
import Derived.Test.YtmmahgfijiocfaaBs13
import Derived.Test.YtmmahgfijiocfaaBs20
import Derived.Test.YtmmahgfijiocfaaBs23
set_option linter.unusedVariables false
set_option linter.unusedSimpArgs false
set_option maxRecDepth 100000
set_option maxHeartbeats 16000000
section
namespace Go.Proofs.Ytmmahgfijiocfaa
open Go.RowKit Fg Reg Go.Maps Go.Shelf
attribute [local irreducible] Reg.wE VR
theorem rone_c {f : Int → Option Cls} {L : List Int} (I : TI f L) (k : Int) {c : Cls} (hi : CIn c) (n : Nat) (hn : L.length = n) (ao : Option Addr) (cap : Nat) (w : World) (hR : RwV crow 14 w ao (rowsX f L)) :
  Calls Try.prog 28 #[.slice ao n cap, .agg #[.int .i64 (k), .int .i64 c.id, .int .i64 c.par, .bool c.leaf, .int .u64 c.ra, .int .u64 c.rb, .int .u64 c.rc, .int .u64 c.la, .int .u64 c.lb, .int .u64 c.lc, .int .u64 c.ua, .int .u64 c.ub, .int .u64 c.uc, .int .i64 c.pk, .int .i64 c.bt]] w (DidP w (chE k f L c) (chF k f L c) (chL k f L c)) := by
 have hV1 : VR (w.alloc (.cells #[.int .i64 (k), .int .i64 c.id, .int .i64 c.par, .bool c.leaf, .int .u64 c.ra, .int .u64 c.rb, .int .u64 c.rc, .int .u64 c.la, .int .u64 c.lb, .int .u64 c.lc, .int .u64 c.ua, .int .u64 c.ub, .int .u64 c.uc, .int .i64 c.pk, .int .i64 c.bt] 56)) w.heap.size 56 #[.int .i64 (k), .int .i64 c.id, .int .i64 c.par, .bool c.leaf, .int .u64 c.ra, .int .u64 c.rb, .int .u64 c.rc, .int .u64 c.la, .int .u64 c.lb, .int .u64 c.lc, .int .u64 c.ua, .int .u64 c.ub, .int .u64 c.uc, .int .i64 c.pk, .int .i64 c.bt] := VR.new _ _ _
 have hB0 : Below w.heap.size w ((w.alloc (.cells #[.int .i64 (k), .int .i64 c.id, .int .i64 c.par, .bool c.leaf, .int .u64 c.ra, .int .u64 c.rb, .int .u64 c.rc, .int .u64 c.la, .int .u64 c.lb, .int .u64 c.lc, .int .u64 c.ua, .int .u64 c.ub, .int .u64 c.uc, .int .i64 c.pk, .int .i64 c.bt] 56)).alloc (.cells #[.slice none 0 0, .int .i64 0] 59)) := bub
 have hQ0 : VR ((w.alloc (.cells #[.int .i64 (k), .int .i64 c.id, .int .i64 c.par, .bool c.leaf, .int .u64 c.ra, .int .u64 c.rb, .int .u64 c.rc, .int .u64 c.la, .int .u64 c.lb, .int .u64 c.lc, .int .u64 c.ua, .int .u64 c.ub, .int .u64 c.uc, .int .i64 c.pk, .int .i64 c.bt] 56)).alloc (.cells #[.slice none 0 0, .int .i64 0] 59)) (w.heap.size + 1) 59 #[.slice none 0 0, .int .i64 0] := by have := VR.new (w.alloc (.cells #[.int .i64 (k), .int .i64 c.id, .int .i64 c.par, .bool c.leaf, .int .u64 c.ra, .int .u64 c.rb, .int .u64 c.rc, .int .u64 c.la, .int .u64 c.lb, .int .u64 c.lc, .int .u64 c.ua, .int .u64 c.ub, .int .u64 c.uc, .int .i64 c.pk, .int .i64 c.bt] 56)) #[.slice none 0 0, .int .i64 0] 59; simpa using this
 have hV0 := hV1.alloc (.cells #[.slice none 0 0, .int .i64 0] 59)
 have HP := Lib.hid (cg_part hV0)
 have a0 := hV0.cell 0 rfl
 have a1 := hV0.cell 1 rfl
 have HQ0 := Lib.hid hQ0
 have HB0 := Lib.hid hB0
 have INF := Lib.hid cl_info
 have DINF := Lib.hid dd_info
 have DONE := Lib.hid dd_one
 have hR0 := hR.below hB0
 clear hV1 hQ0 hV0 hB0
 obtain ⟨E1, hE1⟩ : ∃ E, chE k f L c = E := ⟨_, rfl⟩
 obtain ⟨F1, hF1⟩ : ∃ F, chF k f L c = F := ⟨_, rfl⟩
 obtain ⟨L1, hL1⟩ : ∃ M, chL k f L c = M := ⟨_, rfl⟩
 rw [hE1, hF1, hL1]
 by_cases h1 : k = 1
 ·subst h1
  have K := Lib.hid (show Calls Try.prog 56 #[.slice ao n cap, .agg #[.int .i64 c.id, .int .i64 c.par, .bool c.leaf, .int .u64 c.ra, .int .u64 c.rb, .int .u64 c.rc, .int .u64 c.la, .int .u64 c.lb, .int .u64 c.lc, .int .u64 c.ua, .int .u64 c.ub, .int .u64 c.uc, .int .i64 c.pk, .int .i64 c.bt]] ((w.alloc (.cells #[.int .i64 ((1 : Int)), .int .i64 c.id, .int .i64 c.par, .bool c.leaf, .int .u64 c.ra, .int .u64 c.rb, .int .u64 c.rc, .int .u64 c.la, .int .u64 c.lb, .int .u64 c.lc, .int .u64 c.ua, .int .u64 c.ub, .int .u64 c.uc, .int .i64 c.pk, .int .i64 c.bt] 56)).alloc (.cells #[.slice none 0 0, .int .i64 0] 59)) (DidP _ E1 F1 L1) from by rw [← hE1, ← hF1, ← hL1]; exact radd_c I hi n hn ao cap _ hR0)
  clear hR0 I hi hR hE1 hF1 hL1 hn
  go_enter Try.func28, Try.ntmps28
  go_wp2_with (first
   | go_guarded
   | (refine wpList_part_get rfl 54 _ rfl w.heap.size 1 #[.int .i64 c.id, .int .i64 c.par, .bool c.leaf, .int .u64 c.ra, .int .u64 c.rb, .int .u64 c.rc, .int .u64 c.la, .int .u64 c.lb, .int .u64 c.lc, .int .u64 c.ua, .int .u64 c.ub, .int .u64 c.uc, .int .i64 c.pk, .int .i64 c.bt] _ HP.out rfl Try.underlying54 rfl INF.out ?_)
   | (refine wpList_var_set rfl 59 _ _ rfl (w.heap.size + 1) #[.slice none 0 0, .int .i64 0] #[.slice ao1 n1 cap1, .int .i64 E1] HQ1.out rfl rfl DINF.out rfl (DONE.out _ _ _ _) ?_; intro w2 hs2 ho2 hv2; have HV2 := Lib.hid hv2; have HB2 : Hid (Below w.heap.size w w2) := Lib.hid (HB1.out.trans ⟨ho2.1, ho2.2, ho2.3, ho2.4, fun k hk => ho2.5 k (Nat.lt_of_lt_of_le hk HB1.out.size) (by omega)⟩); have HR2 := Lib.hid (rwv_var HR1.out HQ1.out (by decide) ho2); clear ho2 hv2)
   | (go_at_call 56; (with_reducible refine K.out.mono ?_); rintro _ w1 ⟨ao1, n1, cap1, rfl, hn1, hr1, hbel⟩; have HN1 := Lib.hid hn1; have HR1 := Lib.hid hr1; have HQ1 := Lib.hid (HQ0.out.bel hbel); have HB1 : Hid (Below w.heap.size w w1) := Lib.hid (HB0.out.trans (hbel.mono HB0.out.size)); clear hbel hn1 hr1))
  refine bodyPost_ret (v := .agg #[.slice ao1 n1 cap1, .int .i64 E1]) (results_var Try.results28 _ (w.heap.size + 1) rfl _ _ HV2.out Try.underlying59 rfl DINF.out) rfl ?_
  exact ⟨ao1, n1, cap1, rfl, HN1.out, HR2.out, HB2.out⟩
 ·by_cases h2 : k = 2
  ·subst h2
   have K := Lib.hid (show Calls Try.prog 57 #[.slice ao n cap, .int .i64 c.id] ((w.alloc (.cells #[.int .i64 ((2 : Int)), .int .i64 c.id, .int .i64 c.par, .bool c.leaf, .int .u64 c.ra, .int .u64 c.rb, .int .u64 c.rc, .int .u64 c.la, .int .u64 c.lb, .int .u64 c.lc, .int .u64 c.ua, .int .u64 c.ub, .int .u64 c.uc, .int .i64 c.pk, .int .i64 c.bt] 56)).alloc (.cells #[.slice none 0 0, .int .i64 0] 59)) (DidP _ E1 F1 L1) from by rw [← hE1, ← hF1, ← hL1]; exact rdel_c I c.id n hn ao cap _ hR0)
   clear hR0 I hi hR hE1 hF1 hL1 hn
   go_enter Try.func28, Try.ntmps28
   go_wp2_with (first
    | go_guarded
    | (refine wpList_part_get rfl 54 _ rfl w.heap.size 1 #[.int .i64 c.id, .int .i64 c.par, .bool c.leaf, .int .u64 c.ra, .int .u64 c.rb, .int .u64 c.rc, .int .u64 c.la, .int .u64 c.lb, .int .u64 c.lc, .int .u64 c.ua, .int .u64 c.ub, .int .u64 c.uc, .int .i64 c.pk, .int .i64 c.bt] _ HP.out rfl Try.underlying54 rfl INF.out ?_)
    | (refine wpList_var_set rfl 59 _ _ rfl (w.heap.size + 1) #[.slice none 0 0, .int .i64 0] #[.slice ao1 n1 cap1, .int .i64 E1] HQ1.out rfl rfl DINF.out rfl (DONE.out _ _ _ _) ?_; intro w2 hs2 ho2 hv2; have HV2 := Lib.hid hv2; have HB2 : Hid (Below w.heap.size w w2) := Lib.hid (HB1.out.trans ⟨ho2.1, ho2.2, ho2.3, ho2.4, fun k hk => ho2.5 k (Nat.lt_of_lt_of_le hk HB1.out.size) (by omega)⟩); have HR2 := Lib.hid (rwv_var HR1.out HQ1.out (by decide) ho2); clear ho2 hv2)
    | (go_at_call 57; (with_reducible refine K.out.mono ?_); rintro _ w1 ⟨ao1, n1, cap1, rfl, hn1, hr1, hbel⟩; have HN1 := Lib.hid hn1; have HR1 := Lib.hid hr1; have HQ1 := Lib.hid (HQ0.out.bel hbel); have HB1 : Hid (Below w.heap.size w w1) := Lib.hid (HB0.out.trans (hbel.mono HB0.out.size)); clear hbel hn1 hr1))
   refine bodyPost_ret (v := .agg #[.slice ao1 n1 cap1, .int .i64 E1]) (results_var Try.results28 _ (w.heap.size + 1) rfl _ _ HV2.out Try.underlying59 rfl DINF.out) rfl ?_
   exact ⟨ao1, n1, cap1, rfl, HN1.out, HR2.out, HB2.out⟩
  ·by_cases h3 : k = 3
   ·subst h3
    have K := Lib.hid (show Calls Try.prog 58 #[.slice ao n cap, .agg #[.int .i64 c.id, .int .i64 c.par, .bool c.leaf, .int .u64 c.ra, .int .u64 c.rb, .int .u64 c.rc, .int .u64 c.la, .int .u64 c.lb, .int .u64 c.lc, .int .u64 c.ua, .int .u64 c.ub, .int .u64 c.uc, .int .i64 c.pk, .int .i64 c.bt]] ((w.alloc (.cells #[.int .i64 ((3 : Int)), .int .i64 c.id, .int .i64 c.par, .bool c.leaf, .int .u64 c.ra, .int .u64 c.rb, .int .u64 c.rc, .int .u64 c.la, .int .u64 c.lb, .int .u64 c.lc, .int .u64 c.ua, .int .u64 c.ub, .int .u64 c.uc, .int .i64 c.pk, .int .i64 c.bt] 56)).alloc (.cells #[.slice none 0 0, .int .i64 0] 59)) (DidP _ E1 F1 L1) from by rw [← hE1, ← hF1, ← hL1]; exact rset_c I hi n hn ao cap _ hR0)
    clear hR0 I hi hR hE1 hF1 hL1 hn
    go_enter Try.func28, Try.ntmps28
    go_wp2_with (first
     | go_guarded
     | (refine wpList_part_get rfl 54 _ rfl w.heap.size 1 #[.int .i64 c.id, .int .i64 c.par, .bool c.leaf, .int .u64 c.ra, .int .u64 c.rb, .int .u64 c.rc, .int .u64 c.la, .int .u64 c.lb, .int .u64 c.lc, .int .u64 c.ua, .int .u64 c.ub, .int .u64 c.uc, .int .i64 c.pk, .int .i64 c.bt] _ HP.out rfl Try.underlying54 rfl INF.out ?_)
     | (refine wpList_var_set rfl 59 _ _ rfl (w.heap.size + 1) #[.slice none 0 0, .int .i64 0] #[.slice ao1 n1 cap1, .int .i64 E1] HQ1.out rfl rfl DINF.out rfl (DONE.out _ _ _ _) ?_; intro w2 hs2 ho2 hv2; have HV2 := Lib.hid hv2; have HB2 : Hid (Below w.heap.size w w2) := Lib.hid (HB1.out.trans ⟨ho2.1, ho2.2, ho2.3, ho2.4, fun k hk => ho2.5 k (Nat.lt_of_lt_of_le hk HB1.out.size) (by omega)⟩); have HR2 := Lib.hid (rwv_var HR1.out HQ1.out (by decide) ho2); clear ho2 hv2)
     | (go_at_call 58; (with_reducible refine K.out.mono ?_); rintro _ w1 ⟨ao1, n1, cap1, rfl, hn1, hr1, hbel⟩; have HN1 := Lib.hid hn1; have HR1 := Lib.hid hr1; have HQ1 := Lib.hid (HQ0.out.bel hbel); have HB1 : Hid (Below w.heap.size w w1) := Lib.hid (HB0.out.trans (hbel.mono HB0.out.size)); clear hbel hn1 hr1))
    refine bodyPost_ret (v := .agg #[.slice ao1 n1 cap1, .int .i64 E1]) (results_var Try.results28 _ (w.heap.size + 1) rfl _ _ HV2.out Try.underlying59 rfl DINF.out) rfl ?_
    exact ⟨ao1, n1, cap1, rfl, HN1.out, HR2.out, HB2.out⟩
   ·have q1 : (k == 1) = false := by simpa using h1
    have q2 : (k == 2) = false := by simpa using h2
    have q3 : (k == 3) = false := by simpa using h3
    have e1 : E1 = 1 := by rw [← hE1]; unfold chE; rw [if_neg h1, if_neg h2, if_neg h3]
    have e2 : F1 = f := by rw [← hF1]; unfold chF; rw [if_neg h1, if_neg h2, if_neg h3]
    have e3 : L1 = L := by rw [← hL1]; unfold chL; rw [if_neg h1, if_neg h2]
    subst e1 e2 e3
    have HR0 := Lib.hid hR0
    have HN := Lib.hid hn
    clear hR0 I hi hR hE1 hF1 hL1 hn h1 h2 h3
    go_enter Try.func28, Try.ntmps28
    go_wp2_with (first
     | go_guarded
     | (refine wpList_var_set rfl 59 _ _ rfl (w.heap.size + 1) #[.slice none 0 0, .int .i64 0] #[.slice ao n cap, .int .i64 1] HQ0.out rfl rfl DINF.out rfl (DONE.out _ _ _ _) ?_; intro w2 hs2 ho2 hv2; have HV2 := Lib.hid hv2; have HB2 : Hid (Below w.heap.size w w2) := Lib.hid (HB0.out.trans ⟨ho2.1, ho2.2, ho2.3, ho2.4, fun k hk => ho2.5 k (Nat.lt_of_lt_of_le hk HB0.out.size) (by omega)⟩); have HR2 := Lib.hid (rwv_var HR0.out HQ0.out (by decide) ho2); clear ho2 hv2))
    refine bodyPost_ret (v := .agg #[.slice ao n cap, .int .i64 1]) (results_var Try.results28 _ (w.heap.size + 1) rfl _ _ HV2.out Try.underlying59 rfl DINF.out) rfl ?_
    exact ⟨ao, n, cap, rfl, HN.out, HR2.out, HB2.out⟩
theorem dd_f0 (ao : Option Addr) (n cap : Nat) (e : Int) (w : World) : (Instr.field 59 (.agg #[.slice ao n cap, .int .i64 e]) 0).run Try.prog w = .ok (.slice ao n cap) w := by kernel_rfl
def trs : (Int → Option Cls) → List Int → List TC → (Int → Option Cls) × List Int
 | f, L, [] => (f, L)
 | f, L, a :: r => trs (chF a.k f L a.c) (chL a.k f L a.c) r
theorem HT.map {z : World} {tb mb : Nat} {f : Int → Option Cls} (h : HT z tb mb f) : ∃ es ck, z.heap[mb]? = some (.map es ck) := by
 obtain ⟨n, es, ck, hb, _⟩ := h.mp
 exact ⟨es, ck, hb⟩
theorem TI.trs : ∀ (xs : List TC) {f : Int → Option Cls} {L : List Int}, TI f L → (∀ a ∈ xs, CIn a.c) → TI (trs f L xs).1 (trs f L xs).2
 | [], f, L, I, h => I
 | a :: r, f, L, I, h => TI.trs r (I.chF a.k (h a List.mem_cons_self)) (fun b hb => h b (List.mem_cons_of_mem _ hb))
end Go.Proofs.Ytmmahgfijiocfaa
end
