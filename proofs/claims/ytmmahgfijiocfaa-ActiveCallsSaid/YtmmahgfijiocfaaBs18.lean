/- Joined texts. -/
import Derived.Test.YtmmahgfijiocfaaBs0
import Derived.Test.YtmmahgfijiocfaaBs17
set_option linter.unusedVariables false
set_option linter.unusedSimpArgs false
set_option maxRecDepth 100000
set_option maxHeartbeats 16000000
section
namespace Go.Proofs.Ytmmahgfijiocfaa
open Go.RowKit Fg Reg Go.Maps
attribute [local irreducible] Reg.wE VR
def DidP (w : World) (E : Int) (f : Int → Option Cls) (L : List Int) (e : Ending) (w' : World) : Prop :=
 ∃ ao n cap, e = .returned (.agg #[.slice ao n cap, .int .i64 E]) ∧ L.length = n ∧ RwV crow 14 w' ao (rowsX f L) ∧ Below w.heap.size w w'
theorem dd_info : (Try.prog.info? 59).map (·.size) = some 2 := by kernel_rfl
theorem dd_one (ao : Option Addr) (n cap : Nat) (e : Int) : (#[.slice ao n cap, .int .i64 e] : Array Value).all (·.oneCell') = true := by kernel_rfl
theorem ins_same {x : Int} : ∀ {L : List Int}, L.Pairwise (· < ·) → x ∈ L → ins x L = L
 | [], _, h => by simp at h
 | y :: L, hp, h => by
  rw [List.pairwise_cons] at hp
  unfold ins
  rcases List.mem_cons.1 h with rfl | h
  ·have h1 : L.filter (fun z => decide (z < x)) = [] := by
    rw [List.filter_eq_nil_iff]; intro z hz; have := hp.1 z hz; simp; omega
   have h2 : L.filter (fun z => decide (x < z)) = L := by
    rw [List.filter_eq_self]; intro z hz; have := hp.1 z hz; simpa using this
   simp [List.filter_cons, h1, h2]
  ·have hy := hp.1 x h
   have ih := ins_same hp.2 h
   unfold ins at ih
   have n1 : ¬ x < y := by omega
   simp [List.filter_cons, hy, n1, ih]
theorem pst_after {c : Cls} : ∀ (Y : List Cls) (o : List Cls), (∀ y ∈ Y, c.id < y.id) → Y.foldl (pst c) (o, true) = (o ++ Y, true)
 | [], o, _ => by simp
 | y :: Y, o, h => by
  have h1 : y.id ≠ c.id := by have := h y List.mem_cons_self; omega
  have : pst c (o, true) y = (o ++ [y], true) := by unfold pst; simp [h1]
  rw [List.foldl_cons, this, pst_after Y _ fun z hz => h z (List.mem_cons_of_mem _ hz)]
  simp
theorem pst_ahead {c : Cls} : ∀ (Y : List Cls) (o : List Cls), Y.Pairwise (fun a b => a.id < b.id) → pfin c (Y.foldl (pst c) (o, false)) = o ++ Y.filter (fun y => decide (y.id < c.id)) ++ c :: Y.filter (fun y => decide (c.id < y.id))
 | [], o, _ => by simp [pfin]
 | y :: Y, o, h => by
  rw [List.pairwise_cons] at h
  rcases Int.lt_trichotomy y.id c.id with g | g | g
  ·have h1 : y.id ≠ c.id := by omega
   have h2 : ¬ c.id ≤ y.id := by omega
   have h3 : ¬ c.id < y.id := by omega
   have : pst c (o, false) y = (o ++ [y], false) := by unfold pst; simp [h1, h2]
   rw [List.foldl_cons, this, pst_ahead Y _ h.2]
   simp [List.filter_cons, g, h3]
  ·have : pst c (o, false) y = (o ++ [c], true) := by unfold pst; simp [g]
   have hY : ∀ z ∈ Y, c.id < z.id := fun z hz => by have := h.1 z hz; omega
   rw [List.foldl_cons, this, pst_after Y _ hY]
   have e1 : (y :: Y).filter (fun y => decide (y.id < c.id)) = [] := by
    rw [List.filter_eq_nil_iff]; intro z hz
    rcases List.mem_cons.1 hz with rfl | hz
    ·simp; omega
    ·have := hY z hz; simp; omega
   have e2 : (y :: Y).filter (fun y => decide (c.id < y.id)) = Y := by
    rw [List.filter_cons, if_neg (by simp; omega), List.filter_eq_self]
    intro z hz; simpa using hY z hz
   rw [e1, e2]
   simp [pfin]
  ·have h1 : y.id ≠ c.id := by omega
   have h2 : c.id ≤ y.id := by omega
   have : pst c (o, false) y = (o ++ [c] ++ [y], true) := by unfold pst; simp [h1, h2]
   have hY : ∀ z ∈ Y, c.id < z.id := fun z hz => by have := h.1 z hz; omega
   rw [List.foldl_cons, this, pst_after Y _ hY]
   have e1 : (y :: Y).filter (fun y => decide (y.id < c.id)) = [] := by
    rw [List.filter_eq_nil_iff]; intro z hz
    rcases List.mem_cons.1 hz with rfl | hz
    ·simp; omega
    ·have := hY z hz; simp; omega
   have e2 : (y :: Y).filter (fun y => decide (c.id < y.id)) = y :: Y := by
    rw [List.filter_eq_self]
    intro z hz
    rcases List.mem_cons.1 hz with rfl | hz
    ·simpa using g
    ·simpa using hY z hz
   rw [e1, e2]
   simp [pfin]
theorem rows_srt {f : Int → Option Cls} {L : List Int} (I : TI f L) : (rowsX f L).Pairwise (fun a b => a.id < b.id) := by
 rw [List.pairwise_iff_getElem]
 intro i j hi hj hij
 rw [rowsX_len] at hi hj
 rw [(rx_at I hi).2, (rx_at I hj).2]
 exact List.pairwise_iff_getElem.1 I.srt i j hi hj hij
theorem put_rows {f : Int → Option Cls} {L : List Int} (I : TI f L) (c : Cls) : putX (rowsX f L) c = rowsX (upd f c.id c) (ins c.id L) := by
 unfold putX
 rw [pst_ahead _ _ (rows_srt I)]
 have hid : ∀ x ∈ L, (gcl (f x)).id = x := fun x hx => by
  obtain ⟨d, h1, h2, _⟩ := I.rows x hx
  rw [h1]; exact h2
 unfold ins rowsX
 rw [List.filter_map, List.filter_map, List.map_append, List.map_cons, List.nil_append]
 have e0 : gcl (upd f c.id c c.id) = c := by unfold upd; rw [if_pos rfl]; rfl
 have e1 : ∀ x, x ≠ c.id → gcl (upd f c.id c x) = gcl (f x) := fun x hx => by unfold upd; rw [if_neg hx]
 rw [e0]
 congr 1
 ·rw [List.filter_congr (q := fun x => decide (x < c.id)) (fun x hx => by simp [hid x hx])]
  exact List.map_congr_left fun x hx => (e1 x (by have := (List.mem_filter.1 hx).2; simp at this; omega)).symm
 ·congr 1
  rw [List.filter_congr (q := fun x => decide (c.id < x)) (fun x hx => by simp [hid x hx])]
  exact List.map_congr_left fun x hx => (e1 x (by have := (List.mem_filter.1 hx).2; simp at this; omega)).symm
theorem rwv_only {α : Type} {cells : α → List Value} {s : Nat} {S : Nat → Prop} {z z' : World} {ao : Option Addr} {X : List α} (h : RwV cells s z ao X) (ho : Only S z z') (hS : ∀ a, ao = some a → ¬ S a.block) : RwV cells s z' ao X := fun k hk => by
 obtain ⟨b, o, rfl, h1, h2⟩ := h k hk
 exact ⟨b, o, rfl, Nat.lt_of_lt_of_le h1 ho.size, fun j v hv => by rw [World.cell?_of_block (ho.block b h1 (hS _ rfl))]; exact h2 j v hv⟩
theorem radd_wr {f : Int → Option Cls} {L : List Int} (I : TI f L) {c : Cls} (hi : CIn c) (n : Nat) (hn : L.length = n) (ao : Option Addr) (cap : Nat) (w : World) (hR : RwV crow 14 w ao (rowsX f L)) (E : Int) (hE : E ≠ 0) (hw : wrC c = E) :
  Calls Try.prog 56 #[.slice ao n cap, .agg #[.int .i64 c.id, .int .i64 c.par, .bool c.leaf, .int .u64 c.ra, .int .u64 c.rb, .int .u64 c.rc, .int .u64 c.la, .int .u64 c.lb, .int .u64 c.lc, .int .u64 c.ua, .int .u64 c.ub, .int .u64 c.uc, .int .i64 c.pk, .int .i64 c.bt]] w (DidP w E f L) := by
 have hl : (rowsX f L).length = n := by rw [rowsX_len]; exact hn
 have hn64 : n ≤ 64 := by rw [← hn]; exact I.len
 have HLN := Lib.hid hn
 have KW := Lib.hid (fun z => by have := rwrong_c hi z; rw [hw] at this; exact this)
 have he1 : (E == 0) = false := by simpa using hE
 have he2 : (E != 0) = true := by simpa using hE
 have hA1 : Below w.heap.size w (w.alloc (.cells #[.int .i64 c.id, .int .i64 c.par, .bool c.leaf, .int .u64 c.ra, .int .u64 c.rb, .int .u64 c.rc, .int .u64 c.la, .int .u64 c.lb, .int .u64 c.lc, .int .u64 c.ua, .int .u64 c.ub, .int .u64 c.uc, .int .i64 c.pk, .int .i64 c.bt] 54)) := bub
 have hV1 : VR (w.alloc (.cells #[.int .i64 c.id, .int .i64 c.par, .bool c.leaf, .int .u64 c.ra, .int .u64 c.rb, .int .u64 c.rc, .int .u64 c.la, .int .u64 c.lb, .int .u64 c.lc, .int .u64 c.ua, .int .u64 c.ub, .int .u64 c.uc, .int .i64 c.pk, .int .i64 c.bt] 54)) w.heap.size 54 #[.int .i64 c.id, .int .i64 c.par, .bool c.leaf, .int .u64 c.ra, .int .u64 c.rb, .int .u64 c.rc, .int .u64 c.la, .int .u64 c.lb, .int .u64 c.lc, .int .u64 c.ua, .int .u64 c.ub, .int .u64 c.uc, .int .i64 c.pk, .int .i64 c.bt] := VR.new _ _ _
 have hQ0 : VR ((w.alloc (.cells #[.int .i64 c.id, .int .i64 c.par, .bool c.leaf, .int .u64 c.ra, .int .u64 c.rb, .int .u64 c.rc, .int .u64 c.la, .int .u64 c.lb, .int .u64 c.lc, .int .u64 c.ua, .int .u64 c.ub, .int .u64 c.uc, .int .i64 c.pk, .int .i64 c.bt] 54)).alloc (.cells #[.slice none 0 0, .int .i64 0] 59)) (w.heap.size + 1) 59 #[.slice none 0 0, .int .i64 0] := by have := VR.new (w.alloc (.cells #[.int .i64 c.id, .int .i64 c.par, .bool c.leaf, .int .u64 c.ra, .int .u64 c.rb, .int .u64 c.rc, .int .u64 c.la, .int .u64 c.lb, .int .u64 c.lc, .int .u64 c.ua, .int .u64 c.ub, .int .u64 c.uc, .int .i64 c.pk, .int .i64 c.bt] 54)) #[.slice none 0 0, .int .i64 0] 59; simpa using this
 have hB0 : Below w.heap.size w ((w.alloc (.cells #[.int .i64 c.id, .int .i64 c.par, .bool c.leaf, .int .u64 c.ra, .int .u64 c.rb, .int .u64 c.rc, .int .u64 c.la, .int .u64 c.lb, .int .u64 c.lc, .int .u64 c.ua, .int .u64 c.ub, .int .u64 c.uc, .int .i64 c.pk, .int .i64 c.bt] 54)).alloc (.cells #[.slice none 0 0, .int .i64 0] 59)) := bub
 have HV0 := Lib.hid (hV1.alloc (.cells #[.slice none 0 0, .int .i64 0] 59))
 have HQ0 := Lib.hid hQ0
 have HB0 := Lib.hid hB0
 have INF := Lib.hid cl_info
 have DINF := Lib.hid dd_info
 have DONE := Lib.hid dd_one
 have HRS := Lib.hid (fun (z : World) (h : Below w.heap.size w z) => hR.below h)
 clear hA1 hV1 hQ0 hB0
 clear I hi hn hl hR hw hE
 go_enter Try.func56, Try.ntmps56
 go_wp2_with (first
  | go_guarded
  | (refine wpList_var_set rfl 59 _ _ rfl (w.heap.size + 1) #[.slice none 0 0, .int .i64 0] #[.slice ao n cap, .int .i64 E] HQ1.out rfl rfl DINF.out rfl (DONE.out _ _ _ _) ?_; intro w20 hs20 ho20 hv20; have HVF := Lib.hid hv20; have HBF : Hid (Below w.heap.size w w20) := Lib.hid (HB1.out.trans ⟨ho20.1, ho20.2, ho20.3, ho20.4, fun k hk => ho20.5 k (Nat.lt_of_lt_of_le hk HB1.out.size) (by omega)⟩); have HOF := Lib.hid ho20; clear ho20 hv20)
  | (go_at_call 76; (have mk := HB0); (with_reducible refine (KW.out _).mono ?_); rintro _ w1 ⟨rfl, hbel⟩; have HV1 := Lib.hid (HV0.out.bel hbel); have HQ1 := Lib.hid (HQ0.out.bel hbel); have HB1 : Hid (Below w.heap.size w w1) := Lib.hid (HB0.out.trans (hbel.mono HB0.out.size)); have f1a := HV1.out.cell 0 rfl; have f1b := HV1.out.cell 1 rfl; have f1x := HV1.out.cell 6 rfl; have f1y := HV1.out.cell 7 rfl; have f1z := HV1.out.cell 8 rfl; have f1l := HV1.out.lt; clear hbel)
  | (refine wpList_var_get rfl 54 _ rfl w.heap.size #[.int .i64 c.id, .int .i64 c.par, .bool c.leaf, .int .u64 c.ra, .int .u64 c.rb, .int .u64 c.rc, .int .u64 c.la, .int .u64 c.lb, .int .u64 c.lc, .int .u64 c.ua, .int .u64 c.ub, .int .u64 c.uc, .int .i64 c.pk, .int .i64 c.bt] _ HV0.out rfl Try.underlying54 rfl INF.out ?_))
 refine bodyPost_ret (v := .agg #[.slice ao n cap, .int .i64 E]) (results_var Try.results56 _ (w.heap.size + 1) rfl _ _ HVF.out Try.underlying59 rfl DINF.out) rfl ?_
 exact ⟨ao, n, cap, rfl, HLN.out, HRS.out _ HBF.out, HBF.out⟩
theorem radd_same {f : Int → Option Cls} {L : List Int} (I : TI f L) {c : Cls} (hi : CIn c) (n : Nat) (hn : L.length = n) (ao : Option Addr) (cap : Nat) (w : World) (hR : RwV crow 14 w ao (rowsX f L)) (hw : wrC c = 0) {c0 : Cls} (hs : f c.id = some c0) :
  Calls Try.prog 56 #[.slice ao n cap, .agg #[.int .i64 c.id, .int .i64 c.par, .bool c.leaf, .int .u64 c.ra, .int .u64 c.rb, .int .u64 c.rc, .int .u64 c.la, .int .u64 c.lb, .int .u64 c.lc, .int .u64 c.ua, .int .u64 c.ub, .int .u64 c.uc, .int .i64 c.pk, .int .i64 c.bt]] w (DidP w 8 f L) := by
 have hl : (rowsX f L).length = n := by rw [rowsX_len]; exact hn
 have hn64 : n ≤ 64 := by rw [← hn]; exact I.len
 have HLN := Lib.hid hn
 have KW := Lib.hid (fun z => by have := rwrong_c hi z; rw [hw] at this; exact this)
 obtain ⟨j1, hj1, hf1, -⟩ := fidx_some I hs
 have KF1 : Hid (∀ z, RwV crow 14 z ao (rowsX f L) → Calls Try.prog 36 #[.slice ao n cap, .int .i64 c.id] z fun ee w' => ee = .returned (.int .i64 (j1 : Int)) ∧ Below z.heap.size z w') := Lib.hid (fun z hz => by have := rfind_c (rowsX f L) n hl (by omega) c.id ao cap z hz; rw [hf1] at this; exact this)
 have hA1 : Below w.heap.size w (w.alloc (.cells #[.int .i64 c.id, .int .i64 c.par, .bool c.leaf, .int .u64 c.ra, .int .u64 c.rb, .int .u64 c.rc, .int .u64 c.la, .int .u64 c.lb, .int .u64 c.lc, .int .u64 c.ua, .int .u64 c.ub, .int .u64 c.uc, .int .i64 c.pk, .int .i64 c.bt] 54)) := bub
 have hV1 : VR (w.alloc (.cells #[.int .i64 c.id, .int .i64 c.par, .bool c.leaf, .int .u64 c.ra, .int .u64 c.rb, .int .u64 c.rc, .int .u64 c.la, .int .u64 c.lb, .int .u64 c.lc, .int .u64 c.ua, .int .u64 c.ub, .int .u64 c.uc, .int .i64 c.pk, .int .i64 c.bt] 54)) w.heap.size 54 #[.int .i64 c.id, .int .i64 c.par, .bool c.leaf, .int .u64 c.ra, .int .u64 c.rb, .int .u64 c.rc, .int .u64 c.la, .int .u64 c.lb, .int .u64 c.lc, .int .u64 c.ua, .int .u64 c.ub, .int .u64 c.uc, .int .i64 c.pk, .int .i64 c.bt] := VR.new _ _ _
 have hQ0 : VR ((w.alloc (.cells #[.int .i64 c.id, .int .i64 c.par, .bool c.leaf, .int .u64 c.ra, .int .u64 c.rb, .int .u64 c.rc, .int .u64 c.la, .int .u64 c.lb, .int .u64 c.lc, .int .u64 c.ua, .int .u64 c.ub, .int .u64 c.uc, .int .i64 c.pk, .int .i64 c.bt] 54)).alloc (.cells #[.slice none 0 0, .int .i64 0] 59)) (w.heap.size + 1) 59 #[.slice none 0 0, .int .i64 0] := by have := VR.new (w.alloc (.cells #[.int .i64 c.id, .int .i64 c.par, .bool c.leaf, .int .u64 c.ra, .int .u64 c.rb, .int .u64 c.rc, .int .u64 c.la, .int .u64 c.lb, .int .u64 c.lc, .int .u64 c.ua, .int .u64 c.ub, .int .u64 c.uc, .int .i64 c.pk, .int .i64 c.bt] 54)) #[.slice none 0 0, .int .i64 0] 59; simpa using this
 have hB0 : Below w.heap.size w ((w.alloc (.cells #[.int .i64 c.id, .int .i64 c.par, .bool c.leaf, .int .u64 c.ra, .int .u64 c.rb, .int .u64 c.rc, .int .u64 c.la, .int .u64 c.lb, .int .u64 c.lc, .int .u64 c.ua, .int .u64 c.ub, .int .u64 c.uc, .int .i64 c.pk, .int .i64 c.bt] 54)).alloc (.cells #[.slice none 0 0, .int .i64 0] 59)) := bub
 have HV0 := Lib.hid (hV1.alloc (.cells #[.slice none 0 0, .int .i64 0] 59))
 have HQ0 := Lib.hid hQ0
 have HB0 := Lib.hid hB0
 have INF := Lib.hid cl_info
 have DINF := Lib.hid dd_info
 have DONE := Lib.hid dd_one
 have HRS := Lib.hid (fun (z : World) (h : Below w.heap.size w z) => hR.below h)
 clear hA1 hV1 hQ0 hB0
 clear I hi hn hl hR hw hs hf1 hj1
 go_enter Try.func56, Try.ntmps56
 go_wp2_with (first
  | go_guarded
  | (refine wpList_var_set rfl 59 _ _ rfl (w.heap.size + 1) #[.slice none 0 0, .int .i64 0] #[.slice ao n cap, .int .i64 8] HQ2.out rfl rfl DINF.out rfl (DONE.out _ _ _ _) ?_; intro w20 hs20 ho20 hv20; have HVF := Lib.hid hv20; have HBF : Hid (Below w.heap.size w w20) := Lib.hid (HB2.out.trans ⟨ho20.1, ho20.2, ho20.3, ho20.4, fun k hk => ho20.5 k (Nat.lt_of_lt_of_le hk HB2.out.size) (by omega)⟩); have HOF := Lib.hid ho20; clear ho20 hv20)
  | (go_at_call 36; (have mk := HB1); (with_reducible refine (KF1.out _ (HRS.out _ HB1.out)).mono ?_); rintro _ w2 ⟨rfl, hbel⟩; have HV2 := Lib.hid (HV1.out.bel hbel); have HQ2 := Lib.hid (HQ1.out.bel hbel); have HB2 : Hid (Below w.heap.size w w2) := Lib.hid (HB1.out.trans (hbel.mono HB1.out.size)); have f2a := HV2.out.cell 0 rfl; have f2b := HV2.out.cell 1 rfl; have f2x := HV2.out.cell 6 rfl; have f2y := HV2.out.cell 7 rfl; have f2z := HV2.out.cell 8 rfl; have f2l := HV2.out.lt; clear hbel)
  | (go_at_call 76; (have mk := HB0); (with_reducible refine (KW.out _).mono ?_); rintro _ w1 ⟨rfl, hbel⟩; have HV1 := Lib.hid (HV0.out.bel hbel); have HQ1 := Lib.hid (HQ0.out.bel hbel); have HB1 : Hid (Below w.heap.size w w1) := Lib.hid (HB0.out.trans (hbel.mono HB0.out.size)); have f1a := HV1.out.cell 0 rfl; have f1b := HV1.out.cell 1 rfl; have f1x := HV1.out.cell 6 rfl; have f1y := HV1.out.cell 7 rfl; have f1z := HV1.out.cell 8 rfl; have f1l := HV1.out.lt; clear hbel)
  | (refine wpList_var_get rfl 54 _ rfl w.heap.size #[.int .i64 c.id, .int .i64 c.par, .bool c.leaf, .int .u64 c.ra, .int .u64 c.rb, .int .u64 c.rc, .int .u64 c.la, .int .u64 c.lb, .int .u64 c.lc, .int .u64 c.ua, .int .u64 c.ub, .int .u64 c.uc, .int .i64 c.pk, .int .i64 c.bt] _ HV0.out rfl Try.underlying54 rfl INF.out ?_))
 refine bodyPost_ret (v := .agg #[.slice ao n cap, .int .i64 8]) (results_var Try.results56 _ (w.heap.size + 1) rfl _ _ HVF.out Try.underlying59 rfl DINF.out) rfl ?_
 exact ⟨ao, n, cap, rfl, HLN.out, HRS.out _ HBF.out, HBF.out⟩
theorem radd_full {f : Int → Option Cls} {L : List Int} (I : TI f L) {c : Cls} (hi : CIn c) (n : Nat) (hn : L.length = n) (ao : Option Addr) (cap : Nat) (w : World) (hR : RwV crow 14 w ao (rowsX f L)) (hw : wrC c = 0) (hs : f c.id = none) (hl64 : 64 ≤ L.length) :
  Calls Try.prog 56 #[.slice ao n cap, .agg #[.int .i64 c.id, .int .i64 c.par, .bool c.leaf, .int .u64 c.ra, .int .u64 c.rb, .int .u64 c.rc, .int .u64 c.la, .int .u64 c.lb, .int .u64 c.lc, .int .u64 c.ua, .int .u64 c.ub, .int .u64 c.uc, .int .i64 c.pk, .int .i64 c.bt]] w (DidP w 5 f L) := by
 have hl : (rowsX f L).length = n := by rw [rowsX_len]; exact hn
 have hn64 : n ≤ 64 := by rw [← hn]; exact I.len
 have HLN := Lib.hid hn
 have KW := Lib.hid (fun z => by have := rwrong_c hi z; rw [hw] at this; exact this)
 have KF1 : Hid (∀ z, RwV crow 14 z ao (rowsX f L) → Calls Try.prog 36 #[.slice ao n cap, .int .i64 c.id] z fun ee w' => ee = .returned (.int .i64 (-1)) ∧ Below z.heap.size z w') := Lib.hid (fun z hz => by have := rfind_c (rowsX f L) n hl (by omega) c.id ao cap z hz; rw [fidx_none I hs] at this; exact this)
 have hn6 : n = 64 := by omega
 subst hn6
 have hA1 : Below w.heap.size w (w.alloc (.cells #[.int .i64 c.id, .int .i64 c.par, .bool c.leaf, .int .u64 c.ra, .int .u64 c.rb, .int .u64 c.rc, .int .u64 c.la, .int .u64 c.lb, .int .u64 c.lc, .int .u64 c.ua, .int .u64 c.ub, .int .u64 c.uc, .int .i64 c.pk, .int .i64 c.bt] 54)) := bub
 have hV1 : VR (w.alloc (.cells #[.int .i64 c.id, .int .i64 c.par, .bool c.leaf, .int .u64 c.ra, .int .u64 c.rb, .int .u64 c.rc, .int .u64 c.la, .int .u64 c.lb, .int .u64 c.lc, .int .u64 c.ua, .int .u64 c.ub, .int .u64 c.uc, .int .i64 c.pk, .int .i64 c.bt] 54)) w.heap.size 54 #[.int .i64 c.id, .int .i64 c.par, .bool c.leaf, .int .u64 c.ra, .int .u64 c.rb, .int .u64 c.rc, .int .u64 c.la, .int .u64 c.lb, .int .u64 c.lc, .int .u64 c.ua, .int .u64 c.ub, .int .u64 c.uc, .int .i64 c.pk, .int .i64 c.bt] := VR.new _ _ _
 have hQ0 : VR ((w.alloc (.cells #[.int .i64 c.id, .int .i64 c.par, .bool c.leaf, .int .u64 c.ra, .int .u64 c.rb, .int .u64 c.rc, .int .u64 c.la, .int .u64 c.lb, .int .u64 c.lc, .int .u64 c.ua, .int .u64 c.ub, .int .u64 c.uc, .int .i64 c.pk, .int .i64 c.bt] 54)).alloc (.cells #[.slice none 0 0, .int .i64 0] 59)) (w.heap.size + 1) 59 #[.slice none 0 0, .int .i64 0] := by have := VR.new (w.alloc (.cells #[.int .i64 c.id, .int .i64 c.par, .bool c.leaf, .int .u64 c.ra, .int .u64 c.rb, .int .u64 c.rc, .int .u64 c.la, .int .u64 c.lb, .int .u64 c.lc, .int .u64 c.ua, .int .u64 c.ub, .int .u64 c.uc, .int .i64 c.pk, .int .i64 c.bt] 54)) #[.slice none 0 0, .int .i64 0] 59; simpa using this
 have hB0 : Below w.heap.size w ((w.alloc (.cells #[.int .i64 c.id, .int .i64 c.par, .bool c.leaf, .int .u64 c.ra, .int .u64 c.rb, .int .u64 c.rc, .int .u64 c.la, .int .u64 c.lb, .int .u64 c.lc, .int .u64 c.ua, .int .u64 c.ub, .int .u64 c.uc, .int .i64 c.pk, .int .i64 c.bt] 54)).alloc (.cells #[.slice none 0 0, .int .i64 0] 59)) := bub
 have HV0 := Lib.hid (hV1.alloc (.cells #[.slice none 0 0, .int .i64 0] 59))
 have HQ0 := Lib.hid hQ0
 have HB0 := Lib.hid hB0
 have INF := Lib.hid cl_info
 have DINF := Lib.hid dd_info
 have DONE := Lib.hid dd_one
 have HRS := Lib.hid (fun (z : World) (h : Below w.heap.size w z) => hR.below h)
 clear hA1 hV1 hQ0 hB0
 clear I hi hn hl hR hw hs hl64
 go_enter Try.func56, Try.ntmps56
 go_wp2_with (first
  | go_guarded
  | (refine wpList_var_set rfl 59 _ _ rfl (w.heap.size + 1) #[.slice none 0 0, .int .i64 0] #[.slice ao 64 cap, .int .i64 5] HQ2.out rfl rfl DINF.out rfl (DONE.out _ _ _ _) ?_; intro w20 hs20 ho20 hv20; have HVF := Lib.hid hv20; have HBF : Hid (Below w.heap.size w w20) := Lib.hid (HB2.out.trans ⟨ho20.1, ho20.2, ho20.3, ho20.4, fun k hk => ho20.5 k (Nat.lt_of_lt_of_le hk HB2.out.size) (by omega)⟩); have HOF := Lib.hid ho20; clear ho20 hv20)
  | (go_at_call 36; (have mk := HB1); (with_reducible refine (KF1.out _ (HRS.out _ HB1.out)).mono ?_); rintro _ w2 ⟨rfl, hbel⟩; have HV2 := Lib.hid (HV1.out.bel hbel); have HQ2 := Lib.hid (HQ1.out.bel hbel); have HB2 : Hid (Below w.heap.size w w2) := Lib.hid (HB1.out.trans (hbel.mono HB1.out.size)); have f2a := HV2.out.cell 0 rfl; have f2b := HV2.out.cell 1 rfl; have f2x := HV2.out.cell 6 rfl; have f2y := HV2.out.cell 7 rfl; have f2z := HV2.out.cell 8 rfl; have f2l := HV2.out.lt; clear hbel)
  | (go_at_call 76; (have mk := HB0); (with_reducible refine (KW.out _).mono ?_); rintro _ w1 ⟨rfl, hbel⟩; have HV1 := Lib.hid (HV0.out.bel hbel); have HQ1 := Lib.hid (HQ0.out.bel hbel); have HB1 : Hid (Below w.heap.size w w1) := Lib.hid (HB0.out.trans (hbel.mono HB0.out.size)); have f1a := HV1.out.cell 0 rfl; have f1b := HV1.out.cell 1 rfl; have f1x := HV1.out.cell 6 rfl; have f1y := HV1.out.cell 7 rfl; have f1z := HV1.out.cell 8 rfl; have f1l := HV1.out.lt; clear hbel)
  | (refine wpList_var_get rfl 54 _ rfl w.heap.size #[.int .i64 c.id, .int .i64 c.par, .bool c.leaf, .int .u64 c.ra, .int .u64 c.rb, .int .u64 c.rc, .int .u64 c.la, .int .u64 c.lb, .int .u64 c.lc, .int .u64 c.ua, .int .u64 c.ub, .int .u64 c.uc, .int .i64 c.pk, .int .i64 c.bt] _ HV0.out rfl Try.underlying54 rfl INF.out ?_))
 refine bodyPost_ret (v := .agg #[.slice ao 64 cap, .int .i64 5]) (results_var Try.results56 _ (w.heap.size + 1) rfl _ _ HVF.out Try.underlying59 rfl DINF.out) rfl ?_
 exact ⟨ao, 64, cap, rfl, HLN.out, HRS.out _ HBF.out, HBF.out⟩
theorem radd_clsA {f : Int → Option Cls} {L : List Int} (I : TI f L) {c : Cls} (hi : CIn c) (n : Nat) (hn : L.length = n) (ao : Option Addr) (cap : Nat) (w : World) (hR : RwV crow 14 w ao (rowsX f L)) (hw : wrC c = 0) (hs : f c.id = none) (hl64 : L.length < 64) (hp0 : c.par ≠ 0) (hp : f c.par = none) :
  Calls Try.prog 56 #[.slice ao n cap, .agg #[.int .i64 c.id, .int .i64 c.par, .bool c.leaf, .int .u64 c.ra, .int .u64 c.rb, .int .u64 c.rc, .int .u64 c.la, .int .u64 c.lb, .int .u64 c.lc, .int .u64 c.ua, .int .u64 c.ub, .int .u64 c.uc, .int .i64 c.pk, .int .i64 c.bt]] w (DidP w 23 f L) := by
 have hl : (rowsX f L).length = n := by rw [rowsX_len]; exact hn
 have hn64 : n ≤ 64 := by rw [← hn]; exact I.len
 have HLN := Lib.hid hn
 have KW := Lib.hid (fun z => by have := rwrong_c hi z; rw [hw] at this; exact this)
 have KF1 : Hid (∀ z, RwV crow 14 z ao (rowsX f L) → Calls Try.prog 36 #[.slice ao n cap, .int .i64 c.id] z fun ee w' => ee = .returned (.int .i64 (-1)) ∧ Below z.heap.size z w') := Lib.hid (fun z hz => by have := rfind_c (rowsX f L) n hl (by omega) c.id ao cap z hz; rw [fidx_none I hs] at this; exact this)
 have q1 : ((n : Int) == 64) = false := by simp; omega
 have q2 : (n == 64) = false := by simp; omega
 have p1 : (c.par == 0) = false := by simpa using hp0
 have p2 : (c.par != 0) = true := by simpa using hp0
 have KF2 : Hid (∀ z, RwV crow 14 z ao (rowsX f L) → Calls Try.prog 36 #[.slice ao n cap, .int .i64 c.par] z fun ee w' => ee = .returned (.int .i64 (-1)) ∧ Below z.heap.size z w') := Lib.hid (fun z hz => by have := rfind_c (rowsX f L) n hl (by omega) c.par ao cap z hz; rw [fidx_none I hp] at this; exact this)
 have hA1 : Below w.heap.size w (w.alloc (.cells #[.int .i64 c.id, .int .i64 c.par, .bool c.leaf, .int .u64 c.ra, .int .u64 c.rb, .int .u64 c.rc, .int .u64 c.la, .int .u64 c.lb, .int .u64 c.lc, .int .u64 c.ua, .int .u64 c.ub, .int .u64 c.uc, .int .i64 c.pk, .int .i64 c.bt] 54)) := bub
 have hV1 : VR (w.alloc (.cells #[.int .i64 c.id, .int .i64 c.par, .bool c.leaf, .int .u64 c.ra, .int .u64 c.rb, .int .u64 c.rc, .int .u64 c.la, .int .u64 c.lb, .int .u64 c.lc, .int .u64 c.ua, .int .u64 c.ub, .int .u64 c.uc, .int .i64 c.pk, .int .i64 c.bt] 54)) w.heap.size 54 #[.int .i64 c.id, .int .i64 c.par, .bool c.leaf, .int .u64 c.ra, .int .u64 c.rb, .int .u64 c.rc, .int .u64 c.la, .int .u64 c.lb, .int .u64 c.lc, .int .u64 c.ua, .int .u64 c.ub, .int .u64 c.uc, .int .i64 c.pk, .int .i64 c.bt] := VR.new _ _ _
 have hQ0 : VR ((w.alloc (.cells #[.int .i64 c.id, .int .i64 c.par, .bool c.leaf, .int .u64 c.ra, .int .u64 c.rb, .int .u64 c.rc, .int .u64 c.la, .int .u64 c.lb, .int .u64 c.lc, .int .u64 c.ua, .int .u64 c.ub, .int .u64 c.uc, .int .i64 c.pk, .int .i64 c.bt] 54)).alloc (.cells #[.slice none 0 0, .int .i64 0] 59)) (w.heap.size + 1) 59 #[.slice none 0 0, .int .i64 0] := by have := VR.new (w.alloc (.cells #[.int .i64 c.id, .int .i64 c.par, .bool c.leaf, .int .u64 c.ra, .int .u64 c.rb, .int .u64 c.rc, .int .u64 c.la, .int .u64 c.lb, .int .u64 c.lc, .int .u64 c.ua, .int .u64 c.ub, .int .u64 c.uc, .int .i64 c.pk, .int .i64 c.bt] 54)) #[.slice none 0 0, .int .i64 0] 59; simpa using this
 have hB0 : Below w.heap.size w ((w.alloc (.cells #[.int .i64 c.id, .int .i64 c.par, .bool c.leaf, .int .u64 c.ra, .int .u64 c.rb, .int .u64 c.rc, .int .u64 c.la, .int .u64 c.lb, .int .u64 c.lc, .int .u64 c.ua, .int .u64 c.ub, .int .u64 c.uc, .int .i64 c.pk, .int .i64 c.bt] 54)).alloc (.cells #[.slice none 0 0, .int .i64 0] 59)) := bub
 have HV0 := Lib.hid (hV1.alloc (.cells #[.slice none 0 0, .int .i64 0] 59))
 have HQ0 := Lib.hid hQ0
 have HB0 := Lib.hid hB0
 have INF := Lib.hid cl_info
 have DINF := Lib.hid dd_info
 have DONE := Lib.hid dd_one
 have HRS := Lib.hid (fun (z : World) (h : Below w.heap.size w z) => hR.below h)
 clear hA1 hV1 hQ0 hB0
 clear I hi hn hl hR hw hs hl64 hp0 hp
 go_enter Try.func56, Try.ntmps56
 go_wp2_with (first
  | go_guarded
  | (refine wpList_var_set rfl 59 _ _ rfl (w.heap.size + 1) #[.slice none 0 0, .int .i64 0] #[.slice ao n cap, .int .i64 23] HQ3.out rfl rfl DINF.out rfl (DONE.out _ _ _ _) ?_; intro w20 hs20 ho20 hv20; have HVF := Lib.hid hv20; have HBF : Hid (Below w.heap.size w w20) := Lib.hid (HB3.out.trans ⟨ho20.1, ho20.2, ho20.3, ho20.4, fun k hk => ho20.5 k (Nat.lt_of_lt_of_le hk HB3.out.size) (by omega)⟩); have HOF := Lib.hid ho20; clear ho20 hv20)
  | (go_at_call 36; (have mk := HB2); (with_reducible refine (KF2.out _ (HRS.out _ HB2.out)).mono ?_); rintro _ w3 ⟨rfl, hbel⟩; have HV3 := Lib.hid (HV2.out.bel hbel); have HQ3 := Lib.hid (HQ2.out.bel hbel); have HB3 : Hid (Below w.heap.size w w3) := Lib.hid (HB2.out.trans (hbel.mono HB2.out.size)); have f3a := HV3.out.cell 0 rfl; have f3b := HV3.out.cell 1 rfl; have f3x := HV3.out.cell 6 rfl; have f3y := HV3.out.cell 7 rfl; have f3z := HV3.out.cell 8 rfl; have f3l := HV3.out.lt; clear hbel)
  | (go_at_call 36; (have mk := HB1); (with_reducible refine (KF1.out _ (HRS.out _ HB1.out)).mono ?_); rintro _ w2 ⟨rfl, hbel⟩; have HV2 := Lib.hid (HV1.out.bel hbel); have HQ2 := Lib.hid (HQ1.out.bel hbel); have HB2 : Hid (Below w.heap.size w w2) := Lib.hid (HB1.out.trans (hbel.mono HB1.out.size)); have f2a := HV2.out.cell 0 rfl; have f2b := HV2.out.cell 1 rfl; have f2x := HV2.out.cell 6 rfl; have f2y := HV2.out.cell 7 rfl; have f2z := HV2.out.cell 8 rfl; have f2l := HV2.out.lt; clear hbel)
  | (go_at_call 76; (have mk := HB0); (with_reducible refine (KW.out _).mono ?_); rintro _ w1 ⟨rfl, hbel⟩; have HV1 := Lib.hid (HV0.out.bel hbel); have HQ1 := Lib.hid (HQ0.out.bel hbel); have HB1 : Hid (Below w.heap.size w w1) := Lib.hid (HB0.out.trans (hbel.mono HB0.out.size)); have f1a := HV1.out.cell 0 rfl; have f1b := HV1.out.cell 1 rfl; have f1x := HV1.out.cell 6 rfl; have f1y := HV1.out.cell 7 rfl; have f1z := HV1.out.cell 8 rfl; have f1l := HV1.out.lt; clear hbel)
  | (refine wpList_var_get rfl 54 _ rfl w.heap.size #[.int .i64 c.id, .int .i64 c.par, .bool c.leaf, .int .u64 c.ra, .int .u64 c.rb, .int .u64 c.rc, .int .u64 c.la, .int .u64 c.lb, .int .u64 c.lc, .int .u64 c.ua, .int .u64 c.ub, .int .u64 c.uc, .int .i64 c.pk, .int .i64 c.bt] _ HV0.out rfl Try.underlying54 rfl INF.out ?_))
 refine bodyPost_ret (v := .agg #[.slice ao n cap, .int .i64 23]) (results_var Try.results56 _ (w.heap.size + 1) rfl _ _ HVF.out Try.underlying59 rfl DINF.out) rfl ?_
 exact ⟨ao, n, cap, rfl, HLN.out, HRS.out _ HBF.out, HBF.out⟩
theorem radd_clsB {f : Int → Option Cls} {L : List Int} (I : TI f L) {c : Cls} (hi : CIn c) (n : Nat) (hn : L.length = n) (ao : Option Addr) (cap : Nat) (w : World) (hR : RwV crow 14 w ao (rowsX f L)) (hw : wrC c = 0) (hs : f c.id = none) (hl64 : L.length < 64) (hp0 : c.par ≠ 0) {p : Cls} (hp : f c.par = some p) (hplf : p.leaf = true) :
  Calls Try.prog 56 #[.slice ao n cap, .agg #[.int .i64 c.id, .int .i64 c.par, .bool c.leaf, .int .u64 c.ra, .int .u64 c.rb, .int .u64 c.rc, .int .u64 c.la, .int .u64 c.lb, .int .u64 c.lc, .int .u64 c.ua, .int .u64 c.ub, .int .u64 c.uc, .int .i64 c.pk, .int .i64 c.bt]] w (DidP w 23 f L) := by
 have hl : (rowsX f L).length = n := by rw [rowsX_len]; exact hn
 have hn64 : n ≤ 64 := by rw [← hn]; exact I.len
 have HLN := Lib.hid hn
 have p1 : (c.par == 0) = false := by simpa using hp0
 have p2 : (c.par != 0) = true := by simpa using hp0
 obtain ⟨j2, hj2, hf2, hc2⟩ := fidx_some I hp
 obtain ⟨b, o, rfl, hb, hra⟩ := hR j2 hj2
 rw [hc2] at hra
 have hlf2 := hra 2 _ rfl
 have HLF2 := Lib.hid hlf2
 have HBL := Lib.hid hb
 have hjn : j2 < n := by omega
 have p3 : decide ((j2 : Int) < 0) = false := decide_eq_false (by omega)
 have HPL : Hid (p.leaf = true) := Lib.hid hplf
 have KW := Lib.hid (fun z => by have := rwrong_c hi z; rw [hw] at this; exact this)
 have KF1 : Hid (∀ z, RwV crow 14 z (some ⟨b, o, none⟩) (rowsX f L) → Calls Try.prog 36 #[.slice (some ⟨b, o, none⟩) n cap, .int .i64 c.id] z fun ee w' => ee = .returned (.int .i64 (-1)) ∧ Below z.heap.size z w') := Lib.hid (fun z hz => by have := rfind_c (rowsX f L) n hl (by omega) c.id (some ⟨b, o, none⟩) cap z hz; rw [fidx_none I hs] at this; exact this)
 have q1 : ((n : Int) == 64) = false := by simp; omega
 have q2 : (n == 64) = false := by simp; omega
 have KF2 : Hid (∀ z, RwV crow 14 z (some ⟨b, o, none⟩) (rowsX f L) → Calls Try.prog 36 #[.slice (some ⟨b, o, none⟩) n cap, .int .i64 c.par] z fun ee w' => ee = .returned (.int .i64 (j2 : Int)) ∧ Below z.heap.size z w') := Lib.hid (fun z hz => by have := rfind_c (rowsX f L) n hl (by omega) c.par (some ⟨b, o, none⟩) cap z hz; rw [hf2] at this; exact this)
 have hA1 : Below w.heap.size w (w.alloc (.cells #[.int .i64 c.id, .int .i64 c.par, .bool c.leaf, .int .u64 c.ra, .int .u64 c.rb, .int .u64 c.rc, .int .u64 c.la, .int .u64 c.lb, .int .u64 c.lc, .int .u64 c.ua, .int .u64 c.ub, .int .u64 c.uc, .int .i64 c.pk, .int .i64 c.bt] 54)) := bub
 have hV1 : VR (w.alloc (.cells #[.int .i64 c.id, .int .i64 c.par, .bool c.leaf, .int .u64 c.ra, .int .u64 c.rb, .int .u64 c.rc, .int .u64 c.la, .int .u64 c.lb, .int .u64 c.lc, .int .u64 c.ua, .int .u64 c.ub, .int .u64 c.uc, .int .i64 c.pk, .int .i64 c.bt] 54)) w.heap.size 54 #[.int .i64 c.id, .int .i64 c.par, .bool c.leaf, .int .u64 c.ra, .int .u64 c.rb, .int .u64 c.rc, .int .u64 c.la, .int .u64 c.lb, .int .u64 c.lc, .int .u64 c.ua, .int .u64 c.ub, .int .u64 c.uc, .int .i64 c.pk, .int .i64 c.bt] := VR.new _ _ _
 have hQ0 : VR ((w.alloc (.cells #[.int .i64 c.id, .int .i64 c.par, .bool c.leaf, .int .u64 c.ra, .int .u64 c.rb, .int .u64 c.rc, .int .u64 c.la, .int .u64 c.lb, .int .u64 c.lc, .int .u64 c.ua, .int .u64 c.ub, .int .u64 c.uc, .int .i64 c.pk, .int .i64 c.bt] 54)).alloc (.cells #[.slice none 0 0, .int .i64 0] 59)) (w.heap.size + 1) 59 #[.slice none 0 0, .int .i64 0] := by have := VR.new (w.alloc (.cells #[.int .i64 c.id, .int .i64 c.par, .bool c.leaf, .int .u64 c.ra, .int .u64 c.rb, .int .u64 c.rc, .int .u64 c.la, .int .u64 c.lb, .int .u64 c.lc, .int .u64 c.ua, .int .u64 c.ub, .int .u64 c.uc, .int .i64 c.pk, .int .i64 c.bt] 54)) #[.slice none 0 0, .int .i64 0] 59; simpa using this
 have hB0 : Below w.heap.size w ((w.alloc (.cells #[.int .i64 c.id, .int .i64 c.par, .bool c.leaf, .int .u64 c.ra, .int .u64 c.rb, .int .u64 c.rc, .int .u64 c.la, .int .u64 c.lb, .int .u64 c.lc, .int .u64 c.ua, .int .u64 c.ub, .int .u64 c.uc, .int .i64 c.pk, .int .i64 c.bt] 54)).alloc (.cells #[.slice none 0 0, .int .i64 0] 59)) := bub
 have HV0 := Lib.hid (hV1.alloc (.cells #[.slice none 0 0, .int .i64 0] 59))
 have HQ0 := Lib.hid hQ0
 have HB0 := Lib.hid hB0
 have INF := Lib.hid cl_info
 have DINF := Lib.hid dd_info
 have DONE := Lib.hid dd_one
 have HRS := Lib.hid (fun (z : World) (h : Below w.heap.size w z) => hR.below h)
 clear hA1 hV1 hQ0 hB0
 clear I hi hn hl hR hw hs hl64 hp0 hp hf2 hc2 hra hlf2 hplf hb hj2
 go_enter Try.func56, Try.ntmps56
 go_wp2_with (first
  | go_guarded
  | (refine wpList_var_set rfl 59 _ _ rfl (w.heap.size + 1) #[.slice none 0 0, .int .i64 0] #[.slice (some ⟨b, o, none⟩) n cap, .int .i64 23] HQ3.out rfl rfl DINF.out rfl (DONE.out _ _ _ _) ?_; intro w20 hs20 ho20 hv20; have HVF := Lib.hid hv20; have HBF : Hid (Below w.heap.size w w20) := Lib.hid (HB3.out.trans ⟨ho20.1, ho20.2, ho20.3, ho20.4, fun k hk => ho20.5 k (Nat.lt_of_lt_of_le hk HB3.out.size) (by omega)⟩); have HOF := Lib.hid ho20; clear ho20 hv20)
  | (go_at_call 36; (have mk := HB2); (with_reducible refine (KF2.out _ (HRS.out _ HB2.out)).mono ?_); rintro _ w3 ⟨rfl, hbel⟩; have HV3 := Lib.hid (HV2.out.bel hbel); have HQ3 := Lib.hid (HQ2.out.bel hbel); have HB3 : Hid (Below w.heap.size w w3) := Lib.hid (HB2.out.trans (hbel.mono HB2.out.size)); have f3a := HV3.out.cell 0 rfl; have f3b := HV3.out.cell 1 rfl; have f3x := HV3.out.cell 6 rfl; have f3y := HV3.out.cell 7 rfl; have f3z := HV3.out.cell 8 rfl; have f3l := HV3.out.lt; have lf3 := (HB3.out.cell (p := ⟨b, o + j2 * 14 + 2, none⟩) HBL.out).trans HLF2.out; have bl3 := Nat.lt_of_lt_of_le HBL.out HB3.out.size; rw [HPL.out] at lf3; clear hbel)
  | (go_at_call 36; (have mk := HB1); (with_reducible refine (KF1.out _ (HRS.out _ HB1.out)).mono ?_); rintro _ w2 ⟨rfl, hbel⟩; have HV2 := Lib.hid (HV1.out.bel hbel); have HQ2 := Lib.hid (HQ1.out.bel hbel); have HB2 : Hid (Below w.heap.size w w2) := Lib.hid (HB1.out.trans (hbel.mono HB1.out.size)); have f2a := HV2.out.cell 0 rfl; have f2b := HV2.out.cell 1 rfl; have f2x := HV2.out.cell 6 rfl; have f2y := HV2.out.cell 7 rfl; have f2z := HV2.out.cell 8 rfl; have f2l := HV2.out.lt; clear hbel)
  | (go_at_call 76; (have mk := HB0); (with_reducible refine (KW.out _).mono ?_); rintro _ w1 ⟨rfl, hbel⟩; have HV1 := Lib.hid (HV0.out.bel hbel); have HQ1 := Lib.hid (HQ0.out.bel hbel); have HB1 : Hid (Below w.heap.size w w1) := Lib.hid (HB0.out.trans (hbel.mono HB0.out.size)); have f1a := HV1.out.cell 0 rfl; have f1b := HV1.out.cell 1 rfl; have f1x := HV1.out.cell 6 rfl; have f1y := HV1.out.cell 7 rfl; have f1z := HV1.out.cell 8 rfl; have f1l := HV1.out.lt; clear hbel)
  | (refine wpList_var_get rfl 54 _ rfl w.heap.size #[.int .i64 c.id, .int .i64 c.par, .bool c.leaf, .int .u64 c.ra, .int .u64 c.rb, .int .u64 c.rc, .int .u64 c.la, .int .u64 c.lb, .int .u64 c.lc, .int .u64 c.ua, .int .u64 c.ub, .int .u64 c.uc, .int .i64 c.pk, .int .i64 c.bt] _ HV0.out rfl Try.underlying54 rfl INF.out ?_))
 refine bodyPost_ret (v := .agg #[.slice (some ⟨b, o, none⟩) n cap, .int .i64 23]) (results_var Try.results56 _ (w.heap.size + 1) rfl _ _ HVF.out Try.underlying59 rfl DINF.out) rfl ?_
 exact ⟨some ⟨b, o, none⟩, n, cap, rfl, HLN.out, HRS.out _ HBF.out, HBF.out⟩
theorem radd_lsh {f : Int → Option Cls} {L : List Int} (I : TI f L) {c : Cls} (hi : CIn c) (n : Nat) (hn : L.length = n) (ao : Option Addr) (cap : Nat) (w : World) (hR : RwV crow 14 w ao (rowsX f L)) (hw : wrC c = 0) (hs : f c.id = none) (hl64 : L.length < 64) (hp0 : c.par ≠ 0) {p : Cls} (hp : f c.par = some p) (hplf : p.leaf = false) (hsh : sh1 c = true) (hsa : shA f c.par = false) :
  Calls Try.prog 56 #[.slice ao n cap, .agg #[.int .i64 c.id, .int .i64 c.par, .bool c.leaf, .int .u64 c.ra, .int .u64 c.rb, .int .u64 c.rc, .int .u64 c.la, .int .u64 c.lb, .int .u64 c.lc, .int .u64 c.ua, .int .u64 c.ub, .int .u64 c.uc, .int .i64 c.pk, .int .i64 c.bt]] w (DidP w 29 f L) := by
 have hl : (rowsX f L).length = n := by rw [rowsX_len]; exact hn
 have hn64 : n ≤ 64 := by rw [← hn]; exact I.len
 have HLN := Lib.hid hn
 have p1 : (c.par == 0) = false := by simpa using hp0
 have p2 : (c.par != 0) = true := by simpa using hp0
 obtain ⟨j2, hj2, hf2, hc2⟩ := fidx_some I hp
 obtain ⟨b, o, rfl, hb, hra⟩ := hR j2 hj2
 rw [hc2] at hra
 have hlf2 := hra 2 _ rfl
 have HLF2 := Lib.hid hlf2
 have HBL := Lib.hid hb
 have hjn : j2 < n := by omega
 have p3 : decide ((j2 : Int) < 0) = false := decide_eq_false (by omega)
 have HPL : Hid (p.leaf = false) := Lib.hid hplf
 have KW := Lib.hid (fun z => by have := rwrong_c hi z; rw [hw] at this; exact this)
 have KF1 : Hid (∀ z, RwV crow 14 z (some ⟨b, o, none⟩) (rowsX f L) → Calls Try.prog 36 #[.slice (some ⟨b, o, none⟩) n cap, .int .i64 c.id] z fun ee w' => ee = .returned (.int .i64 (-1)) ∧ Below z.heap.size z w') := Lib.hid (fun z hz => by have := rfind_c (rowsX f L) n hl (by omega) c.id (some ⟨b, o, none⟩) cap z hz; rw [fidx_none I hs] at this; exact this)
 have q1 : ((n : Int) == 64) = false := by simp; omega
 have q2 : (n == 64) = false := by simp; omega
 have KF2 : Hid (∀ z, RwV crow 14 z (some ⟨b, o, none⟩) (rowsX f L) → Calls Try.prog 36 #[.slice (some ⟨b, o, none⟩) n cap, .int .i64 c.par] z fun ee w' => ee = .returned (.int .i64 (j2 : Int)) ∧ Below z.heap.size z w') := Lib.hid (fun z hz => by have := rfind_c (rowsX f L) n hl (by omega) c.par (some ⟨b, o, none⟩) cap z hz; rw [hf2] at this; exact this)
 have KO := Lib.hid (fun z => rof_c hi.la hi.lb hi.lc (r := true) (by unfold sh1 at hsh; exact hsh) z)
 have KS : Hid (∀ z, RwV crow 14 z (some ⟨b, o, none⟩) (rowsX f L) → Calls Try.prog 77 #[.slice (some ⟨b, o, none⟩) n cap, .int .i64 c.par] z fun ee w' => ee = .returned (.bool false) ∧ Below z.heap.size z w') := Lib.hid (fun z hz => by have := rshares_c I n hn c.par (some ⟨b, o, none⟩) cap z hz; rw [hsa] at this; exact this)
 have hA1 : Below w.heap.size w (w.alloc (.cells #[.int .i64 c.id, .int .i64 c.par, .bool c.leaf, .int .u64 c.ra, .int .u64 c.rb, .int .u64 c.rc, .int .u64 c.la, .int .u64 c.lb, .int .u64 c.lc, .int .u64 c.ua, .int .u64 c.ub, .int .u64 c.uc, .int .i64 c.pk, .int .i64 c.bt] 54)) := bub
 have hV1 : VR (w.alloc (.cells #[.int .i64 c.id, .int .i64 c.par, .bool c.leaf, .int .u64 c.ra, .int .u64 c.rb, .int .u64 c.rc, .int .u64 c.la, .int .u64 c.lb, .int .u64 c.lc, .int .u64 c.ua, .int .u64 c.ub, .int .u64 c.uc, .int .i64 c.pk, .int .i64 c.bt] 54)) w.heap.size 54 #[.int .i64 c.id, .int .i64 c.par, .bool c.leaf, .int .u64 c.ra, .int .u64 c.rb, .int .u64 c.rc, .int .u64 c.la, .int .u64 c.lb, .int .u64 c.lc, .int .u64 c.ua, .int .u64 c.ub, .int .u64 c.uc, .int .i64 c.pk, .int .i64 c.bt] := VR.new _ _ _
 have hQ0 : VR ((w.alloc (.cells #[.int .i64 c.id, .int .i64 c.par, .bool c.leaf, .int .u64 c.ra, .int .u64 c.rb, .int .u64 c.rc, .int .u64 c.la, .int .u64 c.lb, .int .u64 c.lc, .int .u64 c.ua, .int .u64 c.ub, .int .u64 c.uc, .int .i64 c.pk, .int .i64 c.bt] 54)).alloc (.cells #[.slice none 0 0, .int .i64 0] 59)) (w.heap.size + 1) 59 #[.slice none 0 0, .int .i64 0] := by have := VR.new (w.alloc (.cells #[.int .i64 c.id, .int .i64 c.par, .bool c.leaf, .int .u64 c.ra, .int .u64 c.rb, .int .u64 c.rc, .int .u64 c.la, .int .u64 c.lb, .int .u64 c.lc, .int .u64 c.ua, .int .u64 c.ub, .int .u64 c.uc, .int .i64 c.pk, .int .i64 c.bt] 54)) #[.slice none 0 0, .int .i64 0] 59; simpa using this
 have hB0 : Below w.heap.size w ((w.alloc (.cells #[.int .i64 c.id, .int .i64 c.par, .bool c.leaf, .int .u64 c.ra, .int .u64 c.rb, .int .u64 c.rc, .int .u64 c.la, .int .u64 c.lb, .int .u64 c.lc, .int .u64 c.ua, .int .u64 c.ub, .int .u64 c.uc, .int .i64 c.pk, .int .i64 c.bt] 54)).alloc (.cells #[.slice none 0 0, .int .i64 0] 59)) := bub
 have HV0 := Lib.hid (hV1.alloc (.cells #[.slice none 0 0, .int .i64 0] 59))
 have HQ0 := Lib.hid hQ0
 have HB0 := Lib.hid hB0
 have INF := Lib.hid cl_info
 have DINF := Lib.hid dd_info
 have DONE := Lib.hid dd_one
 have HRS := Lib.hid (fun (z : World) (h : Below w.heap.size w z) => hR.below h)
 clear hA1 hV1 hQ0 hB0
 clear I hi hn hl hR hw hs hl64 hp0 hp hf2 hc2 hra hlf2 hplf hb hj2 hsh hsa
 go_enter Try.func56, Try.ntmps56
 go_wp2_with (first
  | go_guarded
  | (refine wpList_var_set rfl 59 _ _ rfl (w.heap.size + 1) #[.slice none 0 0, .int .i64 0] #[.slice (some ⟨b, o, none⟩) n cap, .int .i64 29] HQ5.out rfl rfl DINF.out rfl (DONE.out _ _ _ _) ?_; intro w20 hs20 ho20 hv20; have HVF := Lib.hid hv20; have HBF : Hid (Below w.heap.size w w20) := Lib.hid (HB5.out.trans ⟨ho20.1, ho20.2, ho20.3, ho20.4, fun k hk => ho20.5 k (Nat.lt_of_lt_of_le hk HB5.out.size) (by omega)⟩); have HOF := Lib.hid ho20; clear ho20 hv20)
  | (go_at_call 77; (have mk := HB4); (with_reducible refine (KS.out _ (HRS.out _ HB4.out)).mono ?_); rintro _ w5 ⟨rfl, hbel⟩; have HV5 := Lib.hid (HV4.out.bel hbel); have HQ5 := Lib.hid (HQ4.out.bel hbel); have HB5 : Hid (Below w.heap.size w w5) := Lib.hid (HB4.out.trans (hbel.mono HB4.out.size)); have f5a := HV5.out.cell 0 rfl; have f5b := HV5.out.cell 1 rfl; have f5x := HV5.out.cell 6 rfl; have f5y := HV5.out.cell 7 rfl; have f5z := HV5.out.cell 8 rfl; have f5l := HV5.out.lt; clear hbel)
  | (go_at_call 66; (have mk := HB3); (with_reducible refine (KO.out _).mono ?_); rintro _ w4 ⟨ko, rfl, hko, hbel⟩; have HV4 := Lib.hid (HV3.out.bel hbel); have HQ4 := Lib.hid (HQ3.out.bel hbel); have HB4 : Hid (Below w.heap.size w w4) := Lib.hid (HB3.out.trans (hbel.mono HB3.out.size)); have f4a := HV4.out.cell 0 rfl; have f4b := HV4.out.cell 1 rfl; have f4x := HV4.out.cell 6 rfl; have f4y := HV4.out.cell 7 rfl; have f4z := HV4.out.cell 8 rfl; have f4l := HV4.out.lt; clear hbel)
  | (go_at_call 36; (have mk := HB2); (with_reducible refine (KF2.out _ (HRS.out _ HB2.out)).mono ?_); rintro _ w3 ⟨rfl, hbel⟩; have HV3 := Lib.hid (HV2.out.bel hbel); have HQ3 := Lib.hid (HQ2.out.bel hbel); have HB3 : Hid (Below w.heap.size w w3) := Lib.hid (HB2.out.trans (hbel.mono HB2.out.size)); have f3a := HV3.out.cell 0 rfl; have f3b := HV3.out.cell 1 rfl; have f3x := HV3.out.cell 6 rfl; have f3y := HV3.out.cell 7 rfl; have f3z := HV3.out.cell 8 rfl; have f3l := HV3.out.lt; have lf3 := (HB3.out.cell (p := ⟨b, o + j2 * 14 + 2, none⟩) HBL.out).trans HLF2.out; have bl3 := Nat.lt_of_lt_of_le HBL.out HB3.out.size; rw [HPL.out] at lf3; clear hbel)
  | (go_at_call 36; (have mk := HB1); (with_reducible refine (KF1.out _ (HRS.out _ HB1.out)).mono ?_); rintro _ w2 ⟨rfl, hbel⟩; have HV2 := Lib.hid (HV1.out.bel hbel); have HQ2 := Lib.hid (HQ1.out.bel hbel); have HB2 : Hid (Below w.heap.size w w2) := Lib.hid (HB1.out.trans (hbel.mono HB1.out.size)); have f2a := HV2.out.cell 0 rfl; have f2b := HV2.out.cell 1 rfl; have f2x := HV2.out.cell 6 rfl; have f2y := HV2.out.cell 7 rfl; have f2z := HV2.out.cell 8 rfl; have f2l := HV2.out.lt; clear hbel)
  | (go_at_call 76; (have mk := HB0); (with_reducible refine (KW.out _).mono ?_); rintro _ w1 ⟨rfl, hbel⟩; have HV1 := Lib.hid (HV0.out.bel hbel); have HQ1 := Lib.hid (HQ0.out.bel hbel); have HB1 : Hid (Below w.heap.size w w1) := Lib.hid (HB0.out.trans (hbel.mono HB0.out.size)); have f1a := HV1.out.cell 0 rfl; have f1b := HV1.out.cell 1 rfl; have f1x := HV1.out.cell 6 rfl; have f1y := HV1.out.cell 7 rfl; have f1z := HV1.out.cell 8 rfl; have f1l := HV1.out.lt; clear hbel)
  | (refine wpList_var_get rfl 54 _ rfl w.heap.size #[.int .i64 c.id, .int .i64 c.par, .bool c.leaf, .int .u64 c.ra, .int .u64 c.rb, .int .u64 c.rc, .int .u64 c.la, .int .u64 c.lb, .int .u64 c.lc, .int .u64 c.ua, .int .u64 c.ub, .int .u64 c.uc, .int .i64 c.pk, .int .i64 c.bt] _ HV0.out rfl Try.underlying54 rfl INF.out ?_))
 refine bodyPost_ret (v := .agg #[.slice (some ⟨b, o, none⟩) n cap, .int .i64 29]) (results_var Try.results56 _ (w.heap.size + 1) rfl _ _ HVF.out Try.underlying59 rfl DINF.out) rfl ?_
 exact ⟨some ⟨b, o, none⟩, n, cap, rfl, HLN.out, HRS.out _ HBF.out, HBF.out⟩
theorem radd_dp1 {f : Int → Option Cls} {L : List Int} (I : TI f L) {c : Cls} (hi : CIn c) (n : Nat) (hn : L.length = n) (ao : Option Addr) (cap : Nat) (w : World) (hR : RwV crow 14 w ao (rowsX f L)) (hw : wrC c = 0) (hs : f c.id = none) (hl64 : L.length < 64) (hp0 : c.par ≠ 0) {p : Cls} (hp : f c.par = some p) (hplf : p.leaf = false) (hsh : sh1 c = true) (hsa : shA f c.par = true) (hd : 16 ≤ (upl f 16 c.par).length) :
  Calls Try.prog 56 #[.slice ao n cap, .agg #[.int .i64 c.id, .int .i64 c.par, .bool c.leaf, .int .u64 c.ra, .int .u64 c.rb, .int .u64 c.rc, .int .u64 c.la, .int .u64 c.lb, .int .u64 c.lc, .int .u64 c.ua, .int .u64 c.ub, .int .u64 c.uc, .int .i64 c.pk, .int .i64 c.bt]] w (DidP w 25 f L) := by
 have hl : (rowsX f L).length = n := by rw [rowsX_len]; exact hn
 have hn64 : n ≤ 64 := by rw [← hn]; exact I.len
 have HLN := Lib.hid hn
 have p1 : (c.par == 0) = false := by simpa using hp0
 have p2 : (c.par != 0) = true := by simpa using hp0
 obtain ⟨j2, hj2, hf2, hc2⟩ := fidx_some I hp
 obtain ⟨b, o, rfl, hb, hra⟩ := hR j2 hj2
 rw [hc2] at hra
 have hlf2 := hra 2 _ rfl
 have HLF2 := Lib.hid hlf2
 have HBL := Lib.hid hb
 have hjn : j2 < n := by omega
 have p3 : decide ((j2 : Int) < 0) = false := decide_eq_false (by omega)
 have HPL : Hid (p.leaf = false) := Lib.hid hplf
 have KW := Lib.hid (fun z => by have := rwrong_c hi z; rw [hw] at this; exact this)
 have KF1 : Hid (∀ z, RwV crow 14 z (some ⟨b, o, none⟩) (rowsX f L) → Calls Try.prog 36 #[.slice (some ⟨b, o, none⟩) n cap, .int .i64 c.id] z fun ee w' => ee = .returned (.int .i64 (-1)) ∧ Below z.heap.size z w') := Lib.hid (fun z hz => by have := rfind_c (rowsX f L) n hl (by omega) c.id (some ⟨b, o, none⟩) cap z hz; rw [fidx_none I hs] at this; exact this)
 have q1 : ((n : Int) == 64) = false := by simp; omega
 have q2 : (n == 64) = false := by simp; omega
 have KF2 : Hid (∀ z, RwV crow 14 z (some ⟨b, o, none⟩) (rowsX f L) → Calls Try.prog 36 #[.slice (some ⟨b, o, none⟩) n cap, .int .i64 c.par] z fun ee w' => ee = .returned (.int .i64 (j2 : Int)) ∧ Below z.heap.size z w') := Lib.hid (fun z hz => by have := rfind_c (rowsX f L) n hl (by omega) c.par (some ⟨b, o, none⟩) cap z hz; rw [hf2] at this; exact this)
 have KO := Lib.hid (fun z => rof_c hi.la hi.lb hi.lc (r := true) (by unfold sh1 at hsh; exact hsh) z)
 have KS : Hid (∀ z, RwV crow 14 z (some ⟨b, o, none⟩) (rowsX f L) → Calls Try.prog 77 #[.slice (some ⟨b, o, none⟩) n cap, .int .i64 c.par] z fun ee w' => ee = .returned (.bool true) ∧ Below z.heap.size z w') := Lib.hid (fun z hz => by have := rshares_c I n hn c.par (some ⟨b, o, none⟩) cap z hz; rw [hsa] at this; exact this)
 obtain ⟨d, hdd⟩ : ∃ d, (upl f 16 c.par).length = d := ⟨_, rfl⟩
 rw [hdd] at hd
 have KU : Hid (∀ z, RwV crow 14 z (some ⟨b, o, none⟩) (rowsX f L) → Calls Try.prog 34 #[.slice (some ⟨b, o, none⟩) n cap, .int .i64 c.par] z fun e z' => ∃ uo uc, e = .returned (.slice uo d uc) ∧ Below z.heap.size z z') := Lib.hid (fun z hz => by
  refine (rup_c I n hn c.par hi.par (some ⟨b, o, none⟩) cap z hz).mono ?_
  rintro e z' ⟨v, rfl, hr, hb⟩
  rw [hdd] at hr
  obtain ⟨uo, uc, rfl⟩ := row_form hr
  exact ⟨uo, uc, rfl, hb⟩)
 have q3 : decide ((16 : Int) ≤ (d : Int)) = true := decide_eq_true (by omega)
 have q4 : decide (16 ≤ d) = true := decide_eq_true (by omega)
 have hA1 : Below w.heap.size w (w.alloc (.cells #[.int .i64 c.id, .int .i64 c.par, .bool c.leaf, .int .u64 c.ra, .int .u64 c.rb, .int .u64 c.rc, .int .u64 c.la, .int .u64 c.lb, .int .u64 c.lc, .int .u64 c.ua, .int .u64 c.ub, .int .u64 c.uc, .int .i64 c.pk, .int .i64 c.bt] 54)) := bub
 have hV1 : VR (w.alloc (.cells #[.int .i64 c.id, .int .i64 c.par, .bool c.leaf, .int .u64 c.ra, .int .u64 c.rb, .int .u64 c.rc, .int .u64 c.la, .int .u64 c.lb, .int .u64 c.lc, .int .u64 c.ua, .int .u64 c.ub, .int .u64 c.uc, .int .i64 c.pk, .int .i64 c.bt] 54)) w.heap.size 54 #[.int .i64 c.id, .int .i64 c.par, .bool c.leaf, .int .u64 c.ra, .int .u64 c.rb, .int .u64 c.rc, .int .u64 c.la, .int .u64 c.lb, .int .u64 c.lc, .int .u64 c.ua, .int .u64 c.ub, .int .u64 c.uc, .int .i64 c.pk, .int .i64 c.bt] := VR.new _ _ _
 have hQ0 : VR ((w.alloc (.cells #[.int .i64 c.id, .int .i64 c.par, .bool c.leaf, .int .u64 c.ra, .int .u64 c.rb, .int .u64 c.rc, .int .u64 c.la, .int .u64 c.lb, .int .u64 c.lc, .int .u64 c.ua, .int .u64 c.ub, .int .u64 c.uc, .int .i64 c.pk, .int .i64 c.bt] 54)).alloc (.cells #[.slice none 0 0, .int .i64 0] 59)) (w.heap.size + 1) 59 #[.slice none 0 0, .int .i64 0] := by have := VR.new (w.alloc (.cells #[.int .i64 c.id, .int .i64 c.par, .bool c.leaf, .int .u64 c.ra, .int .u64 c.rb, .int .u64 c.rc, .int .u64 c.la, .int .u64 c.lb, .int .u64 c.lc, .int .u64 c.ua, .int .u64 c.ub, .int .u64 c.uc, .int .i64 c.pk, .int .i64 c.bt] 54)) #[.slice none 0 0, .int .i64 0] 59; simpa using this
 have hB0 : Below w.heap.size w ((w.alloc (.cells #[.int .i64 c.id, .int .i64 c.par, .bool c.leaf, .int .u64 c.ra, .int .u64 c.rb, .int .u64 c.rc, .int .u64 c.la, .int .u64 c.lb, .int .u64 c.lc, .int .u64 c.ua, .int .u64 c.ub, .int .u64 c.uc, .int .i64 c.pk, .int .i64 c.bt] 54)).alloc (.cells #[.slice none 0 0, .int .i64 0] 59)) := bub
 have HV0 := Lib.hid (hV1.alloc (.cells #[.slice none 0 0, .int .i64 0] 59))
 have HQ0 := Lib.hid hQ0
 have HB0 := Lib.hid hB0
 have INF := Lib.hid cl_info
 have DINF := Lib.hid dd_info
 have DONE := Lib.hid dd_one
 have HRS := Lib.hid (fun (z : World) (h : Below w.heap.size w z) => hR.below h)
 clear hA1 hV1 hQ0 hB0
 clear I hi hn hl hR hw hs hl64 hp0 hp hf2 hc2 hra hlf2 hplf hb hj2 hsh hsa hd hdd
 go_enter Try.func56, Try.ntmps56
 go_wp2_with (first
  | go_guarded
  | (refine wpList_var_set rfl 59 _ _ rfl (w.heap.size + 1) #[.slice none 0 0, .int .i64 0] #[.slice (some ⟨b, o, none⟩) n cap, .int .i64 25] HQ6.out rfl rfl DINF.out rfl (DONE.out _ _ _ _) ?_; intro w20 hs20 ho20 hv20; have HVF := Lib.hid hv20; have HBF : Hid (Below w.heap.size w w20) := Lib.hid (HB6.out.trans ⟨ho20.1, ho20.2, ho20.3, ho20.4, fun k hk => ho20.5 k (Nat.lt_of_lt_of_le hk HB6.out.size) (by omega)⟩); have HOF := Lib.hid ho20; clear ho20 hv20)
  | (go_at_call 34; (have mk := HB5); (with_reducible refine (KU.out _ (HRS.out _ HB5.out)).mono ?_); rintro _ w6 ⟨uo, uc, rfl, hbel⟩; have HV6 := Lib.hid (HV5.out.bel hbel); have HQ6 := Lib.hid (HQ5.out.bel hbel); have HB6 : Hid (Below w.heap.size w w6) := Lib.hid (HB5.out.trans (hbel.mono HB5.out.size)); have f6a := HV6.out.cell 0 rfl; have f6b := HV6.out.cell 1 rfl; have f6x := HV6.out.cell 6 rfl; have f6y := HV6.out.cell 7 rfl; have f6z := HV6.out.cell 8 rfl; have f6l := HV6.out.lt; clear hbel)
  | (go_at_call 77; (have mk := HB4); (with_reducible refine (KS.out _ (HRS.out _ HB4.out)).mono ?_); rintro _ w5 ⟨rfl, hbel⟩; have HV5 := Lib.hid (HV4.out.bel hbel); have HQ5 := Lib.hid (HQ4.out.bel hbel); have HB5 : Hid (Below w.heap.size w w5) := Lib.hid (HB4.out.trans (hbel.mono HB4.out.size)); have f5a := HV5.out.cell 0 rfl; have f5b := HV5.out.cell 1 rfl; have f5x := HV5.out.cell 6 rfl; have f5y := HV5.out.cell 7 rfl; have f5z := HV5.out.cell 8 rfl; have f5l := HV5.out.lt; clear hbel)
  | (go_at_call 66; (have mk := HB3); (with_reducible refine (KO.out _).mono ?_); rintro _ w4 ⟨ko, rfl, hko, hbel⟩; have HV4 := Lib.hid (HV3.out.bel hbel); have HQ4 := Lib.hid (HQ3.out.bel hbel); have HB4 : Hid (Below w.heap.size w w4) := Lib.hid (HB3.out.trans (hbel.mono HB3.out.size)); have f4a := HV4.out.cell 0 rfl; have f4b := HV4.out.cell 1 rfl; have f4x := HV4.out.cell 6 rfl; have f4y := HV4.out.cell 7 rfl; have f4z := HV4.out.cell 8 rfl; have f4l := HV4.out.lt; clear hbel)
  | (go_at_call 36; (have mk := HB2); (with_reducible refine (KF2.out _ (HRS.out _ HB2.out)).mono ?_); rintro _ w3 ⟨rfl, hbel⟩; have HV3 := Lib.hid (HV2.out.bel hbel); have HQ3 := Lib.hid (HQ2.out.bel hbel); have HB3 : Hid (Below w.heap.size w w3) := Lib.hid (HB2.out.trans (hbel.mono HB2.out.size)); have f3a := HV3.out.cell 0 rfl; have f3b := HV3.out.cell 1 rfl; have f3x := HV3.out.cell 6 rfl; have f3y := HV3.out.cell 7 rfl; have f3z := HV3.out.cell 8 rfl; have f3l := HV3.out.lt; have lf3 := (HB3.out.cell (p := ⟨b, o + j2 * 14 + 2, none⟩) HBL.out).trans HLF2.out; have bl3 := Nat.lt_of_lt_of_le HBL.out HB3.out.size; rw [HPL.out] at lf3; clear hbel)
  | (go_at_call 36; (have mk := HB1); (with_reducible refine (KF1.out _ (HRS.out _ HB1.out)).mono ?_); rintro _ w2 ⟨rfl, hbel⟩; have HV2 := Lib.hid (HV1.out.bel hbel); have HQ2 := Lib.hid (HQ1.out.bel hbel); have HB2 : Hid (Below w.heap.size w w2) := Lib.hid (HB1.out.trans (hbel.mono HB1.out.size)); have f2a := HV2.out.cell 0 rfl; have f2b := HV2.out.cell 1 rfl; have f2x := HV2.out.cell 6 rfl; have f2y := HV2.out.cell 7 rfl; have f2z := HV2.out.cell 8 rfl; have f2l := HV2.out.lt; clear hbel)
  | (go_at_call 76; (have mk := HB0); (with_reducible refine (KW.out _).mono ?_); rintro _ w1 ⟨rfl, hbel⟩; have HV1 := Lib.hid (HV0.out.bel hbel); have HQ1 := Lib.hid (HQ0.out.bel hbel); have HB1 : Hid (Below w.heap.size w w1) := Lib.hid (HB0.out.trans (hbel.mono HB0.out.size)); have f1a := HV1.out.cell 0 rfl; have f1b := HV1.out.cell 1 rfl; have f1x := HV1.out.cell 6 rfl; have f1y := HV1.out.cell 7 rfl; have f1z := HV1.out.cell 8 rfl; have f1l := HV1.out.lt; clear hbel)
  | (refine wpList_var_get rfl 54 _ rfl w.heap.size #[.int .i64 c.id, .int .i64 c.par, .bool c.leaf, .int .u64 c.ra, .int .u64 c.rb, .int .u64 c.rc, .int .u64 c.la, .int .u64 c.lb, .int .u64 c.lc, .int .u64 c.ua, .int .u64 c.ub, .int .u64 c.uc, .int .i64 c.pk, .int .i64 c.bt] _ HV0.out rfl Try.underlying54 rfl INF.out ?_))
 refine bodyPost_ret (v := .agg #[.slice (some ⟨b, o, none⟩) n cap, .int .i64 25]) (results_var Try.results56 _ (w.heap.size + 1) rfl _ _ HVF.out Try.underlying59 rfl DINF.out) rfl ?_
 exact ⟨some ⟨b, o, none⟩, n, cap, rfl, HLN.out, HRS.out _ HBF.out, HBF.out⟩
theorem radd_dp0 {f : Int → Option Cls} {L : List Int} (I : TI f L) {c : Cls} (hi : CIn c) (n : Nat) (hn : L.length = n) (ao : Option Addr) (cap : Nat) (w : World) (hR : RwV crow 14 w ao (rowsX f L)) (hw : wrC c = 0) (hs : f c.id = none) (hl64 : L.length < 64) (hp0 : c.par ≠ 0) {p : Cls} (hp : f c.par = some p) (hplf : p.leaf = false) (hsh : sh1 c = false) (hd : 16 ≤ (upl f 16 c.par).length) :
  Calls Try.prog 56 #[.slice ao n cap, .agg #[.int .i64 c.id, .int .i64 c.par, .bool c.leaf, .int .u64 c.ra, .int .u64 c.rb, .int .u64 c.rc, .int .u64 c.la, .int .u64 c.lb, .int .u64 c.lc, .int .u64 c.ua, .int .u64 c.ub, .int .u64 c.uc, .int .i64 c.pk, .int .i64 c.bt]] w (DidP w 25 f L) := by
 have hl : (rowsX f L).length = n := by rw [rowsX_len]; exact hn
 have hn64 : n ≤ 64 := by rw [← hn]; exact I.len
 have HLN := Lib.hid hn
 have p1 : (c.par == 0) = false := by simpa using hp0
 have p2 : (c.par != 0) = true := by simpa using hp0
 obtain ⟨j2, hj2, hf2, hc2⟩ := fidx_some I hp
 obtain ⟨b, o, rfl, hb, hra⟩ := hR j2 hj2
 rw [hc2] at hra
 have hlf2 := hra 2 _ rfl
 have HLF2 := Lib.hid hlf2
 have HBL := Lib.hid hb
 have hjn : j2 < n := by omega
 have p3 : decide ((j2 : Int) < 0) = false := decide_eq_false (by omega)
 have HPL : Hid (p.leaf = false) := Lib.hid hplf
 have KW := Lib.hid (fun z => by have := rwrong_c hi z; rw [hw] at this; exact this)
 have KF1 : Hid (∀ z, RwV crow 14 z (some ⟨b, o, none⟩) (rowsX f L) → Calls Try.prog 36 #[.slice (some ⟨b, o, none⟩) n cap, .int .i64 c.id] z fun ee w' => ee = .returned (.int .i64 (-1)) ∧ Below z.heap.size z w') := Lib.hid (fun z hz => by have := rfind_c (rowsX f L) n hl (by omega) c.id (some ⟨b, o, none⟩) cap z hz; rw [fidx_none I hs] at this; exact this)
 have q1 : ((n : Int) == 64) = false := by simp; omega
 have q2 : (n == 64) = false := by simp; omega
 have KF2 : Hid (∀ z, RwV crow 14 z (some ⟨b, o, none⟩) (rowsX f L) → Calls Try.prog 36 #[.slice (some ⟨b, o, none⟩) n cap, .int .i64 c.par] z fun ee w' => ee = .returned (.int .i64 (j2 : Int)) ∧ Below z.heap.size z w') := Lib.hid (fun z hz => by have := rfind_c (rowsX f L) n hl (by omega) c.par (some ⟨b, o, none⟩) cap z hz; rw [hf2] at this; exact this)
 have KO := Lib.hid (fun z => rof_c hi.la hi.lb hi.lc (r := false) (by unfold sh1 at hsh; exact hsh) z)
 obtain ⟨d, hdd⟩ : ∃ d, (upl f 16 c.par).length = d := ⟨_, rfl⟩
 rw [hdd] at hd
 have KU : Hid (∀ z, RwV crow 14 z (some ⟨b, o, none⟩) (rowsX f L) → Calls Try.prog 34 #[.slice (some ⟨b, o, none⟩) n cap, .int .i64 c.par] z fun e z' => ∃ uo uc, e = .returned (.slice uo d uc) ∧ Below z.heap.size z z') := Lib.hid (fun z hz => by
  refine (rup_c I n hn c.par hi.par (some ⟨b, o, none⟩) cap z hz).mono ?_
  rintro e z' ⟨v, rfl, hr, hb⟩
  rw [hdd] at hr
  obtain ⟨uo, uc, rfl⟩ := row_form hr
  exact ⟨uo, uc, rfl, hb⟩)
 have q3 : decide ((16 : Int) ≤ (d : Int)) = true := decide_eq_true (by omega)
 have q4 : decide (16 ≤ d) = true := decide_eq_true (by omega)
 have hA1 : Below w.heap.size w (w.alloc (.cells #[.int .i64 c.id, .int .i64 c.par, .bool c.leaf, .int .u64 c.ra, .int .u64 c.rb, .int .u64 c.rc, .int .u64 c.la, .int .u64 c.lb, .int .u64 c.lc, .int .u64 c.ua, .int .u64 c.ub, .int .u64 c.uc, .int .i64 c.pk, .int .i64 c.bt] 54)) := bub
 have hV1 : VR (w.alloc (.cells #[.int .i64 c.id, .int .i64 c.par, .bool c.leaf, .int .u64 c.ra, .int .u64 c.rb, .int .u64 c.rc, .int .u64 c.la, .int .u64 c.lb, .int .u64 c.lc, .int .u64 c.ua, .int .u64 c.ub, .int .u64 c.uc, .int .i64 c.pk, .int .i64 c.bt] 54)) w.heap.size 54 #[.int .i64 c.id, .int .i64 c.par, .bool c.leaf, .int .u64 c.ra, .int .u64 c.rb, .int .u64 c.rc, .int .u64 c.la, .int .u64 c.lb, .int .u64 c.lc, .int .u64 c.ua, .int .u64 c.ub, .int .u64 c.uc, .int .i64 c.pk, .int .i64 c.bt] := VR.new _ _ _
 have hQ0 : VR ((w.alloc (.cells #[.int .i64 c.id, .int .i64 c.par, .bool c.leaf, .int .u64 c.ra, .int .u64 c.rb, .int .u64 c.rc, .int .u64 c.la, .int .u64 c.lb, .int .u64 c.lc, .int .u64 c.ua, .int .u64 c.ub, .int .u64 c.uc, .int .i64 c.pk, .int .i64 c.bt] 54)).alloc (.cells #[.slice none 0 0, .int .i64 0] 59)) (w.heap.size + 1) 59 #[.slice none 0 0, .int .i64 0] := by have := VR.new (w.alloc (.cells #[.int .i64 c.id, .int .i64 c.par, .bool c.leaf, .int .u64 c.ra, .int .u64 c.rb, .int .u64 c.rc, .int .u64 c.la, .int .u64 c.lb, .int .u64 c.lc, .int .u64 c.ua, .int .u64 c.ub, .int .u64 c.uc, .int .i64 c.pk, .int .i64 c.bt] 54)) #[.slice none 0 0, .int .i64 0] 59; simpa using this
 have hB0 : Below w.heap.size w ((w.alloc (.cells #[.int .i64 c.id, .int .i64 c.par, .bool c.leaf, .int .u64 c.ra, .int .u64 c.rb, .int .u64 c.rc, .int .u64 c.la, .int .u64 c.lb, .int .u64 c.lc, .int .u64 c.ua, .int .u64 c.ub, .int .u64 c.uc, .int .i64 c.pk, .int .i64 c.bt] 54)).alloc (.cells #[.slice none 0 0, .int .i64 0] 59)) := bub
 have HV0 := Lib.hid (hV1.alloc (.cells #[.slice none 0 0, .int .i64 0] 59))
 have HQ0 := Lib.hid hQ0
 have HB0 := Lib.hid hB0
 have INF := Lib.hid cl_info
 have DINF := Lib.hid dd_info
 have DONE := Lib.hid dd_one
 have HRS := Lib.hid (fun (z : World) (h : Below w.heap.size w z) => hR.below h)
 clear hA1 hV1 hQ0 hB0
 clear I hi hn hl hR hw hs hl64 hp0 hp hf2 hc2 hra hlf2 hplf hb hj2 hsh hd hdd
 go_enter Try.func56, Try.ntmps56
 go_wp2_with (first
  | go_guarded
  | (refine wpList_var_set rfl 59 _ _ rfl (w.heap.size + 1) #[.slice none 0 0, .int .i64 0] #[.slice (some ⟨b, o, none⟩) n cap, .int .i64 25] HQ6.out rfl rfl DINF.out rfl (DONE.out _ _ _ _) ?_; intro w20 hs20 ho20 hv20; have HVF := Lib.hid hv20; have HBF : Hid (Below w.heap.size w w20) := Lib.hid (HB6.out.trans ⟨ho20.1, ho20.2, ho20.3, ho20.4, fun k hk => ho20.5 k (Nat.lt_of_lt_of_le hk HB6.out.size) (by omega)⟩); have HOF := Lib.hid ho20; clear ho20 hv20)
  | (go_at_call 34; (have mk := HB4); (with_reducible refine (KU.out _ (HRS.out _ HB4.out)).mono ?_); rintro _ w6 ⟨uo, uc, rfl, hbel⟩; have HV6 := Lib.hid (HV4.out.bel hbel); have HQ6 := Lib.hid (HQ4.out.bel hbel); have HB6 : Hid (Below w.heap.size w w6) := Lib.hid (HB4.out.trans (hbel.mono HB4.out.size)); have f6a := HV6.out.cell 0 rfl; have f6b := HV6.out.cell 1 rfl; have f6x := HV6.out.cell 6 rfl; have f6y := HV6.out.cell 7 rfl; have f6z := HV6.out.cell 8 rfl; have f6l := HV6.out.lt; clear hbel)
  | (go_at_call 66; (have mk := HB3); (with_reducible refine (KO.out _).mono ?_); rintro _ w4 ⟨ko, rfl, hko, hbel⟩; have HV4 := Lib.hid (HV3.out.bel hbel); have HQ4 := Lib.hid (HQ3.out.bel hbel); have HB4 : Hid (Below w.heap.size w w4) := Lib.hid (HB3.out.trans (hbel.mono HB3.out.size)); have f4a := HV4.out.cell 0 rfl; have f4b := HV4.out.cell 1 rfl; have f4x := HV4.out.cell 6 rfl; have f4y := HV4.out.cell 7 rfl; have f4z := HV4.out.cell 8 rfl; have f4l := HV4.out.lt; clear hbel)
  | (go_at_call 36; (have mk := HB2); (with_reducible refine (KF2.out _ (HRS.out _ HB2.out)).mono ?_); rintro _ w3 ⟨rfl, hbel⟩; have HV3 := Lib.hid (HV2.out.bel hbel); have HQ3 := Lib.hid (HQ2.out.bel hbel); have HB3 : Hid (Below w.heap.size w w3) := Lib.hid (HB2.out.trans (hbel.mono HB2.out.size)); have f3a := HV3.out.cell 0 rfl; have f3b := HV3.out.cell 1 rfl; have f3x := HV3.out.cell 6 rfl; have f3y := HV3.out.cell 7 rfl; have f3z := HV3.out.cell 8 rfl; have f3l := HV3.out.lt; have lf3 := (HB3.out.cell (p := ⟨b, o + j2 * 14 + 2, none⟩) HBL.out).trans HLF2.out; have bl3 := Nat.lt_of_lt_of_le HBL.out HB3.out.size; rw [HPL.out] at lf3; clear hbel)
  | (go_at_call 36; (have mk := HB1); (with_reducible refine (KF1.out _ (HRS.out _ HB1.out)).mono ?_); rintro _ w2 ⟨rfl, hbel⟩; have HV2 := Lib.hid (HV1.out.bel hbel); have HQ2 := Lib.hid (HQ1.out.bel hbel); have HB2 : Hid (Below w.heap.size w w2) := Lib.hid (HB1.out.trans (hbel.mono HB1.out.size)); have f2a := HV2.out.cell 0 rfl; have f2b := HV2.out.cell 1 rfl; have f2x := HV2.out.cell 6 rfl; have f2y := HV2.out.cell 7 rfl; have f2z := HV2.out.cell 8 rfl; have f2l := HV2.out.lt; clear hbel)
  | (go_at_call 76; (have mk := HB0); (with_reducible refine (KW.out _).mono ?_); rintro _ w1 ⟨rfl, hbel⟩; have HV1 := Lib.hid (HV0.out.bel hbel); have HQ1 := Lib.hid (HQ0.out.bel hbel); have HB1 : Hid (Below w.heap.size w w1) := Lib.hid (HB0.out.trans (hbel.mono HB0.out.size)); have f1a := HV1.out.cell 0 rfl; have f1b := HV1.out.cell 1 rfl; have f1x := HV1.out.cell 6 rfl; have f1y := HV1.out.cell 7 rfl; have f1z := HV1.out.cell 8 rfl; have f1l := HV1.out.lt; clear hbel)
  | (refine wpList_var_get rfl 54 _ rfl w.heap.size #[.int .i64 c.id, .int .i64 c.par, .bool c.leaf, .int .u64 c.ra, .int .u64 c.rb, .int .u64 c.rc, .int .u64 c.la, .int .u64 c.lb, .int .u64 c.lc, .int .u64 c.ua, .int .u64 c.ub, .int .u64 c.uc, .int .i64 c.pk, .int .i64 c.bt] _ HV0.out rfl Try.underlying54 rfl INF.out ?_))
 refine bodyPost_ret (v := .agg #[.slice (some ⟨b, o, none⟩) n cap, .int .i64 25]) (results_var Try.results56 _ (w.heap.size + 1) rfl _ _ HVF.out Try.underlying59 rfl DINF.out) rfl ?_
 exact ⟨some ⟨b, o, none⟩, n, cap, rfl, HLN.out, HRS.out _ HBF.out, HBF.out⟩
theorem radd_ok1P {f : Int → Option Cls} {L : List Int} (I : TI f L) {c : Cls} (hi : CIn c) (n : Nat) (hn : L.length = n) (ao : Option Addr) (cap : Nat) (w : World) (hR : RwV crow 14 w ao (rowsX f L)) (hw : wrC c = 0) (hs : f c.id = none) (hl64 : L.length < 64) (hp0 : c.par ≠ 0) {p : Cls} (hp : f c.par = some p) (hplf : p.leaf = false) (hsh : sh1 c = true) (hsa : shA f c.par = true) (hd : (upl f 16 c.par).length < 16) :
  Calls Try.prog 56 #[.slice ao n cap, .agg #[.int .i64 c.id, .int .i64 c.par, .bool c.leaf, .int .u64 c.ra, .int .u64 c.rb, .int .u64 c.rc, .int .u64 c.la, .int .u64 c.lb, .int .u64 c.lc, .int .u64 c.ua, .int .u64 c.ub, .int .u64 c.uc, .int .i64 c.pk, .int .i64 c.bt]] w (DidP w 0 (upd f c.id c) (ins c.id L)) := by
 have hl : (rowsX f L).length = n := by rw [rowsX_len]; exact hn
 have hn64 : n ≤ 64 := by rw [← hn]; exact I.len
 have HLN := Lib.hid hn
 have p1 : (c.par == 0) = false := by simpa using hp0
 have p2 : (c.par != 0) = true := by simpa using hp0
 obtain ⟨j2, hj2, hf2, hc2⟩ := fidx_some I hp
 obtain ⟨b, o, rfl, hb, hra⟩ := hR j2 hj2
 rw [hc2] at hra
 have hlf2 := hra 2 _ rfl
 have HLF2 := Lib.hid hlf2
 have HBL := Lib.hid hb
 have hjn : j2 < n := by omega
 have p3 : decide ((j2 : Int) < 0) = false := decide_eq_false (by omega)
 have HPL : Hid (p.leaf = false) := Lib.hid hplf
 have KW := Lib.hid (fun z => by have := rwrong_c hi z; rw [hw] at this; exact this)
 have KF1 : Hid (∀ z, RwV crow 14 z (some ⟨b, o, none⟩) (rowsX f L) → Calls Try.prog 36 #[.slice (some ⟨b, o, none⟩) n cap, .int .i64 c.id] z fun ee w' => ee = .returned (.int .i64 (-1)) ∧ Below z.heap.size z w') := Lib.hid (fun z hz => by have := rfind_c (rowsX f L) n hl (by omega) c.id (some ⟨b, o, none⟩) cap z hz; rw [fidx_none I hs] at this; exact this)
 have q1 : ((n : Int) == 64) = false := by simp; omega
 have q2 : (n == 64) = false := by simp; omega
 have KF2 : Hid (∀ z, RwV crow 14 z (some ⟨b, o, none⟩) (rowsX f L) → Calls Try.prog 36 #[.slice (some ⟨b, o, none⟩) n cap, .int .i64 c.par] z fun ee w' => ee = .returned (.int .i64 (j2 : Int)) ∧ Below z.heap.size z w') := Lib.hid (fun z hz => by have := rfind_c (rowsX f L) n hl (by omega) c.par (some ⟨b, o, none⟩) cap z hz; rw [hf2] at this; exact this)
 have KO := Lib.hid (fun z => rof_c hi.la hi.lb hi.lc (r := true) (by unfold sh1 at hsh; exact hsh) z)
 have KS : Hid (∀ z, RwV crow 14 z (some ⟨b, o, none⟩) (rowsX f L) → Calls Try.prog 77 #[.slice (some ⟨b, o, none⟩) n cap, .int .i64 c.par] z fun ee w' => ee = .returned (.bool true) ∧ Below z.heap.size z w') := Lib.hid (fun z hz => by have := rshares_c I n hn c.par (some ⟨b, o, none⟩) cap z hz; rw [hsa] at this; exact this)
 obtain ⟨d, hdd⟩ : ∃ d, (upl f 16 c.par).length = d := ⟨_, rfl⟩
 rw [hdd] at hd
 have KU : Hid (∀ z, RwV crow 14 z (some ⟨b, o, none⟩) (rowsX f L) → Calls Try.prog 34 #[.slice (some ⟨b, o, none⟩) n cap, .int .i64 c.par] z fun e z' => ∃ uo uc, e = .returned (.slice uo d uc) ∧ Below z.heap.size z z') := Lib.hid (fun z hz => by
  refine (rup_c I n hn c.par hi.par (some ⟨b, o, none⟩) cap z hz).mono ?_
  rintro e z' ⟨v, rfl, hr, hb⟩
  rw [hdd] at hr
  obtain ⟨uo, uc, rfl⟩ := row_form hr
  exact ⟨uo, uc, rfl, hb⟩)
 have KP : Hid (∀ z, RwV crow 14 z (some ⟨b, o, none⟩) (rowsX f L) → Calls Try.prog 78 #[.slice (some ⟨b, o, none⟩) n cap, .agg #[.int .i64 c.id, .int .i64 c.par, .bool c.leaf, .int .u64 c.ra, .int .u64 c.rb, .int .u64 c.rc, .int .u64 c.la, .int .u64 c.lb, .int .u64 c.lc, .int .u64 c.ua, .int .u64 c.ub, .int .u64 c.uc, .int .i64 c.pk, .int .i64 c.bt]] z fun e z' => ∃ po pc, e = .returned (.slice po (L.length + 1) pc) ∧ RwV crow 14 z' po (rowsX (upd f c.id c) (ins c.id L)) ∧ (∀ q, po = some q → z.heap.size ≤ q.block ∧ True) ∧ Below z.heap.size z z') := Lib.hid (fun z hz => by
  refine (rput_c (rowsX f L) n hl (by omega) c (some ⟨b, o, none⟩) cap z hz).mono ?_
  rintro e z' ⟨v, rfl, hr, hb⟩
  rw [put_rows I c] at hr
  have h1 : (rowsX (upd f c.id c) (ins c.id L)).length = L.length + 1 := by rw [rowsX_len, ins_len (fun h => by have := (I.mem c.id).2 h; rw [hs] at this; cases this)]
  rw [h1] at hr
  obtain ⟨po, pc, rfl⟩ := row_form hr
  exact ⟨po, pc, rfl, own_rwv crow_len hr h1, fun q hq => ⟨(hr.lt _ (by rw [hq]; rfl)).1, trivial⟩, hb⟩)
 have hil : (ins c.id L).length = L.length + 1 := ins_len (fun h => by have := (I.mem c.id).2 h; rw [hs] at this; cases this)
 have HIL := Lib.hid hil
 have q3 : decide ((16 : Int) ≤ (d : Int)) = false := decide_eq_false (by omega)
 have q4 : decide (16 ≤ d) = false := decide_eq_false (by omega)
 have hA1 : Below w.heap.size w (w.alloc (.cells #[.int .i64 c.id, .int .i64 c.par, .bool c.leaf, .int .u64 c.ra, .int .u64 c.rb, .int .u64 c.rc, .int .u64 c.la, .int .u64 c.lb, .int .u64 c.lc, .int .u64 c.ua, .int .u64 c.ub, .int .u64 c.uc, .int .i64 c.pk, .int .i64 c.bt] 54)) := bub
 have hV1 : VR (w.alloc (.cells #[.int .i64 c.id, .int .i64 c.par, .bool c.leaf, .int .u64 c.ra, .int .u64 c.rb, .int .u64 c.rc, .int .u64 c.la, .int .u64 c.lb, .int .u64 c.lc, .int .u64 c.ua, .int .u64 c.ub, .int .u64 c.uc, .int .i64 c.pk, .int .i64 c.bt] 54)) w.heap.size 54 #[.int .i64 c.id, .int .i64 c.par, .bool c.leaf, .int .u64 c.ra, .int .u64 c.rb, .int .u64 c.rc, .int .u64 c.la, .int .u64 c.lb, .int .u64 c.lc, .int .u64 c.ua, .int .u64 c.ub, .int .u64 c.uc, .int .i64 c.pk, .int .i64 c.bt] := VR.new _ _ _
 have hQ0 : VR ((w.alloc (.cells #[.int .i64 c.id, .int .i64 c.par, .bool c.leaf, .int .u64 c.ra, .int .u64 c.rb, .int .u64 c.rc, .int .u64 c.la, .int .u64 c.lb, .int .u64 c.lc, .int .u64 c.ua, .int .u64 c.ub, .int .u64 c.uc, .int .i64 c.pk, .int .i64 c.bt] 54)).alloc (.cells #[.slice none 0 0, .int .i64 0] 59)) (w.heap.size + 1) 59 #[.slice none 0 0, .int .i64 0] := by have := VR.new (w.alloc (.cells #[.int .i64 c.id, .int .i64 c.par, .bool c.leaf, .int .u64 c.ra, .int .u64 c.rb, .int .u64 c.rc, .int .u64 c.la, .int .u64 c.lb, .int .u64 c.lc, .int .u64 c.ua, .int .u64 c.ub, .int .u64 c.uc, .int .i64 c.pk, .int .i64 c.bt] 54)) #[.slice none 0 0, .int .i64 0] 59; simpa using this
 have hB0 : Below w.heap.size w ((w.alloc (.cells #[.int .i64 c.id, .int .i64 c.par, .bool c.leaf, .int .u64 c.ra, .int .u64 c.rb, .int .u64 c.rc, .int .u64 c.la, .int .u64 c.lb, .int .u64 c.lc, .int .u64 c.ua, .int .u64 c.ub, .int .u64 c.uc, .int .i64 c.pk, .int .i64 c.bt] 54)).alloc (.cells #[.slice none 0 0, .int .i64 0] 59)) := bub
 have HV0 := Lib.hid (hV1.alloc (.cells #[.slice none 0 0, .int .i64 0] 59))
 have HQ0 := Lib.hid hQ0
 have HB0 := Lib.hid hB0
 have INF := Lib.hid cl_info
 have DINF := Lib.hid dd_info
 have DONE := Lib.hid dd_one
 have HRS := Lib.hid (fun (z : World) (h : Below w.heap.size w z) => hR.below h)
 clear hA1 hV1 hQ0 hB0
 clear I hi hn hl hR hw hs hl64 hp0 hp hf2 hc2 hra hlf2 hplf hb hj2 hsh hsa hd hdd hil
 go_enter Try.func56, Try.ntmps56
 go_wp2_with (first
  | go_guarded
  | (refine wpList_var_set rfl 59 _ _ rfl (w.heap.size + 1) #[.slice none 0 0, .int .i64 0] #[.slice po (L.length + 1) pc, .int .i64 0] HQ7.out rfl rfl DINF.out rfl (DONE.out _ _ _ _) ?_; intro w20 hs20 ho20 hv20; have HVF := Lib.hid hv20; have HBF : Hid (Below w.heap.size w w20) := Lib.hid (HB7.out.trans ⟨ho20.1, ho20.2, ho20.3, ho20.4, fun k hk => ho20.5 k (Nat.lt_of_lt_of_le hk HB7.out.size) (by omega)⟩); have HOF := Lib.hid ho20; clear ho20 hv20)
  | (go_at_call 78; (have mk := HB6); (with_reducible refine (KP.out _ (HRS.out _ HB6.out)).mono ?_); rintro _ w7 ⟨po, pc, rfl, hpr, hpn, hbel⟩; have HPR := Lib.hid hpr; have HPN : Hid (∀ q, po = some q → ¬ q.block = w.heap.size + 1) := Lib.hid (fun q hq g => by have h1 := (hpn q hq).1; have h2 := HQ6.out.lt; omega); have HV7 := Lib.hid (HV6.out.bel hbel); have HQ7 := Lib.hid (HQ6.out.bel hbel); have HB7 : Hid (Below w.heap.size w w7) := Lib.hid (HB6.out.trans (hbel.mono HB6.out.size)); have f7a := HV7.out.cell 0 rfl; have f7b := HV7.out.cell 1 rfl; have f7x := HV7.out.cell 6 rfl; have f7y := HV7.out.cell 7 rfl; have f7z := HV7.out.cell 8 rfl; have f7l := HV7.out.lt; clear hbel hpr hpn)
  | (refine wpList_var_get rfl 54 _ rfl w.heap.size #[.int .i64 c.id, .int .i64 c.par, .bool c.leaf, .int .u64 c.ra, .int .u64 c.rb, .int .u64 c.rc, .int .u64 c.la, .int .u64 c.lb, .int .u64 c.lc, .int .u64 c.ua, .int .u64 c.ub, .int .u64 c.uc, .int .i64 c.pk, .int .i64 c.bt] _ HV6.out rfl Try.underlying54 rfl INF.out ?_)
  | (go_at_call 34; (have mk := HB5); (with_reducible refine (KU.out _ (HRS.out _ HB5.out)).mono ?_); rintro _ w6 ⟨uo, uc, rfl, hbel⟩; have HV6 := Lib.hid (HV5.out.bel hbel); have HQ6 := Lib.hid (HQ5.out.bel hbel); have HB6 : Hid (Below w.heap.size w w6) := Lib.hid (HB5.out.trans (hbel.mono HB5.out.size)); have f6a := HV6.out.cell 0 rfl; have f6b := HV6.out.cell 1 rfl; have f6x := HV6.out.cell 6 rfl; have f6y := HV6.out.cell 7 rfl; have f6z := HV6.out.cell 8 rfl; have f6l := HV6.out.lt; clear hbel)
  | (go_at_call 77; (have mk := HB4); (with_reducible refine (KS.out _ (HRS.out _ HB4.out)).mono ?_); rintro _ w5 ⟨rfl, hbel⟩; have HV5 := Lib.hid (HV4.out.bel hbel); have HQ5 := Lib.hid (HQ4.out.bel hbel); have HB5 : Hid (Below w.heap.size w w5) := Lib.hid (HB4.out.trans (hbel.mono HB4.out.size)); have f5a := HV5.out.cell 0 rfl; have f5b := HV5.out.cell 1 rfl; have f5x := HV5.out.cell 6 rfl; have f5y := HV5.out.cell 7 rfl; have f5z := HV5.out.cell 8 rfl; have f5l := HV5.out.lt; clear hbel)
  | (go_at_call 66; (have mk := HB3); (with_reducible refine (KO.out _).mono ?_); rintro _ w4 ⟨ko, rfl, hko, hbel⟩; have HV4 := Lib.hid (HV3.out.bel hbel); have HQ4 := Lib.hid (HQ3.out.bel hbel); have HB4 : Hid (Below w.heap.size w w4) := Lib.hid (HB3.out.trans (hbel.mono HB3.out.size)); have f4a := HV4.out.cell 0 rfl; have f4b := HV4.out.cell 1 rfl; have f4x := HV4.out.cell 6 rfl; have f4y := HV4.out.cell 7 rfl; have f4z := HV4.out.cell 8 rfl; have f4l := HV4.out.lt; clear hbel)
  | (go_at_call 36; (have mk := HB2); (with_reducible refine (KF2.out _ (HRS.out _ HB2.out)).mono ?_); rintro _ w3 ⟨rfl, hbel⟩; have HV3 := Lib.hid (HV2.out.bel hbel); have HQ3 := Lib.hid (HQ2.out.bel hbel); have HB3 : Hid (Below w.heap.size w w3) := Lib.hid (HB2.out.trans (hbel.mono HB2.out.size)); have f3a := HV3.out.cell 0 rfl; have f3b := HV3.out.cell 1 rfl; have f3x := HV3.out.cell 6 rfl; have f3y := HV3.out.cell 7 rfl; have f3z := HV3.out.cell 8 rfl; have f3l := HV3.out.lt; have lf3 := (HB3.out.cell (p := ⟨b, o + j2 * 14 + 2, none⟩) HBL.out).trans HLF2.out; have bl3 := Nat.lt_of_lt_of_le HBL.out HB3.out.size; rw [HPL.out] at lf3; clear hbel)
  | (go_at_call 36; (have mk := HB1); (with_reducible refine (KF1.out _ (HRS.out _ HB1.out)).mono ?_); rintro _ w2 ⟨rfl, hbel⟩; have HV2 := Lib.hid (HV1.out.bel hbel); have HQ2 := Lib.hid (HQ1.out.bel hbel); have HB2 : Hid (Below w.heap.size w w2) := Lib.hid (HB1.out.trans (hbel.mono HB1.out.size)); have f2a := HV2.out.cell 0 rfl; have f2b := HV2.out.cell 1 rfl; have f2x := HV2.out.cell 6 rfl; have f2y := HV2.out.cell 7 rfl; have f2z := HV2.out.cell 8 rfl; have f2l := HV2.out.lt; clear hbel)
  | (go_at_call 76; (have mk := HB0); (with_reducible refine (KW.out _).mono ?_); rintro _ w1 ⟨rfl, hbel⟩; have HV1 := Lib.hid (HV0.out.bel hbel); have HQ1 := Lib.hid (HQ0.out.bel hbel); have HB1 : Hid (Below w.heap.size w w1) := Lib.hid (HB0.out.trans (hbel.mono HB0.out.size)); have f1a := HV1.out.cell 0 rfl; have f1b := HV1.out.cell 1 rfl; have f1x := HV1.out.cell 6 rfl; have f1y := HV1.out.cell 7 rfl; have f1z := HV1.out.cell 8 rfl; have f1l := HV1.out.lt; clear hbel)
  | (refine wpList_var_get rfl 54 _ rfl w.heap.size #[.int .i64 c.id, .int .i64 c.par, .bool c.leaf, .int .u64 c.ra, .int .u64 c.rb, .int .u64 c.rc, .int .u64 c.la, .int .u64 c.lb, .int .u64 c.lc, .int .u64 c.ua, .int .u64 c.ub, .int .u64 c.uc, .int .i64 c.pk, .int .i64 c.bt] _ HV0.out rfl Try.underlying54 rfl INF.out ?_))
 refine bodyPost_ret (v := .agg #[.slice po (L.length + 1) pc, .int .i64 0]) (results_var Try.results56 _ (w.heap.size + 1) rfl _ _ HVF.out Try.underlying59 rfl DINF.out) rfl ?_
 exact ⟨po, _, pc, rfl, HIL.out, rwv_only HPR.out HOF.out HPN.out, HBF.out⟩
theorem radd_ok0P {f : Int → Option Cls} {L : List Int} (I : TI f L) {c : Cls} (hi : CIn c) (n : Nat) (hn : L.length = n) (ao : Option Addr) (cap : Nat) (w : World) (hR : RwV crow 14 w ao (rowsX f L)) (hw : wrC c = 0) (hs : f c.id = none) (hl64 : L.length < 64) (hp0 : c.par ≠ 0) {p : Cls} (hp : f c.par = some p) (hplf : p.leaf = false) (hsh : sh1 c = false) (hd : (upl f 16 c.par).length < 16) :
  Calls Try.prog 56 #[.slice ao n cap, .agg #[.int .i64 c.id, .int .i64 c.par, .bool c.leaf, .int .u64 c.ra, .int .u64 c.rb, .int .u64 c.rc, .int .u64 c.la, .int .u64 c.lb, .int .u64 c.lc, .int .u64 c.ua, .int .u64 c.ub, .int .u64 c.uc, .int .i64 c.pk, .int .i64 c.bt]] w (DidP w 0 (upd f c.id c) (ins c.id L)) := by
 have hl : (rowsX f L).length = n := by rw [rowsX_len]; exact hn
 have hn64 : n ≤ 64 := by rw [← hn]; exact I.len
 have HLN := Lib.hid hn
 have p1 : (c.par == 0) = false := by simpa using hp0
 have p2 : (c.par != 0) = true := by simpa using hp0
 obtain ⟨j2, hj2, hf2, hc2⟩ := fidx_some I hp
 obtain ⟨b, o, rfl, hb, hra⟩ := hR j2 hj2
 rw [hc2] at hra
 have hlf2 := hra 2 _ rfl
 have HLF2 := Lib.hid hlf2
 have HBL := Lib.hid hb
 have hjn : j2 < n := by omega
 have p3 : decide ((j2 : Int) < 0) = false := decide_eq_false (by omega)
 have HPL : Hid (p.leaf = false) := Lib.hid hplf
 have KW := Lib.hid (fun z => by have := rwrong_c hi z; rw [hw] at this; exact this)
 have KF1 : Hid (∀ z, RwV crow 14 z (some ⟨b, o, none⟩) (rowsX f L) → Calls Try.prog 36 #[.slice (some ⟨b, o, none⟩) n cap, .int .i64 c.id] z fun ee w' => ee = .returned (.int .i64 (-1)) ∧ Below z.heap.size z w') := Lib.hid (fun z hz => by have := rfind_c (rowsX f L) n hl (by omega) c.id (some ⟨b, o, none⟩) cap z hz; rw [fidx_none I hs] at this; exact this)
 have q1 : ((n : Int) == 64) = false := by simp; omega
 have q2 : (n == 64) = false := by simp; omega
 have KF2 : Hid (∀ z, RwV crow 14 z (some ⟨b, o, none⟩) (rowsX f L) → Calls Try.prog 36 #[.slice (some ⟨b, o, none⟩) n cap, .int .i64 c.par] z fun ee w' => ee = .returned (.int .i64 (j2 : Int)) ∧ Below z.heap.size z w') := Lib.hid (fun z hz => by have := rfind_c (rowsX f L) n hl (by omega) c.par (some ⟨b, o, none⟩) cap z hz; rw [hf2] at this; exact this)
 have KO := Lib.hid (fun z => rof_c hi.la hi.lb hi.lc (r := false) (by unfold sh1 at hsh; exact hsh) z)
 obtain ⟨d, hdd⟩ : ∃ d, (upl f 16 c.par).length = d := ⟨_, rfl⟩
 rw [hdd] at hd
 have KU : Hid (∀ z, RwV crow 14 z (some ⟨b, o, none⟩) (rowsX f L) → Calls Try.prog 34 #[.slice (some ⟨b, o, none⟩) n cap, .int .i64 c.par] z fun e z' => ∃ uo uc, e = .returned (.slice uo d uc) ∧ Below z.heap.size z z') := Lib.hid (fun z hz => by
  refine (rup_c I n hn c.par hi.par (some ⟨b, o, none⟩) cap z hz).mono ?_
  rintro e z' ⟨v, rfl, hr, hb⟩
  rw [hdd] at hr
  obtain ⟨uo, uc, rfl⟩ := row_form hr
  exact ⟨uo, uc, rfl, hb⟩)
 have KP : Hid (∀ z, RwV crow 14 z (some ⟨b, o, none⟩) (rowsX f L) → Calls Try.prog 78 #[.slice (some ⟨b, o, none⟩) n cap, .agg #[.int .i64 c.id, .int .i64 c.par, .bool c.leaf, .int .u64 c.ra, .int .u64 c.rb, .int .u64 c.rc, .int .u64 c.la, .int .u64 c.lb, .int .u64 c.lc, .int .u64 c.ua, .int .u64 c.ub, .int .u64 c.uc, .int .i64 c.pk, .int .i64 c.bt]] z fun e z' => ∃ po pc, e = .returned (.slice po (L.length + 1) pc) ∧ RwV crow 14 z' po (rowsX (upd f c.id c) (ins c.id L)) ∧ (∀ q, po = some q → z.heap.size ≤ q.block ∧ True) ∧ Below z.heap.size z z') := Lib.hid (fun z hz => by
  refine (rput_c (rowsX f L) n hl (by omega) c (some ⟨b, o, none⟩) cap z hz).mono ?_
  rintro e z' ⟨v, rfl, hr, hb⟩
  rw [put_rows I c] at hr
  have h1 : (rowsX (upd f c.id c) (ins c.id L)).length = L.length + 1 := by rw [rowsX_len, ins_len (fun h => by have := (I.mem c.id).2 h; rw [hs] at this; cases this)]
  rw [h1] at hr
  obtain ⟨po, pc, rfl⟩ := row_form hr
  exact ⟨po, pc, rfl, own_rwv crow_len hr h1, fun q hq => ⟨(hr.lt _ (by rw [hq]; rfl)).1, trivial⟩, hb⟩)
 have hil : (ins c.id L).length = L.length + 1 := ins_len (fun h => by have := (I.mem c.id).2 h; rw [hs] at this; cases this)
 have HIL := Lib.hid hil
 have q3 : decide ((16 : Int) ≤ (d : Int)) = false := decide_eq_false (by omega)
 have q4 : decide (16 ≤ d) = false := decide_eq_false (by omega)
 have hA1 : Below w.heap.size w (w.alloc (.cells #[.int .i64 c.id, .int .i64 c.par, .bool c.leaf, .int .u64 c.ra, .int .u64 c.rb, .int .u64 c.rc, .int .u64 c.la, .int .u64 c.lb, .int .u64 c.lc, .int .u64 c.ua, .int .u64 c.ub, .int .u64 c.uc, .int .i64 c.pk, .int .i64 c.bt] 54)) := bub
 have hV1 : VR (w.alloc (.cells #[.int .i64 c.id, .int .i64 c.par, .bool c.leaf, .int .u64 c.ra, .int .u64 c.rb, .int .u64 c.rc, .int .u64 c.la, .int .u64 c.lb, .int .u64 c.lc, .int .u64 c.ua, .int .u64 c.ub, .int .u64 c.uc, .int .i64 c.pk, .int .i64 c.bt] 54)) w.heap.size 54 #[.int .i64 c.id, .int .i64 c.par, .bool c.leaf, .int .u64 c.ra, .int .u64 c.rb, .int .u64 c.rc, .int .u64 c.la, .int .u64 c.lb, .int .u64 c.lc, .int .u64 c.ua, .int .u64 c.ub, .int .u64 c.uc, .int .i64 c.pk, .int .i64 c.bt] := VR.new _ _ _
 have hQ0 : VR ((w.alloc (.cells #[.int .i64 c.id, .int .i64 c.par, .bool c.leaf, .int .u64 c.ra, .int .u64 c.rb, .int .u64 c.rc, .int .u64 c.la, .int .u64 c.lb, .int .u64 c.lc, .int .u64 c.ua, .int .u64 c.ub, .int .u64 c.uc, .int .i64 c.pk, .int .i64 c.bt] 54)).alloc (.cells #[.slice none 0 0, .int .i64 0] 59)) (w.heap.size + 1) 59 #[.slice none 0 0, .int .i64 0] := by have := VR.new (w.alloc (.cells #[.int .i64 c.id, .int .i64 c.par, .bool c.leaf, .int .u64 c.ra, .int .u64 c.rb, .int .u64 c.rc, .int .u64 c.la, .int .u64 c.lb, .int .u64 c.lc, .int .u64 c.ua, .int .u64 c.ub, .int .u64 c.uc, .int .i64 c.pk, .int .i64 c.bt] 54)) #[.slice none 0 0, .int .i64 0] 59; simpa using this
 have hB0 : Below w.heap.size w ((w.alloc (.cells #[.int .i64 c.id, .int .i64 c.par, .bool c.leaf, .int .u64 c.ra, .int .u64 c.rb, .int .u64 c.rc, .int .u64 c.la, .int .u64 c.lb, .int .u64 c.lc, .int .u64 c.ua, .int .u64 c.ub, .int .u64 c.uc, .int .i64 c.pk, .int .i64 c.bt] 54)).alloc (.cells #[.slice none 0 0, .int .i64 0] 59)) := bub
 have HV0 := Lib.hid (hV1.alloc (.cells #[.slice none 0 0, .int .i64 0] 59))
 have HQ0 := Lib.hid hQ0
 have HB0 := Lib.hid hB0
 have INF := Lib.hid cl_info
 have DINF := Lib.hid dd_info
 have DONE := Lib.hid dd_one
 have HRS := Lib.hid (fun (z : World) (h : Below w.heap.size w z) => hR.below h)
 clear hA1 hV1 hQ0 hB0
 clear I hi hn hl hR hw hs hl64 hp0 hp hf2 hc2 hra hlf2 hplf hb hj2 hsh hd hdd hil
 go_enter Try.func56, Try.ntmps56
 go_wp2_with (first
  | go_guarded
  | (refine wpList_var_set rfl 59 _ _ rfl (w.heap.size + 1) #[.slice none 0 0, .int .i64 0] #[.slice po (L.length + 1) pc, .int .i64 0] HQ7.out rfl rfl DINF.out rfl (DONE.out _ _ _ _) ?_; intro w20 hs20 ho20 hv20; have HVF := Lib.hid hv20; have HBF : Hid (Below w.heap.size w w20) := Lib.hid (HB7.out.trans ⟨ho20.1, ho20.2, ho20.3, ho20.4, fun k hk => ho20.5 k (Nat.lt_of_lt_of_le hk HB7.out.size) (by omega)⟩); have HOF := Lib.hid ho20; clear ho20 hv20)
  | (go_at_call 78; (have mk := HB6); (with_reducible refine (KP.out _ (HRS.out _ HB6.out)).mono ?_); rintro _ w7 ⟨po, pc, rfl, hpr, hpn, hbel⟩; have HPR := Lib.hid hpr; have HPN : Hid (∀ q, po = some q → ¬ q.block = w.heap.size + 1) := Lib.hid (fun q hq g => by have h1 := (hpn q hq).1; have h2 := HQ6.out.lt; omega); have HV7 := Lib.hid (HV6.out.bel hbel); have HQ7 := Lib.hid (HQ6.out.bel hbel); have HB7 : Hid (Below w.heap.size w w7) := Lib.hid (HB6.out.trans (hbel.mono HB6.out.size)); have f7a := HV7.out.cell 0 rfl; have f7b := HV7.out.cell 1 rfl; have f7x := HV7.out.cell 6 rfl; have f7y := HV7.out.cell 7 rfl; have f7z := HV7.out.cell 8 rfl; have f7l := HV7.out.lt; clear hbel hpr hpn)
  | (refine wpList_var_get rfl 54 _ rfl w.heap.size #[.int .i64 c.id, .int .i64 c.par, .bool c.leaf, .int .u64 c.ra, .int .u64 c.rb, .int .u64 c.rc, .int .u64 c.la, .int .u64 c.lb, .int .u64 c.lc, .int .u64 c.ua, .int .u64 c.ub, .int .u64 c.uc, .int .i64 c.pk, .int .i64 c.bt] _ HV6.out rfl Try.underlying54 rfl INF.out ?_)
  | (go_at_call 34; (have mk := HB4); (with_reducible refine (KU.out _ (HRS.out _ HB4.out)).mono ?_); rintro _ w6 ⟨uo, uc, rfl, hbel⟩; have HV6 := Lib.hid (HV4.out.bel hbel); have HQ6 := Lib.hid (HQ4.out.bel hbel); have HB6 : Hid (Below w.heap.size w w6) := Lib.hid (HB4.out.trans (hbel.mono HB4.out.size)); have f6a := HV6.out.cell 0 rfl; have f6b := HV6.out.cell 1 rfl; have f6x := HV6.out.cell 6 rfl; have f6y := HV6.out.cell 7 rfl; have f6z := HV6.out.cell 8 rfl; have f6l := HV6.out.lt; clear hbel)
  | (go_at_call 66; (have mk := HB3); (with_reducible refine (KO.out _).mono ?_); rintro _ w4 ⟨ko, rfl, hko, hbel⟩; have HV4 := Lib.hid (HV3.out.bel hbel); have HQ4 := Lib.hid (HQ3.out.bel hbel); have HB4 : Hid (Below w.heap.size w w4) := Lib.hid (HB3.out.trans (hbel.mono HB3.out.size)); have f4a := HV4.out.cell 0 rfl; have f4b := HV4.out.cell 1 rfl; have f4x := HV4.out.cell 6 rfl; have f4y := HV4.out.cell 7 rfl; have f4z := HV4.out.cell 8 rfl; have f4l := HV4.out.lt; clear hbel)
  | (go_at_call 36; (have mk := HB2); (with_reducible refine (KF2.out _ (HRS.out _ HB2.out)).mono ?_); rintro _ w3 ⟨rfl, hbel⟩; have HV3 := Lib.hid (HV2.out.bel hbel); have HQ3 := Lib.hid (HQ2.out.bel hbel); have HB3 : Hid (Below w.heap.size w w3) := Lib.hid (HB2.out.trans (hbel.mono HB2.out.size)); have f3a := HV3.out.cell 0 rfl; have f3b := HV3.out.cell 1 rfl; have f3x := HV3.out.cell 6 rfl; have f3y := HV3.out.cell 7 rfl; have f3z := HV3.out.cell 8 rfl; have f3l := HV3.out.lt; have lf3 := (HB3.out.cell (p := ⟨b, o + j2 * 14 + 2, none⟩) HBL.out).trans HLF2.out; have bl3 := Nat.lt_of_lt_of_le HBL.out HB3.out.size; rw [HPL.out] at lf3; clear hbel)
  | (go_at_call 36; (have mk := HB1); (with_reducible refine (KF1.out _ (HRS.out _ HB1.out)).mono ?_); rintro _ w2 ⟨rfl, hbel⟩; have HV2 := Lib.hid (HV1.out.bel hbel); have HQ2 := Lib.hid (HQ1.out.bel hbel); have HB2 : Hid (Below w.heap.size w w2) := Lib.hid (HB1.out.trans (hbel.mono HB1.out.size)); have f2a := HV2.out.cell 0 rfl; have f2b := HV2.out.cell 1 rfl; have f2x := HV2.out.cell 6 rfl; have f2y := HV2.out.cell 7 rfl; have f2z := HV2.out.cell 8 rfl; have f2l := HV2.out.lt; clear hbel)
  | (go_at_call 76; (have mk := HB0); (with_reducible refine (KW.out _).mono ?_); rintro _ w1 ⟨rfl, hbel⟩; have HV1 := Lib.hid (HV0.out.bel hbel); have HQ1 := Lib.hid (HQ0.out.bel hbel); have HB1 : Hid (Below w.heap.size w w1) := Lib.hid (HB0.out.trans (hbel.mono HB0.out.size)); have f1a := HV1.out.cell 0 rfl; have f1b := HV1.out.cell 1 rfl; have f1x := HV1.out.cell 6 rfl; have f1y := HV1.out.cell 7 rfl; have f1z := HV1.out.cell 8 rfl; have f1l := HV1.out.lt; clear hbel)
  | (refine wpList_var_get rfl 54 _ rfl w.heap.size #[.int .i64 c.id, .int .i64 c.par, .bool c.leaf, .int .u64 c.ra, .int .u64 c.rb, .int .u64 c.rc, .int .u64 c.la, .int .u64 c.lb, .int .u64 c.lc, .int .u64 c.ua, .int .u64 c.ub, .int .u64 c.uc, .int .i64 c.pk, .int .i64 c.bt] _ HV0.out rfl Try.underlying54 rfl INF.out ?_))
 refine bodyPost_ret (v := .agg #[.slice po (L.length + 1) pc, .int .i64 0]) (results_var Try.results56 _ (w.heap.size + 1) rfl _ _ HVF.out Try.underlying59 rfl DINF.out) rfl ?_
 exact ⟨po, _, pc, rfl, HIL.out, rwv_only HPR.out HOF.out HPN.out, HBF.out⟩
theorem radd_ok1Z {f : Int → Option Cls} {L : List Int} (I : TI f L) {c : Cls} (hi : CIn c) (n : Nat) (hn : L.length = n) (ao : Option Addr) (cap : Nat) (w : World) (hR : RwV crow 14 w ao (rowsX f L)) (hw : wrC c = 0) (hs : f c.id = none) (hl64 : L.length < 64) (hp0 : c.par = 0) (hsh : sh1 c = true) :
  Calls Try.prog 56 #[.slice ao n cap, .agg #[.int .i64 c.id, .int .i64 c.par, .bool c.leaf, .int .u64 c.ra, .int .u64 c.rb, .int .u64 c.rc, .int .u64 c.la, .int .u64 c.lb, .int .u64 c.lc, .int .u64 c.ua, .int .u64 c.ub, .int .u64 c.uc, .int .i64 c.pk, .int .i64 c.bt]] w (DidP w 0 (upd f c.id c) (ins c.id L)) := by
 have hl : (rowsX f L).length = n := by rw [rowsX_len]; exact hn
 have hn64 : n ≤ 64 := by rw [← hn]; exact I.len
 have HLN := Lib.hid hn
 have HP0 := Lib.hid hp0
 have hd : (upl f 16 0).length < 16 := by rw [upl_none I.zero]; decide
 have KW := Lib.hid (fun z => by have := rwrong_c hi z; rw [hw] at this; exact this)
 have KF1 : Hid (∀ z, RwV crow 14 z ao (rowsX f L) → Calls Try.prog 36 #[.slice ao n cap, .int .i64 c.id] z fun ee w' => ee = .returned (.int .i64 (-1)) ∧ Below z.heap.size z w') := Lib.hid (fun z hz => by have := rfind_c (rowsX f L) n hl (by omega) c.id ao cap z hz; rw [fidx_none I hs] at this; exact this)
 have q1 : ((n : Int) == 64) = false := by simp; omega
 have q2 : (n == 64) = false := by simp; omega
 have KF2 : Hid (∀ z, RwV crow 14 z ao (rowsX f L) → Calls Try.prog 36 #[.slice ao n cap, .int .i64 0] z fun ee w' => ee = .returned (.int .i64 (-1)) ∧ Below z.heap.size z w') := Lib.hid (fun z hz => by have := rfind_c (rowsX f L) n hl (by omega) 0 ao cap z hz; rw [fidx_none I I.zero] at this; exact this)
 have KO := Lib.hid (fun z => rof_c hi.la hi.lb hi.lc (r := true) (by unfold sh1 at hsh; exact hsh) z)
 have KS : Hid (∀ z, RwV crow 14 z ao (rowsX f L) → Calls Try.prog 77 #[.slice ao n cap, .int .i64 0] z fun ee w' => ee = .returned (.bool true) ∧ Below z.heap.size z w') := Lib.hid (fun z hz => by have := rshares_c I n hn 0 ao cap z hz; rw [(rfl : shA f 0 = true)] at this; exact this)
 obtain ⟨d, hdd⟩ : ∃ d, (upl f 16 0).length = d := ⟨_, rfl⟩
 rw [hdd] at hd
 have KU : Hid (∀ z, RwV crow 14 z ao (rowsX f L) → Calls Try.prog 34 #[.slice ao n cap, .int .i64 0] z fun e z' => ∃ uo uc, e = .returned (.slice uo d uc) ∧ Below z.heap.size z z') := Lib.hid (fun z hz => by
  refine (rup_c I n hn 0 rfl ao cap z hz).mono ?_
  rintro e z' ⟨v, rfl, hr, hb⟩
  rw [hdd] at hr
  obtain ⟨uo, uc, rfl⟩ := row_form hr
  exact ⟨uo, uc, rfl, hb⟩)
 have KP : Hid (∀ z, RwV crow 14 z ao (rowsX f L) → Calls Try.prog 78 #[.slice ao n cap, .agg #[.int .i64 c.id, .int .i64 c.par, .bool c.leaf, .int .u64 c.ra, .int .u64 c.rb, .int .u64 c.rc, .int .u64 c.la, .int .u64 c.lb, .int .u64 c.lc, .int .u64 c.ua, .int .u64 c.ub, .int .u64 c.uc, .int .i64 c.pk, .int .i64 c.bt]] z fun e z' => ∃ po pc, e = .returned (.slice po (L.length + 1) pc) ∧ RwV crow 14 z' po (rowsX (upd f c.id c) (ins c.id L)) ∧ (∀ q, po = some q → z.heap.size ≤ q.block ∧ True) ∧ Below z.heap.size z z') := Lib.hid (fun z hz => by
  refine (rput_c (rowsX f L) n hl (by omega) c ao cap z hz).mono ?_
  rintro e z' ⟨v, rfl, hr, hb⟩
  rw [put_rows I c] at hr
  have h1 : (rowsX (upd f c.id c) (ins c.id L)).length = L.length + 1 := by rw [rowsX_len, ins_len (fun h => by have := (I.mem c.id).2 h; rw [hs] at this; cases this)]
  rw [h1] at hr
  obtain ⟨po, pc, rfl⟩ := row_form hr
  exact ⟨po, pc, rfl, own_rwv crow_len hr h1, fun q hq => ⟨(hr.lt _ (by rw [hq]; rfl)).1, trivial⟩, hb⟩)
 have hil : (ins c.id L).length = L.length + 1 := ins_len (fun h => by have := (I.mem c.id).2 h; rw [hs] at this; cases this)
 have HIL := Lib.hid hil
 have q3 : decide ((16 : Int) ≤ (d : Int)) = false := decide_eq_false (by omega)
 have q4 : decide (16 ≤ d) = false := decide_eq_false (by omega)
 have hA1 : Below w.heap.size w (w.alloc (.cells #[.int .i64 c.id, .int .i64 c.par, .bool c.leaf, .int .u64 c.ra, .int .u64 c.rb, .int .u64 c.rc, .int .u64 c.la, .int .u64 c.lb, .int .u64 c.lc, .int .u64 c.ua, .int .u64 c.ub, .int .u64 c.uc, .int .i64 c.pk, .int .i64 c.bt] 54)) := bub
 have hV1 : VR (w.alloc (.cells #[.int .i64 c.id, .int .i64 c.par, .bool c.leaf, .int .u64 c.ra, .int .u64 c.rb, .int .u64 c.rc, .int .u64 c.la, .int .u64 c.lb, .int .u64 c.lc, .int .u64 c.ua, .int .u64 c.ub, .int .u64 c.uc, .int .i64 c.pk, .int .i64 c.bt] 54)) w.heap.size 54 #[.int .i64 c.id, .int .i64 c.par, .bool c.leaf, .int .u64 c.ra, .int .u64 c.rb, .int .u64 c.rc, .int .u64 c.la, .int .u64 c.lb, .int .u64 c.lc, .int .u64 c.ua, .int .u64 c.ub, .int .u64 c.uc, .int .i64 c.pk, .int .i64 c.bt] := VR.new _ _ _
 have hQ0 : VR ((w.alloc (.cells #[.int .i64 c.id, .int .i64 c.par, .bool c.leaf, .int .u64 c.ra, .int .u64 c.rb, .int .u64 c.rc, .int .u64 c.la, .int .u64 c.lb, .int .u64 c.lc, .int .u64 c.ua, .int .u64 c.ub, .int .u64 c.uc, .int .i64 c.pk, .int .i64 c.bt] 54)).alloc (.cells #[.slice none 0 0, .int .i64 0] 59)) (w.heap.size + 1) 59 #[.slice none 0 0, .int .i64 0] := by have := VR.new (w.alloc (.cells #[.int .i64 c.id, .int .i64 c.par, .bool c.leaf, .int .u64 c.ra, .int .u64 c.rb, .int .u64 c.rc, .int .u64 c.la, .int .u64 c.lb, .int .u64 c.lc, .int .u64 c.ua, .int .u64 c.ub, .int .u64 c.uc, .int .i64 c.pk, .int .i64 c.bt] 54)) #[.slice none 0 0, .int .i64 0] 59; simpa using this
 have hB0 : Below w.heap.size w ((w.alloc (.cells #[.int .i64 c.id, .int .i64 c.par, .bool c.leaf, .int .u64 c.ra, .int .u64 c.rb, .int .u64 c.rc, .int .u64 c.la, .int .u64 c.lb, .int .u64 c.lc, .int .u64 c.ua, .int .u64 c.ub, .int .u64 c.uc, .int .i64 c.pk, .int .i64 c.bt] 54)).alloc (.cells #[.slice none 0 0, .int .i64 0] 59)) := bub
 have HV0 := Lib.hid (hV1.alloc (.cells #[.slice none 0 0, .int .i64 0] 59))
 have HQ0 := Lib.hid hQ0
 have HB0 := Lib.hid hB0
 have INF := Lib.hid cl_info
 have DINF := Lib.hid dd_info
 have DONE := Lib.hid dd_one
 have HRS := Lib.hid (fun (z : World) (h : Below w.heap.size w z) => hR.below h)
 clear hA1 hV1 hQ0 hB0
 clear I hi hn hl hR hw hs hl64 hp0 hsh hd hdd hil
 go_enter Try.func56, Try.ntmps56
 go_wp2_with (first
  | go_guarded
  | (refine wpList_var_set rfl 59 _ _ rfl (w.heap.size + 1) #[.slice none 0 0, .int .i64 0] #[.slice po (L.length + 1) pc, .int .i64 0] HQ7.out rfl rfl DINF.out rfl (DONE.out _ _ _ _) ?_; intro w20 hs20 ho20 hv20; have HVF := Lib.hid hv20; have HBF : Hid (Below w.heap.size w w20) := Lib.hid (HB7.out.trans ⟨ho20.1, ho20.2, ho20.3, ho20.4, fun k hk => ho20.5 k (Nat.lt_of_lt_of_le hk HB7.out.size) (by omega)⟩); have HOF := Lib.hid ho20; clear ho20 hv20)
  | (go_at_call 78; (have mk := HB6); (with_reducible refine (KP.out _ (HRS.out _ HB6.out)).mono ?_); rintro _ w7 ⟨po, pc, rfl, hpr, hpn, hbel⟩; have HPR := Lib.hid hpr; have HPN : Hid (∀ q, po = some q → ¬ q.block = w.heap.size + 1) := Lib.hid (fun q hq g => by have h1 := (hpn q hq).1; have h2 := HQ6.out.lt; omega); have HV7 := Lib.hid (HV6.out.bel hbel); have HQ7 := Lib.hid (HQ6.out.bel hbel); have HB7 : Hid (Below w.heap.size w w7) := Lib.hid (HB6.out.trans (hbel.mono HB6.out.size)); have f7a := HV7.out.cell 0 rfl; have f7b := HV7.out.cell 1 rfl; have f7x := HV7.out.cell 6 rfl; have f7y := HV7.out.cell 7 rfl; have f7z := HV7.out.cell 8 rfl; have f7l := HV7.out.lt; clear hbel hpr hpn)
  | (refine wpList_var_get rfl 54 _ rfl w.heap.size #[.int .i64 c.id, .int .i64 c.par, .bool c.leaf, .int .u64 c.ra, .int .u64 c.rb, .int .u64 c.rc, .int .u64 c.la, .int .u64 c.lb, .int .u64 c.lc, .int .u64 c.ua, .int .u64 c.ub, .int .u64 c.uc, .int .i64 c.pk, .int .i64 c.bt] _ HV6.out rfl Try.underlying54 rfl INF.out ?_)
  | (go_at_call 34; (have mk := HB5); (with_reducible refine (KU.out _ (HRS.out _ HB5.out)).mono ?_); rintro _ w6 ⟨uo, uc, rfl, hbel⟩; have HV6 := Lib.hid (HV5.out.bel hbel); have HQ6 := Lib.hid (HQ5.out.bel hbel); have HB6 : Hid (Below w.heap.size w w6) := Lib.hid (HB5.out.trans (hbel.mono HB5.out.size)); have f6a := HV6.out.cell 0 rfl; have f6b := HV6.out.cell 1 rfl; rw [HP0.out] at f6b; have f6x := HV6.out.cell 6 rfl; have f6y := HV6.out.cell 7 rfl; have f6z := HV6.out.cell 8 rfl; have f6l := HV6.out.lt; clear hbel)
  | (go_at_call 77; (have mk := HB4); (with_reducible refine (KS.out _ (HRS.out _ HB4.out)).mono ?_); rintro _ w5 ⟨rfl, hbel⟩; have HV5 := Lib.hid (HV4.out.bel hbel); have HQ5 := Lib.hid (HQ4.out.bel hbel); have HB5 : Hid (Below w.heap.size w w5) := Lib.hid (HB4.out.trans (hbel.mono HB4.out.size)); have f5a := HV5.out.cell 0 rfl; have f5b := HV5.out.cell 1 rfl; rw [HP0.out] at f5b; have f5x := HV5.out.cell 6 rfl; have f5y := HV5.out.cell 7 rfl; have f5z := HV5.out.cell 8 rfl; have f5l := HV5.out.lt; clear hbel)
  | (go_at_call 66; (have mk := HB3); (with_reducible refine (KO.out _).mono ?_); rintro _ w4 ⟨ko, rfl, hko, hbel⟩; have HV4 := Lib.hid (HV3.out.bel hbel); have HQ4 := Lib.hid (HQ3.out.bel hbel); have HB4 : Hid (Below w.heap.size w w4) := Lib.hid (HB3.out.trans (hbel.mono HB3.out.size)); have f4a := HV4.out.cell 0 rfl; have f4b := HV4.out.cell 1 rfl; rw [HP0.out] at f4b; have f4x := HV4.out.cell 6 rfl; have f4y := HV4.out.cell 7 rfl; have f4z := HV4.out.cell 8 rfl; have f4l := HV4.out.lt; clear hbel)
  | (go_at_call 36; (have mk := HB2); (with_reducible refine (KF2.out _ (HRS.out _ HB2.out)).mono ?_); rintro _ w3 ⟨rfl, hbel⟩; have HV3 := Lib.hid (HV2.out.bel hbel); have HQ3 := Lib.hid (HQ2.out.bel hbel); have HB3 : Hid (Below w.heap.size w w3) := Lib.hid (HB2.out.trans (hbel.mono HB2.out.size)); have f3a := HV3.out.cell 0 rfl; have f3b := HV3.out.cell 1 rfl; rw [HP0.out] at f3b; have f3x := HV3.out.cell 6 rfl; have f3y := HV3.out.cell 7 rfl; have f3z := HV3.out.cell 8 rfl; have f3l := HV3.out.lt; clear hbel)
  | (go_at_call 36; (have mk := HB1); (with_reducible refine (KF1.out _ (HRS.out _ HB1.out)).mono ?_); rintro _ w2 ⟨rfl, hbel⟩; have HV2 := Lib.hid (HV1.out.bel hbel); have HQ2 := Lib.hid (HQ1.out.bel hbel); have HB2 : Hid (Below w.heap.size w w2) := Lib.hid (HB1.out.trans (hbel.mono HB1.out.size)); have f2a := HV2.out.cell 0 rfl; have f2b := HV2.out.cell 1 rfl; rw [HP0.out] at f2b; have f2x := HV2.out.cell 6 rfl; have f2y := HV2.out.cell 7 rfl; have f2z := HV2.out.cell 8 rfl; have f2l := HV2.out.lt; clear hbel)
  | (go_at_call 76; (have mk := HB0); (with_reducible refine (KW.out _).mono ?_); rintro _ w1 ⟨rfl, hbel⟩; have HV1 := Lib.hid (HV0.out.bel hbel); have HQ1 := Lib.hid (HQ0.out.bel hbel); have HB1 : Hid (Below w.heap.size w w1) := Lib.hid (HB0.out.trans (hbel.mono HB0.out.size)); have f1a := HV1.out.cell 0 rfl; have f1b := HV1.out.cell 1 rfl; rw [HP0.out] at f1b; have f1x := HV1.out.cell 6 rfl; have f1y := HV1.out.cell 7 rfl; have f1z := HV1.out.cell 8 rfl; have f1l := HV1.out.lt; clear hbel)
  | (refine wpList_var_get rfl 54 _ rfl w.heap.size #[.int .i64 c.id, .int .i64 c.par, .bool c.leaf, .int .u64 c.ra, .int .u64 c.rb, .int .u64 c.rc, .int .u64 c.la, .int .u64 c.lb, .int .u64 c.lc, .int .u64 c.ua, .int .u64 c.ub, .int .u64 c.uc, .int .i64 c.pk, .int .i64 c.bt] _ HV0.out rfl Try.underlying54 rfl INF.out ?_))
 refine bodyPost_ret (v := .agg #[.slice po (L.length + 1) pc, .int .i64 0]) (results_var Try.results56 _ (w.heap.size + 1) rfl _ _ HVF.out Try.underlying59 rfl DINF.out) rfl ?_
 exact ⟨po, _, pc, rfl, HIL.out, rwv_only HPR.out HOF.out HPN.out, HBF.out⟩
theorem radd_ok0Z {f : Int → Option Cls} {L : List Int} (I : TI f L) {c : Cls} (hi : CIn c) (n : Nat) (hn : L.length = n) (ao : Option Addr) (cap : Nat) (w : World) (hR : RwV crow 14 w ao (rowsX f L)) (hw : wrC c = 0) (hs : f c.id = none) (hl64 : L.length < 64) (hp0 : c.par = 0) (hsh : sh1 c = false) :
  Calls Try.prog 56 #[.slice ao n cap, .agg #[.int .i64 c.id, .int .i64 c.par, .bool c.leaf, .int .u64 c.ra, .int .u64 c.rb, .int .u64 c.rc, .int .u64 c.la, .int .u64 c.lb, .int .u64 c.lc, .int .u64 c.ua, .int .u64 c.ub, .int .u64 c.uc, .int .i64 c.pk, .int .i64 c.bt]] w (DidP w 0 (upd f c.id c) (ins c.id L)) := by
 have hl : (rowsX f L).length = n := by rw [rowsX_len]; exact hn
 have hn64 : n ≤ 64 := by rw [← hn]; exact I.len
 have HLN := Lib.hid hn
 have HP0 := Lib.hid hp0
 have hd : (upl f 16 0).length < 16 := by rw [upl_none I.zero]; decide
 have KW := Lib.hid (fun z => by have := rwrong_c hi z; rw [hw] at this; exact this)
 have KF1 : Hid (∀ z, RwV crow 14 z ao (rowsX f L) → Calls Try.prog 36 #[.slice ao n cap, .int .i64 c.id] z fun ee w' => ee = .returned (.int .i64 (-1)) ∧ Below z.heap.size z w') := Lib.hid (fun z hz => by have := rfind_c (rowsX f L) n hl (by omega) c.id ao cap z hz; rw [fidx_none I hs] at this; exact this)
 have q1 : ((n : Int) == 64) = false := by simp; omega
 have q2 : (n == 64) = false := by simp; omega
 have KF2 : Hid (∀ z, RwV crow 14 z ao (rowsX f L) → Calls Try.prog 36 #[.slice ao n cap, .int .i64 0] z fun ee w' => ee = .returned (.int .i64 (-1)) ∧ Below z.heap.size z w') := Lib.hid (fun z hz => by have := rfind_c (rowsX f L) n hl (by omega) 0 ao cap z hz; rw [fidx_none I I.zero] at this; exact this)
 have KO := Lib.hid (fun z => rof_c hi.la hi.lb hi.lc (r := false) (by unfold sh1 at hsh; exact hsh) z)
 obtain ⟨d, hdd⟩ : ∃ d, (upl f 16 0).length = d := ⟨_, rfl⟩
 rw [hdd] at hd
 have KU : Hid (∀ z, RwV crow 14 z ao (rowsX f L) → Calls Try.prog 34 #[.slice ao n cap, .int .i64 0] z fun e z' => ∃ uo uc, e = .returned (.slice uo d uc) ∧ Below z.heap.size z z') := Lib.hid (fun z hz => by
  refine (rup_c I n hn 0 rfl ao cap z hz).mono ?_
  rintro e z' ⟨v, rfl, hr, hb⟩
  rw [hdd] at hr
  obtain ⟨uo, uc, rfl⟩ := row_form hr
  exact ⟨uo, uc, rfl, hb⟩)
 have KP : Hid (∀ z, RwV crow 14 z ao (rowsX f L) → Calls Try.prog 78 #[.slice ao n cap, .agg #[.int .i64 c.id, .int .i64 c.par, .bool c.leaf, .int .u64 c.ra, .int .u64 c.rb, .int .u64 c.rc, .int .u64 c.la, .int .u64 c.lb, .int .u64 c.lc, .int .u64 c.ua, .int .u64 c.ub, .int .u64 c.uc, .int .i64 c.pk, .int .i64 c.bt]] z fun e z' => ∃ po pc, e = .returned (.slice po (L.length + 1) pc) ∧ RwV crow 14 z' po (rowsX (upd f c.id c) (ins c.id L)) ∧ (∀ q, po = some q → z.heap.size ≤ q.block ∧ True) ∧ Below z.heap.size z z') := Lib.hid (fun z hz => by
  refine (rput_c (rowsX f L) n hl (by omega) c ao cap z hz).mono ?_
  rintro e z' ⟨v, rfl, hr, hb⟩
  rw [put_rows I c] at hr
  have h1 : (rowsX (upd f c.id c) (ins c.id L)).length = L.length + 1 := by rw [rowsX_len, ins_len (fun h => by have := (I.mem c.id).2 h; rw [hs] at this; cases this)]
  rw [h1] at hr
  obtain ⟨po, pc, rfl⟩ := row_form hr
  exact ⟨po, pc, rfl, own_rwv crow_len hr h1, fun q hq => ⟨(hr.lt _ (by rw [hq]; rfl)).1, trivial⟩, hb⟩)
 have hil : (ins c.id L).length = L.length + 1 := ins_len (fun h => by have := (I.mem c.id).2 h; rw [hs] at this; cases this)
 have HIL := Lib.hid hil
 have q3 : decide ((16 : Int) ≤ (d : Int)) = false := decide_eq_false (by omega)
 have q4 : decide (16 ≤ d) = false := decide_eq_false (by omega)
 have hA1 : Below w.heap.size w (w.alloc (.cells #[.int .i64 c.id, .int .i64 c.par, .bool c.leaf, .int .u64 c.ra, .int .u64 c.rb, .int .u64 c.rc, .int .u64 c.la, .int .u64 c.lb, .int .u64 c.lc, .int .u64 c.ua, .int .u64 c.ub, .int .u64 c.uc, .int .i64 c.pk, .int .i64 c.bt] 54)) := bub
 have hV1 : VR (w.alloc (.cells #[.int .i64 c.id, .int .i64 c.par, .bool c.leaf, .int .u64 c.ra, .int .u64 c.rb, .int .u64 c.rc, .int .u64 c.la, .int .u64 c.lb, .int .u64 c.lc, .int .u64 c.ua, .int .u64 c.ub, .int .u64 c.uc, .int .i64 c.pk, .int .i64 c.bt] 54)) w.heap.size 54 #[.int .i64 c.id, .int .i64 c.par, .bool c.leaf, .int .u64 c.ra, .int .u64 c.rb, .int .u64 c.rc, .int .u64 c.la, .int .u64 c.lb, .int .u64 c.lc, .int .u64 c.ua, .int .u64 c.ub, .int .u64 c.uc, .int .i64 c.pk, .int .i64 c.bt] := VR.new _ _ _
 have hQ0 : VR ((w.alloc (.cells #[.int .i64 c.id, .int .i64 c.par, .bool c.leaf, .int .u64 c.ra, .int .u64 c.rb, .int .u64 c.rc, .int .u64 c.la, .int .u64 c.lb, .int .u64 c.lc, .int .u64 c.ua, .int .u64 c.ub, .int .u64 c.uc, .int .i64 c.pk, .int .i64 c.bt] 54)).alloc (.cells #[.slice none 0 0, .int .i64 0] 59)) (w.heap.size + 1) 59 #[.slice none 0 0, .int .i64 0] := by have := VR.new (w.alloc (.cells #[.int .i64 c.id, .int .i64 c.par, .bool c.leaf, .int .u64 c.ra, .int .u64 c.rb, .int .u64 c.rc, .int .u64 c.la, .int .u64 c.lb, .int .u64 c.lc, .int .u64 c.ua, .int .u64 c.ub, .int .u64 c.uc, .int .i64 c.pk, .int .i64 c.bt] 54)) #[.slice none 0 0, .int .i64 0] 59; simpa using this
 have hB0 : Below w.heap.size w ((w.alloc (.cells #[.int .i64 c.id, .int .i64 c.par, .bool c.leaf, .int .u64 c.ra, .int .u64 c.rb, .int .u64 c.rc, .int .u64 c.la, .int .u64 c.lb, .int .u64 c.lc, .int .u64 c.ua, .int .u64 c.ub, .int .u64 c.uc, .int .i64 c.pk, .int .i64 c.bt] 54)).alloc (.cells #[.slice none 0 0, .int .i64 0] 59)) := bub
 have HV0 := Lib.hid (hV1.alloc (.cells #[.slice none 0 0, .int .i64 0] 59))
 have HQ0 := Lib.hid hQ0
 have HB0 := Lib.hid hB0
 have INF := Lib.hid cl_info
 have DINF := Lib.hid dd_info
 have DONE := Lib.hid dd_one
 have HRS := Lib.hid (fun (z : World) (h : Below w.heap.size w z) => hR.below h)
 clear hA1 hV1 hQ0 hB0
 clear I hi hn hl hR hw hs hl64 hp0 hsh hd hdd hil
 go_enter Try.func56, Try.ntmps56
 go_wp2_with (first
  | go_guarded
  | (refine wpList_var_set rfl 59 _ _ rfl (w.heap.size + 1) #[.slice none 0 0, .int .i64 0] #[.slice po (L.length + 1) pc, .int .i64 0] HQ7.out rfl rfl DINF.out rfl (DONE.out _ _ _ _) ?_; intro w20 hs20 ho20 hv20; have HVF := Lib.hid hv20; have HBF : Hid (Below w.heap.size w w20) := Lib.hid (HB7.out.trans ⟨ho20.1, ho20.2, ho20.3, ho20.4, fun k hk => ho20.5 k (Nat.lt_of_lt_of_le hk HB7.out.size) (by omega)⟩); have HOF := Lib.hid ho20; clear ho20 hv20)
  | (go_at_call 78; (have mk := HB6); (with_reducible refine (KP.out _ (HRS.out _ HB6.out)).mono ?_); rintro _ w7 ⟨po, pc, rfl, hpr, hpn, hbel⟩; have HPR := Lib.hid hpr; have HPN : Hid (∀ q, po = some q → ¬ q.block = w.heap.size + 1) := Lib.hid (fun q hq g => by have h1 := (hpn q hq).1; have h2 := HQ6.out.lt; omega); have HV7 := Lib.hid (HV6.out.bel hbel); have HQ7 := Lib.hid (HQ6.out.bel hbel); have HB7 : Hid (Below w.heap.size w w7) := Lib.hid (HB6.out.trans (hbel.mono HB6.out.size)); have f7a := HV7.out.cell 0 rfl; have f7b := HV7.out.cell 1 rfl; have f7x := HV7.out.cell 6 rfl; have f7y := HV7.out.cell 7 rfl; have f7z := HV7.out.cell 8 rfl; have f7l := HV7.out.lt; clear hbel hpr hpn)
  | (refine wpList_var_get rfl 54 _ rfl w.heap.size #[.int .i64 c.id, .int .i64 c.par, .bool c.leaf, .int .u64 c.ra, .int .u64 c.rb, .int .u64 c.rc, .int .u64 c.la, .int .u64 c.lb, .int .u64 c.lc, .int .u64 c.ua, .int .u64 c.ub, .int .u64 c.uc, .int .i64 c.pk, .int .i64 c.bt] _ HV6.out rfl Try.underlying54 rfl INF.out ?_)
  | (go_at_call 34; (have mk := HB4); (with_reducible refine (KU.out _ (HRS.out _ HB4.out)).mono ?_); rintro _ w6 ⟨uo, uc, rfl, hbel⟩; have HV6 := Lib.hid (HV4.out.bel hbel); have HQ6 := Lib.hid (HQ4.out.bel hbel); have HB6 : Hid (Below w.heap.size w w6) := Lib.hid (HB4.out.trans (hbel.mono HB4.out.size)); have f6a := HV6.out.cell 0 rfl; have f6b := HV6.out.cell 1 rfl; rw [HP0.out] at f6b; have f6x := HV6.out.cell 6 rfl; have f6y := HV6.out.cell 7 rfl; have f6z := HV6.out.cell 8 rfl; have f6l := HV6.out.lt; clear hbel)
  | (go_at_call 66; (have mk := HB3); (with_reducible refine (KO.out _).mono ?_); rintro _ w4 ⟨ko, rfl, hko, hbel⟩; have HV4 := Lib.hid (HV3.out.bel hbel); have HQ4 := Lib.hid (HQ3.out.bel hbel); have HB4 : Hid (Below w.heap.size w w4) := Lib.hid (HB3.out.trans (hbel.mono HB3.out.size)); have f4a := HV4.out.cell 0 rfl; have f4b := HV4.out.cell 1 rfl; rw [HP0.out] at f4b; have f4x := HV4.out.cell 6 rfl; have f4y := HV4.out.cell 7 rfl; have f4z := HV4.out.cell 8 rfl; have f4l := HV4.out.lt; clear hbel)
  | (go_at_call 36; (have mk := HB2); (with_reducible refine (KF2.out _ (HRS.out _ HB2.out)).mono ?_); rintro _ w3 ⟨rfl, hbel⟩; have HV3 := Lib.hid (HV2.out.bel hbel); have HQ3 := Lib.hid (HQ2.out.bel hbel); have HB3 : Hid (Below w.heap.size w w3) := Lib.hid (HB2.out.trans (hbel.mono HB2.out.size)); have f3a := HV3.out.cell 0 rfl; have f3b := HV3.out.cell 1 rfl; rw [HP0.out] at f3b; have f3x := HV3.out.cell 6 rfl; have f3y := HV3.out.cell 7 rfl; have f3z := HV3.out.cell 8 rfl; have f3l := HV3.out.lt; clear hbel)
  | (go_at_call 36; (have mk := HB1); (with_reducible refine (KF1.out _ (HRS.out _ HB1.out)).mono ?_); rintro _ w2 ⟨rfl, hbel⟩; have HV2 := Lib.hid (HV1.out.bel hbel); have HQ2 := Lib.hid (HQ1.out.bel hbel); have HB2 : Hid (Below w.heap.size w w2) := Lib.hid (HB1.out.trans (hbel.mono HB1.out.size)); have f2a := HV2.out.cell 0 rfl; have f2b := HV2.out.cell 1 rfl; rw [HP0.out] at f2b; have f2x := HV2.out.cell 6 rfl; have f2y := HV2.out.cell 7 rfl; have f2z := HV2.out.cell 8 rfl; have f2l := HV2.out.lt; clear hbel)
  | (go_at_call 76; (have mk := HB0); (with_reducible refine (KW.out _).mono ?_); rintro _ w1 ⟨rfl, hbel⟩; have HV1 := Lib.hid (HV0.out.bel hbel); have HQ1 := Lib.hid (HQ0.out.bel hbel); have HB1 : Hid (Below w.heap.size w w1) := Lib.hid (HB0.out.trans (hbel.mono HB0.out.size)); have f1a := HV1.out.cell 0 rfl; have f1b := HV1.out.cell 1 rfl; rw [HP0.out] at f1b; have f1x := HV1.out.cell 6 rfl; have f1y := HV1.out.cell 7 rfl; have f1z := HV1.out.cell 8 rfl; have f1l := HV1.out.lt; clear hbel)
  | (refine wpList_var_get rfl 54 _ rfl w.heap.size #[.int .i64 c.id, .int .i64 c.par, .bool c.leaf, .int .u64 c.ra, .int .u64 c.rb, .int .u64 c.rc, .int .u64 c.la, .int .u64 c.lb, .int .u64 c.lc, .int .u64 c.ua, .int .u64 c.ub, .int .u64 c.uc, .int .i64 c.pk, .int .i64 c.bt] _ HV0.out rfl Try.underlying54 rfl INF.out ?_))
 refine bodyPost_ret (v := .agg #[.slice po (L.length + 1) pc, .int .i64 0]) (results_var Try.results56 _ (w.heap.size + 1) rfl _ _ HVF.out Try.underlying59 rfl DINF.out) rfl ?_
 exact ⟨po, _, pc, rfl, HIL.out, rwv_only HPR.out HOF.out HPN.out, HBF.out⟩
end Go.Proofs.Ytmmahgfijiocfaa
end
