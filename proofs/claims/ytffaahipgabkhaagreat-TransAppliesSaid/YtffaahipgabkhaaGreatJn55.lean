/- Joined texts. -/
import Derived.Test.YtffaahipgabkhaaGreatJn0
import Derived.Test.YtffaahipgabkhaaGreatJn52
import Derived.Test.YtffaahipgabkhaaGreatJn54
set_option linter.unusedVariables false
set_option linter.unusedSimpArgs false
set_option maxRecDepth 100000
set_option maxHeartbeats 16000000
section
namespace Go.Proofs.YtffaahipgabkhaaGreat
open Go.RowKit Fg Reg Go.Maps Go.Shelf
attribute [local irreducible] Reg.wE VR
theorem lok_rls {F : Int → Option Cls} {K : List Int} : lok ((rls F K).map cvo) = true := by
 unfold lok
 rw [List.all_eq_true]
 intro v hv
 obtain ⟨c, hc, rfl⟩ := List.mem_map.1 hv
 have h : rl1 c = true := (List.mem_filter.1 hc).2
 have h2 : 1 < kind c.ra c.rb c.rc := of_decide_eq_true h
 exact decide_eq_true (fun e => by rw [show kind (cvo c).m1 (cvo c).d (cvo c).m2 = kind c.ra c.rb c.rc from rfl] at e; omega)
theorem ftg_two {T : Int} (h1 : ¬ T < 1) (h2 : ¬ 65536 < T) (F : Int → Option Cls) (M : List Int) : ftg T F M = 0 ∨ ftg T F M = 22 := by
 have t : tok T = true := decide_eq_true ⟨by omega, by omega⟩
 unfold ftg fitr
 rw [t, lok_rls, if_neg (by simp), if_neg (by simp)]
 split
 ·exact .inr rfl
 ·exact .inl rfl
theorem krf_c (T : Int) : ∀ F M, TI F M → ∀ (z : World) (base : Nat) (v : Value), z.ownsRow base 46 3 v (rls F (M.filter (sel F Cls.leaf))).length ((rls F (M.filter (sel F Cls.leaf))).flatMap crt) → Calls Tryz.prog 28 #[.int .i64 T, v] z fun ee w' => ee = .returned (.int .i64 (ftg T F M)) ∧ Below z.heap.size z w' := fun F M I z base v h => by
 obtain ⟨ao, cap, rfl⟩ := row_form h
 have hin := rls_in I (M.filter (sel F Cls.leaf))
 have hle := Nat.le_trans (rls_len F (M.filter (sel F Cls.leaf))) (Nat.le_trans (List.length_filter_le _ _) I.len)
 unfold ftg
 obtain ⟨R, hR⟩ : ∃ R, rls F (M.filter (sel F Cls.leaf)) = R := ⟨_, rfl⟩
 rw [hR] at h hin hle ⊢
 have hX : (R.map cvo).flatMap Cv.cells = R.flatMap crt := by rw [List.flatMap_map]; rfl
 rw [← hX] at h
 have hl : (R.map cvo).length = R.length := List.length_map _
 have hr := own_rwv (cells := Cv.cells) (s := 3) (fun _ => rfl) h hl
 rw [← hl]
 exact rfits_c T _ ao cap (by omega) (fun k hk => by
  rw [List.getElem_map]
  have := hin _ (List.getElem_mem (by rw [← hl]; exact hk))
  exact ⟨this.ra, this.rb, this.rc⟩) z hr
theorem krr_c {F : Int → Option Cls} {M : List Int} (I : TI F M) (m : Nat) (hm : M.length = m) (o : Option Addr) (c : Nat) (w : World) (hR : RwV crow 14 w o (rowsX F M)) : Calls Tryz.prog 29 #[.slice o m c] w fun e w' => ∃ v, e = .returned v ∧ w'.ownsRow w.heap.size 46 3 v (rls F (M.filter (sel F Cls.leaf))).length ((rls F (M.filter (sel F Cls.leaf))).flatMap crt) ∧ Below w.heap.size w w' := by
 have e : (rowsX F M).filter rl1 = rls F (M.filter (sel F Cls.leaf)) := rls_eq fun x hx => by obtain ⟨c, h1, h2, h3, h4⟩ := I.rows x hx; exact ⟨c, h1, h3⟩
 rw [← e]
 exact rrea_c (rowsX F M) m (by rw [rowsX_len]; exact hm) (by have := I.len; omega) I.rin o c w hR
theorem rd_info : (Tryz.prog.info? 32).map (·.size) = some 3 := by kernel_rfl
theorem rd_one (ao : Option Addr) (n cap : Nat) (i e : Int) : (#[.slice ao n cap, .int .i64 i, .int .i64 e] : Array Value).all (·.oneCell') = true := by kernel_rfl
theorem rd_alloc (w : World) : (Instr.alloc 32 true (.tuple #[])).run Tryz.prog w = .ok (.pointer (some ⟨w.heap.size, 0, none⟩)) (w.alloc (.cells #[.slice none 0 0, .int .i64 0, .int .i64 0] 32)) := by kernel_rfl
def RapP (w : World) (i E : Int) (F : Int → Option Cls) (M : List Int) (e : Ending) (w' : World) : Prop := ∃ o m c, e = .returned (.agg #[.slice o m c, .int .i64 i, .int .i64 E]) ∧ Below w.heap.size w w' ∧ (E = 0 → M.length = m ∧ RwV crow 14 w' o (rowsX F M))
theorem rapl_c {f : Int → Option Cls} {L : List Int} (I : TI f L) (T : Int) (xs : List TC) (n : Nat) (hln : xs.length = n) (hin : ∀ k (h : k < xs.length), CIn xs[k].c) (ao : Option Addr) (cap : Nat) (l0 : Nat) (hL : L.length = l0) (lo : Option Addr) (lc : Nat) (w : World) (hA : RwV TC.cells 15 w ao xs) (hR : RwV crow 14 w lo (rowsX f L)) :
  Calls Tryz.prog 11 #[.slice lo l0 lc, .int .i64 T, .slice ao n cap] w (RapP w (apW (ftg T) T n f L xs).1 (apW (ftg T) T n f L xs).2 (app f L 0 xs).2.2.1 (app f L 0 xs).2.2.2) := by
 have hQ0 : VR (w.alloc (.cells #[.slice none 0 0, .int .i64 0, .int .i64 0] 32)) w.heap.size 32 #[.slice none 0 0, .int .i64 0, .int .i64 0] := VR.new _ _ _
 have hB0 : Below w.heap.size w (w.alloc (.cells #[.slice none 0 0, .int .i64 0, .int .i64 0] 32)) := bub
 have HQ0 := Lib.hid hQ0
 have HB0 := Lib.hid hB0
 have HR0 := Lib.hid (hR.below hB0)
 have RINF := Lib.hid rd_info
 have RONE := Lib.hid rd_one
 clear hQ0 hB0
 by_cases hT1 : T < 1
 ·have q1 : decide (T < 1) = true := decide_eq_true hT1
  rw [apW_arg (ftg T) (n := n) (f := f) (L := L) (xs := xs) (.inl hT1)]
  clear hR hA hln hin
  go_enter Tryz.func11, Tryz.ntmps11
  go_wp2_with (first
   | go_guarded
   | (refine wpList_var_set rfl 32 _ _ rfl w.heap.size #[.slice none 0 0, .int .i64 0, .int .i64 0] #[.slice none 0 0, .int .i64 0, .int .i64 1] HQ0.out rfl rfl RINF.out rfl (RONE.out _ _ _ _ _) ?_; intro w8 hs8 ho8 hv8; have HV8 := Lib.hid hv8; have HB8 : Hid (Below w.heap.size w w8) := Lib.hid (HB0.out.trans ⟨ho8.1, ho8.2, ho8.3, ho8.4, fun k hk => ho8.5 k (Nat.lt_of_lt_of_le hk HB0.out.size) (by omega)⟩); clear ho8 hv8))
  refine bodyPost_ret (v := .agg #[.slice none 0 0, .int .i64 0, .int .i64 1]) (results_var Tryz.results11 _ w.heap.size rfl _ _ HV8.out Tryz.underlying32 rfl RINF.out) rfl ?_
  exact ⟨none, 0, 0, rfl, HB8.out, fun h => absurd h (by decide)⟩
 by_cases hT2 : 65536 < T
 ·have q1 : decide (T < 1) = false := decide_eq_false hT1
  have q2 : decide (65536 < T) = true := decide_eq_true hT2
  rw [apW_arg (ftg T) (n := n) (f := f) (L := L) (xs := xs) (.inr hT2)]
  clear hR hA hln hin
  go_enter Tryz.func11, Tryz.ntmps11
  go_wp2_with (first
   | go_guarded
   | (refine wpList_var_set rfl 32 _ _ rfl w.heap.size #[.slice none 0 0, .int .i64 0, .int .i64 0] #[.slice none 0 0, .int .i64 0, .int .i64 1] HQ0.out rfl rfl RINF.out rfl (RONE.out _ _ _ _ _) ?_; intro w8 hs8 ho8 hv8; have HV8 := Lib.hid hv8; have HB8 : Hid (Below w.heap.size w w8) := Lib.hid (HB0.out.trans ⟨ho8.1, ho8.2, ho8.3, ho8.4, fun k hk => ho8.5 k (Nat.lt_of_lt_of_le hk HB0.out.size) (by omega)⟩); clear ho8 hv8))
  refine bodyPost_ret (v := .agg #[.slice none 0 0, .int .i64 0, .int .i64 1]) (results_var Tryz.results11 _ w.heap.size rfl _ _ HV8.out Tryz.underlying32 rfl RINF.out) rfl ?_
  exact ⟨none, 0, 0, rfl, HB8.out, fun h => absurd h (by decide)⟩
 have q1 : decide (T < 1) = false := decide_eq_false hT1
 have q2 : decide (65536 < T) = false := decide_eq_false hT2
 by_cases hn32 : 32 < n
 ·have q3 : decide ((32 : Int) < (n : Int)) = true := decide_eq_true (by omega)
  have q4 : decide (32 < n) = true := decide_eq_true hn32
  rw [apW_long (ftg T) (n := n) (f := f) (L := L) (xs := xs) hT1 hT2 hn32]
  clear hR hA hln hin
  go_enter Tryz.func11, Tryz.ntmps11
  go_wp2_with (first
   | go_guarded
   | (refine wpList_var_set rfl 32 _ _ rfl w.heap.size #[.slice none 0 0, .int .i64 0, .int .i64 0] #[.slice none 0 0, .int .i64 0, .int .i64 2] HQ0.out rfl rfl RINF.out rfl (RONE.out _ _ _ _ _) ?_; intro w8 hs8 ho8 hv8; have HV8 := Lib.hid hv8; have HB8 : Hid (Below w.heap.size w w8) := Lib.hid (HB0.out.trans ⟨ho8.1, ho8.2, ho8.3, ho8.4, fun k hk => ho8.5 k (Nat.lt_of_lt_of_le hk HB0.out.size) (by omega)⟩); clear ho8 hv8))
  refine bodyPost_ret (v := .agg #[.slice none 0 0, .int .i64 0, .int .i64 2]) (results_var Tryz.results11 _ w.heap.size rfl _ _ HV8.out Tryz.underlying32 rfl RINF.out) rfl ?_
  exact ⟨none, 0, 0, rfl, HB8.out, fun h => absurd h (by decide)⟩
 have q3 : decide ((32 : Int) < (n : Int)) = false := decide_eq_false (by omega)
 have q4 : decide (32 < n) = false := decide_eq_false hn32
 have HNT : Hid (1 ≤ T ∧ T ≤ 65536 ∧ n ≤ 32) := Lib.hid ⟨by omega, by omega, by omega⟩
 have hn33 : n ≤ 32 := by omega
 have HA := Lib.hid hA
 have HIN := Lib.hid hin
 have HLN := Lib.hid hln
 have HI0 := Lib.hid I
 have HL0 := Lib.hid hL
 have ALL := Lib.hid cg_alloc
 have AINF := Lib.hid cg_info
 have ONE := Lib.hid cg_one
 have DALL := Lib.hid dd_alloc
 have DINF := Lib.hid dd_info
 have DONE := Lib.hid dd_one
 clear hA hin hln I hL hT1 hT2 hn32 hR
 go_enter Tryz.func11, Tryz.ntmps11
 go_wp2_with (first | go_guarded)
 try go_frame
 go_loopg [7, 25] n (fun k9 s7 s25 wr => ∃ (k : Nat) (F : Int → Option Cls) (M : List Int) (m : Nat) (o : Option Addr) (c : Nat), s7 = .slice o m c ∧ s25 = .int .i64 k ∧ k ≤ n ∧ TI F M ∧ M.length = m ∧ RwV crow 14 wr o (rowsX F M) ∧ VR wr w.heap.size 32 #[.slice none 0 0, .int .i64 0, .int .i64 0] ∧ Below w.heap.size w wr ∧ app f L 0 xs = app F M k (xs.drop k) ∧ n - k ≤ k9)
 case atStart => exact ⟨0, f, L, l0, lo, lc, rfl, rfl, Nat.zero_le _, HI0.out, HL0.out, HR0.out, HQ0.out, HB0.out, by simp, by omega⟩
 case round =>
  obtain ⟨k, F, M, m, o, c4, rfl, rfl, hk, hI, hm, hR, hQ, hB, hap, hk9⟩ := hrel
  have HI := Lib.hid hI
  have HM := Lib.hid hm
  have HRR := Lib.hid hR
  have HQ := Lib.hid hQ
  have HB := Lib.hid hB
  have HAP := Lib.hid hap
  by_cases hlt : k < n
  ·have HLT : Hid (k + 1 ≤ n) := Lib.hid hlt
   have hlC : k < xs.length := by rw [HLN.out]; exact hlt
   obtain ⟨b, o2, rfl, hb, hra⟩ := (HA.out.below hB) k hlC
   have hci := HIN.out k hlC
   have hdr : xs.drop k = xs[k] :: xs.drop (k + 1) := List.drop_eq_getElem_cons hlC
   obtain ⟨a, hae⟩ : ∃ a, xs[k] = a := ⟨_, rfl⟩
   rw [hae] at hra hci hdr
   obtain ⟨k0, c⟩ := a
   have HR := Lib.hid (show wr.rangeAt b (o2 + k * 15) (#[.int .i64 (k0), .int .i64 c.id, .int .i64 c.par, .bool c.leaf, .int .u64 c.ra, .int .u64 c.rb, .int .u64 c.rc, .int .u64 c.la, .int .u64 c.lb, .int .u64 c.lc, .int .u64 c.ua, .int .u64 c.ub, .int .u64 c.uc, .int .i64 c.pk, .int .i64 c.bt] : Array Value).toList from hra)
   obtain ⟨E1, hE⟩ : ∃ E, chE k0 F M c = E := ⟨_, rfl⟩
   have KW := Lib.hid (fun (z : World) (hz : RwV crow 14 z o (rowsX F M)) => (by have := rone_c hI k0 hci m hm o c4 z hz; rw [hE] at this; exact this : Calls Tryz.prog 23 #[.slice o m c4, .agg #[.int .i64 (k0), .int .i64 c.id, .int .i64 c.par, .bool c.leaf, .int .u64 c.ra, .int .u64 c.rb, .int .u64 c.rc, .int .u64 c.la, .int .u64 c.lb, .int .u64 c.lc, .int .u64 c.ua, .int .u64 c.ub, .int .u64 c.uc, .int .i64 c.pk, .int .i64 c.bt]] z (DidP z E1 (chF k0 F M c) (chL k0 F M c))))
   have HI1 := Lib.hid (hI.chF k0 hci)
   rw [hdr] at hap
   by_cases hE0 : E1 = 0
   ·subst hE0
    rw [app_ok (k := k0) (c := c) _ hE] at hap
    have HAP1 := Lib.hid hap
    clear hI hm hR hQ hB hap hra hci hdr hae hlC hb hE
    go_wp2_with (first
     | go_guarded
     | (refine wpList_var_new rfl rfl 57 #[.slice none 0 0, .int .i64 0] DALL.out rfl _ _ rfl #[.slice ao1 n1 cap1, .int .i64 0] rfl rfl DINF.out rfl (DONE.out _ _ _ _) ?_; (have mk := HN1); intro w7 hs7 hb7 hv7; have d0 := hv7.cell 0 rfl; have d1 := hv7.cell 1 rfl; have HQ7 := Lib.hid (HQ6.out.bel hb7); have HR7 := Lib.hid (HR6.out.below hb7); have HB7 := Lib.hid (HB6.out.trans (hb7.mono HB6.out.size)); clear hb7 hv7)
     | (go_at_call 23; (with_reducible refine (KW.out _ HR5.out).mono ?_); rintro _ w6 ⟨ao1, n1, cap1, rfl, hn1, hr1, hbel⟩; have HN1 := Lib.hid hn1; have HR6 := Lib.hid hr1; have HQ6 := Lib.hid (HQ5.out.bel hbel); have HB6 := Lib.hid (HB5.out.trans (hbel.mono HB5.out.size)); clear hn1 hr1 hbel)
     | (refine wpList_var_get rfl 50 _ rfl _ #[.int .i64 (k0), .int .i64 c.id, .int .i64 c.par, .bool c.leaf, .int .u64 c.ra, .int .u64 c.rb, .int .u64 c.rc, .int .u64 c.la, .int .u64 c.lb, .int .u64 c.lc, .int .u64 c.ua, .int .u64 c.ub, .int .u64 c.uc, .int .i64 c.pk, .int .i64 c.bt] _ HV5.out rfl Tryz.underlying50 rfl AINF.out ?_)
     | (refine wpList_var_new3 rfl rfl rfl 50 #[.int .i64 0, .int .i64 0, .int .i64 0, .bool false, .int .u64 0, .int .u64 0, .int .u64 0, .int .u64 0, .int .u64 0, .int .u64 0, .int .u64 0, .int .u64 0, .int .u64 0, .int .i64 0, .int .i64 0] ALL.out rfl _ rfl _ _ rfl #[.int .i64 (k0), .int .i64 c.id, .int .i64 c.par, .bool c.leaf, .int .u64 c.ra, .int .u64 c.rb, .int .u64 c.rc, .int .u64 c.la, .int .u64 c.lb, .int .u64 c.lc, .int .u64 c.ua, .int .u64 c.ub, .int .u64 c.uc, .int .i64 c.pk, .int .i64 c.bt] _ rfl rfl rfl AINF.out rfl (ONE.out _ _) ?_; intro w5 hs5 hb5 hv5; have HV5 := Lib.hid hv5; have HQ5 := Lib.hid (HQ.out.bel hb5); have HR5 := Lib.hid (HRR.out.below hb5); have HB5 := Lib.hid (HB.out.trans (hb5.mono HB.out.size)); clear hb5 hv5)
     | (refine wpList_part_get rfl 50 _ rfl b (o2 + k * 15) #[.int .i64 (k0), .int .i64 c.id, .int .i64 c.par, .bool c.leaf, .int .u64 c.ra, .int .u64 c.rb, .int .u64 c.rc, .int .u64 c.la, .int .u64 c.lb, .int .u64 c.lc, .int .u64 c.ua, .int .u64 c.ub, .int .u64 c.uc, .int .i64 c.pk, .int .i64 c.bt] _ HR.out rfl Tryz.underlying50 rfl AINF.out ?_))
    have HR8 := HR7
    have HQ8 := HQ7
    have HB8 := HB7
    go_roundg (n - (k + 1))
    case rel => exact ⟨k + 1, _, _, n1, ao1, cap1, rfl, by go_num, HLT.out, HI1.out, HN1.out, HR8.out, HQ8.out, HB8.out, by rw [HAP1.out]; rfl, Nat.le_refl _⟩
    case measure => omega
   ·rw [app_no (k := k0) (c := c) _ hE hE0] at hap
    have hW := apW_err (ftg T) (T := T) (n := n) (by have := HNT.out; omega) (by have := HNT.out; omega) (by have := HNT.out; omega) k E1 hE0 F M hap
    have HW := Lib.hid hW
    have hne : (E1 == 0) = false := by simpa using hE0
    have HE0 := Lib.hid hE0
    clear hI hm hR hQ hB hap hra hci hdr hae hlC hb hE hW
    go_wp2_with (first
     | go_guarded
     | (refine wpList_var_set rfl 32 _ _ rfl w.heap.size #[.slice none 0 0, .int .i64 0, .int .i64 0] #[.slice none 0 0, .int .i64 k, .int .i64 E1] HQ7.out rfl rfl RINF.out rfl (RONE.out _ _ _ _ _) ?_; intro w8 hs8 ho8 hv8; have HV8 := Lib.hid hv8; have HB8 : Hid (Below w.heap.size w w8) := Lib.hid (HB7.out.trans ⟨ho8.1, ho8.2, ho8.3, ho8.4, fun k hk => ho8.5 k (Nat.lt_of_lt_of_le hk HB7.out.size) (by omega)⟩); clear ho8 hv8)
     | (refine wpList_var_new rfl rfl 57 #[.slice none 0 0, .int .i64 0] DALL.out rfl _ _ rfl #[.slice ao1 n1 cap1, .int .i64 E1] rfl rfl DINF.out rfl (DONE.out _ _ _ _) ?_; (have mk := HN1); intro w7 hs7 hb7 hv7; have d0 := hv7.cell 0 rfl; have d1 := hv7.cell 1 rfl; have HQ7 := Lib.hid (HQ6.out.bel hb7); have HR7 := Lib.hid (HR6.out.below hb7); have HB7 := Lib.hid (HB6.out.trans (hb7.mono HB6.out.size)); clear hb7 hv7)
     | (go_at_call 23; (with_reducible refine (KW.out _ HR5.out).mono ?_); rintro _ w6 ⟨ao1, n1, cap1, rfl, hn1, hr1, hbel⟩; have HN1 := Lib.hid hn1; have HR6 := Lib.hid hr1; have HQ6 := Lib.hid (HQ5.out.bel hbel); have HB6 := Lib.hid (HB5.out.trans (hbel.mono HB5.out.size)); clear hn1 hr1 hbel)
     | (refine wpList_var_get rfl 50 _ rfl _ #[.int .i64 (k0), .int .i64 c.id, .int .i64 c.par, .bool c.leaf, .int .u64 c.ra, .int .u64 c.rb, .int .u64 c.rc, .int .u64 c.la, .int .u64 c.lb, .int .u64 c.lc, .int .u64 c.ua, .int .u64 c.ub, .int .u64 c.uc, .int .i64 c.pk, .int .i64 c.bt] _ HV5.out rfl Tryz.underlying50 rfl AINF.out ?_)
     | (refine wpList_var_new3 rfl rfl rfl 50 #[.int .i64 0, .int .i64 0, .int .i64 0, .bool false, .int .u64 0, .int .u64 0, .int .u64 0, .int .u64 0, .int .u64 0, .int .u64 0, .int .u64 0, .int .u64 0, .int .u64 0, .int .i64 0, .int .i64 0] ALL.out rfl _ rfl _ _ rfl #[.int .i64 (k0), .int .i64 c.id, .int .i64 c.par, .bool c.leaf, .int .u64 c.ra, .int .u64 c.rb, .int .u64 c.rc, .int .u64 c.la, .int .u64 c.lb, .int .u64 c.lc, .int .u64 c.ua, .int .u64 c.ub, .int .u64 c.uc, .int .i64 c.pk, .int .i64 c.bt] _ rfl rfl rfl AINF.out rfl (ONE.out _ _) ?_; intro w5 hs5 hb5 hv5; have HV5 := Lib.hid hv5; have HQ5 := Lib.hid (HQ.out.bel hb5); have HR5 := Lib.hid (HRR.out.below hb5); have HB5 := Lib.hid (HB.out.trans (hb5.mono HB.out.size)); clear hb5 hv5)
     | (refine wpList_part_get rfl 50 _ rfl b (o2 + k * 15) #[.int .i64 (k0), .int .i64 c.id, .int .i64 c.par, .bool c.leaf, .int .u64 c.ra, .int .u64 c.rb, .int .u64 c.rc, .int .u64 c.la, .int .u64 c.lb, .int .u64 c.lc, .int .u64 c.ua, .int .u64 c.ub, .int .u64 c.uc, .int .i64 c.pk, .int .i64 c.bt] _ HR.out rfl Tryz.underlying50 rfl AINF.out ?_))
    refine bodyPost_ret (v := .agg #[.slice none 0 0, .int .i64 k, .int .i64 E1]) (results_var Tryz.results11 _ w.heap.size rfl _ _ HV8.out Tryz.underlying32 rfl RINF.out) rfl ?_
    show RapP _ _ _ _ _ _ _
    rw [HW.out]
    exact ⟨none, 0, 0, rfl, HB8.out, fun h => absurd h HE0.out⟩
  ·obtain rfl : k = n := by omega
   have hap2 : app f L 0 xs = ((k : Int), 0, F, M) := by rw [hap, List.drop_eq_nil_of_le (by rw [HLN.out]; exact Nat.le_refl _)]; rfl
   have KRE := Lib.hid (krr_c hI m hm o c4)
   have KFI := Lib.hid (krf_c T F M hI)
   obtain ⟨G, hG⟩ : ∃ G, ftg T F M = G := ⟨_, rfl⟩
   rw [hG] at KFI
   have hW : apW (ftg T) T k f L xs = (0, G) := by
    rcases ftg_two (T := T) (by have := HNT.out; omega) (by have := HNT.out; omega) F M with h | h
    ·rw [apW_ok (ftg T) (T := T) (n := k) (by have := HNT.out; omega) (by have := HNT.out; omega) (by have := HNT.out; omega) k F M hap2 h, ← hG, h]
    ·rw [apW_adm (ftg T) (T := T) (n := k) (by have := HNT.out; omega) (by have := HNT.out; omega) (by have := HNT.out; omega) k F M hap2 (by rw [h]; decide), ← hG, h]
   have HW := Lib.hid hW
   have HAP2 := Lib.hid hap2
   clear hI hm hR hQ hB hap hap2 hG hW hlt
   go_wp2_with (first
    | go_guarded
    | (refine wpList_var_set rfl 32 _ _ rfl w.heap.size #[.slice none 0 0, .int .i64 0, .int .i64 0] #[.slice o m c4, .int .i64 0, .int .i64 G] HQ3.out rfl rfl RINF.out rfl (RONE.out _ _ _ _ _) ?_; intro w8 hs8 ho8 hv8; have HV8 := Lib.hid hv8; have HB8 : Hid (Below w.heap.size w w8) := Lib.hid (HB3.out.trans ⟨ho8.1, ho8.2, ho8.3, ho8.4, fun k hk => ho8.5 k (Nat.lt_of_lt_of_le hk HB3.out.size) (by omega)⟩); have HR8 := Lib.hid (rwv_var HR3.out HQ3.out (by decide) ho8); clear ho8 hv8)
    | (go_at_call 28; (have mk := HO2); (with_reducible refine (KFI.out _ _ _ HO2.out).mono ?_); rintro _ w3 ⟨rfl, hbel⟩; have HQ3 := Lib.hid (HQ2.out.bel hbel); have HR3 := Lib.hid (HR2.out.below hbel); have HB3 := Lib.hid (HB2.out.trans (hbel.mono HB2.out.size)); clear hbel)
    | (go_at_call 29; (with_reducible refine (KRE.out _ HRR.out).mono ?_); rintro _ w2 ⟨v, rfl, hO2, hbel⟩; have HO2 := Lib.hid hO2; have HQ2 := Lib.hid (HQ.out.bel hbel); have HR2 := Lib.hid (HRR.out.below hbel); have HB2 := Lib.hid (HB.out.trans (hbel.mono HB.out.size)); clear hO2 hbel))
   refine bodyPost_ret (v := .agg #[.slice o m c4, .int .i64 0, .int .i64 G]) (results_var Tryz.results11 _ w.heap.size rfl _ _ HV8.out Tryz.underlying32 rfl RINF.out) rfl ?_
   show RapP _ _ _ _ _ _ _
   rw [HW.out, HAP2.out]
   exact ⟨o, m, c4, rfl, HB8.out, fun _ => ⟨HM.out, HR8.out⟩⟩
theorem apps_long (a l : Nat) (ao bo : Option Addr) (ac bc : Nat) (T : Int) (h : 80 < a ∨ 60 < l) (w : World) : Calls Tryz.prog 3 #[.slice ao a ac, .int .i64 T, .slice bo l bc] w fun ee w' => ee = .returned (.bool true) ∧ Below w.heap.size w w' := by
 have K := Lib.hid twice_c
 by_cases h1 : 80 < a
 ·have q1 : decide ((80 : Int) < (a : Int)) = true := decide_eq_true (by omega)
  have q2 : decide (80 < a) = true := decide_eq_true h1
  clear h
  go_enter Tryz.func3, Tryz.ntmps3
  go_wp2_with (first | go_guarded | (go_at_call 8; (with_reducible refine (K.out _).mono ?_); rintro _ w1 ⟨rfl, hbel⟩; have HB1 := Lib.hid hbel; clear hbel))
  go_ret
  exact ⟨rfl, HB1.out⟩
 ·have q1 : decide ((80 : Int) < (a : Int)) = false := decide_eq_false (by omega)
  have q2 : decide (80 < a) = false := decide_eq_false h1
  have q3 : decide ((60 : Int) < (l : Int)) = true := decide_eq_true (by omega)
  have q4 : decide (60 < l) = true := decide_eq_true (by omega)
  clear h
  go_enter Tryz.func3, Tryz.ntmps3
  go_wp2_with (first | go_guarded | (go_at_call 8; (with_reducible refine (K.out _).mono ?_); rintro _ w1 ⟨rfl, hbel⟩; have HB1 := Lib.hid hbel; clear hbel))
  go_ret
  exact ⟨rfl, HB1.out⟩
theorem apps_c (xs : List TC) (a : Nat) (hxl : xs.length = a) (ha : a ≤ 80) (hxi : ∀ k (h : k < xs.length), CIn xs[k].c) (ys : List TC) (l : Nat) (hyl : ys.length = l) (hl : l ≤ 60) (hyi : ∀ k (h : k < ys.length), CIn ys[k].c) (T : Int) (ao bo : Option Addr) (ac bc : Nat) (w : World) (hA : RwV TC.cells 15 w ao xs) (hB : RwV TC.cells 15 w bo ys) :
  Calls Tryz.prog 3 #[.slice ao a ac, .int .i64 T, .slice bo l bc] w fun ee w' => ee = .returned (.bool true) ∧ Below w.heap.size w w' := by
 have q1 : decide ((80 : Int) < (a : Int)) = false := decide_eq_false (by omega)
 have q2 : decide (80 < a) = false := decide_eq_false (by omega)
 have q3 : decide ((60 : Int) < (l : Int)) = false := decide_eq_false (by omega)
 have q4 : decide (60 < l) = false := decide_eq_false (by omega)
 have KTW := Lib.hid twice_c
 have RALL := Lib.hid rd_alloc
 have RINF := Lib.hid rd_info
 have RONE := Lib.hid rd_one
 have KTR := Lib.hid (tree_c xs a hxl ha hxi ao ac w hA)
 have hI0 : TI (trs (fun _ => none) [] xs).1 (trs (fun _ => none) [] xs).2 := TI.trs xs TI.nil (fun b hb => by obtain ⟨k, hk, rfl⟩ := List.getElem_of_mem hb; exact hxi k hk)
 obtain ⟨f, hf⟩ : ∃ f, (trs (fun _ => none) [] xs).1 = f := ⟨_, rfl⟩
 obtain ⟨L, hL⟩ : ∃ L, (trs (fun _ => none) [] xs).2 = L := ⟨_, rfl⟩
 rw [hf, hL] at KTR hI0
 have HI0 := Lib.hid hI0
 have HB0 := Lib.hid hB
 obtain ⟨i, hi⟩ : ∃ i, (apW (ftg T) T l f L ys).1 = i := ⟨_, rfl⟩
 obtain ⟨E, hE⟩ : ∃ E, (apW (ftg T) T l f L ys).2 = E := ⟨_, rfl⟩
 obtain ⟨F, hF⟩ : ∃ F, (app f L 0 ys).2.2.1 = F := ⟨_, rfl⟩
 obtain ⟨M, hM⟩ : ∃ M, (app f L 0 ys).2.2.2 = M := ⟨_, rfl⟩
 have KAP := Lib.hid (fun (z : World) (tb mb : Nat) (h : HT z tb mb f) (hr : RwV TC.cells 15 z bo ys) => (by have := appl_c (ftg T) h hI0 T ys l hyl hyi bo bc hr (kf_c T); rw [hi, hE, hF, hM] at this; exact this : Calls Tryz.prog 10 #[.pointer (some ⟨tb, 0, none⟩), .int .i64 T, .slice bo l bc] z fun e w' => ∃ q, e = .returned (.tuple #[.pointer q, .int .i64 i, .int .i64 E]) ∧ Below z.heap.size z w' ∧ ((E ≠ 0 ∧ q = none) ∨ (E = 0 ∧ ∃ tb2 mb2, q = some ⟨tb2, 0, none⟩ ∧ z.heap.size ≤ tb2 ∧ z.heap.size ≤ mb2 ∧ HT w' tb2 mb2 F ∧ TI F M))))
 have KRA := Lib.hid (fun (z : World) (n1 : Nat) (lo : Option Addr) (lc : Nat) (hn : L.length = n1) (hr : RwV TC.cells 15 z bo ys) (hl : RwV crow 14 z lo (rowsX f L)) => (by have := rapl_c hI0 T ys l hyl hyi bo bc n1 hn lo lc z hr hl; rw [hi, hE, hF, hM] at this; exact this : Calls Tryz.prog 11 #[.slice lo n1 lc, .int .i64 T, .slice bo l bc] z (RapP z i E F M)))
 have KS0 := Lib.hid (fun (z : World) (n1 : Nat) (lo : Option Addr) (lc : Nat) (hn : L.length = n1) {tb mb : Nat} (h : HT z tb mb f) (hr : RwV crow 14 z lo (rowsX f L)) => lsame_c hI0 n1 hn lo lc z h hr)
 have KS1 := Lib.hid (fun (z : World) (n1 : Nat) (lo : Option Addr) (lc : Nat) (hn : M.length = n1) {tb mb : Nat} (J : TI F M) (h : HT z tb mb F) (hr : RwV crow 14 z lo (rowsX F M)) => lsame_c J n1 hn lo lc z h hr)
 clear hf hL hI0 hB hyl hi hE hF hM hA hxi hyi hxl ha hl
 by_cases hE0 : E = 0
 ·subst hE0
  go_enter Tryz.func3, Tryz.ntmps3
  go_wp2_with (first
   | go_guarded
   | (go_at_call 8; (with_reducible refine (KTW.out _).mono ?_); rintro _ w9 ⟨rfl, hbel⟩; have HB9 : Hid (Below w.heap.size w w9) := Lib.hid (HB7.out.trans (hbel.mono HB7.out.size)); clear hbel)
   | (go_at_call 12; (have mk := HV6); (with_reducible refine (KS1.out _ _ _ _ HML.out HI2.out HG6.out HM6.out).mono ?_); rintro _ w7 ⟨rfl, hbel⟩; have HB7 := Lib.hid (HB6.out.trans (hbel.mono HB6.out.size)); clear hbel)
   | (go_at_call 12; (have mk := HV5); (with_reducible refine (KS0.out _ _ _ _ HN1.out HT5.out HL5.out).mono ?_); rintro _ w6 ⟨rfl, hbel⟩; have HB6 := Lib.hid (HB5.out.trans (hbel.mono HB5.out.size)); have HV6 := Lib.hid (HV5.out.bel hbel); have v0 := HV6.out.cell 0 rfl; have HG6 := Lib.hid (HG5.out.below hbel); have HM6 := Lib.hid (HM5.out.below hbel); clear hbel)
   | (refine wpList_var_new rfl rfl 32 #[.slice none 0 0, .int .i64 0, .int .i64 0] RALL.out rfl _ _ rfl #[.slice o3 m3 c3, .int .i64 i, .int .i64 0] rfl rfl RINF.out rfl (RONE.out _ _ _ _ _) ?_; intro w5 hs5 hb5 hv5; have v1 := hv5.cell 1 rfl; have v2 := hv5.cell 2 rfl; have HV5 := Lib.hid hv5; have HT5 := Lib.hid (HT4.out.below hb5); have HL5 := Lib.hid (HL4.out.below hb5); have HG5 := Lib.hid (HG4.out.below hb5); have HM5 := Lib.hid (HM4.out.below hb5); have HB5 := Lib.hid (HB4.out.trans (hb5.mono HB4.out.size)); clear hb5 hv5)
   | (go_at_call 11; (with_reducible refine (KRA.out _ _ _ _ HN1.out HY2.out HL2.out).mono ?_); rintro _ w4 ⟨o3, m3, c3, rfl, hbel, hrr⟩; have HT4 := Lib.hid (HT2.out.below hbel); have HL4 := Lib.hid (HL2.out.below hbel); have HG4 := Lib.hid (HG2.out.below hbel); have HM4 := Lib.hid (hrr rfl).2; have HML := Lib.hid (hrr rfl).1; have HB4 := Lib.hid (HB2.out.trans (hbel.mono HB2.out.size)); clear hbel hrr)
   | (go_at_call 10; (with_reducible refine (KAP.out _ tb mb HT1.out HY1.out).mono ?_); rintro _ w2 ⟨q, rfl, hbel, hor⟩; obtain ⟨-, tb2, mb2, rfl, -, -, hT2, hI2⟩ := hor.resolve_left (fun hx => hx.1 rfl); have HT2 := Lib.hid (HT1.out.below hbel); have HL2 := Lib.hid (HL1.out.below hbel); have HY2 := Lib.hid (HY1.out.below hbel); have HB2 := Lib.hid (HB1.out.trans (hbel.mono HB1.out.size)); have HG2 := Lib.hid hT2; have HI2 := Lib.hid hI2; clear hT2 hI2; clear hbel)
   | (go_at_call 9; (with_reducible refine KTR.out.mono ?_); rintro _ w1 ⟨tb, mb, n1, ro, rc, rfl, -, -, hT, -, hn1, hL1, hbel⟩; have HT1 := Lib.hid hT; have HL1 := Lib.hid hL1; have HN1 := Lib.hid hn1; have HB1 := Lib.hid hbel; have HY1 := Lib.hid (HB0.out.below hbel); clear hT hL1 hn1 hbel))
  go_ret
  exact ⟨rfl, HB9.out⟩
 ·have hne : (E == 0) = false := by simpa using hE0
  go_enter Tryz.func3, Tryz.ntmps3
  go_wp2_with (first
   | go_guarded
   | (go_at_call 8; (with_reducible refine (KTW.out _).mono ?_); rintro _ w9 ⟨rfl, hbel⟩; have HB9 : Hid (Below w.heap.size w w9) := Lib.hid (HB6.out.trans (hbel.mono HB6.out.size)); clear hbel)
   | (go_at_call 12; (have mk := HV5); (with_reducible refine (KS0.out _ _ _ _ HN1.out HT5.out HL5.out).mono ?_); rintro _ w6 ⟨rfl, hbel⟩; have HB6 := Lib.hid (HB5.out.trans (hbel.mono HB5.out.size)); have HV6 := Lib.hid (HV5.out.bel hbel); have v0 := HV6.out.cell 0 rfl; clear hbel)
   | (refine wpList_var_new rfl rfl 32 #[.slice none 0 0, .int .i64 0, .int .i64 0] RALL.out rfl _ _ rfl #[.slice o3 m3 c3, .int .i64 i, .int .i64 E] rfl rfl RINF.out rfl (RONE.out _ _ _ _ _) ?_; intro w5 hs5 hb5 hv5; have v1 := hv5.cell 1 rfl; have v2 := hv5.cell 2 rfl; have HV5 := Lib.hid hv5; have HT5 := Lib.hid (HT4.out.below hb5); have HL5 := Lib.hid (HL4.out.below hb5); have HB5 := Lib.hid (HB4.out.trans (hb5.mono HB4.out.size)); clear hb5 hv5)
   | (go_at_call 11; (with_reducible refine (KRA.out _ _ _ _ HN1.out HY2.out HL2.out).mono ?_); rintro _ w4 ⟨o3, m3, c3, rfl, hbel, hrr⟩; have HT4 := Lib.hid (HT2.out.below hbel); have HL4 := Lib.hid (HL2.out.below hbel); have HB4 := Lib.hid (HB2.out.trans (hbel.mono HB2.out.size)); clear hbel hrr)
   | (go_at_call 10; (with_reducible refine (KAP.out _ tb mb HT1.out HY1.out).mono ?_); rintro _ w2 ⟨q, rfl, hbel, hor⟩; obtain ⟨-, rfl⟩ := hor.resolve_right (fun hx => absurd hx.1 hE0); have HT2 := Lib.hid (HT1.out.below hbel); have HL2 := Lib.hid (HL1.out.below hbel); have HY2 := Lib.hid (HY1.out.below hbel); have HB2 := Lib.hid (HB1.out.trans (hbel.mono HB1.out.size)); clear hbel)
   | (go_at_call 9; (with_reducible refine KTR.out.mono ?_); rintro _ w1 ⟨tb, mb, n1, ro, rc, rfl, -, -, hT, -, hn1, hL1, hbel⟩; have HT1 := Lib.hid hT; have HL1 := Lib.hid hL1; have HN1 := Lib.hid hn1; have HB1 := Lib.hid hbel; have HY1 := Lib.hid (HB0.out.below hbel); clear hT hL1 hn1 hbel))
  go_ret
  exact ⟨rfl, HB9.out⟩
theorem transApplies_law (v1 : Value) (T : Int) (v2 : Value) {w : World} (hs : Op.FlatSlice w 15 [.int .i64, .int .i64, .int .i64, .bool, .int .u64, .int .u64, .int .u64, .int .u64, .int .u64, .int .u64, .int .u64, .int .u64, .int .u64, .int .i64, .int .i64] v1) {P : Prop} (_ : P) (hs2 : Op.FlatSlice w 15 [.int .i64, .int .i64, .int .i64, .bool, .int .u64, .int .u64, .int .u64, .int .u64, .int .u64, .int .u64, .int .u64, .int .u64, .int .u64, .int .i64, .int .i64] v2) : Calls Tryz.prog 3 #[v1, .int .i64 T, v2] w fun ee w' => ee = .returned (.bool true) ∧ Below w.heap.size w w' := by
 obtain ⟨ao, xs, ac, rfl, h1, h2, h3, h4⟩ := chgs_of hs
 obtain ⟨bo, ys, bc, rfl, g1, g2, g3, g4⟩ := chgs_of hs2
 by_cases hn : xs.length ≤ 80
 ·by_cases hm : ys.length ≤ 60
  ·exact apps_c xs _ rfl hn h4 ys _ rfl hm g4 T ao bo ac bc w h3 g3
  ·exact apps_long _ _ ao bo ac bc T (.inr (by omega)) w
 ·exact apps_long _ _ ao bo ac bc T (.inl (by omega)) w
end Go.Proofs.YtffaahipgabkhaaGreat
end
