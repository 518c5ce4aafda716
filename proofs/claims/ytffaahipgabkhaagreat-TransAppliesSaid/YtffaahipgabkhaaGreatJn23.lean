/- Joined texts. -/
import Derived.Test.YtffaahipgabkhaaGreatJn0
import Derived.Test.YtffaahipgabkhaaGreatJn22
set_option linter.unusedVariables false
set_option linter.unusedSimpArgs false
set_option maxRecDepth 100000
set_option maxHeartbeats 16000000
section
namespace Go.Proofs.YtffaahipgabkhaaGreat
open Go.RowKit Fg Reg Go.Maps Go.Shelf
attribute [local irreducible] Reg.wE VR
def app : (Int → Option Cls) → List Int → Int → List TC → Int × Int × (Int → Option Cls) × List Int
 | f, L, i, [] => (i, 0, f, L)
 | f, L, i, a :: r => if chE a.k f L a.c = 0 then app (chF a.k f L a.c) (chL a.k f L a.c) (i + 1) r else (i, chE a.k f L a.c, f, L)
theorem app_ok {f : Int → Option Cls} {L : List Int} {i : Int} {k : Int} {c : Cls} (r : List TC) (h : chE k f L c = 0) : app f L i (⟨k, c⟩ :: r) = app (chF k f L c) (chL k f L c) (i + 1) r := by
 show (if chE k f L c = 0 then _ else _) = _
 rw [if_pos h]
theorem app_no {f : Int → Option Cls} {L : List Int} {i : Int} {k : Int} {c : Cls} {E : Int} (r : List TC) (h : chE k f L c = E) (hE : E ≠ 0) : app f L i (⟨k, c⟩ :: r) = (i, E, f, L) := by
 show (if chE k f L c = 0 then _ else _) = _
 rw [h, if_neg hE]
def apW (FT : (Int → Option Cls) → List Int → Int) (T : Int) (n : Nat) (f : Int → Option Cls) (L : List Int) (xs : List TC) : Int × Int :=
 if T < 1 ∨ 65536 < T then (0, 1) else if 32 < n then (0, 2) else if (app f L 0 xs).2.1 ≠ 0 then ((app f L 0 xs).1, (app f L 0 xs).2.1) else if FT (app f L 0 xs).2.2.1 (app f L 0 xs).2.2.2 ≠ 0 then (0, 22) else (0, 0)
section
variable (FT : (Int → Option Cls) → List Int → Int) {T : Int} {n : Nat} {f : Int → Option Cls} {L : List Int} {xs : List TC}
theorem apW_arg (h : T < 1 ∨ 65536 < T) : apW FT T n f L xs = (0, 1) := by unfold apW; rw [if_pos h]
theorem apW_long (h1 : ¬ T < 1) (h2 : ¬ 65536 < T) (h : 32 < n) : apW FT T n f L xs = (0, 2) := by unfold apW; rw [if_neg (by omega), if_pos h]
theorem apW_err (h1 : ¬ T < 1) (h2 : ¬ 65536 < T) (h : ¬ 32 < n) (i E : Int) (hE : E ≠ 0) (F : Int → Option Cls) (M : List Int) (ha : app f L 0 xs = (i, E, F, M)) : apW FT T n f L xs = (i, E) := by
 unfold apW; rw [if_neg (by omega), if_neg h, ha, if_pos hE]
theorem apW_adm (h1 : ¬ T < 1) (h2 : ¬ 65536 < T) (h : ¬ 32 < n) (i : Int) (F : Int → Option Cls) (M : List Int) (ha : app f L 0 xs = (i, 0, F, M)) (hF : FT F M ≠ 0) : apW FT T n f L xs = (0, 22) := by
 unfold apW; rw [if_neg (by omega), if_neg h, ha, if_neg (by simp), if_pos hF]
theorem apW_ok (h1 : ¬ T < 1) (h2 : ¬ 65536 < T) (h : ¬ 32 < n) (i : Int) (F : Int → Option Cls) (M : List Int) (ha : app f L 0 xs = (i, 0, F, M)) (hF : FT F M = 0) : apW FT T n f L xs = (0, 0) := by
 unfold apW; rw [if_neg (by omega), if_neg h, ha, if_neg (by simp), if_neg (by simp [hF])]
end
theorem appl_c (FT : (Int → Option Cls) → List Int → Int) {w : World} {tb mb : Nat} {f : Int → Option Cls} {L : List Int} (h : HT w tb mb f) (I : TI f L) (T : Int) (xs : List TC) (n : Nat) (hln : xs.length = n) (hin : ∀ k (h : k < xs.length), CIn xs[k].c) (ao : Option Addr) (cap : Nat) (hA : RwV TC.cells 15 w ao xs)
  (KF : ∀ F M, TI F M → ∀ (z : World) (base : Nat) (v : Value), z.ownsRow base 46 3 v (rls F (M.filter (sel F Cls.leaf))).length ((rls F (M.filter (sel F Cls.leaf))).flatMap crt) → Calls Tryz.prog 26 #[.int .i64 T, v] z fun ee w' => ee = .returned (.int .i64 (FT F M)) ∧ Below z.heap.size z w') :
  Calls Tryz.prog 10 #[.pointer (some ⟨tb, 0, none⟩), .int .i64 T, .slice ao n cap] w fun e w' => ∃ q, e = .returned (.tuple #[.pointer q, .int .i64 (apW FT T n f L xs).1, .int .i64 (apW FT T n f L xs).2]) ∧ Below w.heap.size w w' ∧
   (((apW FT T n f L xs).2 ≠ 0 ∧ q = none) ∨ ((apW FT T n f L xs).2 = 0 ∧ ∃ tb2 mb2, q = some ⟨tb2, 0, none⟩ ∧ w.heap.size ≤ tb2 ∧ w.heap.size ≤ mb2 ∧ HT w' tb2 mb2 (app f L 0 xs).2.2.1 ∧ TI (app f L 0 xs).2.2.1 (app f L 0 xs).2.2.2)) := by
 have HB0 := Lib.hid (Below.refl w.heap.size w)
 by_cases hT1 : T < 1
 ·have q1 : decide (T < 1) = true := decide_eq_true hT1
  rw [apW_arg FT (n := n) (f := f) (L := L) (xs := xs) (.inl hT1)]
  refine Calls.mono (?_ : Calls Tryz.prog 10 #[.pointer (some ⟨tb, 0, none⟩), .int .i64 T, .slice ao n cap] w fun ee w' => ee = .returned (.tuple #[.pointer none, .int .i64 0, .int .i64 1]) ∧ Below w.heap.size w w') (by rintro _ _ ⟨rfl, hb⟩; exact ⟨none, rfl, hb, .inl ⟨by decide, rfl⟩⟩)
  clear h KF hA
  go_enter Tryz.func10, Tryz.ntmps10
  go_wp2
  refine bodyPost_ret (v := .tuple #[.pointer none, .int .i64 0, .int .i64 1]) (by simp [results, Tryz.results10, go_sem, *]) rfl ⟨rfl, HB0.out⟩
 by_cases hT2 : 65536 < T
 ·have q1 : decide (T < 1) = false := decide_eq_false hT1
  have q2 : decide (65536 < T) = true := decide_eq_true hT2
  rw [apW_arg FT (n := n) (f := f) (L := L) (xs := xs) (.inr hT2)]
  refine Calls.mono (?_ : Calls Tryz.prog 10 #[.pointer (some ⟨tb, 0, none⟩), .int .i64 T, .slice ao n cap] w fun ee w' => ee = .returned (.tuple #[.pointer none, .int .i64 0, .int .i64 1]) ∧ Below w.heap.size w w') (by rintro _ _ ⟨rfl, hb⟩; exact ⟨none, rfl, hb, .inl ⟨by decide, rfl⟩⟩)
  clear h KF hA
  go_enter Tryz.func10, Tryz.ntmps10
  go_wp2
  refine bodyPost_ret (v := .tuple #[.pointer none, .int .i64 0, .int .i64 1]) (by simp [results, Tryz.results10, go_sem, *]) rfl ⟨rfl, HB0.out⟩
 have q1 : decide (T < 1) = false := decide_eq_false hT1
 have q2 : decide (65536 < T) = false := decide_eq_false hT2
 by_cases hn32 : 32 < n
 ·have q3 : decide ((32 : Int) < (n : Int)) = true := decide_eq_true (by omega)
  have q4 : decide (32 < n) = true := decide_eq_true hn32
  rw [apW_long FT (n := n) (f := f) (L := L) (xs := xs) hT1 hT2 hn32]
  refine Calls.mono (?_ : Calls Tryz.prog 10 #[.pointer (some ⟨tb, 0, none⟩), .int .i64 T, .slice ao n cap] w fun ee w' => ee = .returned (.tuple #[.pointer none, .int .i64 0, .int .i64 2]) ∧ Below w.heap.size w w') (by rintro _ _ ⟨rfl, hb⟩; exact ⟨none, rfl, hb, .inl ⟨by decide, rfl⟩⟩)
  clear h KF hA
  go_enter Tryz.func10, Tryz.ntmps10
  go_wp2
  refine bodyPost_ret (v := .tuple #[.pointer none, .int .i64 0, .int .i64 2]) (by simp [results, Tryz.results10, go_sem, *]) rfl ⟨rfl, HB0.out⟩
 have q3 : decide ((32 : Int) < (n : Int)) = false := decide_eq_false (by omega)
 have q4 : decide (32 < n) = false := decide_eq_false hn32
 have HNT : Hid (1 ≤ T ∧ T ≤ 65536 ∧ n ≤ 32) := Lib.hid ⟨by omega, by omega, by omega⟩
 have hn33 : n ≤ 32 := by omega
 clear hT1 hT2 hn32
 have KCP := Lib.hid (hcop_c h)
 have KWK := Lib.hid work_c
 have KADD := Lib.hid (fun (z : World) {tb mb : Nat} {F : Int → Option Cls} {M : List Int} (h : HT z tb mb F) (I : TI F M) {c : Cls} (hi : CIn c) => hadd_c h I hi)
 have KST := Lib.hid (fun (z : World) {tb mb : Nat} {F : Int → Option Cls} {M : List Int} (h : HT z tb mb F) (I : TI F M) {c : Cls} (hi : CIn c) => hset_c h I hi)
 have KDL := Lib.hid (fun (z : World) (p : Nat) {tb mb : Nat} {F : Int → Option Cls} {M : List Int} (h : HT z tb mb F) (I : TI F M) {c : Cls} (hi : CIn c) (hp : z.cell? ⟨p, 0, none⟩ = some (.pointer (some ⟨tb, 0, none⟩))) (hl : p < z.heap.size) => w1_c h I hi hp hl)
 have KFT := Lib.hid KF
 have HA := Lib.hid hA
 have HIN := Lib.hid hin
 have HLN := Lib.hid hln
 have HI0 := Lib.hid I
 have ALL := Lib.hid cg_alloc
 have INF := Lib.hid cg_info
 have ONE := Lib.hid cg_one
 have CINF := Lib.hid cl_info
 clear h hA hin hln KF I
 go_enter Tryz.func10, Tryz.ntmps10
 go_wp2_with (first
  | go_guarded
  | (go_at_call 24; (with_reducible refine KCP.out.mono ?_); rintro _ w1 ⟨tb2, mb2, rfl, ht, hm, hT, hbel⟩; have HT1 := Lib.hid hT; have HB1 := Lib.hid hbel; have HB2 := Lib.hid ht; have HM2 := Lib.hid hm; clear hT hbel ht hm))
 try go_frame
 go_loopg [31] n (fun k9 s31 wr => ∃ (k : Nat) (F : Int → Option Cls) (Lx : List Int), s31 = .int .i64 k ∧ k ≤ n ∧ HT wr tb2 mb2 F ∧ TI F Lx ∧ Below w.heap.size w wr ∧ app f L 0 xs = app F Lx k (xs.drop k) ∧ n - k ≤ k9)
 case atStart => exact ⟨0, f, L, rfl, Nat.zero_le _, HT1.out, HI0.out, HB1.out, by simp, by omega⟩
 case round =>
  obtain ⟨k, F, Lx, rfl, hk, hTr, hI, hB, hap, hk9⟩ := hrel
  have HTR := Lib.hid hTr
  have HI := Lib.hid hI
  have HB := Lib.hid hB
  have HAP := Lib.hid hap
  by_cases hlt : k < n
  ·have HLT : Hid (k + 1 ≤ n) := Lib.hid hlt
   have hlC : k < xs.length := by rw [HLN.out]; exact hlt
   obtain ⟨b, o, rfl, hb, hra⟩ := (HA.out.below hB) k hlC
   have hci := HIN.out k hlC
   have hdr : xs.drop k = xs[k] :: xs.drop (k + 1) := List.drop_eq_getElem_cons hlC
   obtain ⟨a, hae⟩ : ∃ a, xs[k] = a := ⟨_, rfl⟩
   rw [hae] at hra hci hdr
   obtain ⟨k0, c⟩ := a
   have HR := Lib.hid (show wr.rangeAt b (o + k * 15) (#[.int .i64 (k0), .int .i64 c.id, .int .i64 c.par, .bool c.leaf, .int .u64 c.ra, .int .u64 c.rb, .int .u64 c.rc, .int .u64 c.la, .int .u64 c.lb, .int .u64 c.lc, .int .u64 c.ua, .int .u64 c.ub, .int .u64 c.uc, .int .i64 c.pk, .int .i64 c.bt] : Array Value).toList from hra)
   have HCI := Lib.hid hci
   have HDR := Lib.hid hdr
   clear hTr hI hB hap hra hci hae hdr
   by_cases h1 : k0 = 1
   ·subst h1
    go_wp2_with (first
     | go_guarded
     | (refine wpList_var_new3 rfl rfl rfl 50 #[.int .i64 0, .int .i64 0, .int .i64 0, .bool false, .int .u64 0, .int .u64 0, .int .u64 0, .int .u64 0, .int .u64 0, .int .u64 0, .int .u64 0, .int .u64 0, .int .u64 0, .int .i64 0, .int .i64 0] ALL.out rfl _ rfl _ _ rfl #[.int .i64 (1), .int .i64 c.id, .int .i64 c.par, .bool c.leaf, .int .u64 c.ra, .int .u64 c.rb, .int .u64 c.rc, .int .u64 c.la, .int .u64 c.lb, .int .u64 c.lc, .int .u64 c.ua, .int .u64 c.ub, .int .u64 c.uc, .int .i64 c.pk, .int .i64 c.bt] _ rfl rfl rfl INF.out rfl (ONE.out _ _) ?_; intro w5 hs5 hb5 hv5)
     | (refine wpList_part_get rfl 50 _ rfl b (o + k * 15) #[.int .i64 (1), .int .i64 c.id, .int .i64 c.par, .bool c.leaf, .int .u64 c.ra, .int .u64 c.rb, .int .u64 c.rc, .int .u64 c.la, .int .u64 c.lb, .int .u64 c.lc, .int .u64 c.ua, .int .u64 c.ub, .int .u64 c.uc, .int .i64 c.pk, .int .i64 c.bt] _ HR.out rfl Tryz.underlying50 rfl INF.out ?_))
    have HT5 := Lib.hid (HTR.out.below hb5)
    have HB5 := Lib.hid (HB.out.trans (hb5.mono HB.out.size))
    have hv5d : VR w5.drew wr.heap.size 50 #[.int .i64 (1), .int .i64 c.id, .int .i64 c.par, .bool c.leaf, .int .u64 c.ra, .int .u64 c.rb, .int .u64 c.rc, .int .u64 c.la, .int .u64 c.lb, .int .u64 c.lc, .int .u64 c.ua, .int .u64 c.ub, .int .u64 c.uc, .int .i64 c.pk, .int .i64 c.bt] := hv5.frame rfl
    have hd0 : HT w5.drew tb2 mb2 F := HT5.out.below (Below.drew (Below.refl _ _))
    have HMR := Lib.hid HTR.out.mlt
    obtain ⟨Cl, hCl⟩ : ∃ Cl : List (Nat × Value) → World → Prop, Cl = ((fun ps wz => (VR wz wr.heap.size 50 #[.int .i64 (1), .int .i64 c.id, .int .i64 c.par, .bool c.leaf, .int .u64 c.ra, .int .u64 c.rb, .int .u64 c.rc, .int .u64 c.la, .int .u64 c.lb, .int .u64 c.lc, .int .u64 c.ua, .int .u64 c.ub, .int .u64 c.uc, .int .i64 c.pk, .int .i64 c.bt] ∧ wz.cell? ⟨wr.heap.size, 0, none⟩ = some (.int .i64 (1)) ∧ wr.heap.size < wz.heap.size) ∧ (match ps with
     | [] => wz = w5.drew
     | [(_, v)] => v = .func (.func 20) #[.pointer (some ⟨tb2, 0, none⟩)] #[] ∧ Below w5.heap.size w5 wz ∧ wz.cell? ⟨wr.heap.size + 1, 0, none⟩ = some (.pointer (some ⟨tb2, 0, none⟩)) ∧ wr.heap.size + 1 < wz.heap.size
     | [_, (_, v)] => v = .int .i64 (addE F Lx c) ∧ HT wz tb2 mb2 (addF F Lx c) ∧ Only (fun k => k = mb2) w5 wz
     | _ => True))) := ⟨_, rfl⟩; have HCl := Lib.hid hCl; clear hCl; refine Reg2.wp_region_lineS [(0, false), (1, false), (2, false), (4, false), (5, false), (3, false), (6, false), (7, false)] [3, 6] Cl (by kernel_rfl) (by kernel_rfl) (by kernel_rfl) (by simp only [HCl.out, zD, zE]; exact ⟨⟨hv5d, hv5d.cell 0 rfl, hv5d.lt⟩, (by first | rfl | trivial)⟩) ?_
    clear hd0 hv5d hv5
    (repeat ((first | (refine Reg2.wS_skip gtb (by rfl) ?_) | (refine Reg2.wS_open gtb (by rfl) (by rfl) ⟨.agg #[.int .i64 c.id, .int .i64 c.par, .bool c.leaf, .int .u64 c.ra, .int .u64 c.rb, .int .u64 c.rc, .int .u64 c.la, .int .u64 c.lb, .int .u64 c.lc, .int .u64 c.ua, .int .u64 c.ub, .int .u64 c.uc, .int .i64 c.pk, .int .i64 c.bt], fun vs wq hw => ?_, ?_⟩; (focus (simp only [HCl.out, zD, zE] at hw; exact quiet_part 48 _ rfl wr.heap.size 1 #[.int .i64 c.id, .int .i64 c.par, .bool c.leaf, .int .u64 c.ra, .int .u64 c.rb, .int .u64 c.rc, .int .u64 c.la, .int .u64 c.lb, .int .u64 c.lc, .int .u64 c.ua, .int .u64 c.ub, .int .u64 c.uc, .int .i64 c.pk, .int .i64 c.bt] _ (cg_part hw.1.1) rfl Tryz.underlying48 rfl CINF.out))) | (refine Reg2.wS_open gtb (by rfl) (by rfl) ?_; apply Exists.intro; refine ⟨fun vs wq hw => ?_, ?_⟩; (focus (simp only [HCl.out, zD, zE] at hw; go_split_ands; go_simp <;> exact ebb)))); simp only [Act.put, Nat.reduceAdd, zA, zB, zC, zD, zE]))
    refine Reg2.wS_eff gtb (by rfl) (by rfl) (fun wq hw => ?_) (fun u9 hu => ?_)
    focus
     simp only [HCl.out, zD, zE] at hw
     obtain ⟨⟨dv, d1, d2⟩, rfl⟩ := hw
     go_simp
     go_at_call 25
     (with_reducible refine (KWK.out tb2 (1) _).mono ?_)
     rintro e w9 ⟨rfl, hbel, hcl, hl9⟩
     have hbel2 : Below w5.heap.size w5 w9 := (Below.drew (Below.refl w5.heap.size w5)).trans hbel
     have hcl2 : w9.cell? ⟨wr.heap.size + 1, 0, none⟩ = some (.pointer (some ⟨tb2, 0, none⟩)) := by rw [← hs5]; exact hcl
     have hl92 : wr.heap.size + 1 < w9.heap.size := by rw [← hs5]; exact hl9
     have hfv : wfv w5.drew.heap.size tb2 (1) = .func (.func 20) #[.pointer (some ⟨tb2, 0, none⟩)] #[] := by show wfv w5.heap.size tb2 (1) = _; rw [hs5]; exact rfl
     refine ⟨_, rfl, ?_⟩
     simp only [HCl.out, zD, zE]
     exact ⟨⟨dv.bel hbel, (dv.bel hbel).cell 0 rfl, (dv.bel hbel).lt⟩, hfv, hbel2, hcl2, hl92⟩
    (obtain ⟨wz, hz⟩ := hu; rw [HCl.out] at hz; (try simp only [List.nil_append, List.cons_append] at hz); (try dsimp only at hz))
    obtain ⟨-, rfl, -⟩ := hz
    clear wz
    simp only [Act.put, Nat.reduceAdd, zA, zB, zC, zD, zE]
    (repeat ((first | (refine Reg2.wS_skip gtb (by rfl) ?_) | (refine Reg2.wS_open gtb (by rfl) (by rfl) ⟨.agg #[.int .i64 c.id, .int .i64 c.par, .bool c.leaf, .int .u64 c.ra, .int .u64 c.rb, .int .u64 c.rc, .int .u64 c.la, .int .u64 c.lb, .int .u64 c.lc, .int .u64 c.ua, .int .u64 c.ub, .int .u64 c.uc, .int .i64 c.pk, .int .i64 c.bt], fun vs wq hw => ?_, ?_⟩; (focus (simp only [HCl.out, zD, zE] at hw; exact quiet_part 48 _ rfl wr.heap.size 1 #[.int .i64 c.id, .int .i64 c.par, .bool c.leaf, .int .u64 c.ra, .int .u64 c.rb, .int .u64 c.rc, .int .u64 c.la, .int .u64 c.lb, .int .u64 c.lc, .int .u64 c.ua, .int .u64 c.ub, .int .u64 c.uc, .int .i64 c.pk, .int .i64 c.bt] _ (cg_part hw.1.1) rfl Tryz.underlying48 rfl CINF.out))) | (refine Reg2.wS_open gtb (by rfl) (by rfl) ?_; apply Exists.intro; refine ⟨fun vs wq hw => ?_, ?_⟩; (focus (simp only [HCl.out, zD, zE] at hw; go_split_ands; go_simp <;> exact ebb)))); simp only [Act.put, Nat.reduceAdd, zA, zB, zC, zD, zE]))
    refine Reg2.wS_eff gtb (by rfl) (by rfl) (fun wq hw => ?_) (fun u9 hu => ?_)
    focus
     simp only [HCl.out, zD, zE] at hw
     obtain ⟨⟨dv, d1, d2⟩, -, hbel, hcl, hl⟩ := hw
     have hTz : HT wq tb2 mb2 F := HT5.out.below hbel
     go_simp
     go_at_call 20
     (with_reducible refine (KADD.out _ hTz HI.out HCI.out).mono ?_)
     rintro e w10 ⟨rfl, hT, hO⟩
     refine ⟨_, rfl, ?_⟩
     simp only [HCl.out, zD, zE]
     have hmp : ¬ wr.heap.size = mb2 := by have := HMR.out; omega
     exact ⟨⟨dv.only hO (fun g => hmp g), (dv.only hO (fun g => hmp g)).cell 0 rfl, (dv.only hO (fun g => hmp g)).lt⟩, (by first | rfl | trivial), hT, (Only.of_below hbel).trans hO⟩
    (obtain ⟨wz, hz⟩ := hu; rw [HCl.out] at hz; (try simp only [List.nil_append, List.cons_append] at hz); (try dsimp only at hz))
    obtain ⟨-, rfl, -⟩ := hz
    clear wz
    simp only [Act.put, Nat.reduceAdd, zA, zB, zC, zD, zE]
    (repeat ((first | (refine Reg2.wS_skip gtb (by rfl) ?_) | (refine Reg2.wS_open gtb (by rfl) (by rfl) ⟨.agg #[.int .i64 c.id, .int .i64 c.par, .bool c.leaf, .int .u64 c.ra, .int .u64 c.rb, .int .u64 c.rc, .int .u64 c.la, .int .u64 c.lb, .int .u64 c.lc, .int .u64 c.ua, .int .u64 c.ub, .int .u64 c.uc, .int .i64 c.pk, .int .i64 c.bt], fun vs wq hw => ?_, ?_⟩; (focus (simp only [HCl.out, zD, zE] at hw; exact quiet_part 48 _ rfl wr.heap.size 1 #[.int .i64 c.id, .int .i64 c.par, .bool c.leaf, .int .u64 c.ra, .int .u64 c.rb, .int .u64 c.rc, .int .u64 c.la, .int .u64 c.lb, .int .u64 c.lc, .int .u64 c.ua, .int .u64 c.ub, .int .u64 c.uc, .int .i64 c.pk, .int .i64 c.bt] _ (cg_part hw.1.1) rfl Tryz.underlying48 rfl CINF.out))) | (refine Reg2.wS_open gtb (by rfl) (by rfl) ?_; apply Exists.intro; refine ⟨fun vs wq hw => ?_, ?_⟩; (focus (simp only [HCl.out, zD, zE] at hw; go_split_ands; go_simp <;> exact ebb)))); simp only [Act.put, Nat.reduceAdd, zA, zB, zC, zD, zE]))
    refine Reg2.wS_nil ?_; intro w' hw; simp only [HCl.out, zD, zE] at hw; clear HCl
    obtain ⟨-, -, hT6, hO6⟩ := hw
    have HT6 := Lib.hid hT6
    have HB6 : Hid (Below w.heap.size w w') := Lib.hid (HB5.out.trans ⟨hO6.1, hO6.2, hO6.3, hO6.4, fun q hq => hO6.5 q (Nat.lt_of_lt_of_le hq HB5.out.size) (by have := HM2.out; omega)⟩)
    have HLF := Lib.hid (show chF 1 F Lx c = addF F Lx c from rfl)
    have HLE := Lib.hid (show chE 1 F Lx c = addE F Lx c from rfl)
    have HLI := Lib.hid (HI.out.chF (1) HCI.out)
    clear hT6 hO6 hb5
    obtain ⟨E, hE⟩ : ∃ E, (addE F Lx c) = E := ⟨_, rfl⟩
    rw [hE] at HLE ⊢
    clear hE
    by_cases hE0 : E = 0
    ·subst hE0
     go_wp2
     go_roundg (n - (k + 1))
     case rel => exact ⟨k + 1, _, _, (by have h8 := HNT.out.2.2; have h9 := HLT.out; go_num), HLT.out, (by rw [HLF.out]; exact HT6.out), HLI.out, HB6.out, by rw [HAP.out, HDR.out, app_ok _ HLE.out]; rfl, Nat.le_refl _⟩
     case measure => omega
    ·have qE : (E == 0) = false := by simpa using hE0
     have hW := apW_err FT (T := T) (n := n) (f := f) (L := L) (xs := xs) (by have := HNT.out; omega) (by have := HNT.out; omega) (by have := HNT.out; omega) (k : Int) E hE0 (F) (Lx) (HAP.out.trans (by rw [HDR.out]; exact app_no _ HLE.out hE0))
     have HW := Lib.hid hW
     have HE0 := Lib.hid hE0
     clear hW
     go_wp2
     refine bodyPost_ret (v := .tuple #[.pointer none, .int .i64 k, .int .i64 E]) (by simp [results, Tryz.results10, go_sem, *]) rfl ⟨none, by rw [HW.out], HB6.out, .inl ⟨by rw [HW.out]; exact HE0.out, rfl⟩⟩
   ·by_cases h2 : k0 = 2
    ·subst h2
     go_wp2_with (first
      | go_guarded
      | (refine wpList_var_new3 rfl rfl rfl 50 #[.int .i64 0, .int .i64 0, .int .i64 0, .bool false, .int .u64 0, .int .u64 0, .int .u64 0, .int .u64 0, .int .u64 0, .int .u64 0, .int .u64 0, .int .u64 0, .int .u64 0, .int .i64 0, .int .i64 0] ALL.out rfl _ rfl _ _ rfl #[.int .i64 (2), .int .i64 c.id, .int .i64 c.par, .bool c.leaf, .int .u64 c.ra, .int .u64 c.rb, .int .u64 c.rc, .int .u64 c.la, .int .u64 c.lb, .int .u64 c.lc, .int .u64 c.ua, .int .u64 c.ub, .int .u64 c.uc, .int .i64 c.pk, .int .i64 c.bt] _ rfl rfl rfl INF.out rfl (ONE.out _ _) ?_; intro w5 hs5 hb5 hv5)
      | (refine wpList_part_get rfl 50 _ rfl b (o + k * 15) #[.int .i64 (2), .int .i64 c.id, .int .i64 c.par, .bool c.leaf, .int .u64 c.ra, .int .u64 c.rb, .int .u64 c.rc, .int .u64 c.la, .int .u64 c.lb, .int .u64 c.lc, .int .u64 c.ua, .int .u64 c.ub, .int .u64 c.uc, .int .i64 c.pk, .int .i64 c.bt] _ HR.out rfl Tryz.underlying50 rfl INF.out ?_))
     have HT5 := Lib.hid (HTR.out.below hb5)
     have HB5 := Lib.hid (HB.out.trans (hb5.mono HB.out.size))
     have hv5d : VR w5.drew wr.heap.size 50 #[.int .i64 (2), .int .i64 c.id, .int .i64 c.par, .bool c.leaf, .int .u64 c.ra, .int .u64 c.rb, .int .u64 c.rc, .int .u64 c.la, .int .u64 c.lb, .int .u64 c.lc, .int .u64 c.ua, .int .u64 c.ub, .int .u64 c.uc, .int .i64 c.pk, .int .i64 c.bt] := hv5.frame rfl
     have hd0 : HT w5.drew tb2 mb2 F := HT5.out.below (Below.drew (Below.refl _ _))
     have HMR := Lib.hid HTR.out.mlt
     obtain ⟨Cl, hCl⟩ : ∃ Cl : List (Nat × Value) → World → Prop, Cl = ((fun ps wz => (VR wz wr.heap.size 50 #[.int .i64 (2), .int .i64 c.id, .int .i64 c.par, .bool c.leaf, .int .u64 c.ra, .int .u64 c.rb, .int .u64 c.rc, .int .u64 c.la, .int .u64 c.lb, .int .u64 c.lc, .int .u64 c.ua, .int .u64 c.ub, .int .u64 c.uc, .int .i64 c.pk, .int .i64 c.bt] ∧ wz.cell? ⟨wr.heap.size, 0, none⟩ = some (.int .i64 (2)) ∧ wr.heap.size < wz.heap.size) ∧ (match ps with
      | [] => wz = w5.drew
      | [(_, v)] => v = .func (.func 55) #[] #[.pointer (some ⟨(wr.heap.size + 1), 0, none⟩)] ∧ Below w5.heap.size w5 wz ∧ wz.cell? ⟨wr.heap.size + 1, 0, none⟩ = some (.pointer (some ⟨tb2, 0, none⟩)) ∧ wr.heap.size + 1 < wz.heap.size
      | [_, (_, v)] => v = .int .i64 (delE F Lx c.id) ∧ HT wz tb2 mb2 (delF F Lx c.id) ∧ Only (fun k => k = mb2) w5 wz
      | _ => True))) := ⟨_, rfl⟩; have HCl := Lib.hid hCl; clear hCl; refine Reg2.wp_region_lineS [(0, false), (1, false), (2, false), (4, false), (5, false), (3, false), (6, false), (7, false)] [3, 6] Cl (by kernel_rfl) (by kernel_rfl) (by kernel_rfl) (by simp only [HCl.out, zD, zE]; exact ⟨⟨hv5d, hv5d.cell 0 rfl, hv5d.lt⟩, (by first | rfl | trivial)⟩) ?_
     clear hd0 hv5d hv5
     (repeat ((first | (refine Reg2.wS_skip gtb (by rfl) ?_) | (refine Reg2.wS_open gtb (by rfl) (by rfl) ⟨.agg #[.int .i64 c.id, .int .i64 c.par, .bool c.leaf, .int .u64 c.ra, .int .u64 c.rb, .int .u64 c.rc, .int .u64 c.la, .int .u64 c.lb, .int .u64 c.lc, .int .u64 c.ua, .int .u64 c.ub, .int .u64 c.uc, .int .i64 c.pk, .int .i64 c.bt], fun vs wq hw => ?_, ?_⟩; (focus (simp only [HCl.out, zD, zE] at hw; exact quiet_part 48 _ rfl wr.heap.size 1 #[.int .i64 c.id, .int .i64 c.par, .bool c.leaf, .int .u64 c.ra, .int .u64 c.rb, .int .u64 c.rc, .int .u64 c.la, .int .u64 c.lb, .int .u64 c.lc, .int .u64 c.ua, .int .u64 c.ub, .int .u64 c.uc, .int .i64 c.pk, .int .i64 c.bt] _ (cg_part hw.1.1) rfl Tryz.underlying48 rfl CINF.out))) | (refine Reg2.wS_open gtb (by rfl) (by rfl) ?_; apply Exists.intro; refine ⟨fun vs wq hw => ?_, ?_⟩; (focus (simp only [HCl.out, zD, zE] at hw; go_split_ands; go_simp <;> exact ebb)))); simp only [Act.put, Nat.reduceAdd, zA, zB, zC, zD, zE]))
     refine Reg2.wS_eff gtb (by rfl) (by rfl) (fun wq hw => ?_) (fun u9 hu => ?_)
     focus
      simp only [HCl.out, zD, zE] at hw
      obtain ⟨⟨dv, d1, d2⟩, rfl⟩ := hw
      go_simp
      go_at_call 25
      (with_reducible refine (KWK.out tb2 (2) _).mono ?_)
      rintro e w9 ⟨rfl, hbel, hcl, hl9⟩
      have hbel2 : Below w5.heap.size w5 w9 := (Below.drew (Below.refl w5.heap.size w5)).trans hbel
      have hcl2 : w9.cell? ⟨wr.heap.size + 1, 0, none⟩ = some (.pointer (some ⟨tb2, 0, none⟩)) := by rw [← hs5]; exact hcl
      have hl92 : wr.heap.size + 1 < w9.heap.size := by rw [← hs5]; exact hl9
      have hfv : wfv w5.drew.heap.size tb2 (2) = .func (.func 55) #[] #[.pointer (some ⟨(wr.heap.size + 1), 0, none⟩)] := by show wfv w5.heap.size tb2 (2) = _; rw [hs5]; exact rfl
      refine ⟨_, rfl, ?_⟩
      simp only [HCl.out, zD, zE]
      exact ⟨⟨dv.bel hbel, (dv.bel hbel).cell 0 rfl, (dv.bel hbel).lt⟩, hfv, hbel2, hcl2, hl92⟩
     (obtain ⟨wz, hz⟩ := hu; rw [HCl.out] at hz; (try simp only [List.nil_append, List.cons_append] at hz); (try dsimp only at hz))
     obtain ⟨-, rfl, -⟩ := hz
     clear wz
     simp only [Act.put, Nat.reduceAdd, zA, zB, zC, zD, zE]
     (repeat ((first | (refine Reg2.wS_skip gtb (by rfl) ?_) | (refine Reg2.wS_open gtb (by rfl) (by rfl) ⟨.agg #[.int .i64 c.id, .int .i64 c.par, .bool c.leaf, .int .u64 c.ra, .int .u64 c.rb, .int .u64 c.rc, .int .u64 c.la, .int .u64 c.lb, .int .u64 c.lc, .int .u64 c.ua, .int .u64 c.ub, .int .u64 c.uc, .int .i64 c.pk, .int .i64 c.bt], fun vs wq hw => ?_, ?_⟩; (focus (simp only [HCl.out, zD, zE] at hw; exact quiet_part 48 _ rfl wr.heap.size 1 #[.int .i64 c.id, .int .i64 c.par, .bool c.leaf, .int .u64 c.ra, .int .u64 c.rb, .int .u64 c.rc, .int .u64 c.la, .int .u64 c.lb, .int .u64 c.lc, .int .u64 c.ua, .int .u64 c.ub, .int .u64 c.uc, .int .i64 c.pk, .int .i64 c.bt] _ (cg_part hw.1.1) rfl Tryz.underlying48 rfl CINF.out))) | (refine Reg2.wS_open gtb (by rfl) (by rfl) ?_; apply Exists.intro; refine ⟨fun vs wq hw => ?_, ?_⟩; (focus (simp only [HCl.out, zD, zE] at hw; go_split_ands; go_simp <;> exact ebb)))); simp only [Act.put, Nat.reduceAdd, zA, zB, zC, zD, zE]))
     refine Reg2.wS_eff gtb (by rfl) (by rfl) (fun wq hw => ?_) (fun u9 hu => ?_)
     focus
      simp only [HCl.out, zD, zE] at hw
      obtain ⟨⟨dv, d1, d2⟩, -, hbel, hcl, hl⟩ := hw
      have hTz : HT wq tb2 mb2 F := HT5.out.below hbel
      go_simp
      go_at_call 55
      (with_reducible refine (KDL.out _ _ hTz HI.out HCI.out hcl hl).mono ?_)
      rintro e w10 ⟨rfl, hT, hO⟩
      refine ⟨_, rfl, ?_⟩
      simp only [HCl.out, zD, zE]
      have hmp : ¬ wr.heap.size = mb2 := by have := HMR.out; omega
      exact ⟨⟨dv.only hO (fun g => hmp g), (dv.only hO (fun g => hmp g)).cell 0 rfl, (dv.only hO (fun g => hmp g)).lt⟩, (by first | rfl | trivial), hT, (Only.of_below hbel).trans hO⟩
     (obtain ⟨wz, hz⟩ := hu; rw [HCl.out] at hz; (try simp only [List.nil_append, List.cons_append] at hz); (try dsimp only at hz))
     obtain ⟨-, rfl, -⟩ := hz
     clear wz
     simp only [Act.put, Nat.reduceAdd, zA, zB, zC, zD, zE]
     (repeat ((first | (refine Reg2.wS_skip gtb (by rfl) ?_) | (refine Reg2.wS_open gtb (by rfl) (by rfl) ⟨.agg #[.int .i64 c.id, .int .i64 c.par, .bool c.leaf, .int .u64 c.ra, .int .u64 c.rb, .int .u64 c.rc, .int .u64 c.la, .int .u64 c.lb, .int .u64 c.lc, .int .u64 c.ua, .int .u64 c.ub, .int .u64 c.uc, .int .i64 c.pk, .int .i64 c.bt], fun vs wq hw => ?_, ?_⟩; (focus (simp only [HCl.out, zD, zE] at hw; exact quiet_part 48 _ rfl wr.heap.size 1 #[.int .i64 c.id, .int .i64 c.par, .bool c.leaf, .int .u64 c.ra, .int .u64 c.rb, .int .u64 c.rc, .int .u64 c.la, .int .u64 c.lb, .int .u64 c.lc, .int .u64 c.ua, .int .u64 c.ub, .int .u64 c.uc, .int .i64 c.pk, .int .i64 c.bt] _ (cg_part hw.1.1) rfl Tryz.underlying48 rfl CINF.out))) | (refine Reg2.wS_open gtb (by rfl) (by rfl) ?_; apply Exists.intro; refine ⟨fun vs wq hw => ?_, ?_⟩; (focus (simp only [HCl.out, zD, zE] at hw; go_split_ands; go_simp <;> exact ebb)))); simp only [Act.put, Nat.reduceAdd, zA, zB, zC, zD, zE]))
     refine Reg2.wS_nil ?_; intro w' hw; simp only [HCl.out, zD, zE] at hw; clear HCl
     obtain ⟨-, -, hT6, hO6⟩ := hw
     have HT6 := Lib.hid hT6
     have HB6 : Hid (Below w.heap.size w w') := Lib.hid (HB5.out.trans ⟨hO6.1, hO6.2, hO6.3, hO6.4, fun q hq => hO6.5 q (Nat.lt_of_lt_of_le hq HB5.out.size) (by have := HM2.out; omega)⟩)
     have HLF := Lib.hid (show chF 2 F Lx c = delF F Lx c.id from rfl)
     have HLE := Lib.hid (show chE 2 F Lx c = delE F Lx c.id from rfl)
     have HLI := Lib.hid (HI.out.chF (2) HCI.out)
     clear hT6 hO6 hb5
     obtain ⟨E, hE⟩ : ∃ E, (delE F Lx c.id) = E := ⟨_, rfl⟩
     rw [hE] at HLE ⊢
     clear hE
     by_cases hE0 : E = 0
     ·subst hE0
      go_wp2
      go_roundg (n - (k + 1))
      case rel => exact ⟨k + 1, _, _, (by have h8 := HNT.out.2.2; have h9 := HLT.out; go_num), HLT.out, (by rw [HLF.out]; exact HT6.out), HLI.out, HB6.out, by rw [HAP.out, HDR.out, app_ok _ HLE.out]; rfl, Nat.le_refl _⟩
      case measure => omega
     ·have qE : (E == 0) = false := by simpa using hE0
      have hW := apW_err FT (T := T) (n := n) (f := f) (L := L) (xs := xs) (by have := HNT.out; omega) (by have := HNT.out; omega) (by have := HNT.out; omega) (k : Int) E hE0 (F) (Lx) (HAP.out.trans (by rw [HDR.out]; exact app_no _ HLE.out hE0))
      have HW := Lib.hid hW
      have HE0 := Lib.hid hE0
      clear hW
      go_wp2
      refine bodyPost_ret (v := .tuple #[.pointer none, .int .i64 k, .int .i64 E]) (by simp [results, Tryz.results10, go_sem, *]) rfl ⟨none, by rw [HW.out], HB6.out, .inl ⟨by rw [HW.out]; exact HE0.out, rfl⟩⟩
    ·by_cases h3 : k0 = 3
     ·subst h3
      go_wp2_with (first
       | go_guarded
       | (refine wpList_var_new3 rfl rfl rfl 50 #[.int .i64 0, .int .i64 0, .int .i64 0, .bool false, .int .u64 0, .int .u64 0, .int .u64 0, .int .u64 0, .int .u64 0, .int .u64 0, .int .u64 0, .int .u64 0, .int .u64 0, .int .i64 0, .int .i64 0] ALL.out rfl _ rfl _ _ rfl #[.int .i64 (3), .int .i64 c.id, .int .i64 c.par, .bool c.leaf, .int .u64 c.ra, .int .u64 c.rb, .int .u64 c.rc, .int .u64 c.la, .int .u64 c.lb, .int .u64 c.lc, .int .u64 c.ua, .int .u64 c.ub, .int .u64 c.uc, .int .i64 c.pk, .int .i64 c.bt] _ rfl rfl rfl INF.out rfl (ONE.out _ _) ?_; intro w5 hs5 hb5 hv5)
       | (refine wpList_part_get rfl 50 _ rfl b (o + k * 15) #[.int .i64 (3), .int .i64 c.id, .int .i64 c.par, .bool c.leaf, .int .u64 c.ra, .int .u64 c.rb, .int .u64 c.rc, .int .u64 c.la, .int .u64 c.lb, .int .u64 c.lc, .int .u64 c.ua, .int .u64 c.ub, .int .u64 c.uc, .int .i64 c.pk, .int .i64 c.bt] _ HR.out rfl Tryz.underlying50 rfl INF.out ?_))
      have HT5 := Lib.hid (HTR.out.below hb5)
      have HB5 := Lib.hid (HB.out.trans (hb5.mono HB.out.size))
      have hv5d : VR w5.drew wr.heap.size 50 #[.int .i64 (3), .int .i64 c.id, .int .i64 c.par, .bool c.leaf, .int .u64 c.ra, .int .u64 c.rb, .int .u64 c.rc, .int .u64 c.la, .int .u64 c.lb, .int .u64 c.lc, .int .u64 c.ua, .int .u64 c.ub, .int .u64 c.uc, .int .i64 c.pk, .int .i64 c.bt] := hv5.frame rfl
      have hd0 : HT w5.drew tb2 mb2 F := HT5.out.below (Below.drew (Below.refl _ _))
      have HMR := Lib.hid HTR.out.mlt
      obtain ⟨Cl, hCl⟩ : ∃ Cl : List (Nat × Value) → World → Prop, Cl = ((fun ps wz => (VR wz wr.heap.size 50 #[.int .i64 (3), .int .i64 c.id, .int .i64 c.par, .bool c.leaf, .int .u64 c.ra, .int .u64 c.rb, .int .u64 c.rc, .int .u64 c.la, .int .u64 c.lb, .int .u64 c.lc, .int .u64 c.ua, .int .u64 c.ub, .int .u64 c.uc, .int .i64 c.pk, .int .i64 c.bt] ∧ wz.cell? ⟨wr.heap.size, 0, none⟩ = some (.int .i64 (3)) ∧ wr.heap.size < wz.heap.size) ∧ (match ps with
       | [] => wz = w5.drew
       | [(_, v)] => v = .func (.func 22) #[.pointer (some ⟨tb2, 0, none⟩)] #[] ∧ Below w5.heap.size w5 wz ∧ wz.cell? ⟨wr.heap.size + 1, 0, none⟩ = some (.pointer (some ⟨tb2, 0, none⟩)) ∧ wr.heap.size + 1 < wz.heap.size
       | [_, (_, v)] => v = .int .i64 (setE F Lx c) ∧ HT wz tb2 mb2 (setF F Lx c) ∧ Only (fun k => k = mb2) w5 wz
       | _ => True))) := ⟨_, rfl⟩; have HCl := Lib.hid hCl; clear hCl; refine Reg2.wp_region_lineS [(0, false), (1, false), (2, false), (4, false), (5, false), (3, false), (6, false), (7, false)] [3, 6] Cl (by kernel_rfl) (by kernel_rfl) (by kernel_rfl) (by simp only [HCl.out, zD, zE]; exact ⟨⟨hv5d, hv5d.cell 0 rfl, hv5d.lt⟩, (by first | rfl | trivial)⟩) ?_
      clear hd0 hv5d hv5
      (repeat ((first | (refine Reg2.wS_skip gtb (by rfl) ?_) | (refine Reg2.wS_open gtb (by rfl) (by rfl) ⟨.agg #[.int .i64 c.id, .int .i64 c.par, .bool c.leaf, .int .u64 c.ra, .int .u64 c.rb, .int .u64 c.rc, .int .u64 c.la, .int .u64 c.lb, .int .u64 c.lc, .int .u64 c.ua, .int .u64 c.ub, .int .u64 c.uc, .int .i64 c.pk, .int .i64 c.bt], fun vs wq hw => ?_, ?_⟩; (focus (simp only [HCl.out, zD, zE] at hw; exact quiet_part 48 _ rfl wr.heap.size 1 #[.int .i64 c.id, .int .i64 c.par, .bool c.leaf, .int .u64 c.ra, .int .u64 c.rb, .int .u64 c.rc, .int .u64 c.la, .int .u64 c.lb, .int .u64 c.lc, .int .u64 c.ua, .int .u64 c.ub, .int .u64 c.uc, .int .i64 c.pk, .int .i64 c.bt] _ (cg_part hw.1.1) rfl Tryz.underlying48 rfl CINF.out))) | (refine Reg2.wS_open gtb (by rfl) (by rfl) ?_; apply Exists.intro; refine ⟨fun vs wq hw => ?_, ?_⟩; (focus (simp only [HCl.out, zD, zE] at hw; go_split_ands; go_simp <;> exact ebb)))); simp only [Act.put, Nat.reduceAdd, zA, zB, zC, zD, zE]))
      refine Reg2.wS_eff gtb (by rfl) (by rfl) (fun wq hw => ?_) (fun u9 hu => ?_)
      focus
       simp only [HCl.out, zD, zE] at hw
       obtain ⟨⟨dv, d1, d2⟩, rfl⟩ := hw
       go_simp
       go_at_call 25
       (with_reducible refine (KWK.out tb2 (3) _).mono ?_)
       rintro e w9 ⟨rfl, hbel, hcl, hl9⟩
       have hbel2 : Below w5.heap.size w5 w9 := (Below.drew (Below.refl w5.heap.size w5)).trans hbel
       have hcl2 : w9.cell? ⟨wr.heap.size + 1, 0, none⟩ = some (.pointer (some ⟨tb2, 0, none⟩)) := by rw [← hs5]; exact hcl
       have hl92 : wr.heap.size + 1 < w9.heap.size := by rw [← hs5]; exact hl9
       have hfv : wfv w5.drew.heap.size tb2 (3) = .func (.func 22) #[.pointer (some ⟨tb2, 0, none⟩)] #[] := by show wfv w5.heap.size tb2 (3) = _; rw [hs5]; exact rfl
       refine ⟨_, rfl, ?_⟩
       simp only [HCl.out, zD, zE]
       exact ⟨⟨dv.bel hbel, (dv.bel hbel).cell 0 rfl, (dv.bel hbel).lt⟩, hfv, hbel2, hcl2, hl92⟩
      (obtain ⟨wz, hz⟩ := hu; rw [HCl.out] at hz; (try simp only [List.nil_append, List.cons_append] at hz); (try dsimp only at hz))
      obtain ⟨-, rfl, -⟩ := hz
      clear wz
      simp only [Act.put, Nat.reduceAdd, zA, zB, zC, zD, zE]
      (repeat ((first | (refine Reg2.wS_skip gtb (by rfl) ?_) | (refine Reg2.wS_open gtb (by rfl) (by rfl) ⟨.agg #[.int .i64 c.id, .int .i64 c.par, .bool c.leaf, .int .u64 c.ra, .int .u64 c.rb, .int .u64 c.rc, .int .u64 c.la, .int .u64 c.lb, .int .u64 c.lc, .int .u64 c.ua, .int .u64 c.ub, .int .u64 c.uc, .int .i64 c.pk, .int .i64 c.bt], fun vs wq hw => ?_, ?_⟩; (focus (simp only [HCl.out, zD, zE] at hw; exact quiet_part 48 _ rfl wr.heap.size 1 #[.int .i64 c.id, .int .i64 c.par, .bool c.leaf, .int .u64 c.ra, .int .u64 c.rb, .int .u64 c.rc, .int .u64 c.la, .int .u64 c.lb, .int .u64 c.lc, .int .u64 c.ua, .int .u64 c.ub, .int .u64 c.uc, .int .i64 c.pk, .int .i64 c.bt] _ (cg_part hw.1.1) rfl Tryz.underlying48 rfl CINF.out))) | (refine Reg2.wS_open gtb (by rfl) (by rfl) ?_; apply Exists.intro; refine ⟨fun vs wq hw => ?_, ?_⟩; (focus (simp only [HCl.out, zD, zE] at hw; go_split_ands; go_simp <;> exact ebb)))); simp only [Act.put, Nat.reduceAdd, zA, zB, zC, zD, zE]))
      refine Reg2.wS_eff gtb (by rfl) (by rfl) (fun wq hw => ?_) (fun u9 hu => ?_)
      focus
       simp only [HCl.out, zD, zE] at hw
       obtain ⟨⟨dv, d1, d2⟩, -, hbel, hcl, hl⟩ := hw
       have hTz : HT wq tb2 mb2 F := HT5.out.below hbel
       go_simp
       go_at_call 22
       (with_reducible refine (KST.out _ hTz HI.out HCI.out).mono ?_)
       rintro e w10 ⟨rfl, hT, hO⟩
       refine ⟨_, rfl, ?_⟩
       simp only [HCl.out, zD, zE]
       have hmp : ¬ wr.heap.size = mb2 := by have := HMR.out; omega
       exact ⟨⟨dv.only hO (fun g => hmp g), (dv.only hO (fun g => hmp g)).cell 0 rfl, (dv.only hO (fun g => hmp g)).lt⟩, (by first | rfl | trivial), hT, (Only.of_below hbel).trans hO⟩
      (obtain ⟨wz, hz⟩ := hu; rw [HCl.out] at hz; (try simp only [List.nil_append, List.cons_append] at hz); (try dsimp only at hz))
      obtain ⟨-, rfl, -⟩ := hz
      clear wz
      simp only [Act.put, Nat.reduceAdd, zA, zB, zC, zD, zE]
      (repeat ((first | (refine Reg2.wS_skip gtb (by rfl) ?_) | (refine Reg2.wS_open gtb (by rfl) (by rfl) ⟨.agg #[.int .i64 c.id, .int .i64 c.par, .bool c.leaf, .int .u64 c.ra, .int .u64 c.rb, .int .u64 c.rc, .int .u64 c.la, .int .u64 c.lb, .int .u64 c.lc, .int .u64 c.ua, .int .u64 c.ub, .int .u64 c.uc, .int .i64 c.pk, .int .i64 c.bt], fun vs wq hw => ?_, ?_⟩; (focus (simp only [HCl.out, zD, zE] at hw; exact quiet_part 48 _ rfl wr.heap.size 1 #[.int .i64 c.id, .int .i64 c.par, .bool c.leaf, .int .u64 c.ra, .int .u64 c.rb, .int .u64 c.rc, .int .u64 c.la, .int .u64 c.lb, .int .u64 c.lc, .int .u64 c.ua, .int .u64 c.ub, .int .u64 c.uc, .int .i64 c.pk, .int .i64 c.bt] _ (cg_part hw.1.1) rfl Tryz.underlying48 rfl CINF.out))) | (refine Reg2.wS_open gtb (by rfl) (by rfl) ?_; apply Exists.intro; refine ⟨fun vs wq hw => ?_, ?_⟩; (focus (simp only [HCl.out, zD, zE] at hw; go_split_ands; go_simp <;> exact ebb)))); simp only [Act.put, Nat.reduceAdd, zA, zB, zC, zD, zE]))
      refine Reg2.wS_nil ?_; intro w' hw; simp only [HCl.out, zD, zE] at hw; clear HCl
      obtain ⟨-, -, hT6, hO6⟩ := hw
      have HT6 := Lib.hid hT6
      have HB6 : Hid (Below w.heap.size w w') := Lib.hid (HB5.out.trans ⟨hO6.1, hO6.2, hO6.3, hO6.4, fun q hq => hO6.5 q (Nat.lt_of_lt_of_le hq HB5.out.size) (by have := HM2.out; omega)⟩)
      have HLF := Lib.hid (show chF 3 F Lx c = setF F Lx c from rfl)
      have HLE := Lib.hid (show chE 3 F Lx c = setE F Lx c from rfl)
      have HLI := Lib.hid (HI.out.chF (3) HCI.out)
      clear hT6 hO6 hb5
      obtain ⟨E, hE⟩ : ∃ E, (setE F Lx c) = E := ⟨_, rfl⟩
      rw [hE] at HLE ⊢
      clear hE
      by_cases hE0 : E = 0
      ·subst hE0
       go_wp2
       go_roundg (n - (k + 1))
       case rel => exact ⟨k + 1, _, _, (by have h8 := HNT.out.2.2; have h9 := HLT.out; go_num), HLT.out, (by rw [HLF.out]; exact HT6.out), HLI.out, HB6.out, by rw [HAP.out, HDR.out, app_ok _ HLE.out]; rfl, Nat.le_refl _⟩
       case measure => omega
      ·have qE : (E == 0) = false := by simpa using hE0
       have hW := apW_err FT (T := T) (n := n) (f := f) (L := L) (xs := xs) (by have := HNT.out; omega) (by have := HNT.out; omega) (by have := HNT.out; omega) (k : Int) E hE0 (F) (Lx) (HAP.out.trans (by rw [HDR.out]; exact app_no _ HLE.out hE0))
       have HW := Lib.hid hW
       have HE0 := Lib.hid hE0
       clear hW
       go_wp2
       refine bodyPost_ret (v := .tuple #[.pointer none, .int .i64 k, .int .i64 E]) (by simp [results, Tryz.results10, go_sem, *]) rfl ⟨none, by rw [HW.out], HB6.out, .inl ⟨by rw [HW.out]; exact HE0.out, rfl⟩⟩
     ·have HWF : Hid (∀ p, wfv p tb2 k0 = .func (.func 56) #[] #[]) := Lib.hid (fun p => by unfold wfv; rw [if_neg h1, if_neg h2, if_neg h3])
      have HCF : Hid (chF k0 F Lx c = F) := Lib.hid (by unfold chF; rw [if_neg h1, if_neg h2, if_neg h3])
      have HCE : Hid (chE k0 F Lx c = 1) := Lib.hid (by unfold chE; rw [if_neg h1, if_neg h2, if_neg h3])
      clear h1 h2 h3
      go_wp2_with (first
       | go_guarded
       | (refine wpList_var_new3 rfl rfl rfl 50 #[.int .i64 0, .int .i64 0, .int .i64 0, .bool false, .int .u64 0, .int .u64 0, .int .u64 0, .int .u64 0, .int .u64 0, .int .u64 0, .int .u64 0, .int .u64 0, .int .u64 0, .int .i64 0, .int .i64 0] ALL.out rfl _ rfl _ _ rfl #[.int .i64 (k0), .int .i64 c.id, .int .i64 c.par, .bool c.leaf, .int .u64 c.ra, .int .u64 c.rb, .int .u64 c.rc, .int .u64 c.la, .int .u64 c.lb, .int .u64 c.lc, .int .u64 c.ua, .int .u64 c.ub, .int .u64 c.uc, .int .i64 c.pk, .int .i64 c.bt] _ rfl rfl rfl INF.out rfl (ONE.out _ _) ?_; intro w5 hs5 hb5 hv5)
       | (refine wpList_part_get rfl 50 _ rfl b (o + k * 15) #[.int .i64 (k0), .int .i64 c.id, .int .i64 c.par, .bool c.leaf, .int .u64 c.ra, .int .u64 c.rb, .int .u64 c.rc, .int .u64 c.la, .int .u64 c.lb, .int .u64 c.lc, .int .u64 c.ua, .int .u64 c.ub, .int .u64 c.uc, .int .i64 c.pk, .int .i64 c.bt] _ HR.out rfl Tryz.underlying50 rfl INF.out ?_))
      have HT5 := Lib.hid (HTR.out.below hb5)
      have HB5 := Lib.hid (HB.out.trans (hb5.mono HB.out.size))
      have hv5d : VR w5.drew wr.heap.size 50 #[.int .i64 (k0), .int .i64 c.id, .int .i64 c.par, .bool c.leaf, .int .u64 c.ra, .int .u64 c.rb, .int .u64 c.rc, .int .u64 c.la, .int .u64 c.lb, .int .u64 c.lc, .int .u64 c.ua, .int .u64 c.ub, .int .u64 c.uc, .int .i64 c.pk, .int .i64 c.bt] := hv5.frame rfl
      have hd0 : HT w5.drew tb2 mb2 F := HT5.out.below (Below.drew (Below.refl _ _))
      have HMR := Lib.hid HTR.out.mlt
      obtain ⟨Cl, hCl⟩ : ∃ Cl : List (Nat × Value) → World → Prop, Cl = ((fun ps wz => (VR wz wr.heap.size 50 #[.int .i64 (k0), .int .i64 c.id, .int .i64 c.par, .bool c.leaf, .int .u64 c.ra, .int .u64 c.rb, .int .u64 c.rc, .int .u64 c.la, .int .u64 c.lb, .int .u64 c.lc, .int .u64 c.ua, .int .u64 c.ub, .int .u64 c.uc, .int .i64 c.pk, .int .i64 c.bt] ∧ wz.cell? ⟨wr.heap.size, 0, none⟩ = some (.int .i64 (k0)) ∧ wr.heap.size < wz.heap.size) ∧ (match ps with
       | [] => wz = w5.drew
       | [(_, v)] => v = .func (.func 56) #[] #[] ∧ Below w5.heap.size w5 wz ∧ wz.cell? ⟨wr.heap.size + 1, 0, none⟩ = some (.pointer (some ⟨tb2, 0, none⟩)) ∧ wr.heap.size + 1 < wz.heap.size
       | [_, (_, v)] => v = .int .i64 (1) ∧ HT wz tb2 mb2 (F) ∧ Only (fun k => k = mb2) w5 wz
       | _ => True))) := ⟨_, rfl⟩; have HCl := Lib.hid hCl; clear hCl; refine Reg2.wp_region_lineS [(0, false), (1, false), (2, false), (4, false), (5, false), (3, false), (6, false), (7, false)] [3, 6] Cl (by kernel_rfl) (by kernel_rfl) (by kernel_rfl) (by simp only [HCl.out, zD, zE]; exact ⟨⟨hv5d, hv5d.cell 0 rfl, hv5d.lt⟩, (by first | rfl | trivial)⟩) ?_
      clear hd0 hv5d hv5
      (repeat ((first | (refine Reg2.wS_skip gtb (by rfl) ?_) | (refine Reg2.wS_open gtb (by rfl) (by rfl) ⟨.agg #[.int .i64 c.id, .int .i64 c.par, .bool c.leaf, .int .u64 c.ra, .int .u64 c.rb, .int .u64 c.rc, .int .u64 c.la, .int .u64 c.lb, .int .u64 c.lc, .int .u64 c.ua, .int .u64 c.ub, .int .u64 c.uc, .int .i64 c.pk, .int .i64 c.bt], fun vs wq hw => ?_, ?_⟩; (focus (simp only [HCl.out, zD, zE] at hw; exact quiet_part 48 _ rfl wr.heap.size 1 #[.int .i64 c.id, .int .i64 c.par, .bool c.leaf, .int .u64 c.ra, .int .u64 c.rb, .int .u64 c.rc, .int .u64 c.la, .int .u64 c.lb, .int .u64 c.lc, .int .u64 c.ua, .int .u64 c.ub, .int .u64 c.uc, .int .i64 c.pk, .int .i64 c.bt] _ (cg_part hw.1.1) rfl Tryz.underlying48 rfl CINF.out))) | (refine Reg2.wS_open gtb (by rfl) (by rfl) ?_; apply Exists.intro; refine ⟨fun vs wq hw => ?_, ?_⟩; (focus (simp only [HCl.out, zD, zE] at hw; go_split_ands; go_simp <;> exact ebb)))); simp only [Act.put, Nat.reduceAdd, zA, zB, zC, zD, zE]))
      refine Reg2.wS_eff gtb (by rfl) (by rfl) (fun wq hw => ?_) (fun u9 hu => ?_)
      focus
       simp only [HCl.out, zD, zE] at hw
       obtain ⟨⟨dv, d1, d2⟩, rfl⟩ := hw
       go_simp
       go_at_call 25
       (with_reducible refine (KWK.out tb2 (k0) _).mono ?_)
       rintro e w9 ⟨rfl, hbel, hcl, hl9⟩
       have hbel2 : Below w5.heap.size w5 w9 := (Below.drew (Below.refl w5.heap.size w5)).trans hbel
       have hcl2 : w9.cell? ⟨wr.heap.size + 1, 0, none⟩ = some (.pointer (some ⟨tb2, 0, none⟩)) := by rw [← hs5]; exact hcl
       have hl92 : wr.heap.size + 1 < w9.heap.size := by rw [← hs5]; exact hl9
       have hfv : wfv w5.drew.heap.size tb2 (k0) = .func (.func 56) #[] #[] := by show wfv w5.heap.size tb2 (k0) = _; rw [hs5]; exact HWF.out _
       refine ⟨_, rfl, ?_⟩
       simp only [HCl.out, zD, zE]
       exact ⟨⟨dv.bel hbel, (dv.bel hbel).cell 0 rfl, (dv.bel hbel).lt⟩, hfv, hbel2, hcl2, hl92⟩
      (obtain ⟨wz, hz⟩ := hu; rw [HCl.out] at hz; (try simp only [List.nil_append, List.cons_append] at hz); (try dsimp only at hz))
      obtain ⟨-, rfl, -⟩ := hz
      clear wz
      simp only [Act.put, Nat.reduceAdd, zA, zB, zC, zD, zE]
      (repeat ((first | (refine Reg2.wS_skip gtb (by rfl) ?_) | (refine Reg2.wS_open gtb (by rfl) (by rfl) ⟨.agg #[.int .i64 c.id, .int .i64 c.par, .bool c.leaf, .int .u64 c.ra, .int .u64 c.rb, .int .u64 c.rc, .int .u64 c.la, .int .u64 c.lb, .int .u64 c.lc, .int .u64 c.ua, .int .u64 c.ub, .int .u64 c.uc, .int .i64 c.pk, .int .i64 c.bt], fun vs wq hw => ?_, ?_⟩; (focus (simp only [HCl.out, zD, zE] at hw; exact quiet_part 48 _ rfl wr.heap.size 1 #[.int .i64 c.id, .int .i64 c.par, .bool c.leaf, .int .u64 c.ra, .int .u64 c.rb, .int .u64 c.rc, .int .u64 c.la, .int .u64 c.lb, .int .u64 c.lc, .int .u64 c.ua, .int .u64 c.ub, .int .u64 c.uc, .int .i64 c.pk, .int .i64 c.bt] _ (cg_part hw.1.1) rfl Tryz.underlying48 rfl CINF.out))) | (refine Reg2.wS_open gtb (by rfl) (by rfl) ?_; apply Exists.intro; refine ⟨fun vs wq hw => ?_, ?_⟩; (focus (simp only [HCl.out, zD, zE] at hw; go_split_ands; go_simp <;> exact ebb)))); simp only [Act.put, Nat.reduceAdd, zA, zB, zC, zD, zE]))
      refine Reg2.wS_eff gtb (by rfl) (by rfl) (fun wq hw => ?_) (fun u9 hu => ?_)
      focus
       simp only [HCl.out, zD, zE] at hw
       obtain ⟨⟨dv, d1, d2⟩, -, hbel, hcl, hl⟩ := hw
       have hTz : HT wq tb2 mb2 F := HT5.out.below hbel
       go_simp
       go_at_call 56
       (with_reducible refine (w2_c c _).mono ?_)
       rintro e w10 ⟨rfl, hb⟩; have hT := hTz.below hb; have hO : Only (fun k => k = mb2) wq w10 := Only.of_below hb
       refine ⟨_, rfl, ?_⟩
       simp only [HCl.out, zD, zE]
       have hmp : ¬ wr.heap.size = mb2 := by have := HMR.out; omega
       exact ⟨⟨dv.only hO (fun g => hmp g), (dv.only hO (fun g => hmp g)).cell 0 rfl, (dv.only hO (fun g => hmp g)).lt⟩, (by first | rfl | trivial), hT, (Only.of_below hbel).trans hO⟩
      (obtain ⟨wz, hz⟩ := hu; rw [HCl.out] at hz; (try simp only [List.nil_append, List.cons_append] at hz); (try dsimp only at hz))
      obtain ⟨-, rfl, -⟩ := hz
      clear wz
      simp only [Act.put, Nat.reduceAdd, zA, zB, zC, zD, zE]
      (repeat ((first | (refine Reg2.wS_skip gtb (by rfl) ?_) | (refine Reg2.wS_open gtb (by rfl) (by rfl) ⟨.agg #[.int .i64 c.id, .int .i64 c.par, .bool c.leaf, .int .u64 c.ra, .int .u64 c.rb, .int .u64 c.rc, .int .u64 c.la, .int .u64 c.lb, .int .u64 c.lc, .int .u64 c.ua, .int .u64 c.ub, .int .u64 c.uc, .int .i64 c.pk, .int .i64 c.bt], fun vs wq hw => ?_, ?_⟩; (focus (simp only [HCl.out, zD, zE] at hw; exact quiet_part 48 _ rfl wr.heap.size 1 #[.int .i64 c.id, .int .i64 c.par, .bool c.leaf, .int .u64 c.ra, .int .u64 c.rb, .int .u64 c.rc, .int .u64 c.la, .int .u64 c.lb, .int .u64 c.lc, .int .u64 c.ua, .int .u64 c.ub, .int .u64 c.uc, .int .i64 c.pk, .int .i64 c.bt] _ (cg_part hw.1.1) rfl Tryz.underlying48 rfl CINF.out))) | (refine Reg2.wS_open gtb (by rfl) (by rfl) ?_; apply Exists.intro; refine ⟨fun vs wq hw => ?_, ?_⟩; (focus (simp only [HCl.out, zD, zE] at hw; go_split_ands; go_simp <;> exact ebb)))); simp only [Act.put, Nat.reduceAdd, zA, zB, zC, zD, zE]))
      refine Reg2.wS_nil ?_; intro w' hw; simp only [HCl.out, zD, zE] at hw; clear HCl
      obtain ⟨-, -, hT6, hO6⟩ := hw
      have HT6 := Lib.hid hT6
      have HB6 : Hid (Below w.heap.size w w') := Lib.hid (HB5.out.trans ⟨hO6.1, hO6.2, hO6.3, hO6.4, fun q hq => hO6.5 q (Nat.lt_of_lt_of_le hq HB5.out.size) (by have := HM2.out; omega)⟩)
      have HLF := Lib.hid (HCF.out)
      have HLE := Lib.hid (HCE.out)
      have HLI := Lib.hid (HI.out.chF (k0) HCI.out)
      clear hT6 hO6 hb5
      have hW := apW_err FT (T := T) (n := n) (f := f) (L := L) (xs := xs) (by have := HNT.out; omega) (by have := HNT.out; omega) (by have := HNT.out; omega) (k : Int) 1 (by decide) (F) (Lx) (HAP.out.trans (by rw [HDR.out]; exact app_no _ HLE.out (by decide)))
      have HW := Lib.hid hW
      clear hW
      go_wp2
      refine bodyPost_ret (v := .tuple #[.pointer none, .int .i64 k, .int .i64 1]) (by simp [results, Tryz.results10, go_sem, *]) rfl ⟨none, by rw [HW.out], HB6.out, .inl ⟨by rw [HW.out]; exact (by decide : (1 : Int) ≠ 0), rfl⟩⟩
  ·obtain rfl : k = n := by omega
   have hap2 : app f L 0 xs = ((k : Int), 0, F, Lx) := by rw [hap, List.drop_eq_nil_of_le (by rw [HLN.out]; exact Nat.le_refl _)]; rfl
   have HAP2 := Lib.hid hap2
   clear hTr hI hB hlt hap hap2
   have KR := Lib.hid (hrea_c HTR.out HI.out)
   obtain ⟨E, hE⟩ : ∃ E, FT F Lx = E := ⟨_, rfl⟩
   have KFF := Lib.hid (KFT.out F Lx HI.out)
   have HEE := Lib.hid hE
   rw [hE] at KFF
   clear hE
   by_cases hE0 : E = 0
   ·subst hE0
    have hW := apW_ok FT (T := T) (n := k) (f := f) (L := L) (xs := xs) (by have := HNT.out; omega) (by have := HNT.out; omega) (by have := HNT.out; omega) (k : Int) F Lx HAP2.out HEE.out
    have HW := Lib.hid hW
    clear hW
    go_wp2_with (first
     | go_guarded
     | (go_at_call 26; (with_reducible refine (KFF.out _ _ _ HRO.out).mono ?_); rintro _ w8 ⟨rfl, hbel⟩; have HB8 := Lib.hid (HB7.out.trans (hbel.mono HB7.out.size)); have HT8 := Lib.hid (HT7.out.below hbel); clear hbel)
     | (go_at_call 27; (with_reducible refine KR.out.mono ?_); rintro _ w7 ⟨v, rfl, hro, hbel⟩; have HRO := Lib.hid hro; have HB7 := Lib.hid (HB.out.trans (hbel.mono HB.out.size)); have HT7 := Lib.hid (HTR.out.below hbel); clear hbel hro))
    refine bodyPost_ret (v := .tuple #[.pointer (some ⟨tb2, 0, none⟩), .int .i64 0, .int .i64 0]) (by simp [results, Tryz.results10, go_sem, *]) rfl ⟨_, by rw [HW.out], HB8.out, .inr ⟨by rw [HW.out], tb2, mb2, rfl, HB2.out, HM2.out, by rw [HAP2.out]; exact HT8.out, by rw [HAP2.out]; exact HI.out⟩⟩
   ·have qE : (E == 0) = false := by simpa using hE0
    have hW := apW_adm FT (T := T) (n := k) (f := f) (L := L) (xs := xs) (by have := HNT.out; omega) (by have := HNT.out; omega) (by have := HNT.out; omega) (k : Int) F Lx HAP2.out (by rw [HEE.out]; exact hE0)
    have HW := Lib.hid hW
    clear hW
    go_wp2_with (first
     | go_guarded
     | (go_at_call 26; (with_reducible refine (KFF.out _ _ _ HRO.out).mono ?_); rintro _ w8 ⟨rfl, hbel⟩; have HB8 := Lib.hid (HB7.out.trans (hbel.mono HB7.out.size)); have HT8 := Lib.hid (HT7.out.below hbel); clear hbel)
     | (go_at_call 27; (with_reducible refine KR.out.mono ?_); rintro _ w7 ⟨v, rfl, hro, hbel⟩; have HRO := Lib.hid hro; have HB7 := Lib.hid (HB.out.trans (hbel.mono HB.out.size)); have HT7 := Lib.hid (HTR.out.below hbel); clear hbel hro))
    refine bodyPost_ret (v := .tuple #[.pointer none, .int .i64 0, .int .i64 22]) (by simp [results, Tryz.results10, go_sem, *]) rfl ⟨none, by rw [HW.out], HB8.out, .inl ⟨by rw [HW.out]; decide, rfl⟩⟩
end Go.Proofs.YtffaahipgabkhaaGreat
end
