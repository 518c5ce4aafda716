/- Joined texts. -/
import Derived.Test.YtffaahipgabkhaaGreatJn0
import Derived.Test.YtffaahipgabkhaaGreatJn2
import Derived.Test.YtffaahipgabkhaaGreatJn10
import Derived.Test.YtffaahipgabkhaaGreatJn31
import Derived.Sort.Walk13
import Derived.Sort.AssemblyPlain
import Derived.Deep.Cut
import Derived.Deep.CutRange
import Derived.Shelf.SlicesE.Compact
import Derived.Ground.SlgnProg
set_option linter.unusedVariables false
set_option linter.unusedSimpArgs false
set_option maxRecDepth 100000
set_option maxHeartbeats 16000000
section
namespace Go.Proofs.YtffaahipgabkhaaGreat
open Go.RowKit Fg Reg Go.Sort
attribute [local irreducible] Reg.wE Holds
theorem plain64 : Plain13 := ⟨swo_ltInt, insertionSort_holds, partialInsertionSort_holds, partition_holds _, partitionEqual_holds _, pdq_sorts _⟩
theorem rdv {d : Array Int} {a b limit : Nat} {wb wp : Bool} (h12 : ¬ b - a ≤ 12) (hl0 : limit ≠ 0) (hab : a < b) (hb : b ≤ d.size) (hB : Go.Sort.Below ltInt a b d) :
  ∃ (d1 : Array Int) (lm cv : Nat) (ch : Hint) (d2 : Array Int) (pv : Nat) (ht : Hint) (dp : Array Int) (pf : Bool),
  (wb = false → d1 = breakPatterns d a b ∧ lm = limit - 1) ∧ (wb = true → d1 = d ∧ lm = limit) ∧ choosePivot ltInt d1 a b = (cv, ch) ∧
  (ch = .decreasing → d2 = reverseRange d1 a b ∧ pv = (b - 1) - (cv - a) ∧ ht = .increasing) ∧ (ch ≠ .decreasing → d2 = d1 ∧ pv = cv ∧ ht = ch) ∧
  ((wb && wp && decide (ht = .increasing)) = true → partialInsertionSort ltInt d2 a b = (dp, pf)) ∧ ((wb && wp && decide (ht = .increasing)) = false → dp = d2 ∧ pf = false) ∧ lm ≤ limit ∧
  d1.size = d.size ∧ a ≤ cv ∧ cv < b ∧ d2.size = d.size ∧ a ≤ pv ∧ pv < b ∧ dp.size = d.size ∧ Go.Sort.Below ltInt a b dp ∧
  (pf = true → pdq ltInt d a b limit wb wp = dp) ∧
  (pf = false → (decide (a > 0) && !ltInt dp[a - 1]! dp[pv]!) = true → ∀ mid d4, partitionEqual ltInt dp a b pv = (mid, d4) → a < mid → mid ≤ b → pdq ltInt d a b limit wb wp = pdq ltInt d4 mid b lm wb wp) ∧
  (pf = false → (decide (a > 0) && !ltInt dp[a - 1]! dp[pv]!) = false → ∀ mid ap d4, partition ltInt dp a b pv = (mid, ap, d4) → a ≤ mid → mid < b → mid - a < b - mid → pdq ltInt d a b limit wb wp = pdq ltInt (pdq ltInt d4 a mid lm true true) (mid + 1) b lm (decide (mid - a ≥ (b - a) / 8)) ap) ∧
  (pf = false → (decide (a > 0) && !ltInt dp[a - 1]! dp[pv]!) = false → ∀ mid ap d4, partition ltInt dp a b pv = (mid, ap, d4) → a ≤ mid → mid < b → ¬ mid - a < b - mid → pdq ltInt d a b limit wb wp = pdq ltInt (pdq ltInt d4 (mid + 1) b lm true true) a mid lm (decide (b - mid ≥ (b - a) / 8)) ap) := by
 obtain ⟨s1, B1, hc1, s2, B2, hpv, s3, B3⟩ := rd_facts (limit := limit) (wb := wb) (wp := wp) plain64.swo plain64.par reverseRange_holds hab hb hB
 refine ⟨(rd ltInt d a b limit wb wp).d1, (rd ltInt d a b limit wb wp).lim, (rd ltInt d a b limit wb wp).c.1, (rd ltInt d a b limit wb wp).c.2, (rd ltInt d a b limit wb wp).d2, (rd ltInt d a b limit wb wp).pivot, (rd ltInt d a b limit wb wp).hint, (rd ltInt d a b limit wb wp).pi.1, (rd ltInt d a b limit wb wp).pi.2,
  ?_, ?_, rd_c.symm, fun h => rd_dec h, fun h => rd_not h, fun h => (rd_pi_yes h).symm, fun h => ?_, rd_lim_le, s1, hc1.1, hc1.2, s2, hpv.1, hpv.2, s3, B3, fun h => pdq_done h12 hl0 h, ?_, ?_, ?_⟩
 ·rintro rfl; exact rd_false
 ·rintro rfl; exact rd_true
 ·have e := rd_pi_no h
  exact ⟨congrArg Prod.fst e, congrArg Prod.snd e⟩
 ·intro h1 h2 mid d4 hx g1 g2
  have e := pdq_eq h12 hl0 h1 h2 (by rw [hx]; exact ⟨g1, g2⟩)
  rw [hx] at e; exact e
 ·intro h1 h2 mid ap d4 hx g1 g2 g3
  have e := pdq_left h12 hl0 h1 h2 (by rw [hx]; exact ⟨g1, g2⟩) (by rw [hx]; exact g3)
  rw [hx] at e; exact e
 ·intro h1 h2 mid ap d4 hx g1 g2 g3
  have e := pdq_right h12 hl0 h1 h2 (by rw [hx]; exact ⟨g1, g2⟩) (by rw [hx]; exact g3)
  rw [hx] at e; exact e
theorem hintn_two {h : Hint} (e : hintn h = 2) : h = .decreasing := by cases h <;> simp [hintn] at e ⊢
theorem insOuter_nil (lt : Int → Int → Bool) (a : Nat) (d : Array Int) : insertionSort lt d a a = d := by
 unfold insertionSort
 rw [insOuter, if_neg (by omega)]
theorem insn_c (blk off cap n a b : Nat) (d : Array Int) (w : World) (hH : Holds (Value.int .u64) (w) blk off (d)) (hl : blk < w.heap.size) (hab : a ≤ b) (hb : b ≤ d.size) (hn : d.size = n) (hsz : n ≤ 100000) :
  Calls Tryz.prog 137 #[.slice (some ⟨blk, off, none⟩) n cap, .int .i64 a, .int .i64 b] w fun e w' => e = .returned (.tuple #[]) ∧ Holds (Value.int .u64) (w') blk off (insertionSort ltInt d a b) ∧ Only (fun k => k = blk) w w' := by
 subst hn
 by_cases h : a < b
 ·exact ins64_c blk off cap a b d w hH hl h hb hsz
 ·obtain rfl : a = b := by omega
  rw [insOuter_nil]
  have HH := Lib.hid hH
  clear hH
  have W0 : IntKind.i64.wrap ((a : Int) + 1) = (a : Int) + 1 := by rw [IntKind.wrap_i64]; omega
  have d0 : decide ((a : Int) + 1 < a) = false := decide_eq_false (by omega)
  go_enter Tryz.func137, Tryz.ntmps137
  go_wp2
  refine wp_loop_rounds 1 ?_
  rw [rounds_succ]
  go_wp2
  refine bodyPost_end (v := .tuple #[]) (by simp [results, Tryz.results137]) rfl ⟨rfl, ?_⟩
  exact ⟨HH.out, Only.refl _ _⟩
end Go.Proofs.YtffaahipgabkhaaGreat
end
section
namespace Go.Proofs.YtffaahipgabkhaaGreat
open Go.RowKit Fg Reg Go.Sort
attribute [local irreducible] Reg.wE Holds
theorem pdq64_c (blk off cap n : Nat) (hsz : n ≤ 100000) : ∀ (N a b limit : Nat) (d : Array Int) (w : World), b - a < N → Holds (Value.int .u64) (w) blk off (d) → blk < w.heap.size → a ≤ b → b ≤ d.size → d.size = n → limit ≤ 100000 → Go.Sort.Below ltInt a b d →
  Calls Tryz.prog 129 #[.slice (some ⟨blk, off, none⟩) n cap, .int .i64 a, .int .i64 b, .int .i64 limit] w fun e w' => e = .returned (.tuple #[]) ∧ Holds (Value.int .u64) (w') blk off (pdq ltInt d a b limit true true) ∧ Only (fun k => k = blk) w w' := by
 intro N
 induction N with
 | zero => intro _ _ _ _ _ h; exact absurd h (Nat.not_lt_zero _)
 | succ N ih =>
  intro a b limit d w hN hH hl hab hb hn hlimit hBel
  have IH := Lib.hid ih
  have HH := Lib.hid hH
  obtain ⟨RES, hRES⟩ : ∃ RES, pdq ltInt d a b limit true true = RES := ⟨_, rfl⟩
  rw [hRES]
  have HB0 := Lib.hid hBel
  have HR0 := Lib.hid hRES
  clear ih hH hBel hRES
  go_enter Tryz.func129, Tryz.ntmps129
  go_wp2
  go_loopg [1, 2, 3, 8, 9] (b - a) (fun k s1 s2 s3 s8 s9 wr => ∃ (a' b' lim : Nat) (wb wp : Bool) (dk : Array Int), s1 = .int .i64 a' ∧ s2 = .int .i64 b' ∧ s3 = .int .i64 lim ∧ s8 = .bool wb ∧ s9 = .bool wp ∧
   a' ≤ b' ∧ b' ≤ n ∧ b' - a' ≤ k ∧ k ≤ b - a ∧ lim ≤ limit ∧ dk.size = n ∧ Go.Sort.Below ltInt a' b' dk ∧ (Holds (Value.int .u64) (wr) blk off (dk) ∧ Only (fun k => k = blk) w wr) ∧ pdq ltInt dk a' b' lim wb wp = RES)
  case atStart => exact ⟨a, b, limit, true, true, d, rfl, rfl, rfl, rfl, rfl, hab, by omega, Nat.le_refl _, Nat.le_refl _, Nat.le_refl _, hn, HB0.out, ⟨HH.out, Only.refl _ _⟩, HR0.out⟩
  case round =>
   obtain ⟨a', b', lim, wb, wp, dk, rfl, rfl, rfl, rfl, rfl, hab', hb', hk, hkN, hlim, hds, hBel, ⟨hhu, hob⟩, heq⟩ := hrel
   have hlr : blk < wr.heap.size := Nat.lt_of_lt_of_le hl hob.size
   have A := Lib.hid heq
   have HBK := Lib.hid hBel
   have HUK := Lib.hid hhu
   clear heq hBel hhu
   by_cases h12 : b' - a' ≤ 12
   ·have h12z : (b' : Int) - (a' : Int) ≤ 12 := by omega
    have HE := Lib.hid ((pdq_small h12).symm.trans A.out)
    have hc := Lib.hid (insn_c blk off cap n a' b' dk wr HUK.out hlr hab' (by omega) hds hsz)
    go_wp2_with (go_at_call 137; (with_reducible refine hc.out.mono ?_); rintro e w1 ⟨rfl, hh1, ho1⟩)
    refine bodyPost_ret (results_none rfl _ _ _) rfl ?_
    rw [HE.out] at hh1
    exact ⟨rfl, hh1, hob.trans ho1⟩
   ·have h12z : ¬ ((b' : Int) - (a' : Int) ≤ 12) := by omega
    by_cases hl0 : lim = 0
    ·subst hl0
     have HE := Lib.hid ((pdq_heap h12 rfl).symm.trans A.out)
     have hc := Lib.hid (hds ▸ hea_c blk off cap a' b' dk wr HUK.out hlr (by omega) (by omega) (by omega))
     go_wp2_with (go_at_call 138; (with_reducible refine hc.out.mono ?_); rintro e w1 ⟨rfl, hh1, ho1⟩)
     refine bodyPost_ret (results_none rfl _ _ _) rfl ?_
     rw [HE.out] at hh1
     exact ⟨rfl, hh1, hob.trans ho1⟩
    ·have hl0z : ¬ ((lim : Int) = 0) := by omega
     obtain ⟨d1, lm, cv, ch, d2, pv, ht, dp, pf, q1, q2, q3, q4, q5, q6, q7, hlm, s1, hcv1, hcv2, s2, hpv1, hpv2, s3, B3, q8, q9, q10, q11⟩ := rdv (wb := wb) (wp := wp) h12 hl0 (show a' < b' by omega) (show b' ≤ dk.size by omega) HBK.out
     rw [hds] at s1 s2 s3
     rw [A.out] at q8 q9 q10 q11
     have Q1 := Lib.hid q1
     have Q2 := Lib.hid q2
     have Q3 := Lib.hid q3
     have Q4 := Lib.hid q4
     have Q5 := Lib.hid q5
     have Q6 := Lib.hid q6
     have Q7 := Lib.hid q7
     have Q8 := Lib.hid q8
     have Q9 := Lib.hid q9
     have Q10 := Lib.hid q10
     have Q11 := Lib.hid q11
     have HB3 := Lib.hid B3
     clear q1 q2 q3 q4 q5 q6 q7 q8 q9 q10 q11 B3
     have hab2 : a' + 12 < b' := by omega
     go_upto_if 35 with fail
     go_cut [3] from 19 (fun s3 wc => s3 = .int .i64 lm ∧ (Holds (Value.int .u64) (wc) blk off (d1) ∧ Only (fun k => k = blk) w wc))
     case first =>
      cases wb
      ·obtain ⟨e1, e2⟩ := Q1.out rfl
       have hc := Lib.hid (hds ▸ brk_c blk off cap a' b' dk wr HUK.out hlr hab2 (by omega) (by omega))
       rw [← e1] at hc
       have E2 := Lib.hid e2
       clear e1 e2
       go_wp2_with (go_at_call 139; (with_reducible refine hc.out.mono ?_); rintro e w1 ⟨rfl, hh1, ho1⟩)
       go_meet
       case rel =>
        refine ⟨?_, hh1, hob.trans ho1⟩
        show Value.int .i64 ((lim : Int) - 1) = Value.int .i64 (lm : Int)
        congr 1
        have := E2.out
        omega
      ·obtain ⟨e1, e2⟩ := Q2.out rfl
       subst e1 e2
       go_wp2_with fail
       go_meet
       case rel => exact ⟨rfl, HUK.out, hob⟩
     case rest =>
      obtain ⟨rfl, hh1, ho1⟩ := hcut
      have hl1 : blk < wc.heap.size := Nat.lt_of_lt_of_le hl ho1.size
      have HU1 := Lib.hid hh1
      clear hh1
      have hc17 := chp_c blk off cap a' b' d1 wc HU1.out hl1 hab2 (by omega) (by omega)
      rw [Q3.out, s1] at hc17
      have C17 := Lib.hid hc17
      clear hc17
      go_upto_if 50 with (go_at_call 140; (with_reducible refine C17.out.mono ?_); rintro e w2 ⟨rfl, hbel2⟩)
      have HU2 := Lib.hid (hu_below HU1.out hl1 hbel2)
      have ho2 := ho1.trans (Only.of_below (S := fun k => k = blk) hbel2)
      have hl2 : blk < w2.heap.size := Nat.lt_of_lt_of_le hl ho2.size
      clear hbel2
      go_cut [11, 12] from 19 (fun s11 s12 wc => s11 = .int .i64 pv ∧ s12 = .int .i64 (hintn ht) ∧ (Holds (Value.int .u64) (wc) blk off (d2) ∧ Only (fun k => k = blk) w wc))
      case first =>
       by_cases hh : ch = .decreasing
       ·obtain ⟨e2, epv, eht⟩ := Q4.out hh
        subst hh eht
        have hcode : hintn .decreasing = 2 := rfl
        have hc18 := rev64_c blk off cap a' b' d1 w2 HU2.out hl2 (by omega) (by omega) (by omega)
        rw [s1, ← e2] at hc18
        have C18 := Lib.hid hc18
        have EPV := Lib.hid epv
        clear hc18 e2 epv
        go_wp2_with (go_at_call 141; (with_reducible refine C18.out.mono ?_); rintro e w3 ⟨rfl, hh3, ho3⟩)
        go_meet
        case rel =>
         refine ⟨?_, rfl, hh3, ho2.trans ho3⟩
         have := EPV.out
         congr 1
         omega
       ·obtain ⟨e2, epv, eht⟩ := Q5.out hh
        have hcode : ¬ (hintn ch = 2) := fun h => hh (hintn_two h)
        subst e2 epv eht
        go_wp2_with fail
        go_meet
        case rel => exact ⟨rfl, rfl, HU2.out, ho2⟩
      case rest =>
       obtain ⟨rfl, rfl, hh3, ho3⟩ := hcut
       have HU3 := Lib.hid hh3
       have hl3 : blk < wc.heap.size := Nat.lt_of_lt_of_le hl ho3.size
       clear hh3
       go_upto_region 15 with fail
       go_cut [12, 68] from 19 (fun s12 s68 wx => s12 = .int .i64 (hintn ht) ∧ s68 = .bool (wb && wp && decide (ht = .increasing)) ∧ wx = wc)
       case first =>
        cases wb <;> cases wp <;> cases hh3 : ht <;>
         (go_wp2_with fail
          go_meet
          exact ⟨by simp [hh3, hintn], by simp [hh3, hintn], rfl⟩)
       case rest =>
        obtain ⟨rfl, rfl, rfl⟩ := hcut
        go_upto_if 68 with fail
        go_cut [] from 19 (fun wx => pf = false ∧ (Holds (Value.int .u64) (wx) blk off (dp) ∧ Only (fun k => k = blk) w wx))
        case first =>
         cases h68 : (wb && wp && decide (ht = .increasing))
         ·obtain ⟨e1, e2⟩ := Q7.out h68
          subst e1
          have E2 := Lib.hid e2
          clear e2
          go_wp2_with fail
          go_meet
          case rel => exact ⟨E2.out, HU3.out, ho3⟩
         ·have hc19 := pis_c blk off cap a' b' d2 wc HU3.out hl3 hab2 (by omega) (by omega)
          rw [s2, Q6.out h68] at hc19
          have C19 := Lib.hid hc19
          clear hc19
          cases hpf : pf
          ·rw [hpf] at C19
           go_wp2_with (go_at_call 142; (with_reducible refine C19.out.mono ?_); rintro e w4 ⟨rfl, hh4, ho4⟩)
           go_meet
           case rel => exact ⟨hpf, hh4, ho3.trans ho4⟩
          ·rw [hpf] at C19
           have E8 := Lib.hid (Q8.out hpf)
           go_wp2_with (go_at_call 142; (with_reducible refine C19.out.mono ?_); rintro e w4 ⟨rfl, hh4, ho4⟩)
           refine bodyPost_ret (results_none rfl _ _ _) rfl ?_
           rw [E8.out]
           exact ⟨rfl, hh4, ho3.trans ho4⟩
        case rest =>
         obtain ⟨hp2, hh5, ho5⟩ := hcut
         have HP2 := Lib.hid hp2
         have HU5 := Lib.hid hh5
         have hl5 : blk < wc.heap.size := Nat.lt_of_lt_of_le hl ho5.size
         clear hh5 hp2
         obtain ⟨G, hG⟩ : ∃ G : Nat → Int, ∀ x, G x = dp[x]! := ⟨fun x => dp[x]!, fun _ => rfl⟩
         have HG := Lib.hid hG
         have hcw : ∀ x, x < n → wc.cell? ⟨blk, off + x, none⟩ = some (.int .u64 (G x)) := fun x hx => by rw [hG]; exact (hu_at HU5.out x (by omega)).1
         have hfw : ∀ x, x < n → wc.frozen? ⟨blk, off + x, none⟩ = false := fun x hx => (hu_at HU5.out x (by omega)).2
         have TST := Lib.hid (show (decide (a' > 0) && !ltInt dp[a' - 1]! dp[pv]!) = (decide (a' > 0) && !ltInt (G (a' - 1)) (G pv)) by rw [hG, hG])
         clear hG
         go_upto_region 17 with fail
         go_cut [87] from 19 (fun s87 wx => s87 = .bool (decide (a' > 0) && !ltInt (G (a' - 1)) (G pv)) ∧ (Holds (Value.int .u64) (wx) blk off (dp) ∧ Only (fun k => k = blk) w wx))
         case first =>
          rcases Nat.eq_zero_or_pos a' with ha0 | ha0
          ·have ha0z : decide ((a' : Int) > 0) = false := decide_eq_false (by omega)
           go_big_quiet (first | (go_at_call 143; refine Calls.quiet_of_same (les_same _ _ _)))
           go_wp2_with fail
           go_meet
           case rel => exact ⟨by simp [ha0], hu_drewN HU5.out hl5 nq, ho5.trans (only_drewN _ _)⟩
          ·have ha0z : (a' : Int) > 0 := by omega
           go_big_quiet (first | (go_at_call 143; refine Calls.quiet_of_same (les_same _ _ _)))
           go_wp2_with fail
           go_meet
           case rel => exact ⟨by simp [ha0], hu_drewN HU5.out hl5 nq, ho5.trans (only_drewN _ _)⟩
         case rest =>
          obtain ⟨rfl, hh6, ho6⟩ := hcut
          have HU6 := Lib.hid hh6
          have hl6 : blk < wc.heap.size := Nat.lt_of_lt_of_le hl ho6.size
          clear hcw hfw hh6
          cases h87 : (decide (a' > 0) && !ltInt (G (a' - 1)) (G pv))
          ·have T87 := Lib.hid (TST.out.trans h87)
           obtain ⟨mid, ap, d4, hx⟩ : ∃ mid ap d4, partition ltInt dp a' b' pv = (mid, ap, d4) := ⟨_, _, _, rfl⟩
           obtain ⟨r1, r2, r3, r4, r5, r6, r7⟩ := round_part plain64.swo plain64.prt hpv1 hpv2 (show b' ≤ dp.size by omega) HB3.out hx
           have hc22 := par_c blk off cap a' b' pv dp wc HU6.out hl6 (by omega) (by omega) (by omega) (by omega)
           rw [s3, hx] at hc22
           have C22 := Lib.hid hc22
           have X := Lib.hid hx
           have R4 := Lib.hid r4
           have R5 := Lib.hid r5
           have R6 := Lib.hid r6
           have R7 := Lib.hid r7
           have h4n : d4.size = n := by omega
           clear hx hc22 r4 r5 r6 r7 r3
           go_upto_if 113 with (go_at_call 145; (with_reducible refine C22.out.mono ?_); rintro e w7 ⟨rfl, hh7, ho7⟩)
           have ho7' := ho6.trans ho7
           have hl7 : blk < w7.heap.size := Nat.lt_of_lt_of_le hl ho7'.size
           have HU7 := Lib.hid hh7
           clear hh7
           by_cases h4 : mid - a' < b' - mid
           ·have h4z : (mid : Int) - (a' : Int) < (b' : Int) - (mid : Int) := by omega
            have C11 := Lib.hid (IH.out a' mid lm d4 w7 (by omega) HU7.out hl7 (by omega) (by omega) h4n (by omega) R4.out)
            obtain ⟨pL, sL⟩ := plain64.pdq plain64.swo d4 a' mid lm true true (by omega) (by omega) R4.out
            have PL := Lib.hid pL
            have SL := Lib.hid sL
            clear pL sL
            go_wp2_with (go_at_call 129; (with_reducible refine C11.out.mono ?_); rintro e w8 ⟨rfl, hh8, ho8⟩)
            go_roundg (b' - (mid + 1))
            case measure => omega
            case rel =>
             refine ⟨mid + 1, b', lm, decide (mid - a' ≥ (b' - a') / 8), ap, pdq ltInt d4 a' mid lm true true, by simp, rfl, rfl, ?_, rfl, by omega, by omega, Nat.le_refl _, by omega, by omega, by rw [PL.out.1]; exact h4n, (R6.out _ PL.out SL.out).1, ⟨hh8, ho7'.trans ho8⟩, ?_⟩
             ·exact congrArg Value.bool (eighth (by omega) (by omega))
             ·exact (Q10.out HP2.out T87.out mid ap d4 X.out r1 r2 h4).symm
           ·have h4z : ¬ ((mid : Int) - (a' : Int) < (b' : Int) - (mid : Int)) := by omega
            have c11 := IH.out (mid + 1) b' lm d4 w7 (by omega) HU7.out hl7 (by omega) (by omega) h4n (by omega) R5.out
            rw [show ((mid + 1 : Nat) : Int) = (mid : Int) + 1 by omega] at c11
            have C11 := Lib.hid c11
            clear c11
            obtain ⟨pL, sL⟩ := plain64.pdq plain64.swo d4 (mid + 1) b' lm true true (by omega) (by omega) R5.out
            have PL := Lib.hid pL
            have SL := Lib.hid sL
            clear pL sL
            go_wp2_with (go_at_call 129; (with_reducible refine C11.out.mono ?_); rintro e w8 ⟨rfl, hh8, ho8⟩)
            go_roundg (mid - a')
            case measure => omega
            case rel =>
             refine ⟨a', mid, lm, decide (b' - mid ≥ (b' - a') / 8), ap, pdq ltInt d4 (mid + 1) b' lm true true, rfl, rfl, rfl, ?_, rfl, by omega, by omega, Nat.le_refl _, by omega, by omega, by rw [PL.out.1]; exact h4n, (R7.out _ PL.out SL.out).1, ⟨hh8, ho7'.trans ho8⟩, ?_⟩
             ·exact congrArg Value.bool (eighth (by omega) (by omega))
             ·exact (Q11.out HP2.out T87.out mid ap d4 X.out r1 r2 h4).symm
          ·have T87 := Lib.hid (TST.out.trans h87)
           have h87' := T87.out
           simp only [Bool.and_eq_true, decide_eq_true_eq, Bool.not_eq_true'] at h87'
           obtain ⟨mid, d4, hx⟩ : ∃ mid d4, partitionEqual ltInt dp a' b' pv = (mid, d4) := ⟨_, _, rfl⟩
           obtain ⟨r1, r2, r3, r4, _⟩ := round_eq plain64.swo plain64.peq h87'.1 hpv1 hpv2 (show b' ≤ dp.size by omega) HB3.out h87'.2 hx
           have hc21 := peq_c blk off cap a' b' pv dp wc HU6.out hl6 (by omega) (by omega) (by omega) (by omega)
           rw [s3, hx] at hc21
           have C21 := Lib.hid hc21
           have X := Lib.hid hx
           have R4 := Lib.hid r4
           have h4n : d4.size = n := by omega
           clear hx hc21 r4 r3 h87'
           go_wp2_with (go_at_call 144; (with_reducible refine C21.out.mono ?_); rintro e w7 ⟨rfl, hh7, ho7⟩)
           go_roundg (b' - mid)
           case measure => omega
           case rel =>
            exact ⟨mid, b', lm, wb, wp, d4, rfl, rfl, rfl, rfl, rfl, r2, hb', Nat.le_refl _, by omega, by omega, h4n, R4.out, ⟨hh7, ho6.trans ho7⟩, (Q9.out HP2.out T87.out mid d4 X.out r1 r2).symm⟩
end Go.Proofs.YtffaahipgabkhaaGreat
end
section
namespace Go.Proofs.YtffaahipgabkhaaGreat
open Go.Shelf
def lcmp_ren : Go.Shelf.Ren := ⟨fun | 43 => 112 | n => n, fun | 22 => 104 | 23 => 44 | 3 => 3 | 4 => 4 | 0 => 0 | n => n, fun | n => n⟩
theorem lcmp : Go.Proofs.SlLaysE.n43 Tryz.prog lcmp_ren := {
 mixed := by kernel_rfl
 f43 := ⟨Tryz.f112.name, by decide, Tryz.func112.trans (congrArg some (by kernel_rfl))⟩
 t0 := Tryz.underlying0
 a0 := Tryz.isAgg0
 z0 := Tryz.sizeOf0
 v0 := Tryz.zeroValue0
 t3 := Tryz.underlying3
 a3 := Tryz.isAgg3
 z3 := Tryz.sizeOf3
 v3 := Tryz.zeroValue3
 t4 := Tryz.underlying4
 a4 := Tryz.isAgg4
 z4 := Tryz.sizeOf4
 v4 := Tryz.zeroValue4
 t22 := Tryz.underlying104
 a22 := Tryz.isAgg104
 z22 := Tryz.sizeOf104
 v22 := Tryz.zeroValue104
 a23 := Tryz.isAgg44
 z23 := Tryz.sizeOf44 }
end Go.Proofs.YtffaahipgabkhaaGreat
end
section
namespace Go.Proofs.YtffaahipgabkhaaGreat
open Go.RowKit Fg Reg Go.Sort Go.Shelf
attribute [local irreducible] Reg.wE Holds
def srt (zs : List Int) : List Int := zs.mergeSort fun x y => decide (x ≤ y)
theorem srt_len (zs : List Int) : (srt zs).length = zs.length := List.length_mergeSort zs
theorem sort_eq (zs : List Int) : pdq ltInt zs.toArray 0 zs.length (bitsLen zs.length) true true = (srt zs).toArray := by
 have h := sortInt zs
 have h2 : Sort.sort ltInt zs.toArray = (zs.mergeSort fun x y => decide (x ≤ y)).toArray := by rw [← h]
 rw [← show Sort.sort ltInt zs.toArray = pdq ltInt zs.toArray 0 zs.length (bitsLen zs.length) true true from by unfold Sort.sort; simp]
 exact h2
theorem sort64_c (blk off cap : Nat) (zs : List Int) (w : World) (hH : Holds (Value.int .u64) (w) blk off (zs.toArray)) (hl : blk < w.heap.size) (hsz : zs.length ≤ 100000) :
  Calls Tryz.prog 111 #[.slice (some ⟨blk, off, none⟩) zs.length cap] w fun e w' => e = .returned (.tuple #[]) ∧ Holds (Value.int .u64) (w') blk off ((srt zs).toArray) ∧ Only (fun k => k = blk) w w' := by
 obtain ⟨n, hn⟩ : ∃ n, n = zs.length := ⟨_, rfl⟩
 have hb17 : bitsLen n ≤ 17 := (bitsLen_le_iff n 17).2 (by omega)
 have c2 := pdq64_c blk off cap n (by omega) (n + 1) 0 n (bitsLen n) zs.toArray w (by omega) hH hl (by omega) (by simp [hn]) (by simp [hn]) (by omega) (.inl rfl)
 rw [show pdq ltInt zs.toArray 0 n (bitsLen n) true true = (srt zs).toArray from by rw [hn]; exact sort_eq zs] at c2
 rw [← hn]
 have K1 := Lib.hid (fun z => lenu_c n (by omega) z)
 have K2 := Lib.hid (show Calls Tryz.prog 129 #[.slice (some ⟨blk, off, none⟩) n cap, .int .i64 0, .int .i64 n, .int .i64 (bitsLen n : Nat)] w _ from c2)
 have hn1 : n ≤ 100000 := by omega
 clear c2 hn hb17 hH
 go_enter Tryz.func111, Tryz.ntmps111
 go_wp2_with (first
  | (go_at_call 65; (with_reducible refine (K1.out _).mono ?_); rintro e w' ⟨rfl, rfl⟩))
 with_reducible refine K2.out.mono ?_
 rintro e w9 ⟨rfl, hh9, ho9⟩
 go_wp2
 refine bodyPost_end (v := .tuple #[]) (by simp [results, Tryz.results111]) rfl ⟨rfl, hh9, ho9⟩
theorem insn_n (w : World) : Calls Tryz.prog 137 #[.slice none 0 0, .int .i64 0, .int .i64 0] w fun ee w' => ee = .returned (.tuple #[]) ∧ Below w.heap.size w w' := by
 go_enter Tryz.func137, Tryz.ntmps137
 go_wp2
 refine wp_loop_rounds 1 ?_
 rw [rounds_succ]
 go_wp2
 refine bodyPost_end (v := .tuple #[]) (by simp [results, Tryz.results137]) rfl ⟨rfl, ?_⟩
 exact blb
theorem pdqn_n (w : World) : Calls Tryz.prog 129 #[.slice none 0 0, .int .i64 0, .int .i64 0, .int .i64 0] w fun ee w' => ee = .returned (.tuple #[]) ∧ Below w.heap.size w w' := by
 have K1 := Lib.hid insn_n
 go_enter Tryz.func129, Tryz.ntmps129
 go_wp2
 refine wp_loop_rounds 2 ?_
 rw [rounds_succ]
 go_wp2_with (go_at_call 137; ((with_reducible refine (K1.out _).mono ?_); rintro e w1 ⟨rfl, hbel⟩; obtain ⟨hcc, hff⟩ := bcell hbel; have hsz := hbel.size; (try simp at hsz); have hF : Below w.heap.size w w1 := (by exact kpb); go_split_ands; clear hcc hff hbel))
 refine bodyPost_ret (v := .tuple #[]) (by simp [results, Tryz.results129]) rfl ⟨rfl, by assumption⟩
theorem sortn_n (w : World) : Calls Tryz.prog 111 #[.slice none 0 0] w fun ee w' => ee = .returned (.tuple #[]) ∧ Below w.heap.size w w' := by
 have K1 := Lib.hid (fun z => (show Calls Tryz.prog 65 #[.int .u64 0] z fun e w' => e = .returned (.int .i64 0) ∧ z = w' from (lenu_c 0 (by omega) z).mono (fun _ _ h => ⟨h.1, h.2.symm⟩)))
 have K2 := Lib.hid pdqn_n
 go_enter Tryz.func111, Tryz.ntmps111
 go_wp2_with (first
  | (go_at_call 65; (with_reducible refine (K1.out _).mono ?_); rintro e w' ⟨rfl, rfl⟩)
  | (go_at_call 129; ((with_reducible refine (K2.out _).mono ?_); rintro e w2 ⟨rfl, hbel⟩; obtain ⟨hcc, hff⟩ := bcell hbel; have hsz := hbel.size; (try simp at hsz); have hF : Below w.heap.size w w2 := (by exact kpb); go_split_ands; clear hcc hff hbel)))
 refine bodyPost_end (v := .tuple #[]) (by simp [results, Tryz.results111]) rfl ⟨rfl, ?_⟩
 exact blb
theorem compn_n (w : World) : Calls Tryz.prog 112 #[.slice none 0 0] w fun ee w' => ee = .returned (.slice none 0 0) ∧ Below w.heap.size w w' := by
 go_enter Tryz.func112, Tryz.ntmps112
 go_wp2
 (go_ret; refine ⟨?_, ?_⟩; (focus (exact rfl)); exact blb)
theorem only_putRow {enc : Int → Value} (w : World) (blk off : Nat) (d : Array Int) : Only (fun k => k = blk) w (putRow enc w blk off d) :=
 ⟨rfl, rfl, rfl, by simp, fun k hk hn => by simp [putRow, mapBlock, Array.getElem?_modify, show ¬ blk = k from fun h => hn h.symm]⟩
theorem one64 : OneCell (Value.int .u64) := fun _ => rfl
section
attribute [local semireducible] Holds
theorem hu_pre {blk off : Nat} {z : World} (l r : List Int) (h : Holds (Value.int .u64) (z) blk off ((l ++ r).toArray)) : Holds (Value.int .u64) (z) blk off (l.toArray) := fun j hj => by
 have hj' : j < l.length := by simpa using hj
 have := h j (by simp; omega)
 rw [show (l ++ r).toArray[j]! = l.toArray[j]! by simp [hj', List.getElem?_append]] at this
 exact this
end
theorem comp64_c (blk off cap : Nat) (d : Array Int) (w : World) (hH : Holds (Value.int .u64) (w) blk off (d)) (hl : blk < w.heap.size) (hsz : d.size ≤ 100000) (hcap : d.size ≤ cap) :
  Calls Tryz.prog 112 #[.slice (some ⟨blk, off, none⟩) d.size cap] w fun e w' => e = .returned (.slice (some ⟨blk, off, none⟩) (Go.Lib.compactUpTo d d.size).length cap) ∧ Holds (Value.int .u64) (w') blk off ((Go.Lib.compactUpTo d d.size).toArray) ∧ Only (fun k => k = blk) w w' := by
 have h := AnyE.slices_Compact lcmp (Value.int .u64) one64 (EqlAt.intD _ _ _) (NeqAt.intD _ _ _) 0 (fun w => by kernel_rfl) blk off cap d w hH (by omega) hcap
 have hle : (Go.Lib.compactUpTo d d.size).length ≤ d.size := by
  unfold Go.Lib.compactUpTo
  have := List.length_filter_le (Go.Lib.keeps d) (List.range d.size)
  simpa using this
 refine Calls.mono h ?_
 rintro e w' ⟨rfl, q, rfl⟩
 refine ⟨rfl, hu_pre _ _ (holds_putRow _ _ _ _ d _ (holds_ahead _ _ q _ _ _ hH) (by simp; omega)), (only_drewN w q).trans (only_putRow _ _ _ _)⟩
end Go.Proofs.YtffaahipgabkhaaGreat
end
section
namespace Go.Proofs.YtffaahipgabkhaaGreat
namespace Fg
structure Cv where
 m1 : Int
 d : Int
 m2 : Int
def Cv.cells (c : Cv) : List Value := [.int .u64 c.m1, .int .u64 c.d, .int .u64 c.m2]
structure Cv.ok (c : Cv) : Prop where
 h1 : In c.m1
 h2 : In c.d
 h3 : In c.m2
def csl (c : Cv) : Int := if kind c.m1 c.d c.m2 = 0 then 0 else c.m2
def cst (c : Cv) : Int := if kind c.m1 c.d c.m2 = 0 then 0 else if c.m2 > c.m1 then c.m2 else c.m1
def csv (t : Int) (c : Cv) : Int := srv c.m1 c.d c.m2 t
def tots (f : Cv → Int) : List Cv → Int
 | [] => 0
 | c :: l => f c + tots f l
theorem tots_app (f : Cv → Int) (l r : List Cv) : tots f (l ++ r) = tots f l + tots f r := by
 induction l with
 | nil => simp [tots]
 | cons c l ih => simp only [List.cons_append, tots, ih]; omega
theorem tots_succ (f : Cv → Int) (l : List Cv) (k : Nat) (h : k < l.length) : tots f (l.take (k + 1)) = tots f (l.take k) + f l[k] := by
 rw [List.take_succ_eq_append_getElem h, tots_app]
 simp [tots]
theorem tots_bd (f : Cv → Int) (B : Int) (l : List Cv) (h : ∀ c ∈ l, 0 ≤ f c ∧ f c ≤ B) : 0 ≤ tots f l ∧ tots f l ≤ l.length * B := by
 induction l with
 | nil => simp [tots]
 | cons c l ih =>
  have h1 := h c (by simp)
  have h2 := ih (fun x hx => h x (by simp [hx]))
  simp only [tots, List.length_cons]
  have : ((l.length + 1 : Nat) : Int) * B = l.length * B + B := by rw [Int.natCast_add, Int.add_mul]; simp
  omega
theorem csl_bd {c : Cv} (h : c.ok) : 0 ≤ csl c ∧ csl c ≤ 4294967295 := by
 unfold csl
 split
 ·omega
 ·rename_i hk
  have := okc h.h1 h.h2 h.h3 hk
  exact ⟨h.h3.1, this.b3⟩
theorem csv_bd {c : Cv} (h : c.ok) {t : Int} (ht : In t) : 0 ≤ csv t c ∧ csv t c ≤ 79228162532711081662980096000 := by
 unfold csv
 rcases Classical.em (kind c.m1 c.d c.m2 = 0) with hk | hk
 ·rw [srv_no hk]; omega
 ·rw [srv_ok hk]
  have h' := okc h.h1 h.h2 h.h3 hk
  exact ⟨sv_nn h' ht.1, sv_lt h' ht⟩
end Fg
end Go.Proofs.YtffaahipgabkhaaGreat
end
