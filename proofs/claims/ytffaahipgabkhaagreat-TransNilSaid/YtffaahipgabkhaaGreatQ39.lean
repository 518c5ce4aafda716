/- Joined texts. -/
import Derived.Test.YtffaahipgabkhaaGreatQ38
import Derived.Sort.WalkA6
import Derived.Deep.CutRange
import Derived.Deep.QuietTactic
import Derived.BigQuiet
import Derived.Sort.Walk13
import Derived.Sort.AssemblyPlain
section
namespace Go.Proofs.YtffaahipgabkhaaGreat
set_option linter.unusedVariables false
set_option linter.unusedSimpArgs false
set_option maxRecDepth 100000
open Go.RowKit Fg Reg Go.Sort
attribute [local irreducible] Reg.wE Holds
theorem nan_same (x : Int) (w : World) : Calls Tryz.prog 151 #[.int .u64 x] w fun e w' => e = .returned (.bool false) ∧ w' = w := by
  go_enter Tryz.func151, Tryz.ntmps151
  go_wp2
  go_ret
  exact ⟨rfl, rfl⟩
theorem les_same (x y : Int) (w : World) : Calls Tryz.prog 143 #[.int .u64 x, .int .u64 y] w fun e w' => e = .returned (.bool (ltInt x y)) ∧ w' = w := by
  go_enter Tryz.func143, Tryz.ntmps143
  go_wp2_with (go_at_call 151; (with_reducible refine (nan_same _ _).mono ?_); rintro e w' ⟨rfl, rfl⟩)
  go_ret
  exact ⟨rfl, rfl⟩
theorem sdn_size : ∀ (j : Nat) (d : Array Int), (shiftDown ltInt j d).size = d.size
  | 0, _ => by rw [shiftDown]
  | j + 1, d => by
    rw [shiftDown]
    split
    · rfl
    · rw [sdn_size j, swp_size]
set_option maxHeartbeats 8000000 in
theorem pis_c (blk off cap a b : Nat) (d : Array Int) (w : World) (hH : Holds (Value.int .u64) (w) blk off (d)) (hl : blk < w.heap.size) (hab : a + 12 < b) (hb : b ≤ d.size) (hsz : d.size ≤ 100000) :
    Calls Tryz.prog 142 #[.slice (some ⟨blk, off, none⟩) d.size cap, .int .i64 a, .int .i64 b] w fun e w' => e = .returned (.bool (partialInsertionSort ltInt d a b).2) ∧ Holds (Value.int .u64) (w') blk off ((partialInsertionSort ltInt d a b).1) ∧ Only (fun k => k = blk) w w' := by
  have hpure : partialInsertionSort ltInt d a b = partialIns ltInt a b 5 (a + 1) d := rfl
  rw [hpure]
  obtain ⟨R1, R2, hR⟩ : ∃ R1 R2, partialIns ltInt a b 5 (a + 1) d = (R1, R2) := ⟨_, _, rfl⟩
  rw [hR]
  have HH := Lib.hid hH
  have HR0 := Lib.hid hR
  clear hH hpure hR
  go_enter Tryz.func142, Tryz.ntmps142
  go_wp2
  go_loopw [7, 8] (fun vi vs wr => ∃ (i s : Nat) (dk : Array Int), vi = .int .i64 i ∧ vs = .int .i64 s ∧ s ≤ 5 ∧ a < i ∧ i ≤ b ∧ dk.size = d.size ∧ Holds (Value.int .u64) (wr) blk off (dk) ∧ Only (fun k => k = blk) w wr ∧ partialIns ltInt a b (5 - s) i dk = (R1, R2)) (fun _ vs _ => 5 - (intOf vs).toNat)
  case atStart => exact ⟨a + 1, 0, d, by first | rfl | go_num, rfl, by omega, by omega, by omega, rfl, HH.out, Only.refl _ _, HR0.out⟩
  case round =>
    obtain ⟨i, s, dk, rfl, rfl, hs5, hai, hib, hsk, hhu, hob, hO⟩ := hrel
    have hlr : blk < wr.heap.size := Nat.lt_of_lt_of_le hl hob.size
    have HO := Lib.hid hO
    have HU0 := Lib.hid hhu
    clear hO hhu
    by_cases hs : s < 5
    · go_wp2
      go_loopw [7] (fun vi wr2 => ∃ k : Nat, vi = .int .i64 k ∧ i ≤ k ∧ k ≤ b ∧ Holds (Value.int .u64) (wr2) blk off (dk) ∧ Only (fun k => k = blk) w wr2 ∧ scanSorted ltInt dk b k = scanSorted ltInt dk b i) (fun vi _ => b - (intOf vi).toNat)
      case atStart => exact ⟨i, rfl, Nat.le_refl _, hib, HU0.out, hob, rfl⟩
      case round =>
        obtain ⟨k, rfl, hik, hkb, hhu2, hob2, hS⟩ := hrel
        have hl2 : blk < wr.heap.size := Nat.lt_of_lt_of_le hl hob2.size
        have HU2 := Lib.hid hhu2
        have HS := Lib.hid hS
        clear hhu2 hS
        obtain ⟨G, hG⟩ : ∃ G : Nat → Int, ∀ x, G x = (dk)[x]! := ⟨fun x => (dk)[x]!, fun _ => rfl⟩; have hcw : ∀ x, x < d.size → World.cell? wr ⟨blk, off + x, none⟩ = some (.int .u64 (G x)) := (fun x hx => by rw [hG]; exact (hu_at HU2.out x (by omega)).1); have hfw : ∀ x, x < d.size → World.frozen? wr ⟨blk, off + x, none⟩ = false := (fun x hx => (hu_at HU2.out x (by omega)).2); have HG := Lib.hid hG; clear hG
        by_cases hkb' : k < b
        · cases hlt : ltInt (G k) (G (k - 1)) with
          | false =>
            have HS2 := Lib.hid ((scanSorted_go ltInt dk b k hkb' (by rw [← HG.out, ← HG.out]; exact hlt)).symm.trans HS.out)
            go_wp2
            go_quiet (first | (go_at_call 143; refine Calls.quiet_of_same (les_same _ _ _)))
            go_wp2
            go_roundw
            case rel => exact ⟨k + 1, by first | rfl | go_num, by omega, by omega, hu_drewN HU2.out hl2 _, hob2.trans (only_drewN _ _), HS2.out⟩
            case measure => simp [intOf]; omega
          | true =>
            have HK := Lib.hid (HS.out.symm.trans (scanSorted_stop ltInt dk b k (Or.inr (by rw [← HG.out, ← HG.out]; exact hlt))))
            by_cases h50 : b - a < 50
            · have HP := Lib.hid (HO.out.symm.trans (pi_short ltInt a b s i dk hs (by rw [HK.out]; omega) h50))
              go_wp2
              go_quiet (first | (go_at_call 143; refine Calls.quiet_of_same (les_same _ _ _)))
              go_wp2
              have e1 : R1 = dk := congrArg Prod.fst HP.out
              have e2 : R2 = false := congrArg Prod.snd HP.out
              subst e1 e2
              refine bodyPost_ret (v := .bool false) (by simp [results, Tryz.results142, go_sem, *]) rfl ⟨rfl, ?_, ?_⟩
              · exact hu_drewN HU2.out hl2 _
              · exact hob2.trans (only_drewN _ _)
            · have HRC := Lib.hid (fun (de : Array Int) (h : fixUp ltInt b k (fixDown ltInt a k (swp dk k (k - 1))) = de) => h ▸ ((pi_go ltInt a b s i k dk hs HK.out (by omega) h50).symm.trans HO.out))
              have hka0 : a < k := by omega
              go_wp2
              go_quiet (first | (go_at_call 143; refine Calls.quiet_of_same (les_same _ _ _)))
              go_wp2
              go_region
              go_upto_if 61 with fail
              have hs1 : (swp dk k (k - 1)).size = d.size := by rw [swp_size]; exact hsk
              go_cut [] from 13 to 132 (fun wc => Holds (Value.int .u64) (wc) blk off (fixDown ltInt a k (swp dk k (k - 1))) ∧ Only (fun k => k = blk) w wc)
              case first =>
                have hhS := Lib.hid (show Holds (Value.int .u64) (_) blk off (swp dk k (k - 1)) from by
                  have h9 := hu_swx (hu_drewN HU2.out hl2 (nq + 1)) k (k - 1) (by omega) (by omega) hl2
                  rw [← HG.out, ← HG.out] at h9
                  exact h9)
                have hoS := ((hob2.trans (only_drewN wr (nq + 1))).setOne (off + k) none (.int .u64 (G (k - 1)))).setOne (off + (k - 1)) none (.int .u64 (G k))
                by_cases hka : k - a ≥ 2
                · go_wp2
                  go_loopw [9] (fun vj wr2 => ∃ (j : Nat) (dj : Array Int), vj = .int .i64 j ∧ j ≤ k - 1 ∧ 1 ≤ k ∧ dj.size = d.size ∧ Holds (Value.int .u64) (wr2) blk off (dj) ∧ Only (fun k => k = blk) w wr2 ∧ shiftDown ltInt j dj = shiftDown ltInt (k - 1) (swp dk k (k - 1))) (fun vj _ => (intOf vj).toNat)
                  case atStart => exact ⟨(k - 1), _, by first | rfl | go_num | (congr 1; omega), by omega, by omega, hs1, hhS.out, hoS, rfl⟩
                  case round =>
                    obtain ⟨j, dj, rfl, hj1, hj2, hsj, hhj, hoj, hDn⟩ := hrel
                    have hlj : blk < wr.heap.size := Nat.lt_of_lt_of_le hl hoj.size
                    have HUJ := Lib.hid hhj
                    have HDn := Lib.hid hDn
                    clear hhj hDn
                    obtain ⟨G, hG⟩ : ∃ G : Nat → Int, ∀ x, G x = (dj)[x]! := ⟨fun x => (dj)[x]!, fun _ => rfl⟩; have hcw : ∀ x, x < d.size → World.cell? wr ⟨blk, off + x, none⟩ = some (.int .u64 (G x)) := (fun x hx => by rw [hG]; exact (hu_at HUJ.out x (by omega)).1); have hfw : ∀ x, x < d.size → World.frozen? wr ⟨blk, off + x, none⟩ = false := (fun x hx => (hu_at HUJ.out x (by omega)).2); have HG := Lib.hid hG; clear hG
                    by_cases hj : 1 ≤ j
                    · cases hl2 : ltInt (G j) (G (j - 1)) with
                      | true =>
                        have HST := Lib.hid ((shiftDown_go ltInt j dj (by omega) (by rw [← HG.out, ← HG.out]; exact hl2)))
                        go_wp2
                        go_quiet (first | (go_at_call 143; refine Calls.quiet_of_same (les_same _ _ _)))
                        go_wp2
                        go_region
                        all_goals go_wp2
                        go_roundw
                        case rel =>
                          refine ⟨j - 1, swp dj j (j - 1), by first | rfl | go_num | (congr 1; omega), by omega, by omega, by rw [swp_size]; exact hsj, ?_, ((hoj.trans (only_drewN _ _)).setOne _ _ _).setOne _ _ _, HST.out.symm.trans HDn.out⟩
                          simp only [HG.out]
                          exact hu_swx (hu_drewN HUJ.out hlj _) j (j - 1) (by omega) (by omega) hlj
                        case measure => first | (simp [intOf]; done) | (simp [intOf]; omega)
                      | false =>
                        have HE := Lib.hid ((shiftDown_stop ltInt j dj (Or.inr (by rw [← HG.out, ← HG.out]; exact hl2))).symm.trans HDn.out)
                        go_wp2
                        go_quiet (first | (go_at_call 143; refine Calls.quiet_of_same (les_same _ _ _)))
                        go_wp2
                        go_meet
                        case rel => exact ⟨by rw [show fixDown ltInt a k (swp dk k (k - 1)) = dj from by unfold fixDown; rw [if_pos hka]; exact HE.out.symm]; exact (hu_drewN HUJ.out hlj _), (hoj.trans (only_drewN _ _))⟩
                    · have HE := Lib.hid ((shiftDown_stop ltInt j dj (Or.inl (by omega))).symm.trans HDn.out)
                      go_wp2
                      go_meet
                      case rel => exact ⟨by rw [show fixDown ltInt a k (swp dk k (k - 1)) = dj from by unfold fixDown; rw [if_pos hka]; exact HE.out.symm]; exact HUJ.out, hoj⟩
                · go_wp2
                  go_meet
                  case rel => exact ⟨by rw [show fixDown ltInt a k (swp dk k (k - 1)) = swp dk k (k - 1) from by unfold fixDown; rw [if_neg hka]]; exact hhS.out, hoS⟩
              case rest =>
                obtain ⟨hhm, hom⟩ := hcut
                obtain ⟨dm, hdm⟩ : ∃ dm, fixDown ltInt a k (swp dk k (k - 1)) = dm := ⟨_, rfl⟩
                rw [hdm] at hhm
                have HRC2 := Lib.hid HRC.out
                clear HRC
                have HRC := Lib.hid (fun (de : Array Int) (h : fixUp ltInt b k dm = de) => HRC2.out de (by rw [hdm]; exact h))
                clear HRC2 hcw hfw
                have hsm : dm.size = d.size := by
                  rw [← hdm]; unfold fixDown
                  split
                  · rw [sdn_size]; exact hs1
                  · exact hs1
                clear hs1 hdm
                have hs1 := hsm
                have hhS := Lib.hid hhm
                have hoS := hom
                clear hhm
                by_cases hbk : b - k ≥ 2
                · go_wp2
                  go_loopw [10] (fun vj wr2 => ∃ (j : Nat) (dj : Array Int), vj = .int .i64 j ∧ k + 1 ≤ j ∧ j ≤ b ∧ dj.size = d.size ∧ Holds (Value.int .u64) (wr2) blk off (dj) ∧ Only (fun k => k = blk) w wr2 ∧ shiftUp ltInt b j dj = shiftUp ltInt b (k + 1) dm) (fun vj _ => b - (intOf vj).toNat)
                  case atStart => exact ⟨(k + 1), _, by first | rfl | go_num | (congr 1; omega), by omega, by omega, hs1, hhS.out, hoS, rfl⟩
                  case round =>
                    obtain ⟨j, dj, rfl, hj1, hj2, hsj, hhj, hoj, hDn⟩ := hrel
                    have hlj : blk < wr.heap.size := Nat.lt_of_lt_of_le hl hoj.size
                    have HUJ := Lib.hid hhj
                    have HDn := Lib.hid hDn
                    clear hhj hDn
                    obtain ⟨G, hG⟩ : ∃ G : Nat → Int, ∀ x, G x = (dj)[x]! := ⟨fun x => (dj)[x]!, fun _ => rfl⟩; have hcw : ∀ x, x < d.size → World.cell? wr ⟨blk, off + x, none⟩ = some (.int .u64 (G x)) := (fun x hx => by rw [hG]; exact (hu_at HUJ.out x (by omega)).1); have hfw : ∀ x, x < d.size → World.frozen? wr ⟨blk, off + x, none⟩ = false := (fun x hx => (hu_at HUJ.out x (by omega)).2); have HG := Lib.hid hG; clear hG
                    by_cases hj : j < b
                    · cases hl2 : ltInt (G j) (G (j - 1)) with
                      | true =>
                        have HST := Lib.hid ((shiftUp_go ltInt b j dj (by omega) (by rw [← HG.out, ← HG.out]; exact hl2)))
                        go_wp2
                        go_quiet (first | (go_at_call 143; refine Calls.quiet_of_same (les_same _ _ _)))
                        go_wp2
                        go_region
                        all_goals go_wp2
                        go_roundw
                        case rel =>
                          refine ⟨j + 1, swp dj j (j - 1), by first | rfl | go_num | (congr 1; omega), by omega, by omega, by rw [swp_size]; exact hsj, ?_, ((hoj.trans (only_drewN _ _)).setOne _ _ _).setOne _ _ _, HST.out.symm.trans HDn.out⟩
                          simp only [HG.out]
                          exact hu_swx (hu_drewN HUJ.out hlj _) j (j - 1) (by omega) (by omega) hlj
                        case measure => first | (simp [intOf]; done) | (simp [intOf]; omega)
                      | false =>
                        have HE := Lib.hid ((shiftUp_stop ltInt b j dj (Or.inr (by rw [← HG.out, ← HG.out]; exact hl2))).symm.trans HDn.out)
                        go_wp2
                        go_quiet (first | (go_at_call 143; refine Calls.quiet_of_same (les_same _ _ _)))
                        go_wp2
                        go_roundw
                        case rel =>
                          first
                          | exact ⟨k, s + 1, _, rfl, by first | rfl | go_num | (congr 1; omega), by omega, by omega, by omega, hsj, (hu_drewN HUJ.out hlj _), (hoj.trans (only_drewN _ _)), HRC.out dj (by unfold fixUp; rw [if_pos hbk]; exact HE.out.symm)⟩
                          | ((repeat apply Exists.intro); exact ⟨⟨k, s + 1, _, rfl, by first | rfl | go_num | (congr 1; omega), by omega, by omega, by omega, hsj, (hu_drewN HUJ.out hlj _), (hoj.trans (only_drewN _ _)), HRC.out dj (by unfold fixUp; rw [if_pos hbk]; exact HE.out.symm)⟩, rfl⟩)
                        case measure => first | (simp [intOf]; done) | (simp [intOf]; omega)
                    · have HE := Lib.hid ((shiftUp_stop ltInt b j dj (Or.inl (by omega))).symm.trans HDn.out)
                      go_wp2
                      go_roundw
                      case rel =>
                        first
                        | exact ⟨k, s + 1, _, rfl, by first | rfl | go_num | (congr 1; omega), by omega, by omega, by omega, hsj, HUJ.out, hoj, HRC.out dj (by unfold fixUp; rw [if_pos hbk]; exact HE.out.symm)⟩
                        | ((repeat apply Exists.intro); exact ⟨⟨k, s + 1, _, rfl, by first | rfl | go_num | (congr 1; omega), by omega, by omega, by omega, hsj, HUJ.out, hoj, HRC.out dj (by unfold fixUp; rw [if_pos hbk]; exact HE.out.symm)⟩, rfl⟩)
                      case measure => first | (simp [intOf]; done) | (simp [intOf]; omega)
                · go_wp2
                  go_roundw
                  case rel =>
                    first
                    | exact ⟨k, s + 1, _, rfl, by first | rfl | go_num | (congr 1; omega), by omega, by omega, by omega, hs1, hhS.out, hoS, HRC.out dm (by unfold fixUp; rw [if_neg hbk])⟩
                    | ((repeat apply Exists.intro); exact ⟨⟨k, s + 1, _, rfl, by first | rfl | go_num | (congr 1; omega), by omega, by omega, by omega, hs1, hhS.out, hoS, HRC.out dm (by unfold fixUp; rw [if_neg hbk])⟩, rfl⟩)
                  case measure => first | (simp [intOf]; done) | (simp [intOf]; omega)
        · obtain rfl : k = b := by omega
          have HP := Lib.hid (HO.out.symm.trans (pi_true ltInt a k s i dk hs (HS.out.symm.trans (scanSorted_stop ltInt dk k k (Or.inl (by omega))))))
          go_wp2
          go_quiet (fail)
          go_wp2
          have e1 : R1 = dk := congrArg Prod.fst HP.out
          have e2 : R2 = true := congrArg Prod.snd HP.out
          subst e1 e2
          refine bodyPost_ret (v := .bool true) (by simp [results, Tryz.results142, go_sem, *]) rfl ⟨rfl, ?_, ?_⟩
          · first | exact hu_drewN HU2.out hl2 _ | exact HU2.out
          · first | exact hob2.trans (only_drewN _ _) | exact hob2
    · obtain rfl : s = 5 := by omega
      have HP := Lib.hid (HO.out.symm.trans (pi_end ltInt a b i dk))
      go_wp2
      have e1 : R1 = dk := congrArg Prod.fst HP.out
      have e2 : R2 = false := congrArg Prod.snd HP.out
      subst e1 e2
      refine bodyPost_ret (v := .bool false) (by simp [results, Tryz.results142, go_sem, *]) rfl ⟨rfl, HU0.out, hob⟩
end Go.Proofs.YtffaahipgabkhaaGreat
end
section
namespace Go.Proofs.YtffaahipgabkhaaGreat
set_option linter.unusedVariables false
set_option linter.unusedSimpArgs false
set_option maxRecDepth 100000
open Go.RowKit Fg Reg Go.Sort
attribute [local irreducible] Reg.wE Holds
theorem plain64 : Plain13 := ⟨swo_ltInt, insertionSort_holds, partialInsertionSort_holds, partition_holds _, partitionEqual_holds _, pdq_sorts _⟩
theorem rdv {d : Array Int} {a b limit : Nat} {wb wp : Bool} (h12 : ¬ b - a ≤ 12) (hl0 : limit ≠ 0) (hab : a < b) (hb : b ≤ d.size) (hB : Go.Sort.Below ltInt a b d) :
    ∃ (d1 : Array Int) (lm cv : Nat) (ch : Hint) (d2 : Array Int) (pv : Nat) (ht : Hint) (dp : Array Int) (pf : Bool),
    (wb = false → d1 = breakPatterns d a b ∧ lm = limit - 1) ∧ (wb = true → d1 = d ∧ lm = limit) ∧ choosePivot ltInt d1 a b = (cv, ch) ∧
    (ch = .decreasing → d2 = reverseRange d1 a b ∧ pv = (b - 1) - (cv - a) ∧ ht = .increasing) ∧ (ch ≠ .decreasing → d2 = d1 ∧ pv = cv ∧ ht = ch) ∧
    ((wb && wp && decide (ht = .increasing)) = true → partialInsertionSort ltInt d2 a b = (dp, pf)) ∧ ((wb && wp && decide (ht = .increasing)) = false → dp = d2 ∧ pf = false) ∧ lm ≤ limit ∧
    d1.size = d.size ∧ a ≤ cv ∧ cv < b ∧ d2.size = d.size ∧ a ≤ pv ∧ pv < b ∧ dp.size = d.size ∧ Go.Sort.Below ltInt a b dp ∧
    (pf = true → pdq ltInt d a b limit wb wp = dp) ∧
    (pf = false → (decide (a > 0) && !ltInt dp[a - 1]! dp[pv]!) = true → ∀ mid d4, partitionEqual ltInt dp a b pv = (mid, d4) → a < mid → mid ≤ b → pdq ltInt d a b limit wb wp = pdq ltInt d4 mid b lm wb wp) ∧
    (pf = false → (decide (a > 0) && !ltInt dp[a - 1]! dp[pv]!) = false → ∀ mid ap d4, partition ltInt dp a b pv = (mid, ap, d4) → a ≤ mid → mid < b → mid - a < b - mid → pdq ltInt d a b limit wb wp = pdq ltInt (pdq ltInt d4 a mid lm true true) (mid + 1) b lm (decide (mid - a ≥ (b - a) / 8)) ap) ∧
    (pf = false → (decide (a > 0) && !ltInt dp[a - 1]! dp[pv]!) = false → ∀ mid ap d4, partition ltInt dp a b pv = (mid, ap, d4) → a ≤ mid → mid < b → ¬ mid - a < b - mid → pdq ltInt d a b limit wb wp = pdq ltInt (pdq ltInt d4 (mid + 1) b lm true true) a mid lm (decide (b - mid ≥ (b - a) / 8)) ap) := by
  obtain ⟨s1, B1, hc1, s2, B2, hpv, s3, B3⟩ := rd_facts (limit := limit) (wb := wb) (wp := wp) plain64.swo plain64.par reverseRange_holds hab hb hB
  refine ⟨(rd ltInt d a b limit wb wp).d1, (rd ltInt d a b limit wb wp).lim, (rd ltInt d a b limit wb wp).c.1, (rd ltInt d a b limit wb wp).c.2, (rd ltInt d a b limit wb wp).d2, (rd ltInt d a b limit wb wp).pivot, (rd ltInt d a b limit wb wp).hint, (rd ltInt d a b limit wb wp).pi.1, (rd ltInt d a b limit wb wp).pi.2,
    ?_, ?_, rd_c.symm, fun h => rd_dec h, fun h => rd_not h, fun h => (rd_pi_yes h).symm, fun h => ?_, rd_lim_le, s1, hc1.1, hc1.2, s2, hpv.1, hpv.2, s3, B3, fun h => pdq_done h12 hl0 h, ?_, ?_, ?_⟩
  · rintro rfl; exact rd_false
  · rintro rfl; exact rd_true
  · have e := rd_pi_no h
    exact ⟨congrArg Prod.fst e, congrArg Prod.snd e⟩
  · intro h1 h2 mid d4 hx g1 g2
    have e := pdq_eq h12 hl0 h1 h2 (by rw [hx]; exact ⟨g1, g2⟩)
    rw [hx] at e; exact e
  · intro h1 h2 mid ap d4 hx g1 g2 g3
    have e := pdq_left h12 hl0 h1 h2 (by rw [hx]; exact ⟨g1, g2⟩) (by rw [hx]; exact g3)
    rw [hx] at e; exact e
  · intro h1 h2 mid ap d4 hx g1 g2 g3
    have e := pdq_right h12 hl0 h1 h2 (by rw [hx]; exact ⟨g1, g2⟩) (by rw [hx]; exact g3)
    rw [hx] at e; exact e
theorem hintn_two {h : Hint} (e : hintn h = 2) : h = .decreasing := by cases h <;> simp [hintn] at e ⊢
theorem insOuter_nil (lt : Int → Int → Bool) (a : Nat) (d : Array Int) : insertionSort lt d a a = d := by
  unfold insertionSort
  rw [insOuter, if_neg (by omega)]
set_option maxHeartbeats 2000000 in
theorem insn_c (blk off cap n a b : Nat) (d : Array Int) (w : World) (hH : Holds (Value.int .u64) (w) blk off (d)) (hl : blk < w.heap.size) (hab : a ≤ b) (hb : b ≤ d.size) (hn : d.size = n) (hsz : n ≤ 100000) :
    Calls Tryz.prog 137 #[.slice (some ⟨blk, off, none⟩) n cap, .int .i64 a, .int .i64 b] w fun e w' => e = .returned (.tuple #[]) ∧ Holds (Value.int .u64) (w') blk off (insertionSort ltInt d a b) ∧ Only (fun k => k = blk) w w' := by
  subst hn
  by_cases h : a < b
  · exact ins64_c blk off cap a b d w hH hl h hb hsz
  · obtain rfl : a = b := by omega
    rw [insOuter_nil]
    have HH := Lib.hid hH
    clear hH
    have W0 : IntKind.i64.wrap ((a : Int) + 1) = (a : Int) + 1 := by rw [IntKind.wrap_i64]; omega
    have d0 : decide ((a : Int) + 1 < a) = false := decide_eq_false (by omega)
    go_enter Tryz.func137, Tryz.ntmps137
    go_wp2
    refine wp_loop_rounds 1 ?_
    rw [rounds_succ]
    go_wp2
    refine bodyPost_end (v := .tuple #[]) (by simp [results, Tryz.results137]) rfl ⟨rfl, ?_⟩
    exact ⟨HH.out, Only.refl _ _⟩
end Go.Proofs.YtffaahipgabkhaaGreat
end
