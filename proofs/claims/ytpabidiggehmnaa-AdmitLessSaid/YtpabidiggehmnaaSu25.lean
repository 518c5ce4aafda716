/- partialInsertionSortOrdered at uint64. -/
import Derived.Test.YtpabidiggehmnaaSu24
import Derived.Sort.WalkA6
import Derived.Deep.CutRange
import Derived.Deep.QuietTactic
import Derived.BigQuiet
namespace Go.Proofs.Ytpabidiggehmnaa
set_option linter.unusedVariables false
set_option linter.unusedSimpArgs false
set_option maxRecDepth 100000
open Go.RowKit Fg Reg Go.Sort
attribute [local irreducible] Reg.wE Holds

theorem nan_same (x : Int) (w : World) : Calls Try.prog 86 #[.int .u64 x] w fun e w' => e = .returned (.bool false) ∧ w' = w := by
  go_enter Try.func86, Try.ntmps86
  go_wp2
  go_ret
  exact ⟨rfl, rfl⟩
theorem les_same (x y : Int) (w : World) : Calls Try.prog 75 #[.int .u64 x, .int .u64 y] w fun e w' => e = .returned (.bool (ltInt x y)) ∧ w' = w := by
  go_enter Try.func75, Try.ntmps75
  go_wp2_with (go_at_call 86; (with_reducible refine (nan_same _ _).mono ?_); rintro e w' ⟨rfl, rfl⟩)
  go_ret
  exact ⟨rfl, rfl⟩

theorem sdn_size : ∀ (j : Nat) (d : Array Int), (shiftDown ltInt j d).size = d.size
  | 0, _ => by rw [shiftDown]
  | j + 1, d => by
    rw [shiftDown]
    split
    · rfl
    · rw [sdn_size j, swp_size]
set_option maxHeartbeats 8000000 in
theorem pis_c (blk off cap a b : Nat) (d : Array Int) (w : World) (hH : Holds (Value.int .u64) (w) blk off (d)) (hl : blk < w.heap.size) (hab : a + 12 < b) (hb : b ≤ d.size) (hsz : d.size ≤ 100000) :
    Calls Try.prog 74 #[.slice (some ⟨blk, off, none⟩) d.size cap, .int .i64 a, .int .i64 b] w fun e w' => e = .returned (.bool (partialInsertionSort ltInt d a b).2) ∧ Holds (Value.int .u64) (w') blk off ((partialInsertionSort ltInt d a b).1) ∧ Only (fun k => k = blk) w w' := by
  have hpure : partialInsertionSort ltInt d a b = partialIns ltInt a b 5 (a + 1) d := rfl
  rw [hpure]
  obtain ⟨R1, R2, hR⟩ : ∃ R1 R2, partialIns ltInt a b 5 (a + 1) d = (R1, R2) := ⟨_, _, rfl⟩
  rw [hR]
  have HH := Lib.hid hH
  have HR0 := Lib.hid hR
  clear hH hpure hR
  go_enter Try.func74, Try.ntmps74
  go_wp2
  go_loopw [7, 8] (fun vi vs wr => ∃ (i s : Nat) (dk : Array Int), vi = .int .i64 i ∧ vs = .int .i64 s ∧ s ≤ 5 ∧ a < i ∧ i ≤ b ∧ dk.size = d.size ∧ Holds (Value.int .u64) (wr) blk off (dk) ∧ Only (fun k => k = blk) w wr ∧ partialIns ltInt a b (5 - s) i dk = (R1, R2)) (fun _ vs _ => 5 - (intOf vs).toNat)
  case atStart => exact ⟨a + 1, 0, d, by first | rfl | go_num, rfl, by omega, by omega, by omega, rfl, HH.out, Only.refl _ _, HR0.out⟩
  case round =>
    obtain ⟨i, s, dk, rfl, rfl, hs5, hai, hib, hsk, hhu, hob, hO⟩ := hrel
    have hlr : blk < wr.heap.size := Nat.lt_of_lt_of_le hl hob.size
    have HO := Lib.hid hO
    have HU0 := Lib.hid hhu
    clear hO hhu
    by_cases hs : s < 5
    · go_wp2
      go_loopw [7] (fun vi wr2 => ∃ k : Nat, vi = .int .i64 k ∧ i ≤ k ∧ k ≤ b ∧ Holds (Value.int .u64) (wr2) blk off (dk) ∧ Only (fun k => k = blk) w wr2 ∧ scanSorted ltInt dk b k = scanSorted ltInt dk b i) (fun vi _ => b - (intOf vi).toNat)
      case atStart => exact ⟨i, rfl, Nat.le_refl _, hib, HU0.out, hob, rfl⟩
      case round =>
        obtain ⟨k, rfl, hik, hkb, hhu2, hob2, hS⟩ := hrel
        have hl2 : blk < wr.heap.size := Nat.lt_of_lt_of_le hl hob2.size
        have HU2 := Lib.hid hhu2
        have HS := Lib.hid hS
        clear hhu2 hS
        obtain ⟨G, hG⟩ : ∃ G : Nat → Int, ∀ x, G x = (dk)[x]! := ⟨fun x => (dk)[x]!, fun _ => rfl⟩; have hcw : ∀ x, x < d.size → World.cell? wr ⟨blk, off + x, none⟩ = some (.int .u64 (G x)) := (fun x hx => by rw [hG]; exact (hu_at HU2.out x (by omega)).1); have hfw : ∀ x, x < d.size → World.frozen? wr ⟨blk, off + x, none⟩ = false := (fun x hx => (hu_at HU2.out x (by omega)).2); have HG := Lib.hid hG; clear hG
        by_cases hkb' : k < b
        · cases hlt : ltInt (G k) (G (k - 1)) with
          | false =>
            have HS2 := Lib.hid ((scanSorted_go ltInt dk b k hkb' (by rw [← HG.out, ← HG.out]; exact hlt)).symm.trans HS.out)
            go_wp2
            go_quiet (first | (go_at_call 75; refine Calls.quiet_of_same (les_same _ _ _)))
            go_wp2
            go_roundw
            case rel => exact ⟨k + 1, by first | rfl | go_num, by omega, by omega, hu_drewN HU2.out hl2 _, hob2.trans (only_drewN _ _), HS2.out⟩
            case measure => simp [intOf]; omega
          | true =>
            have HK := Lib.hid (HS.out.symm.trans (scanSorted_stop ltInt dk b k (Or.inr (by rw [← HG.out, ← HG.out]; exact hlt))))
            by_cases h50 : b - a < 50
            · have HP := Lib.hid (HO.out.symm.trans (pi_short ltInt a b s i dk hs (by rw [HK.out]; omega) h50))
              go_wp2
              go_quiet (first | (go_at_call 75; refine Calls.quiet_of_same (les_same _ _ _)))
              go_wp2
              have e1 : R1 = dk := congrArg Prod.fst HP.out
              have e2 : R2 = false := congrArg Prod.snd HP.out
              subst e1 e2
              refine bodyPost_ret (v := .bool false) (by simp [results, Try.results74, go_sem, *]) rfl ⟨rfl, ?_, ?_⟩
              · exact hu_drewN HU2.out hl2 _
              · exact hob2.trans (only_drewN _ _)
            · have HRC := Lib.hid (fun (de : Array Int) (h : fixUp ltInt b k (fixDown ltInt a k (swp dk k (k - 1))) = de) => h ▸ ((pi_go ltInt a b s i k dk hs HK.out (by omega) h50).symm.trans HO.out))
              have hka0 : a < k := by omega
              go_wp2
              go_quiet (first | (go_at_call 75; refine Calls.quiet_of_same (les_same _ _ _)))
              go_wp2
              go_region
              go_upto_if 61 with fail
              have hs1 : (swp dk k (k - 1)).size = d.size := by rw [swp_size]; exact hsk
              go_cut [] from 13 to 132 (fun wc => Holds (Value.int .u64) (wc) blk off (fixDown ltInt a k (swp dk k (k - 1))) ∧ Only (fun k => k = blk) w wc)
              case first =>
                have hhS := Lib.hid (show Holds (Value.int .u64) (_) blk off (swp dk k (k - 1)) from by
                  have h9 := hu_swx (hu_drewN HU2.out hl2 (nq + 1)) k (k - 1) (by omega) (by omega) hl2
                  rw [← HG.out, ← HG.out] at h9
                  exact h9)
                have hoS := ((hob2.trans (only_drewN wr (nq + 1))).setOne (off + k) none (.int .u64 (G (k - 1)))).setOne (off + (k - 1)) none (.int .u64 (G k))
                by_cases hka : k - a ≥ 2
                · go_wp2
                  go_loopw [9] (fun vj wr2 => ∃ (j : Nat) (dj : Array Int), vj = .int .i64 j ∧ j ≤ k - 1 ∧ 1 ≤ k ∧ dj.size = d.size ∧ Holds (Value.int .u64) (wr2) blk off (dj) ∧ Only (fun k => k = blk) w wr2 ∧ shiftDown ltInt j dj = shiftDown ltInt (k - 1) (swp dk k (k - 1))) (fun vj _ => (intOf vj).toNat)
                  case atStart => exact ⟨(k - 1), _, by first | rfl | go_num | (congr 1; omega), by omega, by omega, hs1, hhS.out, hoS, rfl⟩
                  case round =>
                    obtain ⟨j, dj, rfl, hj1, hj2, hsj, hhj, hoj, hDn⟩ := hrel
                    have hlj : blk < wr.heap.size := Nat.lt_of_lt_of_le hl hoj.size
                    have HUJ := Lib.hid hhj
                    have HDn := Lib.hid hDn
                    clear hhj hDn
                    obtain ⟨G, hG⟩ : ∃ G : Nat → Int, ∀ x, G x = (dj)[x]! := ⟨fun x => (dj)[x]!, fun _ => rfl⟩; have hcw : ∀ x, x < d.size → World.cell? wr ⟨blk, off + x, none⟩ = some (.int .u64 (G x)) := (fun x hx => by rw [hG]; exact (hu_at HUJ.out x (by omega)).1); have hfw : ∀ x, x < d.size → World.frozen? wr ⟨blk, off + x, none⟩ = false := (fun x hx => (hu_at HUJ.out x (by omega)).2); have HG := Lib.hid hG; clear hG
                    by_cases hj : 1 ≤ j
                    · cases hl2 : ltInt (G j) (G (j - 1)) with
                      | true =>
                        have HST := Lib.hid ((shiftDown_go ltInt j dj (by omega) (by rw [← HG.out, ← HG.out]; exact hl2)))
                        go_wp2
                        go_quiet (first | (go_at_call 75; refine Calls.quiet_of_same (les_same _ _ _)))
                        go_wp2
                        go_region
                        all_goals go_wp2
                        go_roundw
                        case rel =>
                          refine ⟨j - 1, swp dj j (j - 1), by first | rfl | go_num | (congr 1; omega), by omega, by omega, by rw [swp_size]; exact hsj, ?_, ((hoj.trans (only_drewN _ _)).setOne _ _ _).setOne _ _ _, HST.out.symm.trans HDn.out⟩
                          simp only [HG.out]
                          exact hu_swx (hu_drewN HUJ.out hlj _) j (j - 1) (by omega) (by omega) hlj
                        case measure => first | (simp [intOf]; done) | (simp [intOf]; omega)
                      | false =>
                        have HE := Lib.hid ((shiftDown_stop ltInt j dj (Or.inr (by rw [← HG.out, ← HG.out]; exact hl2))).symm.trans HDn.out)
                        go_wp2
                        go_quiet (first | (go_at_call 75; refine Calls.quiet_of_same (les_same _ _ _)))
                        go_wp2
                        go_meet
                        case rel => exact ⟨by rw [show fixDown ltInt a k (swp dk k (k - 1)) = dj from by unfold fixDown; rw [if_pos hka]; exact HE.out.symm]; exact (hu_drewN HUJ.out hlj _), (hoj.trans (only_drewN _ _))⟩
                    · have HE := Lib.hid ((shiftDown_stop ltInt j dj (Or.inl (by omega))).symm.trans HDn.out)
                      go_wp2
                      go_meet
                      case rel => exact ⟨by rw [show fixDown ltInt a k (swp dk k (k - 1)) = dj from by unfold fixDown; rw [if_pos hka]; exact HE.out.symm]; exact HUJ.out, hoj⟩
                · go_wp2
                  go_meet
                  case rel => exact ⟨by rw [show fixDown ltInt a k (swp dk k (k - 1)) = swp dk k (k - 1) from by unfold fixDown; rw [if_neg hka]]; exact hhS.out, hoS⟩
              case rest =>
                obtain ⟨hhm, hom⟩ := hcut
                obtain ⟨dm, hdm⟩ : ∃ dm, fixDown ltInt a k (swp dk k (k - 1)) = dm := ⟨_, rfl⟩
                rw [hdm] at hhm
                have HRC2 := Lib.hid HRC.out
                clear HRC
                have HRC := Lib.hid (fun (de : Array Int) (h : fixUp ltInt b k dm = de) => HRC2.out de (by rw [hdm]; exact h))
                clear HRC2 hcw hfw
                have hsm : dm.size = d.size := by
                  rw [← hdm]; unfold fixDown
                  split
                  · rw [sdn_size]; exact hs1
                  · exact hs1
                clear hs1 hdm
                have hs1 := hsm
                have hhS := Lib.hid hhm
                have hoS := hom
                clear hhm
                by_cases hbk : b - k ≥ 2
                · go_wp2
                  go_loopw [10] (fun vj wr2 => ∃ (j : Nat) (dj : Array Int), vj = .int .i64 j ∧ k + 1 ≤ j ∧ j ≤ b ∧ dj.size = d.size ∧ Holds (Value.int .u64) (wr2) blk off (dj) ∧ Only (fun k => k = blk) w wr2 ∧ shiftUp ltInt b j dj = shiftUp ltInt b (k + 1) dm) (fun vj _ => b - (intOf vj).toNat)
                  case atStart => exact ⟨(k + 1), _, by first | rfl | go_num | (congr 1; omega), by omega, by omega, hs1, hhS.out, hoS, rfl⟩
                  case round =>
                    obtain ⟨j, dj, rfl, hj1, hj2, hsj, hhj, hoj, hDn⟩ := hrel
                    have hlj : blk < wr.heap.size := Nat.lt_of_lt_of_le hl hoj.size
                    have HUJ := Lib.hid hhj
                    have HDn := Lib.hid hDn
                    clear hhj hDn
                    obtain ⟨G, hG⟩ : ∃ G : Nat → Int, ∀ x, G x = (dj)[x]! := ⟨fun x => (dj)[x]!, fun _ => rfl⟩; have hcw : ∀ x, x < d.size → World.cell? wr ⟨blk, off + x, none⟩ = some (.int .u64 (G x)) := (fun x hx => by rw [hG]; exact (hu_at HUJ.out x (by omega)).1); have hfw : ∀ x, x < d.size → World.frozen? wr ⟨blk, off + x, none⟩ = false := (fun x hx => (hu_at HUJ.out x (by omega)).2); have HG := Lib.hid hG; clear hG
                    by_cases hj : j < b
                    · cases hl2 : ltInt (G j) (G (j - 1)) with
                      | true =>
                        have HST := Lib.hid ((shiftUp_go ltInt b j dj (by omega) (by rw [← HG.out, ← HG.out]; exact hl2)))
                        go_wp2
                        go_quiet (first | (go_at_call 75; refine Calls.quiet_of_same (les_same _ _ _)))
                        go_wp2
                        go_region
                        all_goals go_wp2
                        go_roundw
                        case rel =>
                          refine ⟨j + 1, swp dj j (j - 1), by first | rfl | go_num | (congr 1; omega), by omega, by omega, by rw [swp_size]; exact hsj, ?_, ((hoj.trans (only_drewN _ _)).setOne _ _ _).setOne _ _ _, HST.out.symm.trans HDn.out⟩
                          simp only [HG.out]
                          exact hu_swx (hu_drewN HUJ.out hlj _) j (j - 1) (by omega) (by omega) hlj
                        case measure => first | (simp [intOf]; done) | (simp [intOf]; omega)
                      | false =>
                        have HE := Lib.hid ((shiftUp_stop ltInt b j dj (Or.inr (by rw [← HG.out, ← HG.out]; exact hl2))).symm.trans HDn.out)
                        go_wp2
                        go_quiet (first | (go_at_call 75; refine Calls.quiet_of_same (les_same _ _ _)))
                        go_wp2
                        go_roundw
                        case rel =>
                          first
                          | exact ⟨k, s + 1, _, rfl, by first | rfl | go_num | (congr 1; omega), by omega, by omega, by omega, hsj, (hu_drewN HUJ.out hlj _), (hoj.trans (only_drewN _ _)), HRC.out dj (by unfold fixUp; rw [if_pos hbk]; exact HE.out.symm)⟩
                          | ((repeat apply Exists.intro); exact ⟨⟨k, s + 1, _, rfl, by first | rfl | go_num | (congr 1; omega), by omega, by omega, by omega, hsj, (hu_drewN HUJ.out hlj _), (hoj.trans (only_drewN _ _)), HRC.out dj (by unfold fixUp; rw [if_pos hbk]; exact HE.out.symm)⟩, rfl⟩)
                        case measure => first | (simp [intOf]; done) | (simp [intOf]; omega)
                    · have HE := Lib.hid ((shiftUp_stop ltInt b j dj (Or.inl (by omega))).symm.trans HDn.out)
                      go_wp2
                      go_roundw
                      case rel =>
                        first
                        | exact ⟨k, s + 1, _, rfl, by first | rfl | go_num | (congr 1; omega), by omega, by omega, by omega, hsj, HUJ.out, hoj, HRC.out dj (by unfold fixUp; rw [if_pos hbk]; exact HE.out.symm)⟩
                        | ((repeat apply Exists.intro); exact ⟨⟨k, s + 1, _, rfl, by first | rfl | go_num | (congr 1; omega), by omega, by omega, by omega, hsj, HUJ.out, hoj, HRC.out dj (by unfold fixUp; rw [if_pos hbk]; exact HE.out.symm)⟩, rfl⟩)
                      case measure => first | (simp [intOf]; done) | (simp [intOf]; omega)
                · go_wp2
                  go_roundw
                  case rel =>
                    first
                    | exact ⟨k, s + 1, _, rfl, by first | rfl | go_num | (congr 1; omega), by omega, by omega, by omega, hs1, hhS.out, hoS, HRC.out dm (by unfold fixUp; rw [if_neg hbk])⟩
                    | ((repeat apply Exists.intro); exact ⟨⟨k, s + 1, _, rfl, by first | rfl | go_num | (congr 1; omega), by omega, by omega, by omega, hs1, hhS.out, hoS, HRC.out dm (by unfold fixUp; rw [if_neg hbk])⟩, rfl⟩)
                  case measure => first | (simp [intOf]; done) | (simp [intOf]; omega)
        · obtain rfl : k = b := by omega
          have HP := Lib.hid (HO.out.symm.trans (pi_true ltInt a k s i dk hs (HS.out.symm.trans (scanSorted_stop ltInt dk k k (Or.inl (by omega))))))
          go_wp2
          go_quiet (fail)
          go_wp2
          have e1 : R1 = dk := congrArg Prod.fst HP.out
          have e2 : R2 = true := congrArg Prod.snd HP.out
          subst e1 e2
          refine bodyPost_ret (v := .bool true) (by simp [results, Try.results74, go_sem, *]) rfl ⟨rfl, ?_, ?_⟩
          · first | exact hu_drewN HU2.out hl2 _ | exact HU2.out
          · first | exact hob2.trans (only_drewN _ _) | exact hob2
    · obtain rfl : s = 5 := by omega
      have HP := Lib.hid (HO.out.symm.trans (pi_end ltInt a b i dk))
      go_wp2
      have e1 : R1 = dk := congrArg Prod.fst HP.out
      have e2 : R2 = false := congrArg Prod.snd HP.out
      subst e1 e2
      refine bodyPost_ret (v := .bool false) (by simp [results, Try.results74, go_sem, *]) rfl ⟨rfl, HU0.out, hob⟩
end Go.Proofs.Ytpabidiggehmnaa
