import Derived.Test.YtdahjhokcjfioaaMeter1
import Derived.Outline
namespace Go.Proofs.Ytdahjhokcjfioaa
set_option linter.unusedVariables false
set_option linter.unusedSimpArgs false
set_option maxRecDepth 100000
open Go.RowKit Fg Reg

/-- What holds when a window has closed. -/
def TJ (w : World) (x : Nat) (W a n b num : Int) (s : Nat) (a' : Act) (w' : World) : Prop :=
  ∃ (k : Nat), n + k ≤ num ∧ MT w' x W s (mrun (2 ^ s) k a b) (n + k) (mby k b) ∧ Only (fun k => k = x) w w' ∧ ∃ (u2 u3 u4 u5 u6 u7 u8 u9 u10 u11 u12 u13 u14 u15 u16 u17 u18 u19 u20 u21 u22 u23 u24 u25 u26 u27 u28 u29 u30 u31 u32 u33 u34 u35 u36 u37 u38 u39 u40 u41 u42 u43 u44 u45 u46 u47 u48 u49 u50 u51 u52 u53 u54 u55 u56 u57 u58 u59 u60 u61 u62 u63 u64 u65 u66 : Value), a' = { tmps := #[.pointer (some ⟨x, 0, none⟩), .int .u64 num, u2, u3, u4, u5, u6, u7, u8, u9, u10, u11, u12, u13, u14, u15, u16, u17, u18, u19, u20, u21, u22, u23, u24, u25, u26, u27, u28, u29, u30, u31, u32, u33, u34, u35, u36, u37, u38, u39, u40, u41, u42, u43, u44, u45, u46, u47, u48, u49, u50, u51, u52, u53, u54, u55, u56, u57, u58, u59, u60, u61, u62, u63, u64, u65, u66], defers := [] }
def tjm (x : Nat) (num : Int) (w' : World) : Nat := match w'.cell? ⟨x, 3, none⟩ with | some (.int _ v) => (num - v).toNat | _ => 0

set_option maxHeartbeats 4000000 in
theorem till_c (x : Nat) (W a n b num : Int) (s : Nat) (hs : s ≤ 8) (ha : 0 ≤ a ∧ a ≤ 72057594037927936) (hb : 0 ≤ b ∧ b ≤ 1099511627776) (hn : 0 ≤ n) (hnn : n ≤ num) (hm : num ≤ 4611686018427387904) (w : World) (hL : MT w x W s a n b) :
    Calls Try.prog 165 #[.pointer (some ⟨x, 0, none⟩), .int .u64 num] w fun e w' => e = .returned (.tuple #[]) ∧ MT w' x W s (mrun (2 ^ s) (num - n).toNat a b) num (mby (num - n).toNat b) ∧ Only (fun k => k = x) w w' := by
  have hq : (0 : Int) < 2 ^ s := Int.pow_pos (by omega)
  have hmin : min s 64 = s := Nat.min_eq_left (by omega)
  go_enter Try.func165, Try.ntmps165
  go_wp2
  refine wp_scope_jumps 0 (TJ w x W a n b num s) (fun _ w' => tjm x num w') rfl ?_ ?_
  · obtain ⟨k, hk0⟩ : ∃ k : Nat, k = 0 := ⟨0, rfl⟩
    have hL' : MT w x W s (mrun (2 ^ s) k a b) (n + k) (mby k b) := by subst hk0; simpa [mrun, mby] using hL
    have hk : n + (k : Int) ≤ num := by omega
    have ho : Only (fun k => k = x) w w := Only.refl _ _
    clear hk0 hL
    have hA := mrun_bd (q := 2 ^ s) (M := 72057594037927936) hq k ha.1 hb.1 ha.2 (by omega)
    have hB := mby_bd hb.1 k
    have hlast := mrun_last (2 ^ s) k a b
    have hstop := @mrun_stop (2 ^ s) a b k
    generalize hAe : mrun (2 ^ s) k a b = A at *
    generalize hBe : mby k b = B at *
    have f1 : A / 2 ^ s ≤ A := Int.ediv_le_self _ hA.1
    have f2 : 0 ≤ A / 2 ^ s := Int.ediv_nonneg hA.1 (by omega)
    have f3 : 0 ≤ B * 65536 / 2 ^ s := Int.ediv_nonneg (by omega) (by omega)
    have f4 : B * 65536 / 2 ^ s ≤ B * 65536 := Int.ediv_le_self _ (by omega)
    obtain ⟨a0, a1⟩ := hA
    obtain ⟨b0, b1⟩ := hB
    obtain ⟨_, hb1⟩ := hb
    have HX := Lib.hid (And.intro hlast (And.intro hstop (And.intro hAe hBe)))
    have HO := Lib.hid ho
    clear hlast hstop hAe hBe ha ho
    unfold MT at hL'
    go_split_ands
    by_cases e1 : n + k = num
    · have e1' : (n + (k : Int) == num) = true := by simpa using e1
      go_wp2
      go_step3
      go_wp2
      simp only [Exit.jump]
      refine bodyPost_ret (by simp [results, Try.results165]; rfl) rfl ?_
      obtain ⟨_, _, hAe, hBe⟩ := HX.out
      rw [show (num - n).toNat = k by omega, hAe, hBe, ← e1]
      exact ⟨rfl, by unfold MT; exact ⟨by assumption, by assumption, by assumption, by assumption, by assumption, by assumption, by assumption, by assumption, by assumption, by assumption, by assumption⟩, HO.out⟩
    · have e1' : (n + (k : Int) == num) = false := by simpa using e1
      go_wp2
      go_step3
      go_wp2
      go_quiet (fail)
      go_wp2
      all_goals obtain ⟨hlast, hstop, hAe, hBe⟩ := HX.out
      all_goals have HO' := HO.out
      all_goals clear HX HO e1'
      all_goals first
        | (simp only [Exit.jump]
           refine bodyPost_ret (by simp [results, Try.results165]; rfl) rfl ?_
           have hB0 : B = 0 := by assumption
           have h9 : (A - A / 2 ^ s == A) = true := by assumption
           obtain ⟨z1, z2⟩ := hstop hB0 (by unfold mst; rw [hB0]; simpa using h9) (num - n - k).toNat
           rw [show (num - n).toNat = k + (num - n - k).toNat by omega, z1, z2]
           subst hB0
           clear hlast hstop hAe hBe z1 z2 h9
           refine ⟨rfl, ?_, ?_⟩
           · unfold MT
             ((repeat' apply And.intro) <;> first | (simp [go_sem, *]; done) | omega | (repeat' (first | with_reducible exact Below.refl _ _ | with_reducible assumption | ((with_reducible refine Below.drew ?_)) | ((with_reducible refine below_drewN ?_ _)) | ((with_reducible refine Below.alloc ?_ ?_ _); rotate_left; focus (first | omega | (simp; done) | (simp; omega))) | ((with_reducible refine Below.setCell ?_ ?_ _); rotate_left; focus (first | omega | (simp; done) | (simp; omega))) | ((with_reducible refine Below.trans ?_ (Below.mono (by with_reducible assumption) ?_)); rotate_left; focus (first | omega | (simp; done) | (simp; omega))) | with_reducible exact Only.refl _ _ | (with_reducible refine Only.drew ?_) | (with_reducible refine Only.setOne ?_ _ _ _) | (with_reducible refine Only.alloc ?_ _) | (with_reducible refine Only.drewN ?_ _) | (with_reducible refine Only.of_below ?_) )))
           · ((repeat' apply And.intro) <;> first | (simp [go_sem, *]; done) | omega | (repeat' (first | with_reducible exact Below.refl _ _ | with_reducible assumption | ((with_reducible refine Below.drew ?_)) | ((with_reducible refine below_drewN ?_ _)) | ((with_reducible refine Below.alloc ?_ ?_ _); rotate_left; focus (first | omega | (simp; done) | (simp; omega))) | ((with_reducible refine Below.setCell ?_ ?_ _); rotate_left; focus (first | omega | (simp; done) | (simp; omega))) | ((with_reducible refine Below.trans ?_ (Below.mono (by with_reducible assumption) ?_)); rotate_left; focus (first | omega | (simp; done) | (simp; omega))) | with_reducible exact Only.refl _ _ | (with_reducible refine Only.drew ?_) | (with_reducible refine Only.setOne ?_ _ _ _) | (with_reducible refine Only.alloc ?_ _) | (with_reducible refine Only.drewN ?_ _) | (with_reducible refine Only.of_below ?_) ))))
        | (go_step3
           refine ⟨rfl, ?_⟩
           · refine ⟨k + 1, by omega, ?_, ?_, _, _, _, _, _, _, _, _, _, _, _, _, _, _, _, _, _, _, _, _, _, _, _, _, _, _, _, _, _, _, _, _, _, _, _, _, _, _, _, _, _, _, _, _, _, _, _, _, _, _, _, _, _, _, _, _, _, _, _, _, _, _, _, _, _, rfl⟩
             · rw [hlast, show n + ((k + 1 : Nat) : Int) = n + k + 1 by omega]
               show MT _ x W s (mst (2 ^ s) A B) _ 0
               unfold mst
               clear hlast hstop hAe hBe
               first
                 | (have hB0 : B = 0 := by assumption
                    subst hB0
                    simp only [Int.zero_mul, Int.zero_ediv, Int.add_zero]
                    unfold MT
                    ((repeat' apply And.intro) <;> first | (simp [go_sem, *]; done) | omega | (repeat' (first | with_reducible exact Below.refl _ _ | with_reducible assumption | ((with_reducible refine Below.drew ?_)) | ((with_reducible refine below_drewN ?_ _)) | ((with_reducible refine Below.alloc ?_ ?_ _); rotate_left; focus (first | omega | (simp; done) | (simp; omega))) | ((with_reducible refine Below.setCell ?_ ?_ _); rotate_left; focus (first | omega | (simp; done) | (simp; omega))) | ((with_reducible refine Below.trans ?_ (Below.mono (by with_reducible assumption) ?_)); rotate_left; focus (first | omega | (simp; done) | (simp; omega))) | with_reducible exact Only.refl _ _ | (with_reducible refine Only.drew ?_) | (with_reducible refine Only.setOne ?_ _ _ _) | (with_reducible refine Only.alloc ?_ _) | (with_reducible refine Only.drewN ?_ _) | (with_reducible refine Only.of_below ?_) ))))
                 | (unfold MT
                    ((repeat' apply And.intro) <;> first | (simp [go_sem, *]; done) | omega | (repeat' (first | with_reducible exact Below.refl _ _ | with_reducible assumption | ((with_reducible refine Below.drew ?_)) | ((with_reducible refine below_drewN ?_ _)) | ((with_reducible refine Below.alloc ?_ ?_ _); rotate_left; focus (first | omega | (simp; done) | (simp; omega))) | ((with_reducible refine Below.setCell ?_ ?_ _); rotate_left; focus (first | omega | (simp; done) | (simp; omega))) | ((with_reducible refine Below.trans ?_ (Below.mono (by with_reducible assumption) ?_)); rotate_left; focus (first | omega | (simp; done) | (simp; omega))) | with_reducible exact Only.refl _ _ | (with_reducible refine Only.drew ?_) | (with_reducible refine Only.setOne ?_ _ _ _) | (with_reducible refine Only.alloc ?_ _) | (with_reducible refine Only.drewN ?_ _) | (with_reducible refine Only.of_below ?_) ))))
             · clear hlast hstop hAe hBe
               ((repeat' apply And.intro) <;> first | (simp [go_sem, *]; done) | omega | (repeat' (first | with_reducible exact Below.refl _ _ | with_reducible assumption | ((with_reducible refine Below.drew ?_)) | ((with_reducible refine below_drewN ?_ _)) | ((with_reducible refine Below.alloc ?_ ?_ _); rotate_left; focus (first | omega | (simp; done) | (simp; omega))) | ((with_reducible refine Below.setCell ?_ ?_ _); rotate_left; focus (first | omega | (simp; done) | (simp; omega))) | ((with_reducible refine Below.trans ?_ (Below.mono (by with_reducible assumption) ?_)); rotate_left; focus (first | omega | (simp; done) | (simp; omega))) | with_reducible exact Only.refl _ _ | (with_reducible refine Only.drew ?_) | (with_reducible refine Only.setOne ?_ _ _ _) | (with_reducible refine Only.alloc ?_ _) | (with_reducible refine Only.drewN ?_ _) | (with_reducible refine Only.of_below ?_) ))))
  · rintro a' w' ⟨k, hk, hL', ho, u2, u3, u4, u5, u6, u7, u8, u9, u10, u11, u12, u13, u14, u15, u16, u17, u18, u19, u20, u21, u22, u23, u24, u25, u26, u27, u28, u29, u30, u31, u32, u33, u34, u35, u36, u37, u38, u39, u40, u41, u42, u43, u44, u45, u46, u47, u48, u49, u50, u51, u52, u53, u54, u55, u56, u57, u58, u59, u60, u61, u62, u63, u64, u65, u66, rfl⟩
    clear hL
    have hA := mrun_bd (q := 2 ^ s) (M := 72057594037927936) hq k ha.1 hb.1 ha.2 (by omega)
    have hB := mby_bd hb.1 k
    have hlast := mrun_last (2 ^ s) k a b
    have hstop := @mrun_stop (2 ^ s) a b k
    generalize hAe : mrun (2 ^ s) k a b = A at *
    generalize hBe : mby k b = B at *
    have f1 : A / 2 ^ s ≤ A := Int.ediv_le_self _ hA.1
    have f2 : 0 ≤ A / 2 ^ s := Int.ediv_nonneg hA.1 (by omega)
    have f3 : 0 ≤ B * 65536 / 2 ^ s := Int.ediv_nonneg (by omega) (by omega)
    have f4 : B * 65536 / 2 ^ s ≤ B * 65536 := Int.ediv_le_self _ (by omega)
    obtain ⟨a0, a1⟩ := hA
    obtain ⟨b0, b1⟩ := hB
    obtain ⟨_, hb1⟩ := hb
    have HX := Lib.hid (And.intro hlast (And.intro hstop (And.intro hAe hBe)))
    have HO := Lib.hid ho
    clear hlast hstop hAe hBe ha ho
    unfold MT at hL'
    go_split_ands
    by_cases e1 : n + k = num
    · have e1' : (n + (k : Int) == num) = true := by simpa using e1
      go_wp2
      simp only [Exit.jump]
      refine bodyPost_ret (by simp [results, Try.results165]; rfl) rfl ?_
      obtain ⟨_, _, hAe, hBe⟩ := HX.out
      rw [show (num - n).toNat = k by omega, hAe, hBe, ← e1]
      exact ⟨rfl, by unfold MT; exact ⟨by assumption, by assumption, by assumption, by assumption, by assumption, by assumption, by assumption, by assumption, by assumption, by assumption, by assumption⟩, HO.out⟩
    · have e1' : (n + (k : Int) == num) = false := by simpa using e1
      go_wp2
      go_quiet (fail)
      go_wp2
      all_goals obtain ⟨hlast, hstop, hAe, hBe⟩ := HX.out
      all_goals have HO' := HO.out
      all_goals clear HX HO e1'
      all_goals first
        | (simp only [Exit.jump]
           refine bodyPost_ret (by simp [results, Try.results165]; rfl) rfl ?_
           have hB0 : B = 0 := by assumption
           have h9 : (A - A / 2 ^ s == A) = true := by assumption
           obtain ⟨z1, z2⟩ := hstop hB0 (by unfold mst; rw [hB0]; simpa using h9) (num - n - k).toNat
           rw [show (num - n).toNat = k + (num - n - k).toNat by omega, z1, z2]
           subst hB0
           clear hlast hstop hAe hBe z1 z2 h9
           refine ⟨rfl, ?_, ?_⟩
           · unfold MT
             ((repeat' apply And.intro) <;> first | (simp [go_sem, *]; done) | omega | (repeat' (first | with_reducible exact Below.refl _ _ | with_reducible assumption | ((with_reducible refine Below.drew ?_)) | ((with_reducible refine below_drewN ?_ _)) | ((with_reducible refine Below.alloc ?_ ?_ _); rotate_left; focus (first | omega | (simp; done) | (simp; omega))) | ((with_reducible refine Below.setCell ?_ ?_ _); rotate_left; focus (first | omega | (simp; done) | (simp; omega))) | ((with_reducible refine Below.trans ?_ (Below.mono (by with_reducible assumption) ?_)); rotate_left; focus (first | omega | (simp; done) | (simp; omega))) | with_reducible exact Only.refl _ _ | (with_reducible refine Only.drew ?_) | (with_reducible refine Only.setOne ?_ _ _ _) | (with_reducible refine Only.alloc ?_ _) | (with_reducible refine Only.drewN ?_ _) | (with_reducible refine Only.of_below ?_) )))
           · ((repeat' apply And.intro) <;> first | (simp [go_sem, *]; done) | omega | (repeat' (first | with_reducible exact Below.refl _ _ | with_reducible assumption | ((with_reducible refine Below.drew ?_)) | ((with_reducible refine below_drewN ?_ _)) | ((with_reducible refine Below.alloc ?_ ?_ _); rotate_left; focus (first | omega | (simp; done) | (simp; omega))) | ((with_reducible refine Below.setCell ?_ ?_ _); rotate_left; focus (first | omega | (simp; done) | (simp; omega))) | ((with_reducible refine Below.trans ?_ (Below.mono (by with_reducible assumption) ?_)); rotate_left; focus (first | omega | (simp; done) | (simp; omega))) | with_reducible exact Only.refl _ _ | (with_reducible refine Only.drew ?_) | (with_reducible refine Only.setOne ?_ _ _ _) | (with_reducible refine Only.alloc ?_ _) | (with_reducible refine Only.drewN ?_ _) | (with_reducible refine Only.of_below ?_) ))))
        | (go_step3
           refine ⟨rfl, ?_, ?_⟩
           · refine ⟨k + 1, by omega, ?_, ?_, _, _, _, _, _, _, _, _, _, _, _, _, _, _, _, _, _, _, _, _, _, _, _, _, _, _, _, _, _, _, _, _, _, _, _, _, _, _, _, _, _, _, _, _, _, _, _, _, _, _, _, _, _, _, _, _, _, _, _, _, _, _, _, _, _, rfl⟩
             · rw [hlast, show n + ((k + 1 : Nat) : Int) = n + k + 1 by omega]
               show MT _ x W s (mst (2 ^ s) A B) _ 0
               unfold mst
               clear hlast hstop hAe hBe
               first
                 | (have hB0 : B = 0 := by assumption
                    subst hB0
                    simp only [Int.zero_mul, Int.zero_ediv, Int.add_zero]
                    unfold MT
                    ((repeat' apply And.intro) <;> first | (simp [go_sem, *]; done) | omega | (repeat' (first | with_reducible exact Below.refl _ _ | with_reducible assumption | ((with_reducible refine Below.drew ?_)) | ((with_reducible refine below_drewN ?_ _)) | ((with_reducible refine Below.alloc ?_ ?_ _); rotate_left; focus (first | omega | (simp; done) | (simp; omega))) | ((with_reducible refine Below.setCell ?_ ?_ _); rotate_left; focus (first | omega | (simp; done) | (simp; omega))) | ((with_reducible refine Below.trans ?_ (Below.mono (by with_reducible assumption) ?_)); rotate_left; focus (first | omega | (simp; done) | (simp; omega))) | with_reducible exact Only.refl _ _ | (with_reducible refine Only.drew ?_) | (with_reducible refine Only.setOne ?_ _ _ _) | (with_reducible refine Only.alloc ?_ _) | (with_reducible refine Only.drewN ?_ _) | (with_reducible refine Only.of_below ?_) ))))
                 | (unfold MT
                    ((repeat' apply And.intro) <;> first | (simp [go_sem, *]; done) | omega | (repeat' (first | with_reducible exact Below.refl _ _ | with_reducible assumption | ((with_reducible refine Below.drew ?_)) | ((with_reducible refine below_drewN ?_ _)) | ((with_reducible refine Below.alloc ?_ ?_ _); rotate_left; focus (first | omega | (simp; done) | (simp; omega))) | ((with_reducible refine Below.setCell ?_ ?_ _); rotate_left; focus (first | omega | (simp; done) | (simp; omega))) | ((with_reducible refine Below.trans ?_ (Below.mono (by with_reducible assumption) ?_)); rotate_left; focus (first | omega | (simp; done) | (simp; omega))) | with_reducible exact Only.refl _ _ | (with_reducible refine Only.drew ?_) | (with_reducible refine Only.setOne ?_ _ _ _) | (with_reducible refine Only.alloc ?_ _) | (with_reducible refine Only.drewN ?_ _) | (with_reducible refine Only.of_below ?_) ))))
             · clear hlast hstop hAe hBe
               ((repeat' apply And.intro) <;> first | (simp [go_sem, *]; done) | omega | (repeat' (first | with_reducible exact Below.refl _ _ | with_reducible assumption | ((with_reducible refine Below.drew ?_)) | ((with_reducible refine below_drewN ?_ _)) | ((with_reducible refine Below.alloc ?_ ?_ _); rotate_left; focus (first | omega | (simp; done) | (simp; omega))) | ((with_reducible refine Below.setCell ?_ ?_ _); rotate_left; focus (first | omega | (simp; done) | (simp; omega))) | ((with_reducible refine Below.trans ?_ (Below.mono (by with_reducible assumption) ?_)); rotate_left; focus (first | omega | (simp; done) | (simp; omega))) | with_reducible exact Only.refl _ _ | (with_reducible refine Only.drew ?_) | (with_reducible refine Only.setOne ?_ _ _ _) | (with_reducible refine Only.alloc ?_ _) | (with_reducible refine Only.drewN ?_ _) | (with_reducible refine Only.of_below ?_) )))
           · clear hlast hstop hAe hBe
             simp [tjm, go_sem, *]
             omega)
end Go.Proofs.Ytdahjhokcjfioaa
