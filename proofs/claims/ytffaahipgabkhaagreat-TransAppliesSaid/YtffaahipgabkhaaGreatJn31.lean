/- Joined texts. -/
import Derived.Test.YtffaahipgabkhaaGreatJn0
import Derived.Test.YtffaahipgabkhaaGreatJn2
import Derived.Test.YtffaahipgabkhaaGreatJn30
import Derived.Shelf.SlSortCmp.Xorshift
import Derived.Shelf.Small.Bits
import Derived.Ground.SlsfProg
import Derived.Sort.Walk7
import Derived.RegionTactic
import Derived.Sort.WalkA6
import Derived.Deep.CutRange
import Derived.Deep.QuietTactic
import Derived.BigQuiet
set_option linter.unusedVariables false
set_option linter.unusedSimpArgs false
set_option maxRecDepth 100000
set_option maxHeartbeats 16000000
section
namespace Go.Proofs.YtffaahipgabkhaaGreat
open Go.Shelf
def lxnx_ren : Go.Shelf.Ren := ⟨fun | 48 => 125 | n => n, fun | 76 => 161 | 55 => 44 | 0 => 0 | 66 => 148 | 39 => 95 | n => n, fun | n => n⟩
theorem lxnx : Go.Proofs.SlLaysF0.n48 Tryz.prog lxnx_ren := {
 mixed := by kernel_rfl
 f48 := Tryz.func125.trans (congrArg some (by kernel_rfl))
 t0 := Tryz.underlying0
 a0 := Tryz.isAgg0
 z0 := Tryz.sizeOf0
 v0 := Tryz.zeroValue0
 t39 := Tryz.underlying95
 a39 := Tryz.isAgg95
 z39 := Tryz.sizeOf95
 v39 := Tryz.zeroValue95
 t55 := Tryz.underlying44
 a55 := Tryz.isAgg44
 z55 := Tryz.sizeOf44
 v55 := Tryz.zeroValue44
 t66 := Tryz.underlying148
 a66 := Tryz.isAgg148
 z66 := Tryz.sizeOf148
 v66 := Tryz.zeroValue148
 t76 := Tryz.underlying161
 a76 := Tryz.isAgg161
 z76 := Tryz.sizeOf161
 v76 := Tryz.zeroValue161 }
def lnp2_ren : Go.Shelf.Ren := ⟨fun | 47 => 124 | 15 => 65 | 28 => 106 | 29 => 107 | n => n, fun | 3 => 3 | 39 => 95 | 53 => 131 | 55 => 44 | 4 => 4 | 5 => 5 | 9 => 9 | n => n, fun | n => n⟩
theorem lnp2 : Go.Proofs.SlLaysF0.n47 Tryz.prog lnp2_ren := {
 mixed := by kernel_rfl
 f15 := Tryz.func65.trans (congrArg some (by kernel_rfl))
 f28 := Tryz.func106.trans (congrArg some (by kernel_rfl))
 f29 := Tryz.func107.trans (congrArg some (by kernel_rfl))
 f47 := Tryz.func124.trans (congrArg some (by kernel_rfl))
 t3 := Tryz.underlying3
 a3 := Tryz.isAgg3
 z3 := Tryz.sizeOf3
 v3 := Tryz.zeroValue3
 t4 := Tryz.underlying4
 a4 := Tryz.isAgg4
 z4 := Tryz.sizeOf4
 v4 := Tryz.zeroValue4
 t5 := Tryz.underlying5
 a5 := Tryz.isAgg5
 z5 := Tryz.sizeOf5
 v5 := Tryz.zeroValue5
 t9 := Tryz.underlying9
 a9 := Tryz.isAgg9
 z9 := Tryz.sizeOf9
 v9 := Tryz.zeroValue9
 t39 := Tryz.underlying95
 a39 := Tryz.isAgg95
 z39 := Tryz.sizeOf95
 v39 := Tryz.zeroValue95
 t53 := Tryz.underlying131
 a53 := Tryz.isAgg131
 z53 := Tryz.sizeOf131
 v53 := Tryz.zeroValue131
 t55 := Tryz.underlying44
 a55 := Tryz.isAgg44
 z55 := Tryz.sizeOf44
 v55 := Tryz.zeroValue44 }
def lblen_ren : Go.Shelf.Ren := ⟨fun | 125 => 65 | 128 => 106 | 129 => 107 | n => n, fun | 46 => 95 | 3 => 3 | 51 => 131 | 53 => 44 | 4 => 4 | 5 => 5 | 9 => 9 | n => n, fun | n => n⟩
theorem lblen : Go.Proofs.Lays.n125 Tryz.prog lblen_ren := {
 mixed := by kernel_rfl
 f125 := Tryz.func65.trans (congrArg some (by kernel_rfl))
 f128 := Tryz.func106.trans (congrArg some (by kernel_rfl))
 f129 := Tryz.func107.trans (congrArg some (by kernel_rfl))
 t3 := Tryz.underlying3
 a3 := Tryz.isAgg3
 z3 := Tryz.sizeOf3
 v3 := Tryz.zeroValue3
 t4 := Tryz.underlying4
 a4 := Tryz.isAgg4
 z4 := Tryz.sizeOf4
 v4 := Tryz.zeroValue4
 t5 := Tryz.underlying5
 a5 := Tryz.isAgg5
 z5 := Tryz.sizeOf5
 v5 := Tryz.zeroValue5
 t9 := Tryz.underlying9
 a9 := Tryz.isAgg9
 z9 := Tryz.sizeOf9
 v9 := Tryz.zeroValue9
 t46 := Tryz.underlying95
 a46 := Tryz.isAgg95
 z46 := Tryz.sizeOf95
 v46 := Tryz.zeroValue95
 t51 := Tryz.underlying131
 a51 := Tryz.isAgg131
 z51 := Tryz.sizeOf131
 v51 := Tryz.zeroValue131
 t53 := Tryz.underlying44
 a53 := Tryz.isAgg44
 z53 := Tryz.sizeOf44
 v53 := Tryz.zeroValue44 }
end Go.Proofs.YtffaahipgabkhaaGreat
end
section
namespace Go.Proofs.YtffaahipgabkhaaGreat
open Go.RowKit Fg Reg Go.Sort Go.Shelf
attribute [local irreducible] Reg.wE Holds
theorem lenu_c (n : Nat) (hn : n < 4611686018427387904) (w : World) : Calls Tryz.prog 65 #[.int .u64 n] w fun e w' => e = .returned (.int .i64 (bitsLen n : Nat)) ∧ w' = w := by
 have h := Any.bits_Len lblen (n : Int) w (by omega) (by omega)
 rw [Int.toNat_natCast, bitLen_eq _ (by omega)] at h
 exact h
theorem np2_c (n : Nat) (hn : n < 4611686018427387904) (w : World) :
  Calls Tryz.prog 124 #[.int .i64 n] w fun e w' => e = .returned (.int .u64 ((1 <<< bitsLen n : Nat) : Int)) ∧ w' = w := AnyF.nextPowerOfTwo lnp2 n hn w
theorem xnx_c (rb X : Nat) (hX : X < 18446744073709551616) (w : World) (hc : w.cell? ⟨rb, 0, none⟩ = some (.int .u64 X)) (hf : w.frozen? ⟨rb, 0, none⟩ = false) :
  Calls Tryz.prog 125 #[.pointer (some ⟨rb, 0, none⟩)] w fun e w' => e = .returned (.int .u64 (xorNextN X : Nat)) ∧ w' = (w.setCell ⟨rb, 0, none⟩ (.int .u64 (xorNextN X : Nat))).drewN 3 := AnyF.xorshift_Next lxnx rb 0 X hX w hc hf
theorem hu_drewN {blk off : Nat} {z : World} {dd : Array Int} (h : Holds (Value.int .u64) (z) blk off (dd)) (hl : blk < z.heap.size) (n : Nat) : Holds (Value.int .u64) ((z.drewN n)) blk off (dd) := hu_below h hl (below_drewN (Below.refl _ _) n)
theorem only_drewN {S : Nat → Prop} (z : World) (n : Nat) : Only S z (z.drewN n) := Only.of_below (below_drewN (Below.refl _ _) n)
theorem brk_go (blk off cap a L : Nat) (d : Array Int) (w : World) (hH : Holds (Value.int .u64) (w) blk off (d)) (hl : blk < w.heap.size) (hb : a + L ≤ d.size) (hsz : d.size ≤ 100000) (h8 : 8 ≤ L) :
  Calls Tryz.prog 139 #[.slice (some ⟨blk, off, none⟩) d.size cap, .int .i64 a, .int .i64 ((a + L : Nat) : Int)] w fun e w' => e = .returned (.tuple #[]) ∧ Holds (Value.int .u64) (w') blk off (breakPatterns d a (a + L)) ∧ Only (fun k => k = blk) w w' := by
 rw [breakPatterns_eq d a L h8]
 obtain ⟨M, hM⟩ : ∃ M : Nat, M = 1 <<< bitsLen L := ⟨_, rfl⟩
 have hM1 : 1 ≤ M := by rw [hM, Nat.one_shiftLeft]; exact Nat.two_pow_pos _
 have hM2 : M ≤ 2 * L := by rw [hM, Nat.one_shiftLeft]; exact two_pow_bitsLen_le (by omega)
 have hNP := Lib.hid (show ∀ w, Calls Tryz.prog 124 #[.int .i64 (L : Int)] w fun e w' => e = .returned (.int .u64 (M : Int)) ∧ w' = w by rw [hM]; exact fun w => np2_c L (by omega) w)
 rw [← hM]
 clear hM
 have HH := Lib.hid hH
 clear hH
 obtain ⟨I, hI⟩ : ∃ I, I = a + L / 4 * 2 - 1 := ⟨_, rfl⟩
 rw [← hI]
 have eI : (a : Int) + (L : Int) / 4 * 2 - 1 = (I : Int) := by omega
 have eJ : (a : Int) + (L : Int) / 4 * 2 + 1 = (I : Int) + 2 := by omega
 have hI1 : I + 3 ≤ a + L := by omega
 have HIE := Lib.hid hI
 clear hI
 go_enter Tryz.func139, Tryz.ntmps139
 go_wp2_with (first | (go_at_call 124; rw [show ((a : Int) + (L : Int) - (a : Int)) = (L : Int) by omega]; (with_reducible refine (hNP.out _).mono ?_); rintro e w' ⟨rfl, rfl⟩))
 go_loopw [9] (fun vi wr => ∃ (t : Nat) (r : UInt64) (dk : Array Int), vi = .int .i64 ((I + t : Nat) : Int) ∧ t ≤ 3 ∧ dk.size = d.size ∧ Holds (Value.int .u64) (wr) blk off (dk) ∧ Only (fun k => k = blk) w wr ∧ wr.cell? ⟨w.heap.size, 0, none⟩ = some (.int .u64 (r.toNat : Int)) ∧ wr.frozen? ⟨w.heap.size, 0, none⟩ = false ∧ w.heap.size < wr.heap.size ∧
   bpRest a L M I (3 - t) t (r, dk) = bpRest a L M I 3 0 (UInt64.ofNat L, d)) (fun vi _ => I + 3 - (intOf vi).toNat)
 case atStart =>
  refine ⟨0, UInt64.ofNat L, d, by first | rfl | (congr 1; omega), by omega, rfl, hu_below HH.out hl (Below.alloc (Below.refl _ _) (Nat.le_refl _) _), (Only.refl _ _).alloc _, ?_, ?_, by simp, rfl⟩
  ·rw [show (UInt64.ofNat L).toNat = L from by simp; omega]; simp [go_sem]
  ·simp [go_sem]
 case round =>
  obtain ⟨t, r, dk, rfl, ht, hsk, hhu, hob, hg, hgf, hgs, hR⟩ := hrel
  obtain ⟨R, hRr⟩ : ∃ R : Nat, R = r.toNat := ⟨_, rfl⟩
  have lR : R < 18446744073709551616 := by rw [hRr]; exact r.toNat_lt
  obtain ⟨R', hR'⟩ : ∃ R' : Nat, R' = xorNextN R := ⟨_, rfl⟩
  have lR' : R' < 18446744073709551616 := by rw [hR']; exact xorNextN_lt R lR
  obtain ⟨O, hO⟩ : ∃ O : Nat, O = R' &&& (M - 1) := ⟨_, rfl⟩
  have lO : O ≤ M - 1 := by rw [hO]; exact Nat.and_le_right
  have eAnd : bits .and .u64 (R' : Int) ((M : Int) - 1) = (O : Int) := by
   rw [show ((M : Int) - 1) = ((M - 1 : Nat) : Int) by omega, bits_and_u64_nat _ _ lR' (by omega), hO]
  obtain ⟨G, hG⟩ : ∃ G : Nat → Int, ∀ x, G x = dk[x]! := ⟨fun x => dk[x]!, fun _ => rfl⟩
  have hlr : blk < wr.heap.size := Nat.lt_of_lt_of_le hl hob.size
  rw [← hRr] at hg
  have hNext := Lib.hid (show Calls Tryz.prog 125 #[.pointer (some ⟨w.heap.size, 0, none⟩)] wr fun e w' => e = .returned (.int .u64 (R' : Int)) ∧ Holds (Value.int .u64) (w') blk off (dk) ∧ Only (fun k => k = blk) w w' ∧ w'.cell? ⟨w.heap.size, 0, none⟩ = some (.int .u64 (R' : Int)) ∧ w'.frozen? ⟨w.heap.size, 0, none⟩ = false ∧ w.heap.size < w'.heap.size from
   (xnx_c w.heap.size R lR wr hg hgf).mono (by
    rintro e w' ⟨rfl, rfl⟩
    rw [← hR']
    refine ⟨rfl, ?_, ?_, ?_, ?_, ?_⟩
    ·exact hu_drewN (hu_only hhu hlr (Only.setOne (Only.refl _ _) 0 none _) (fun h => by omega)) (by simpa [go_sem] using hlr) 3
    ·exact (hob.setCell (.inr (Nat.le_refl _)) _).trans (only_drewN _ _)
    ·simp [go_sem, hg]
    ·simp [go_sem, hgf]
    ·simpa [go_sem] using hgs))
  have HG := Lib.hid hG
  have HR := Lib.hid hR
  have HN := Lib.hid (show R' = (xorNext r).toNat ∧ O = (xorNext r).toNat &&& (M - 1) from by
   have e : R' = (xorNext r).toNat := by rw [hR', hRr, xorNext_toNat]
   exact ⟨e, by rw [hO, e]⟩)
  have hdone : t = 3 → Holds (Value.int .u64) (wr) blk off (bpRest a L M I 3 0 (UInt64.ofNat L, d)) := by
   rintro rfl
   rw [← hR]; exact hhu
  have HD := Lib.hid hdone
  clear hG hR hRr hR' hO hg hgf hhu hdone
  go_wp2_with (first | (go_at_call 125; (with_reducible refine hNext.out.mono ?_); rintro e w2 ⟨rfl, hhu2, hob2, hg2, hgf2, hgs2⟩; (have HU2 := Lib.hid hhu2); (have hl2 : blk < w2.heap.size := Nat.lt_of_lt_of_le hl hob2.size); (have hcw : ∀ x, x < d.size → w2.cell? ⟨blk, off + x, none⟩ = some (.int .u64 (G x)) := fun x hx => by rw [HG.out]; exact (hu_at HU2.out x (by omega)).1); (have hfw : ∀ x, x < d.size → w2.frozen? ⟨blk, off + x, none⟩ = false := fun x hx => (hu_at HU2.out x (by omega)).2); clear hhu2))
  ·have hLO : L ≤ O := by omega
   by_cases hEq : I + t = a + (O - L)
   all_goals
    go_region
    all_goals go_wp2
    go_roundw
    case rel =>
     refine ⟨t + 1, xorNext r, swp dk (I + t) (a + (O - L)), by first | rfl | (congr 1 <;> omega), by omega, by rw [swp_size]; exact hsk, ?_, ?_, ?_, ?_, ?_, ?_⟩
     ·(try rw [hEq])
      simp only [HG.out]
      first | exact hu_swx (hu_drewN HU2.out hl2 _) (I + t) (a + (O - L)) (by omega) (by omega) hl2 | (rw [← hEq]; exact hu_swx (hu_drewN HU2.out hl2 _) (I + t) (I + t) (by omega) (by omega) hl2)
     ·exact ((hob2.trans (only_drewN _ _)).setOne _ _ _).setOne _ _ _
     ·rw [← HN.out.1]; simp [go_sem, hg2, show ¬ w.heap.size = blk by omega]
     ·simp [go_sem, hgf2, show ¬ w.heap.size = blk by omega]
     ·simpa using hgs2
     ·rw [← HR.out, bp_step a L M _ t r dk (O - L) (by omega) (by rw [← HN.out.2, if_pos (by omega)])]
    case measure => simp [intOf]; omega
  ·have hLO : ¬ L ≤ O := by omega
   by_cases hEq : I + t = a + O
   all_goals
    go_region
    all_goals go_wp2
    go_roundw
    case rel =>
     refine ⟨t + 1, xorNext r, swp dk (I + t) (a + O), by first | rfl | (congr 1 <;> omega), by omega, by rw [swp_size]; exact hsk, ?_, ?_, ?_, ?_, ?_, ?_⟩
     ·(try rw [hEq])
      simp only [HG.out]
      first | exact hu_swx (hu_drewN HU2.out hl2 _) (I + t) (a + O) (by omega) (by omega) hl2 | (rw [← hEq]; exact hu_swx (hu_drewN HU2.out hl2 _) (I + t) (I + t) (by omega) (by omega) hl2)
     ·exact ((hob2.trans (only_drewN _ _)).setOne _ _ _).setOne _ _ _
     ·rw [← HN.out.1]; simp [go_sem, hg2, show ¬ w.heap.size = blk by omega]
     ·simp [go_sem, hgf2, show ¬ w.heap.size = blk by omega]
     ·simpa using hgs2
     ·rw [← HR.out, bp_step a L M _ t r dk O (by omega) (by rw [← HN.out.2, if_neg (by omega)])]
    case measure => simp [intOf]; omega
  ·obtain rfl : t = 3 := by omega
   refine bodyPost_end (v := .tuple #[]) (by simp [results, Tryz.results139]) rfl ⟨rfl, HD.out rfl, hob⟩
theorem brk_c (blk off cap a b : Nat) (d : Array Int) (w : World) (hH : Holds (Value.int .u64) (w) blk off (d)) (hl : blk < w.heap.size) (hab : a + 12 < b) (hb : b ≤ d.size) (hsz : d.size ≤ 100000) :
  Calls Tryz.prog 139 #[.slice (some ⟨blk, off, none⟩) d.size cap, .int .i64 a, .int .i64 b] w fun e w' => e = .returned (.tuple #[]) ∧ Holds (Value.int .u64) (w') blk off (breakPatterns d a b) ∧ Only (fun k => k = blk) w w' := by
 obtain ⟨L, rfl⟩ : ∃ L, b = a + L := ⟨b - a, by omega⟩
 exact brk_go blk off cap a L d w hH hl hb hsz (by omega)
end Go.Proofs.YtffaahipgabkhaaGreat
end
section
namespace Go.Proofs.YtffaahipgabkhaaGreat
open Go.RowKit Fg Reg Go.Sort
attribute [local irreducible] Reg.wE Holds
theorem nan_same (x : Int) (w : World) : Calls Tryz.prog 151 #[.int .u64 x] w fun e w' => e = .returned (.bool false) ∧ w' = w := by
 go_enter Tryz.func151, Tryz.ntmps151
 go_wp2
 go_ret
 exact ⟨rfl, rfl⟩
theorem les_same (x y : Int) (w : World) : Calls Tryz.prog 143 #[.int .u64 x, .int .u64 y] w fun e w' => e = .returned (.bool (ltInt x y)) ∧ w' = w := by
 go_enter Tryz.func143, Tryz.ntmps143
 go_wp2_with (go_at_call 151; (with_reducible refine (nan_same _ _).mono ?_); rintro e w' ⟨rfl, rfl⟩)
 go_ret
 exact ⟨rfl, rfl⟩
theorem sdn_size : ∀ (j : Nat) (d : Array Int), (shiftDown ltInt j d).size = d.size
 | 0, _ => by rw [shiftDown]
 | j + 1, d => by
  rw [shiftDown]
  split
  ·rfl
  ·rw [sdn_size j, swp_size]
theorem pis_c (blk off cap a b : Nat) (d : Array Int) (w : World) (hH : Holds (Value.int .u64) (w) blk off (d)) (hl : blk < w.heap.size) (hab : a + 12 < b) (hb : b ≤ d.size) (hsz : d.size ≤ 100000) :
  Calls Tryz.prog 142 #[.slice (some ⟨blk, off, none⟩) d.size cap, .int .i64 a, .int .i64 b] w fun e w' => e = .returned (.bool (partialInsertionSort ltInt d a b).2) ∧ Holds (Value.int .u64) (w') blk off ((partialInsertionSort ltInt d a b).1) ∧ Only (fun k => k = blk) w w' := by
 have hpure : partialInsertionSort ltInt d a b = partialIns ltInt a b 5 (a + 1) d := rfl
 rw [hpure]
 obtain ⟨R1, R2, hR⟩ : ∃ R1 R2, partialIns ltInt a b 5 (a + 1) d = (R1, R2) := ⟨_, _, rfl⟩
 rw [hR]
 have HH := Lib.hid hH
 have HR0 := Lib.hid hR
 clear hH hpure hR
 go_enter Tryz.func142, Tryz.ntmps142
 go_wp2
 go_loopw [7, 8] (fun vi vs wr => ∃ (i s : Nat) (dk : Array Int), vi = .int .i64 i ∧ vs = .int .i64 s ∧ s ≤ 5 ∧ a < i ∧ i ≤ b ∧ dk.size = d.size ∧ Holds (Value.int .u64) (wr) blk off (dk) ∧ Only (fun k => k = blk) w wr ∧ partialIns ltInt a b (5 - s) i dk = (R1, R2)) (fun _ vs _ => 5 - (intOf vs).toNat)
 case atStart => exact ⟨a + 1, 0, d, by first | rfl | go_num, rfl, by omega, by omega, by omega, rfl, HH.out, Only.refl _ _, HR0.out⟩
 case round =>
  obtain ⟨i, s, dk, rfl, rfl, hs5, hai, hib, hsk, hhu, hob, hO⟩ := hrel
  have hlr : blk < wr.heap.size := Nat.lt_of_lt_of_le hl hob.size
  have HO := Lib.hid hO
  have HU0 := Lib.hid hhu
  clear hO hhu
  by_cases hs : s < 5
  ·go_wp2
   go_loopw [7] (fun vi wr2 => ∃ k : Nat, vi = .int .i64 k ∧ i ≤ k ∧ k ≤ b ∧ Holds (Value.int .u64) (wr2) blk off (dk) ∧ Only (fun k => k = blk) w wr2 ∧ scanSorted ltInt dk b k = scanSorted ltInt dk b i) (fun vi _ => b - (intOf vi).toNat)
   case atStart => exact ⟨i, rfl, Nat.le_refl _, hib, HU0.out, hob, rfl⟩
   case round =>
    obtain ⟨k, rfl, hik, hkb, hhu2, hob2, hS⟩ := hrel
    have hl2 : blk < wr.heap.size := Nat.lt_of_lt_of_le hl hob2.size
    have HU2 := Lib.hid hhu2
    have HS := Lib.hid hS
    clear hhu2 hS
    obtain ⟨G, hG⟩ : ∃ G : Nat → Int, ∀ x, G x = (dk)[x]! := ⟨fun x => (dk)[x]!, fun _ => rfl⟩; have hcw : ∀ x, x < d.size → World.cell? wr ⟨blk, off + x, none⟩ = some (.int .u64 (G x)) := (fun x hx => by rw [hG]; exact (hu_at HU2.out x (by omega)).1); have hfw : ∀ x, x < d.size → World.frozen? wr ⟨blk, off + x, none⟩ = false := (fun x hx => (hu_at HU2.out x (by omega)).2); have HG := Lib.hid hG; clear hG
    by_cases hkb' : k < b
    ·cases hlt : ltInt (G k) (G (k - 1)) with
     | false =>
      have HS2 := Lib.hid ((scanSorted_go ltInt dk b k hkb' (by rw [← HG.out, ← HG.out]; exact hlt)).symm.trans HS.out)
      go_wp2
      go_quiet (first | (go_at_call 143; refine Calls.quiet_of_same (les_same _ _ _)))
      go_wp2
      go_roundw
      case rel => exact ⟨k + 1, by first | rfl | go_num, by omega, by omega, hu_drewN HU2.out hl2 _, hob2.trans (only_drewN _ _), HS2.out⟩
      case measure => simp [intOf]; omega
     | true =>
      have HK := Lib.hid (HS.out.symm.trans (scanSorted_stop ltInt dk b k (Or.inr (by rw [← HG.out, ← HG.out]; exact hlt))))
      by_cases h50 : b - a < 50
      ·have HP := Lib.hid (HO.out.symm.trans (pi_short ltInt a b s i dk hs (by rw [HK.out]; omega) h50))
       go_wp2
       go_quiet (first | (go_at_call 143; refine Calls.quiet_of_same (les_same _ _ _)))
       go_wp2
       have e1 : R1 = dk := congrArg Prod.fst HP.out
       have e2 : R2 = false := congrArg Prod.snd HP.out
       subst e1 e2
       refine bodyPost_ret (v := .bool false) (by simp [results, Tryz.results142, go_sem, *]) rfl ⟨rfl, ?_, ?_⟩
       ·exact hu_drewN HU2.out hl2 _
       ·exact hob2.trans (only_drewN _ _)
      ·have HRC := Lib.hid (fun (de : Array Int) (h : fixUp ltInt b k (fixDown ltInt a k (swp dk k (k - 1))) = de) => h ▸ ((pi_go ltInt a b s i k dk hs HK.out (by omega) h50).symm.trans HO.out))
       have hka0 : a < k := by omega
       go_wp2
       go_quiet (first | (go_at_call 143; refine Calls.quiet_of_same (les_same _ _ _)))
       go_wp2
       go_region
       go_upto_if 61 with fail
       have hs1 : (swp dk k (k - 1)).size = d.size := by rw [swp_size]; exact hsk
       go_cut [] from 13 to 132 (fun wc => Holds (Value.int .u64) (wc) blk off (fixDown ltInt a k (swp dk k (k - 1))) ∧ Only (fun k => k = blk) w wc)
       case first =>
        have hhS := Lib.hid (show Holds (Value.int .u64) (_) blk off (swp dk k (k - 1)) from by
         have h9 := hu_swx (hu_drewN HU2.out hl2 (nq + 1)) k (k - 1) (by omega) (by omega) hl2
         rw [← HG.out, ← HG.out] at h9
         exact h9)
        have hoS := ((hob2.trans (only_drewN wr (nq + 1))).setOne (off + k) none (.int .u64 (G (k - 1)))).setOne (off + (k - 1)) none (.int .u64 (G k))
        by_cases hka : k - a ≥ 2
        ·go_wp2
         go_loopw [9] (fun vj wr2 => ∃ (j : Nat) (dj : Array Int), vj = .int .i64 j ∧ j ≤ k - 1 ∧ 1 ≤ k ∧ dj.size = d.size ∧ Holds (Value.int .u64) (wr2) blk off (dj) ∧ Only (fun k => k = blk) w wr2 ∧ shiftDown ltInt j dj = shiftDown ltInt (k - 1) (swp dk k (k - 1))) (fun vj _ => (intOf vj).toNat)
         case atStart => exact ⟨(k - 1), _, by first | rfl | go_num | (congr 1; omega), by omega, by omega, hs1, hhS.out, hoS, rfl⟩
         case round =>
          obtain ⟨j, dj, rfl, hj1, hj2, hsj, hhj, hoj, hDn⟩ := hrel
          have hlj : blk < wr.heap.size := Nat.lt_of_lt_of_le hl hoj.size
          have HUJ := Lib.hid hhj
          have HDn := Lib.hid hDn
          clear hhj hDn
          obtain ⟨G, hG⟩ : ∃ G : Nat → Int, ∀ x, G x = (dj)[x]! := ⟨fun x => (dj)[x]!, fun _ => rfl⟩; have hcw : ∀ x, x < d.size → World.cell? wr ⟨blk, off + x, none⟩ = some (.int .u64 (G x)) := (fun x hx => by rw [hG]; exact (hu_at HUJ.out x (by omega)).1); have hfw : ∀ x, x < d.size → World.frozen? wr ⟨blk, off + x, none⟩ = false := (fun x hx => (hu_at HUJ.out x (by omega)).2); have HG := Lib.hid hG; clear hG
          by_cases hj : 1 ≤ j
          ·cases hl2 : ltInt (G j) (G (j - 1)) with
           | true =>
            have HST := Lib.hid ((shiftDown_go ltInt j dj (by omega) (by rw [← HG.out, ← HG.out]; exact hl2)))
            go_wp2
            go_quiet (first | (go_at_call 143; refine Calls.quiet_of_same (les_same _ _ _)))
            go_wp2
            go_region
            all_goals go_wp2
            go_roundw
            case rel =>
             refine ⟨j - 1, swp dj j (j - 1), by first | rfl | go_num | (congr 1; omega), by omega, by omega, by rw [swp_size]; exact hsj, ?_, ((hoj.trans (only_drewN _ _)).setOne _ _ _).setOne _ _ _, HST.out.symm.trans HDn.out⟩
             simp only [HG.out]
             exact hu_swx (hu_drewN HUJ.out hlj _) j (j - 1) (by omega) (by omega) hlj
            case measure => first | (simp [intOf]; done) | (simp [intOf]; omega)
           | false =>
            have HE := Lib.hid ((shiftDown_stop ltInt j dj (Or.inr (by rw [← HG.out, ← HG.out]; exact hl2))).symm.trans HDn.out)
            go_wp2
            go_quiet (first | (go_at_call 143; refine Calls.quiet_of_same (les_same _ _ _)))
            go_wp2
            go_meet
            case rel => exact ⟨by rw [show fixDown ltInt a k (swp dk k (k - 1)) = dj from by unfold fixDown; rw [if_pos hka]; exact HE.out.symm]; exact (hu_drewN HUJ.out hlj _), (hoj.trans (only_drewN _ _))⟩
          ·have HE := Lib.hid ((shiftDown_stop ltInt j dj (Or.inl (by omega))).symm.trans HDn.out)
           go_wp2
           go_meet
           case rel => exact ⟨by rw [show fixDown ltInt a k (swp dk k (k - 1)) = dj from by unfold fixDown; rw [if_pos hka]; exact HE.out.symm]; exact HUJ.out, hoj⟩
        ·go_wp2
         go_meet
         case rel => exact ⟨by rw [show fixDown ltInt a k (swp dk k (k - 1)) = swp dk k (k - 1) from by unfold fixDown; rw [if_neg hka]]; exact hhS.out, hoS⟩
       case rest =>
        obtain ⟨hhm, hom⟩ := hcut
        obtain ⟨dm, hdm⟩ : ∃ dm, fixDown ltInt a k (swp dk k (k - 1)) = dm := ⟨_, rfl⟩
        rw [hdm] at hhm
        have HRC2 := Lib.hid HRC.out
        clear HRC
        have HRC := Lib.hid (fun (de : Array Int) (h : fixUp ltInt b k dm = de) => HRC2.out de (by rw [hdm]; exact h))
        clear HRC2 hcw hfw
        have hsm : dm.size = d.size := by
         rw [← hdm]; unfold fixDown
         split
         ·rw [sdn_size]; exact hs1
         ·exact hs1
        clear hs1 hdm
        have hs1 := hsm
        have hhS := Lib.hid hhm
        have hoS := hom
        clear hhm
        by_cases hbk : b - k ≥ 2
        ·go_wp2
         go_loopw [10] (fun vj wr2 => ∃ (j : Nat) (dj : Array Int), vj = .int .i64 j ∧ k + 1 ≤ j ∧ j ≤ b ∧ dj.size = d.size ∧ Holds (Value.int .u64) (wr2) blk off (dj) ∧ Only (fun k => k = blk) w wr2 ∧ shiftUp ltInt b j dj = shiftUp ltInt b (k + 1) dm) (fun vj _ => b - (intOf vj).toNat)
         case atStart => exact ⟨(k + 1), _, by first | rfl | go_num | (congr 1; omega), by omega, by omega, hs1, hhS.out, hoS, rfl⟩
         case round =>
          obtain ⟨j, dj, rfl, hj1, hj2, hsj, hhj, hoj, hDn⟩ := hrel
          have hlj : blk < wr.heap.size := Nat.lt_of_lt_of_le hl hoj.size
          have HUJ := Lib.hid hhj
          have HDn := Lib.hid hDn
          clear hhj hDn
          obtain ⟨G, hG⟩ : ∃ G : Nat → Int, ∀ x, G x = (dj)[x]! := ⟨fun x => (dj)[x]!, fun _ => rfl⟩; have hcw : ∀ x, x < d.size → World.cell? wr ⟨blk, off + x, none⟩ = some (.int .u64 (G x)) := (fun x hx => by rw [hG]; exact (hu_at HUJ.out x (by omega)).1); have hfw : ∀ x, x < d.size → World.frozen? wr ⟨blk, off + x, none⟩ = false := (fun x hx => (hu_at HUJ.out x (by omega)).2); have HG := Lib.hid hG; clear hG
          by_cases hj : j < b
          ·cases hl2 : ltInt (G j) (G (j - 1)) with
           | true =>
            have HST := Lib.hid ((shiftUp_go ltInt b j dj (by omega) (by rw [← HG.out, ← HG.out]; exact hl2)))
            go_wp2
            go_quiet (first | (go_at_call 143; refine Calls.quiet_of_same (les_same _ _ _)))
            go_wp2
            go_region
            all_goals go_wp2
            go_roundw
            case rel =>
             refine ⟨j + 1, swp dj j (j - 1), by first | rfl | go_num | (congr 1; omega), by omega, by omega, by rw [swp_size]; exact hsj, ?_, ((hoj.trans (only_drewN _ _)).setOne _ _ _).setOne _ _ _, HST.out.symm.trans HDn.out⟩
             simp only [HG.out]
             exact hu_swx (hu_drewN HUJ.out hlj _) j (j - 1) (by omega) (by omega) hlj
            case measure => first | (simp [intOf]; done) | (simp [intOf]; omega)
           | false =>
            have HE := Lib.hid ((shiftUp_stop ltInt b j dj (Or.inr (by rw [← HG.out, ← HG.out]; exact hl2))).symm.trans HDn.out)
            go_wp2
            go_quiet (first | (go_at_call 143; refine Calls.quiet_of_same (les_same _ _ _)))
            go_wp2
            go_roundw
            case rel =>
             first
             | exact ⟨k, s + 1, _, rfl, by first | rfl | go_num | (congr 1; omega), by omega, by omega, by omega, hsj, (hu_drewN HUJ.out hlj _), (hoj.trans (only_drewN _ _)), HRC.out dj (by unfold fixUp; rw [if_pos hbk]; exact HE.out.symm)⟩
             | ((repeat apply Exists.intro); exact ⟨⟨k, s + 1, _, rfl, by first | rfl | go_num | (congr 1; omega), by omega, by omega, by omega, hsj, (hu_drewN HUJ.out hlj _), (hoj.trans (only_drewN _ _)), HRC.out dj (by unfold fixUp; rw [if_pos hbk]; exact HE.out.symm)⟩, rfl⟩)
            case measure => first | (simp [intOf]; done) | (simp [intOf]; omega)
          ·have HE := Lib.hid ((shiftUp_stop ltInt b j dj (Or.inl (by omega))).symm.trans HDn.out)
           go_wp2
           go_roundw
           case rel =>
            first
            | exact ⟨k, s + 1, _, rfl, by first | rfl | go_num | (congr 1; omega), by omega, by omega, by omega, hsj, HUJ.out, hoj, HRC.out dj (by unfold fixUp; rw [if_pos hbk]; exact HE.out.symm)⟩
            | ((repeat apply Exists.intro); exact ⟨⟨k, s + 1, _, rfl, by first | rfl | go_num | (congr 1; omega), by omega, by omega, by omega, hsj, HUJ.out, hoj, HRC.out dj (by unfold fixUp; rw [if_pos hbk]; exact HE.out.symm)⟩, rfl⟩)
           case measure => first | (simp [intOf]; done) | (simp [intOf]; omega)
        ·go_wp2
         go_roundw
         case rel =>
          first
          | exact ⟨k, s + 1, _, rfl, by first | rfl | go_num | (congr 1; omega), by omega, by omega, by omega, hs1, hhS.out, hoS, HRC.out dm (by unfold fixUp; rw [if_neg hbk])⟩
          | ((repeat apply Exists.intro); exact ⟨⟨k, s + 1, _, rfl, by first | rfl | go_num | (congr 1; omega), by omega, by omega, by omega, hs1, hhS.out, hoS, HRC.out dm (by unfold fixUp; rw [if_neg hbk])⟩, rfl⟩)
         case measure => first | (simp [intOf]; done) | (simp [intOf]; omega)
    ·obtain rfl : k = b := by omega
     have HP := Lib.hid (HO.out.symm.trans (pi_true ltInt a k s i dk hs (HS.out.symm.trans (scanSorted_stop ltInt dk k k (Or.inl (by omega))))))
     go_wp2
     go_quiet (fail)
     go_wp2
     have e1 : R1 = dk := congrArg Prod.fst HP.out
     have e2 : R2 = true := congrArg Prod.snd HP.out
     subst e1 e2
     refine bodyPost_ret (v := .bool true) (by simp [results, Tryz.results142, go_sem, *]) rfl ⟨rfl, ?_, ?_⟩
     ·first | exact hu_drewN HU2.out hl2 _ | exact HU2.out
     ·first | exact hob2.trans (only_drewN _ _) | exact hob2
  ·obtain rfl : s = 5 := by omega
   have HP := Lib.hid (HO.out.symm.trans (pi_end ltInt a b i dk))
   go_wp2
   have e1 : R1 = dk := congrArg Prod.fst HP.out
   have e2 : R2 = false := congrArg Prod.snd HP.out
   subst e1 e2
   refine bodyPost_ret (v := .bool false) (by simp [results, Tryz.results142, go_sem, *]) rfl ⟨rfl, HU0.out, hob⟩
end Go.Proofs.YtffaahipgabkhaaGreat
end
