/- The reference's sum of bytes. -/
import Derived.Test.YtnfhiagbbmaobaaIp0
namespace Go.Proofs.Ytnfhiagbbmaobaa
set_option linter.unusedVariables false
set_option linter.unusedSimpArgs false
set_option maxRecDepth 100000
open Go.RowKit Fg Reg
attribute [local irreducible] Reg.wE Reg2.wT

set_option maxHeartbeats 4000000 in
theorem rsum_c (S : ByteArray) (hS : S.size ≤ 200000) (w : World) : Calls Try.prog 44 #[.string S] w fun ee w' => ee = .returned (.int .i64 (sumb S)) ∧ Below w.heap.size w w' := by
  have hall := rsf_all (byt S) S.size (fun j hj => byt_out S j hj)
  have hsb : sumb S = fl (rsf (byt S) S.size) := by unfold sumb; rw [hall]
  have HSB := Lib.hid hsb
  clear hall hsb
  go_enter Try.func44, Try.ntmps44
  go_wp2_with fail
  go_loopw [3, 7] (fun v ii wr => ∃ k : Nat, k ≤ S.size ∧ ii = .int .i64 k ∧ v = .int .i64 (rsf (byt S) k) ∧ Below w.heap.size w wr) (fun _ ii _ => S.size - (intOf ii).toNat)
  case atStart => exact ⟨0, Nat.zero_le _, rfl, rfl, Below.refl _ _⟩
  case round =>
    obtain ⟨k, hk, rfl, rfl, hB⟩ := hrel
    have hrb := rsf_bd (byt_bd S) k
    have hbs := hB.size
    by_cases hlt : k < S.size
    · have h0 : rsf (byt S) (k + 1) = rsf (byt S) k + (if k % 2 = 0 then 256 else 1) * byt S k := rfl
      have hx := byt_bd S k
      have ex : byt S k = ((S.data[k]?.getD 0).toNat : Int) := rfl
      have hsx : ∀ (h : k < S.size), (S[k]'h).toNat = (S.data[k]?.getD 0).toNat := fun h => by rw [Array.getElem?_eq_getElem (show k < S.data.size from h)]; rfl
      rw [ex] at hx h0
      generalize (S.data[k]?.getD 0).toNat = x at hsx hx h0
      clear ex
      generalize rsf (byt S) k = y at *
      have hk2 : (k : Int) ≤ 200000 := by omega
      by_cases hev : k % 2 = 0
      · have e1 : (k : Int) % 2 = 0 := by omega
        have e2 : (k : Int).tmod 2 = 0 := by rw [Int.tmod_eq_emod_of_nonneg (by omega)]; omega
        rw [if_pos hev] at h0
        have HH := Lib.hid h0
        clear h0 hev
        go_wp2
        go_roundw
        case rel => exact ⟨k + 1, by omega, by go_num, by rw [HH.out], by assumption⟩
        case measure => simp [intOf]; omega
      · have e1 : (k : Int) % 2 = 1 := by omega
        have e2 : (k : Int).tmod 2 = 1 := by rw [Int.tmod_eq_emod_of_nonneg (by omega)]; omega
        rw [if_neg hev, Int.one_mul] at h0
        have HH := Lib.hid h0
        clear h0 hev
        go_wp2
        go_roundw
        case rel => exact ⟨k + 1, by omega, by go_num, by rw [HH.out], by assumption⟩
        case measure => simp [intOf]; omega
    · obtain rfl : k = S.size := by omega
      have hwm : rsf (byt S) S.size ≤ 13107200000 := by omega
      clear hlt
      generalize rsf (byt S) S.size = s0 at *
      go_wp2
      go_loopw [3, 27] (fun v ii wz => ∃ (s : Int) (k : Nat), k ≤ 64 ∧ 0 ≤ s ∧ s ≤ far k ∧ v = .int .i64 s ∧ ii = .int .i64 k ∧ fl s = fl s0 ∧ Below w.heap.size w wz) (fun _ ii _ => 64 - (intOf ii).toNat)
      case atStart => exact ⟨s0, 0, by omega, by omega, by unfold far; simpa using hwm, rfl, rfl, rfl, hB⟩
      case round =>
        clear hB hbs
        obtain ⟨s, k, hk, hs0, hs1, rfl, rfl, hf, hB⟩ := hrel
        have HF := Lib.hid hf
        clear hf
        have hbs := hB.size
        have hm : s ≤ 13107200000 := by unfold far at hs1; split at hs1 <;> (try split at hs1) <;> (try split at hs1) <;> omega
        by_cases hk64 : k < 64
        · by_cases hbig : 65536 ≤ s
          · have hfs := fl_step (n := s) (by omega)
            have hfl := fl_less (n := s) (by omega)
            have hfr := far_step hs1 hbig
            have HS := Lib.hid hfs
            have HR := Lib.hid hfr
            clear hfs hfr hs1
            have d1 : decide (s < 65536) = false := by simp; omega
            go_wp2
            go_roundw
            case rel => exact ⟨s % 65536 + s / 65536, k + 1, by omega, by omega, HR.out, by go_num, by go_num, by rw [HS.out, HF.out], by assumption⟩
            case measure => simp [intOf]; omega
          · have hfs := fl_small (n := s) (by omega)
            have hR : s = sumb S := by rw [HSB.out, ← HF.out, hfs]
            have HR := Lib.hid hR
            clear hR hfs
            have d1 : decide (s < 65536) = true := by simp; omega
            go_wp2
            go_ret
            exact ⟨by rw [← HR.out]; rfl, hB⟩
        · obtain rfl : k = 64 := by omega
          have hs2 : s ≤ 65535 := by simpa [far] using hs1
          have hfs := fl_small (n := s) (by omega)
          have hR : s = sumb S := by rw [HSB.out, ← HF.out, hfs]
          have HR := Lib.hid hR
          clear hR hfs
          go_wp2
          go_ret
          exact ⟨by rw [← HR.out]; rfl, hB⟩
end Go.Proofs.Ytnfhiagbbmaobaa
