import Derived.Test.YtohdcpkacdaanaaBound1
namespace Go.Proofs.Ytohdcpkacdaanaa
set_option linter.unusedVariables false
set_option linter.unusedSimpArgs false
set_option maxRecDepth 100000
open Go.RowKit Fg Reg

theorem max_if (l z : Int) : (if l < z then z else l) = max l z := by rw [Int.max_def]; split <;> split <;> omega
/-- The greatest of numbers. -/
def grt (f : Int) (zs : List Int) : Int := zs.foldl max f
theorem grt_snoc (f : Int) (zs : List Int) (x : Int) : grt f (zs ++ [x]) = max (grt f zs) x := by simp [grt]
set_option maxHeartbeats 1000000 in
theorem grt_c (f : Int) (zs : List Int) (b o c : Nat) (hf : In f) (hz : ∀ k (h : k < zs.length), In zs[k]) (hn : zs.length ≤ 4611686018427387904) (w : World) (hc : ∀ k (h : k < zs.length), w.cell? ⟨b, o + k, none⟩ = some (.int .u64 zs[k])) :
    Calls Try.prog 58 #[.int .u64 f, .slice (some ⟨b, o, none⟩) zs.length c] w fun ee w' => ee = .returned (.int .u64 (grt f zs)) ∧ w = w' := by
  go_enter Try.func58, Try.ntmps58
  go_wp2_with fail
  go_loop [0, 9] (fun m i => ∃ k : Nat, k ≤ zs.length ∧ i = .int .i64 k ∧ m = .int .u64 (grt f (zs.take k))) (fun _ i => zs.length - (intOf i).toNat)
  case atStart => exact ⟨0, Nat.zero_le _, rfl, rfl⟩
  case round =>
    obtain ⟨k, hk, rfl, rfl⟩ := hrel
    by_cases hlt : k < zs.length
    · have hcell := hc k hlt
      have hs : grt f (zs.take (k + 1)) = max (grt f (zs.take k)) zs[k] := by rw [take_snoc' _ _ hlt, grt_snoc]
      have Hs := Lib.hid hs
      clear hc hs
      go_wp2
      all_goals
        go_round
        case rel => exact ⟨k + 1, by omega, by go_num, by rw [Hs.out, ← max_if]⟩
        case measure => simp [intOf]; omega
    · obtain rfl : k = zs.length := by omega
      clear hc
      go_wp2
      go_ret
      exact ⟨rfl, rfl⟩
end Go.Proofs.Ytohdcpkacdaanaa
