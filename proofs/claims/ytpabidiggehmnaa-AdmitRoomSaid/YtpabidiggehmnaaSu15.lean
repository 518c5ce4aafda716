/- medianAdjacentOrdered at uint64. -/
import Derived.Test.YtpabidiggehmnaaSu14
namespace Go.Proofs.Ytpabidiggehmnaa
set_option linter.unusedVariables false
set_option linter.unusedSimpArgs false
set_option maxRecDepth 100000
open Go.RowKit Fg Reg Go.Sort
attribute [local irreducible] Reg.wE Holds

theorem med_rng (d : Array Int) (a b c s : Nat) (ha : a < d.size) (hb : b < d.size) (hc : c < d.size) : (median ltInt d a b c s).1 < d.size ∧ (median ltInt d a b c s).2 ≤ s + 3 := by
  obtain ⟨r1, r2, r3⟩ := or2_rng d a b s ha hb
  obtain ⟨t1, t2, t3⟩ := or2_rng d _ c (order2 ltInt d a b s).2.2 r2 hc
  obtain ⟨u1, u2, u3⟩ := or2_rng d _ _ (order2 ltInt d (order2 ltInt d a b s).2.1 c (order2 ltInt d a b s).2.2).2.2 r1 t1
  unfold median
  exact ⟨u2, by dsimp only at *; omega⟩
set_option maxHeartbeats 2000000 in
theorem mea_c (blk off cap a s q : Nat) (d : Array Int) (w : World) (hH : Holds (Value.int .u64) (w) blk off (d)) (hl : blk < w.heap.size) (hq : ¬ blk = q) (ha : 1 ≤ a) (hb : a + 1 < d.size) (hsz : d.size ≤ 100000) (hs : s ≤ 100000) (h0 : w.cell? ⟨q, 0, none⟩ = some (.int .i64 s)) (h1 : w.frozen? ⟨q, 0, none⟩ = false) (h2 : q < w.heap.size) :
    Calls Try.prog 84 #[.slice (some ⟨blk, off, none⟩) d.size cap, .int .i64 a, .pointer (some ⟨q, 0, none⟩)] w fun e w' => e = .returned (.int .i64 ((medianAdjacent ltInt d a s).1 : Nat)) ∧ (w'.cell? ⟨q, 0, none⟩ = some (.int .i64 (((medianAdjacent ltInt d a s).2 : Nat))) ∧ w'.frozen? ⟨q, 0, none⟩ = false ∧ q < w'.heap.size) ∧ Only (fun k => k = q) w w' := by
  obtain ⟨m, rfl⟩ : ∃ m, a = m + 1 := ⟨a - 1, by omega⟩
  have k := med_c blk off cap m (m + 1) (m + 2) s q d w hH hl hq (by omega) (by omega) (by omega) hsz hs h0 h1 h2
  unfold medianAdjacent
  rw [show m + 1 - 1 = m from rfl, show m + 1 + 1 = m + 2 from rfl]
  rw [show ((m + 1 : Nat) : Int) = (m : Int) + 1 from rfl, show ((m + 2 : Nat) : Int) = (m : Int) + 1 + 1 by omega] at k
  have K := Lib.hid k
  have w1 : IntKind.i64.wrap ((m : Int) + 1 - 1) = (m : Int) := by rw [IntKind.wrap_i64]; omega
  have w2 : IntKind.i64.wrap ((m : Int) + 1 + 1) = (m : Int) + 1 + 1 := by rw [IntKind.wrap_i64]; omega
  clear k hH
  generalize median ltInt d m (m + 1) (m + 2) s = r at *
  rw [show ((m + 1 : Nat) : Int) = (m : Int) + 1 from rfl]
  go_enter Try.func84, Try.ntmps84
  go_wp2_with (go_at_call 85; (with_reducible refine K.out.mono ?_); rintro e w3 ⟨rfl, ⟨v0, v1, v2⟩, o3⟩)
  go_ret
  exact ⟨rfl, ⟨v0, v1, v2⟩, o3⟩
end Go.Proofs.Ytpabidiggehmnaa
