import Derived.Test.YtpjanaljmnfccaaPq8
namespace Go.Proofs.Ytpjanaljmnfccaa
set_option linter.unusedVariables false
set_option linter.unusedSimpArgs false
set_option maxRecDepth 100000
open Go.RowKit Fg Reg
attribute [local irreducible] Reg.wE

set_option maxHeartbeats 2000000 in
theorem po_empty (n : Nat) (b : Int) (ao : Option Addr) (cap : Nat) (h1 : 1 ≤ n) (h2 : n ≤ 64) (hb1 : 1 ≤ b) (hb2 : b ≤ 1048576) (w : World) :
    Calls Try.prog 8 #[.int .i64 n, .int .i64 b, .slice ao 0 cap] w fun e w' => e = .returned (.bool true) ∧ Below w.heap.size w w' := by
  have KN := Lib.hid (fun w => tnew n b 0 h1 h2 hb1 hb2 w)
  have KH := Lib.hid hundred_c
  have KP := Lib.hid (fun z q (hT : TQ w z q 0 n 0 0 (fun _ => pz) 0 0 0 0 0 0 b 0) => tnone hT)
  have KB := Lib.hid (fun z q (hT : TQ w z q 0 n 0 0 (fun _ => pz) 0 0 0 0 0 0 b 0) => tbyt hT)
  have KS := Lib.hid (same_zero none none 0 0)
  go_enter Try.func8, Try.ntmps8
  go_wp2_with (go_at_call 31; ((with_reducible refine (KN.out _).mono ?_); rintro e w1 ⟨q, rfl, hT⟩))
  refine wp_loop_rounds 1 ?_
  rw [rounds_succ]
  go_wp2
  refine wp_loop_rounds 1 ?_
  rw [rounds_succ]
  go_wp2_with (first
    | (go_at_call 23; ((with_reducible refine (KP.out _ _ hT).mono ?_); clear hT; rintro e w6 ⟨rfl, hT⟩))
    | (go_at_call 32; ((with_reducible refine (KS.out _).mono ?_); rintro e w7 ⟨rfl, hb⟩; replace hT := (TQ.alloc hT _).below hb; clear hb))
    | (go_at_call 27; ((with_reducible refine (KB.out _ _ hT).mono ?_); clear hT; rintro e w8 ⟨rfl, hT⟩))
    | (go_at_call 30; ((with_reducible refine (KH.out _).mono ?_); rintro e w9 ⟨rfl, hb⟩; replace hT := hT.below hb; clear hb)))
  go_ret
  exact ⟨rfl, hT.bel⟩
theorem pktqOrder_law (t b : Int) (v : Value) {w : World} (wt : (Lit.int .i64 t).wf = true) (wb : (Lit.int .i64 b).wf = true) (hs : Op.FlatSlice w 6 [.int .u64, .int .i64, .int .u16, .int .u16, .int .u16, .int .u16] v) : Calls Try.prog 8 #[.int .i64 t, .int .i64 b, v] w fun e w' => e = .returned (.bool true) ∧ Below w.heap.size w w' := by
  by_cases hok : 1 ≤ t ∧ t ≤ 64 ∧ 1 ≤ b ∧ b ≤ 1048576
  · obtain ⟨n, rfl⟩ : ∃ n : Nat, t = (n : Int) := ⟨t.toNat, by omega⟩
    rcases pkts_of hs with rfl | ⟨ad, cap, rfl⟩ | ⟨sb, so, len, cap, h0, rfl, hc⟩
    · exact po_empty n b none 0 (by omega) (by omega) (by omega) (by omega) w
    · exact po_empty n b (some ad) cap (by omega) (by omega) (by omega) (by omega) w
    · by_cases hl : len ≤ 100
      · exact po_some n b sb so len cap (by omega) (by omega) (by omega) (by omega) hl h0 w hc
      · exact po_out n b _ len cap (.inl (by simp; omega)) w
  · have hx : ∀ (ao : Option Addr) (len c : Nat), Calls Try.prog 8 #[.int .i64 t, .int .i64 b, .slice ao len c] w fun e w' => e = .returned (.bool true) ∧ Below w.heap.size w w' := by
      intro ao len c
      by_cases hl : 100 < len
      · exact po_out t b ao len c (.inl (by simp; omega)) w
      · have d : decide (100 < (len : Int)) = false := by simp; omega
        by_cases a1 : t < 1
        · exact po_out t b ao len c (.inr (.inl ⟨d, a1⟩)) w
        · by_cases a2 : 64 < t
          · exact po_out t b ao len c (.inr (.inr (.inl ⟨d, by omega, a2⟩))) w
          · by_cases a3 : b < 1
            · exact po_out t b ao len c (.inr (.inr (.inr (.inl ⟨d, by omega, by omega, a3⟩)))) w
            · exact po_out t b ao len c (.inr (.inr (.inr (.inr ⟨d, by omega, by omega, by omega, by omega⟩)))) w
    rcases pkts_of hs with rfl | ⟨ad, cap, rfl⟩ | ⟨sb, so, len, cap, h0, rfl, hc⟩
    · exact hx none 0 0
    · exact hx (some ad) 0 cap
    · exact hx _ len cap
end Go.Proofs.Ytpjanaljmnfccaa
