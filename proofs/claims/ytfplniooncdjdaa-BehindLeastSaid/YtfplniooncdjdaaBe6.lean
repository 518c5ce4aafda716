import Derived.Test.YtfplniooncdjdaaBe5
import Derived.Test.YtfplniooncdjdaaOpenA
namespace Go.Proofs.Ytfplniooncdjdaa
set_option linter.unusedVariables false
set_option linter.unusedSimpArgs false
set_option maxRecDepth 100000
open Go.RowKit Fg Reg
attribute [local irreducible] Reg.wE

theorem bll_out (ao : Option Addr) (n c : Nat) (m q0 q1 : Int) (h : decide (100 < (n : Int)) = true ∨ (decide (100 < (n : Int)) = false ∧ decide (1099511627776 < q1) = true)) (w : World) : Calls Try.prog 6 #[.int .u64 m, .slice ao n c, .agg #[.int .u64 q0, .int .u64 q1]] w fun ee w' => ee = .returned (.bool true) ∧ Below w.heap.size w w' := by
  have K1 := Lib.hid btwo_c
  rcases h with h | ⟨h1, h⟩
  all_goals
    go_enter Try.func6, Try.ntmps6
    go_wp2_with (go_at_call 25; ((with_reducible refine (K1.out _).mono ?_); rintro e w1 ⟨rfl, hbel⟩; obtain ⟨hcc, hff⟩ := bcell hbel; have hsz := hbel.size; (try simp at hsz); have hF : Below w.heap.size w w1 := (by ((repeat' apply And.intro) <;> first | (simp [go_sem, *]; done) | omega | (repeat' (first | with_reducible exact Below.refl _ _ | with_reducible assumption | ((with_reducible refine Below.drew ?_)) | ((with_reducible refine below_drewN ?_ _)) | ((with_reducible refine Below.alloc ?_ ?_ _); rotate_left; focus (first | omega | (simp; done) | (simp; omega))) | ((with_reducible refine Below.setCell ?_ ?_ _); rotate_left; focus (first | omega | (simp; done) | (simp; omega))) | ((with_reducible refine Below.trans ?_ (Below.mono (by with_reducible assumption) ?_)); rotate_left; focus (first | omega | (simp; done) | (simp; omega))))))); go_split_ands; clear hcc hff hbel))
    (go_ret; refine ⟨?_, ?_⟩; (focus (exact rfl)); ((repeat' (first | with_reducible exact Below.refl _ _ | with_reducible assumption | ((with_reducible refine Below.drew ?_)) | ((with_reducible refine below_drewN ?_ _)) | ((with_reducible refine Below.alloc ?_ ?_ _); rotate_left; focus (first | omega | (simp; done) | (simp; omega))) | ((with_reducible refine Below.setCell ?_ ?_ _); rotate_left; focus (first | omega | (simp; done) | (simp; omega))) | ((with_reducible refine Below.trans ?_ (Below.mono (by with_reducible assumption) ?_)); rotate_left; focus (first | omega | (simp; done) | (simp; omega))))); done))
set_option maxHeartbeats 1000000 in
theorem bll_no (ao : Option Addr) (n c : Nat) (m q0 q1 : Int) (h1 : decide (100 < (n : Int)) = false) (h2 : decide (1099511627776 < q1) = false) (q : IntKind.i64.wrap q1 = q1) (w : World)
    (k1 : ∀ z, Below w.heap.size w z → Calls Try.prog 28 #[.int .u64 m, .slice ao n c, .int .u64 q0, .int .i64 q1] z fun ee w' => ee = .returned (.tuple #[.int .u64 (0), .int .i64 (1)]) ∧ Below z.heap.size z w')
    (k2 : ∀ z, Below w.heap.size w z → Calls Try.prog 29 #[.int .u64 m, .slice ao n c, .int .u64 q0, .int .i64 q1] z fun ee w' => ee = .returned (.bool false) ∧ z = w') : Calls Try.prog 6 #[.int .u64 m, .slice ao n c, .agg #[.int .u64 q0, .int .u64 q1]] w fun ee w' => ee = .returned (.bool true) ∧ Below w.heap.size w w' := by
  have K1 := Lib.hid k1
  have K2 := Lib.hid k2
  have K3 := Lib.hid btwo_c
  clear k1 k2
  go_enter Try.func6, Try.ntmps6
  go_wp2_with (first
    | (go_at_call 28; ((with_reducible refine (K1.out _ (by ((repeat' apply And.intro) <;> first | (simp [go_sem, *]; done) | omega | (repeat' (first | with_reducible exact Below.refl _ _ | with_reducible assumption | ((with_reducible refine Below.drew ?_)) | ((with_reducible refine below_drewN ?_ _)) | ((with_reducible refine Below.alloc ?_ ?_ _); rotate_left; focus (first | omega | (simp; done) | (simp; omega))) | ((with_reducible refine Below.setCell ?_ ?_ _); rotate_left; focus (first | omega | (simp; done) | (simp; omega))) | ((with_reducible refine Below.trans ?_ (Below.mono (by with_reducible assumption) ?_)); rotate_left; focus (first | omega | (simp; done) | (simp; omega)))))))).mono ?_); rintro e w1 ⟨rfl, hbel⟩; obtain ⟨hcc, hff⟩ := bcell hbel; have hsz := hbel.size; (try simp at hsz); have hF : Below w.heap.size w w1 := (by ((repeat' apply And.intro) <;> first | (simp [go_sem, *]; done) | omega | (repeat' (first | with_reducible exact Below.refl _ _ | with_reducible assumption | ((with_reducible refine Below.drew ?_)) | ((with_reducible refine below_drewN ?_ _)) | ((with_reducible refine Below.alloc ?_ ?_ _); rotate_left; focus (first | omega | (simp; done) | (simp; omega))) | ((with_reducible refine Below.setCell ?_ ?_ _); rotate_left; focus (first | omega | (simp; done) | (simp; omega))) | ((with_reducible refine Below.trans ?_ (Below.mono (by with_reducible assumption) ?_)); rotate_left; focus (first | omega | (simp; done) | (simp; omega))))))); go_split_ands; clear hcc hff hbel))
    | (go_at_call 29; ((with_reducible refine (K2.out _ (by ((repeat' apply And.intro) <;> first | (simp [go_sem, *]; done) | omega | (repeat' (first | with_reducible exact Below.refl _ _ | with_reducible assumption | ((with_reducible refine Below.drew ?_)) | ((with_reducible refine below_drewN ?_ _)) | ((with_reducible refine Below.alloc ?_ ?_ _); rotate_left; focus (first | omega | (simp; done) | (simp; omega))) | ((with_reducible refine Below.setCell ?_ ?_ _); rotate_left; focus (first | omega | (simp; done) | (simp; omega))) | ((with_reducible refine Below.trans ?_ (Below.mono (by with_reducible assumption) ?_)); rotate_left; focus (first | omega | (simp; done) | (simp; omega)))))))).mono ?_); rintro e w' ⟨rfl, rfl⟩))
    | (go_at_call 25; ((with_reducible refine (K3.out _).mono ?_); rintro e w3 ⟨rfl, hbel⟩; obtain ⟨hcc, hff⟩ := bcell hbel; have hsz := hbel.size; (try simp at hsz); have hF : Below w.heap.size w w3 := (by ((repeat' apply And.intro) <;> first | (simp [go_sem, *]; done) | omega | (repeat' (first | with_reducible exact Below.refl _ _ | with_reducible assumption | ((with_reducible refine Below.drew ?_)) | ((with_reducible refine below_drewN ?_ _)) | ((with_reducible refine Below.alloc ?_ ?_ _); rotate_left; focus (first | omega | (simp; done) | (simp; omega))) | ((with_reducible refine Below.setCell ?_ ?_ _); rotate_left; focus (first | omega | (simp; done) | (simp; omega))) | ((with_reducible refine Below.trans ?_ (Below.mono (by with_reducible assumption) ?_)); rotate_left; focus (first | omega | (simp; done) | (simp; omega))))))); go_split_ands; clear hcc hff hbel)))
  (go_ret; refine ⟨?_, ?_⟩; (focus (exact rfl)); ((repeat' (first | with_reducible exact Below.refl _ _ | with_reducible assumption | ((with_reducible refine Below.drew ?_)) | ((with_reducible refine below_drewN ?_ _)) | ((with_reducible refine Below.alloc ?_ ?_ _); rotate_left; focus (first | omega | (simp; done) | (simp; omega))) | ((with_reducible refine Below.setCell ?_ ?_ _); rotate_left; focus (first | omega | (simp; done) | (simp; omega))) | ((with_reducible refine Below.trans ?_ (Below.mono (by with_reducible assumption) ?_)); rotate_left; focus (first | omega | (simp; done) | (simp; omega))))); done))
set_option maxHeartbeats 1000000 in
theorem bll_yes (ao : Option Addr) (n c : Nat) (m q0 q1 N : Int) (h1 : decide (100 < (n : Int)) = false) (h2 : decide (1099511627776 < q1) = false) (q : IntKind.i64.wrap q1 = q1) (hN : decide (N ≤ q0) = true) (w : World)
    (k1 : ∀ z, Below w.heap.size w z → Calls Try.prog 28 #[.int .u64 m, .slice ao n c, .int .u64 q0, .int .i64 q1] z fun ee w' => ee = .returned (.tuple #[.int .u64 (N), .int .i64 (0)]) ∧ Below z.heap.size z w')
    (k2 : ∀ z, Below w.heap.size w z → Calls Try.prog 29 #[.int .u64 m, .slice ao n c, .int .u64 q0, .int .i64 q1] z fun ee w' => ee = .returned (.bool true) ∧ z = w')
    (k3 : ∀ z, Below w.heap.size w z → Calls Try.prog 30 #[.int .u64 m, .slice ao n c, .int .u64 q0, .int .i64 q1] z fun ee w' => ee = .returned (.int .u64 N) ∧ Below z.heap.size z w') : Calls Try.prog 6 #[.int .u64 m, .slice ao n c, .agg #[.int .u64 q0, .int .u64 q1]] w fun ee w' => ee = .returned (.bool true) ∧ Below w.heap.size w w' := by
  have K1 := Lib.hid k1
  have K2 := Lib.hid k2
  have K3 := Lib.hid k3
  have K4 := Lib.hid btwo_c
  clear k1 k2 k3
  go_enter Try.func6, Try.ntmps6
  go_wp2_with (first
    | (go_at_call 28; ((with_reducible refine (K1.out _ (by ((repeat' apply And.intro) <;> first | (simp [go_sem, *]; done) | omega | (repeat' (first | with_reducible exact Below.refl _ _ | with_reducible assumption | ((with_reducible refine Below.drew ?_)) | ((with_reducible refine below_drewN ?_ _)) | ((with_reducible refine Below.alloc ?_ ?_ _); rotate_left; focus (first | omega | (simp; done) | (simp; omega))) | ((with_reducible refine Below.setCell ?_ ?_ _); rotate_left; focus (first | omega | (simp; done) | (simp; omega))) | ((with_reducible refine Below.trans ?_ (Below.mono (by with_reducible assumption) ?_)); rotate_left; focus (first | omega | (simp; done) | (simp; omega)))))))).mono ?_); rintro e w1 ⟨rfl, hbel⟩; obtain ⟨hcc, hff⟩ := bcell hbel; have hsz := hbel.size; (try simp at hsz); have hF : Below w.heap.size w w1 := (by ((repeat' apply And.intro) <;> first | (simp [go_sem, *]; done) | omega | (repeat' (first | with_reducible exact Below.refl _ _ | with_reducible assumption | ((with_reducible refine Below.drew ?_)) | ((with_reducible refine below_drewN ?_ _)) | ((with_reducible refine Below.alloc ?_ ?_ _); rotate_left; focus (first | omega | (simp; done) | (simp; omega))) | ((with_reducible refine Below.setCell ?_ ?_ _); rotate_left; focus (first | omega | (simp; done) | (simp; omega))) | ((with_reducible refine Below.trans ?_ (Below.mono (by with_reducible assumption) ?_)); rotate_left; focus (first | omega | (simp; done) | (simp; omega))))))); go_split_ands; clear hcc hff hbel))
    | (go_at_call 29; ((with_reducible refine (K2.out _ (by ((repeat' apply And.intro) <;> first | (simp [go_sem, *]; done) | omega | (repeat' (first | with_reducible exact Below.refl _ _ | with_reducible assumption | ((with_reducible refine Below.drew ?_)) | ((with_reducible refine below_drewN ?_ _)) | ((with_reducible refine Below.alloc ?_ ?_ _); rotate_left; focus (first | omega | (simp; done) | (simp; omega))) | ((with_reducible refine Below.setCell ?_ ?_ _); rotate_left; focus (first | omega | (simp; done) | (simp; omega))) | ((with_reducible refine Below.trans ?_ (Below.mono (by with_reducible assumption) ?_)); rotate_left; focus (first | omega | (simp; done) | (simp; omega)))))))).mono ?_); rintro e w' ⟨rfl, rfl⟩))
    | (go_at_call 30; ((with_reducible refine (K3.out _ (by ((repeat' apply And.intro) <;> first | (simp [go_sem, *]; done) | omega | (repeat' (first | with_reducible exact Below.refl _ _ | with_reducible assumption | ((with_reducible refine Below.drew ?_)) | ((with_reducible refine below_drewN ?_ _)) | ((with_reducible refine Below.alloc ?_ ?_ _); rotate_left; focus (first | omega | (simp; done) | (simp; omega))) | ((with_reducible refine Below.setCell ?_ ?_ _); rotate_left; focus (first | omega | (simp; done) | (simp; omega))) | ((with_reducible refine Below.trans ?_ (Below.mono (by with_reducible assumption) ?_)); rotate_left; focus (first | omega | (simp; done) | (simp; omega)))))))).mono ?_); rintro e w3 ⟨rfl, hbel⟩; obtain ⟨hcc, hff⟩ := bcell hbel; have hsz := hbel.size; (try simp at hsz); have hF : Below w.heap.size w w3 := (by ((repeat' apply And.intro) <;> first | (simp [go_sem, *]; done) | omega | (repeat' (first | with_reducible exact Below.refl _ _ | with_reducible assumption | ((with_reducible refine Below.drew ?_)) | ((with_reducible refine below_drewN ?_ _)) | ((with_reducible refine Below.alloc ?_ ?_ _); rotate_left; focus (first | omega | (simp; done) | (simp; omega))) | ((with_reducible refine Below.setCell ?_ ?_ _); rotate_left; focus (first | omega | (simp; done) | (simp; omega))) | ((with_reducible refine Below.trans ?_ (Below.mono (by with_reducible assumption) ?_)); rotate_left; focus (first | omega | (simp; done) | (simp; omega))))))); go_split_ands; clear hcc hff hbel))
    | (go_at_call 25; ((with_reducible refine (K4.out _).mono ?_); rintro e w4 ⟨rfl, hbel⟩; obtain ⟨hcc, hff⟩ := bcell hbel; have hsz := hbel.size; (try simp at hsz); have hF : Below w.heap.size w w4 := (by ((repeat' apply And.intro) <;> first | (simp [go_sem, *]; done) | omega | (repeat' (first | with_reducible exact Below.refl _ _ | with_reducible assumption | ((with_reducible refine Below.drew ?_)) | ((with_reducible refine below_drewN ?_ _)) | ((with_reducible refine Below.alloc ?_ ?_ _); rotate_left; focus (first | omega | (simp; done) | (simp; omega))) | ((with_reducible refine Below.setCell ?_ ?_ _); rotate_left; focus (first | omega | (simp; done) | (simp; omega))) | ((with_reducible refine Below.trans ?_ (Below.mono (by with_reducible assumption) ?_)); rotate_left; focus (first | omega | (simp; done) | (simp; omega))))))); go_split_ands; clear hcc hff hbel)))
  (go_ret; refine ⟨?_, ?_⟩; (focus (exact rfl)); ((repeat' (first | with_reducible exact Below.refl _ _ | with_reducible assumption | ((with_reducible refine Below.drew ?_)) | ((with_reducible refine below_drewN ?_ _)) | ((with_reducible refine Below.alloc ?_ ?_ _); rotate_left; focus (first | omega | (simp; done) | (simp; omega))) | ((with_reducible refine Below.setCell ?_ ?_ _); rotate_left; focus (first | omega | (simp; done) | (simp; omega))) | ((with_reducible refine Below.trans ?_ (Below.mono (by with_reducible assumption) ?_)); rotate_left; focus (first | omega | (simp; done) | (simp; omega))))); done))
/-- Three reasons, or none. -/
theorem three_or (bytes lmax : Int) : (decide (1099511627776 < bytes) = true ∨ (decide (1099511627776 < bytes) = false ∧ decide (lmax < 1) = true) ∨ (decide (1099511627776 < bytes) = false ∧ decide (lmax < 1) = false ∧ decide (16384 < lmax) = true)) ∨ (decide (1099511627776 < bytes) = false ∧ decide (lmax < 1) = false ∧ decide (16384 < lmax) = false) := by
  by_cases h1 : 1099511627776 < bytes <;> by_cases h2 : lmax < 1 <;> by_cases h3 : 16384 < lmax <;> simp [h1, h2, h3]
theorem behindLeast_law (m : Int) (v : Value) (q0 q1 : Int) {w : World} (wm : (Lit.int .u64 m).wf = true) (hs : Op.FlatSlice w 1 [.int .u64] v) (w0 : (Lit.int .u64 q0).wf = true) (w1 : (Lit.int .u64 q1).wf = true) : Calls Try.prog 6 #[.int .u64 m, v, .agg #[.int .u64 q0, .int .u64 q1]] w fun e w' => e = .returned (.bool true) ∧ Below w.heap.size w w' := by
  have hm := in_wf wm
  have hq0 := in_wf w0
  have hq1 := in_wf w1
  have hE : ∀ (ao : Option Addr) (c : Nat), Calls Try.prog 6 #[.int .u64 m, .slice ao 0 c, .agg #[.int .u64 q0, .int .u64 q1]] w fun e w' => e = .returned (.bool true) ∧ Below w.heap.size w w' := by
    intro ao c
    by_cases h2 : 1099511627776 < q1
    · exact bll_out ao 0 c m q0 q1 (.inr ⟨by simp, by simpa using h2⟩) w
    · have hw : IntKind.i64.wrap q1 = q1 := by rw [IntKind.wrap_i64]; unfold In at hq1; omega
      refine bll_no ao 0 c m q0 q1 (by simp) (by simpa using h2) hw w (fun z _ => bl_bad2 ao 0 c m q0 q1 z (bmy_e ao c z) (con_e ao c m z)) (fun z _ => ?_)
      rcases three_or q0 q1 with h | ⟨g1, g2, g3⟩
      · refine rmy_bad ao 0 c m q0 q1 z (.inr ?_)
        rcases h with h | ⟨h1, h⟩ | ⟨h1, h2, h⟩
        · exact .inl ⟨by simp, h⟩
        · exact .inr (.inl ⟨by simp, h1, h⟩)
        · exact .inr (.inr ⟨by simp, h1, h2, h⟩)
      · exact rmy_e ao c m q0 q1 z g1 g2 g3
  rcases hs.ints with rfl | ⟨a, c, rfl, _⟩ | ⟨b, o, cap, zs, h0, rfl, h2, h3, h4, h5, h6⟩
  · exact hE none 0
  · exact hE (some a) c
  · by_cases hlen : 100 < zs.length
    · exact bll_out _ _ _ m q0 q1 (.inl (by simp; omega)) w
    · by_cases hq : 1099511627776 < q1
      · exact bll_out _ _ _ m q0 q1 (.inr ⟨by simp; omega, by simpa using hq⟩) w
      · have hw : IntKind.i64.wrap q1 = q1 := by rw [IntKind.wrap_i64]; unfold In at hq1; omega
        have d1 : decide (100 < (zs.length : Int)) = false := by simp; omega
        have d2 : decide (1099511627776 < q1) = false := by simpa using hq
        have hblt : b < w.heap.size := by
          have := h5 0 (by omega)
          exact World.block_lt_of_cell? w ⟨b, o + 0, none⟩ this
        have hcz : ∀ z, Below w.heap.size w z → ∀ k (h : k < zs.length), z.cell? ⟨b, o + k, none⟩ = some (.int .u64 zs[k]) := fun z hz k hk => (hz.cell (p := ⟨b, o + k, none⟩) hblt).trans (h5 k hk)
        by_cases h64 : 64 < zs.length
        · exact bll_no _ _ _ m q0 q1 d1 d2 hw w (fun z _ => bl_bad1 _ _ _ m q0 q1 z (bmy_long _ _ _ h64 z)) (fun z _ => rmy_bad _ _ _ m q0 q1 z (.inl (by simp; omega)))
        · have d3 : decide (64 < (zs.length : Int)) = false := by simp; omega
          have hbm := fun z hz => bmy_c zs b o cap (by omega) z (hcz z hz)
          have hco := fun z hz => con_c zs b o cap m (by omega) z (hcz z hz)
          cases hsm : smays zs with
          | false =>
            rw [hsm] at hbm
            refine bll_no _ _ _ m q0 q1 d1 d2 hw w (fun z hz => bl_bad1 _ _ _ m q0 q1 z (hbm z hz)) (fun z hz => ?_)
            rcases three_or q0 q1 with h | ⟨g1, g2, g3⟩
            · refine rmy_bad _ _ _ m q0 q1 z (.inr ?_)
              rcases h with h | ⟨h1, h⟩ | ⟨h1, h2, h⟩
              · exact .inl ⟨d3, h⟩
              · exact .inr (.inl ⟨d3, h1, h⟩)
              · exact .inr (.inr ⟨d3, h1, h2, h⟩)
            · have k := rmy_c zs b o cap m q0 q1 z d3 g1 g2 g3 (hcz z hz)
              rw [hsm] at k
              exact k
          | true =>
            rw [hsm] at hbm
            cases hha : has zs m with
            | false =>
              rw [hha] at hco
              refine bll_no _ _ _ m q0 q1 d1 d2 hw w (fun z hz => bl_bad2 _ _ _ m q0 q1 z (hbm z hz) (hco z hz)) (fun z hz => ?_)
              rcases three_or q0 q1 with h | ⟨g1, g2, g3⟩
              · refine rmy_bad _ _ _ m q0 q1 z (.inr ?_)
                rcases h with h | ⟨h1, h⟩ | ⟨h1, h2, h⟩
                · exact .inl ⟨d3, h⟩
                · exact .inr (.inl ⟨d3, h1, h⟩)
                · exact .inr (.inr ⟨d3, h1, h2, h⟩)
              · have k := rmy_c zs b o cap m q0 q1 z d3 g1 g2 g3 (hcz z hz)
                rw [hsm, hha] at k
                exact k
            | true =>
              rw [hha] at hco
              rcases three_or q0 q1 with h | ⟨g1, g2, g3⟩
              · refine bll_no _ _ _ m q0 q1 d1 d2 hw w (fun z hz => bl_bad3 _ _ _ m q0 q1 z (hbm z hz) (hco z hz) h) (fun z hz => rmy_bad _ _ _ m q0 q1 z (.inr ?_))
                rcases h with h | ⟨h1, h⟩ | ⟨h1, h2, h⟩
                · exact .inl ⟨d3, h⟩
                · exact .inr (.inl ⟨d3, h1, h⟩)
                · exact .inr (.inr ⟨d3, h1, h2, h⟩)
              · have hL : LOK m zs q0 q1 := ⟨hsm, hha, by omega, by simp at g1; exact ⟨hq0.1, g1⟩, by simp at g2 g3; exact ⟨g2, g3⟩⟩
                have hle := bsh_le hL
                refine bll_yes _ _ _ m q0 q1 (bsh m zs q0 q1) d1 d2 hw (by simpa using hle.2) w (fun z hz => bl_c zs b o cap m q0 q1 z (Nat.lt_of_lt_of_le hblt hz.size) hL (hcz z hz)) (fun z hz => ?_) (fun z hz => rle_c zs b o cap m q0 q1 z hL (hcz z hz))
                have k := rmy_c zs b o cap m q0 q1 z d3 g1 g2 g3 (hcz z hz)
                rw [hsm, hha] at k
                exact k
end Go.Proofs.Ytfplniooncdjdaa
