/- rate.Rate and rate.Time of any text. -/
import Derived.Test.YtdiniaokkdcihaaDoorTx8
namespace Go.Proofs.YtdiniaokkdcihaaDoor
set_option linter.unusedVariables false
set_option linter.unusedSimpArgs false
set_option maxRecDepth 100000
open Go.RowKit Fg Reg
attribute [local irreducible] Reg.wE

theorem ramt_c (S : ByteArray) (hS : S.size < 9223372036854775807) (b : Nat) (w : World) (hw : w.cell? ⟨b, 0, none⟩ = some (.string (⟨#[103, 98, 105, 116]⟩ : ByteArray)) ∧ w.cell? ⟨b, 1, none⟩ = some (.int .u64 1000000000) ∧ w.cell? ⟨b, 2, none⟩ = some (.string (⟨#[109, 98, 105, 116]⟩ : ByteArray)) ∧ w.cell? ⟨b, 3, none⟩ = some (.int .u64 1000000) ∧ w.cell? ⟨b, 4, none⟩ = some (.string (⟨#[107, 98, 105, 116]⟩ : ByteArray)) ∧ w.cell? ⟨b, 5, none⟩ = some (.int .u64 1000) ∧ w.cell? ⟨b, 6, none⟩ = some (.string (⟨#[98, 105, 116]⟩ : ByteArray)) ∧ w.cell? ⟨b, 7, none⟩ = some (.int .u64 1) ∧ b < w.heap.size) : Calls Tryd.prog 80 #[.string S, .slice (some ⟨b, 0, none⟩) 4 4, .int .u64 1000000000000] w fun ee w' => ee = .returned (.tuple #[.int .u64 (ratV0 S.data.toList), .int .i64 (ratE0 S.data.toList)]) ∧ Below w.heap.size w w' := by
  have g0 : (⟨#[103, 98, 105, 116]⟩ : ByteArray).data.toList = gL := rfl
  have g1 : (⟨#[109, 98, 105, 116]⟩ : ByteArray).data.toList = mL := rfl
  have g2 : (⟨#[107, 98, 105, 116]⟩ : ByteArray).data.toList = kL := rfl
  have g3 : (⟨#[98, 105, 116]⟩ : ByteArray).data.toList = bL := rfl
  unfold ratV0 ratE0
  rcases rsel_facts S.data.toList with ⟨hs, h0, h1, h2, h3⟩ | ⟨hs, h0, h1, h2, h3⟩ | ⟨hs, h0, h1, h2, h3⟩ | ⟨hs, h0, h1, h2, h3⟩ | ⟨hs, h0, h1, h2, h3⟩
  · rw [hs]
    exact amt_ok S hS b 4 _ (by omega) (by omega) (⟨#[103, 98, 105, 116]⟩ : ByteArray) 1000000000 (by omega) (by omega) (by rw [g0]; exact h0) 4 rfl w (end_r S (by omega) b w hw _ _ _ _ h0 h1 h2 h3 _ _ _ (.inl ⟨rfl, rfl, rfl, rfl, rfl, rfl, rfl⟩))
  · rw [hs]
    exact amt_ok S hS b 4 _ (by omega) (by omega) (⟨#[109, 98, 105, 116]⟩ : ByteArray) 1000000 (by omega) (by omega) (by rw [g1]; exact h1) 4 rfl w (end_r S (by omega) b w hw _ _ _ _ h0 h1 h2 h3 _ _ _ (.inr (.inl ⟨rfl, rfl, rfl, rfl, rfl, rfl, rfl⟩)))
  · rw [hs]
    exact amt_ok S hS b 4 _ (by omega) (by omega) (⟨#[107, 98, 105, 116]⟩ : ByteArray) 1000 (by omega) (by omega) (by rw [g2]; exact h2) 4 rfl w (end_r S (by omega) b w hw _ _ _ _ h0 h1 h2 h3 _ _ _ (.inr (.inr (.inl ⟨rfl, rfl, rfl, rfl, rfl, rfl, rfl⟩))))
  · rw [hs]
    exact amt_ok S hS b 4 _ (by omega) (by omega) (⟨#[98, 105, 116]⟩ : ByteArray) 1 (by omega) (by omega) (by rw [g3]; exact h3) 3 rfl w (end_r S (by omega) b w hw _ _ _ _ h0 h1 h2 h3 _ _ _ (.inr (.inr (.inr (.inl ⟨rfl, rfl, rfl, rfl, rfl, rfl, rfl⟩)))))
  · rw [hs]
    exact amt_none S b 4 _ ⟨#[]⟩ 0 w (end_r S (by omega) b w hw _ _ _ _ h0 h1 h2 h3 _ _ _ (.inr (.inr (.inr (.inr ⟨rfl, rfl, rfl, rfl, rfl, rfl, rfl⟩)))))
theorem tamt_c (S : ByteArray) (hS : S.size < 9223372036854775807) (b : Nat) (w : World) (hw : w.cell? ⟨b, 0, none⟩ = some (.string (⟨#[115]⟩ : ByteArray)) ∧ w.cell? ⟨b, 1, none⟩ = some (.int .u64 1000000) ∧ w.cell? ⟨b, 2, none⟩ = some (.string (⟨#[109, 115]⟩ : ByteArray)) ∧ w.cell? ⟨b, 3, none⟩ = some (.int .u64 1000) ∧ w.cell? ⟨b, 4, none⟩ = some (.string (⟨#[117, 115]⟩ : ByteArray)) ∧ w.cell? ⟨b, 5, none⟩ = some (.int .u64 1) ∧ b < w.heap.size) : Calls Tryd.prog 80 #[.string S, .slice (some ⟨b, 0, none⟩) 3 3, .int .u64 1000000000] w fun ee w' => ee = .returned (.tuple #[.int .u64 (timV S.data.toList), .int .i64 (timE S.data.toList)]) ∧ Below w.heap.size w w' := by
  have g0 : (⟨#[115]⟩ : ByteArray).data.toList = sL := rfl
  have g1 : (⟨#[109, 115]⟩ : ByteArray).data.toList = msL := rfl
  have g2 : (⟨#[117, 115]⟩ : ByteArray).data.toList = usL := rfl
  unfold timV timE
  rcases tsel_facts S.data.toList with ⟨hs, h0, h1, h2⟩ | ⟨hs, h0, h1, h2⟩ | ⟨hs, h0, h1, h2⟩ | ⟨hs, h0, h1, h2⟩
  · rw [hs]
    exact amt_ok S hS b 3 _ (by omega) (by omega) (⟨#[115]⟩ : ByteArray) 1000000 (by omega) (by omega) (by rw [g0]; exact h0) 1 rfl w (end_t S (by omega) b w hw _ _ _ h0 h1 h2 _ _ _ (.inl ⟨rfl, rfl, rfl, rfl, rfl, rfl⟩))
  · rw [hs]
    exact amt_ok S hS b 3 _ (by omega) (by omega) (⟨#[109, 115]⟩ : ByteArray) 1000 (by omega) (by omega) (by rw [g1]; exact h1) 2 rfl w (end_t S (by omega) b w hw _ _ _ h0 h1 h2 _ _ _ (.inr (.inl ⟨rfl, rfl, rfl, rfl, rfl, rfl⟩)))
  · rw [hs]
    exact amt_ok S hS b 3 _ (by omega) (by omega) (⟨#[117, 115]⟩ : ByteArray) 1 (by omega) (by omega) (by rw [g2]; exact h2) 2 rfl w (end_t S (by omega) b w hw _ _ _ h0 h1 h2 _ _ _ (.inr (.inr (.inl ⟨rfl, rfl, rfl, rfl, rfl, rfl⟩))))
  · rw [hs]
    exact amt_none S b 3 _ ⟨#[]⟩ 0 w (end_t S (by omega) b w hw _ _ _ h0 h1 h2 _ _ _ (.inr (.inr (.inr ⟨rfl, rfl, rfl, rfl, rfl, rfl⟩))))
theorem rate_c (S : ByteArray) (hS : S.size < 9223372036854775807) (w : World) : Calls Tryd.prog 42 #[.string S] w fun ee w' => ee = .returned (.tuple #[.int .u64 (ratV S.data.toList), .int .i64 (ratE S.data.toList)]) ∧ Below w.heap.size w w' := by
  have KR := Lib.hid rates_c
  have ka := fun z hz => ramt_c S hS w.heap.size z hz
  unfold ratV ratE
  obtain ⟨V, hV⟩ : ∃ V, ratV0 S.data.toList = V := ⟨_, rfl⟩
  obtain ⟨E, hE⟩ : ∃ E, ratE0 S.data.toList = E := ⟨_, rfl⟩
  simp only [hV, hE] at ka ⊢
  have KA := Lib.hid ka
  clear ka hV hE
  by_cases h : E = 0 ∧ V = 0
  · obtain ⟨rfl, rfl⟩ := h
    rw [if_pos ⟨rfl, rfl⟩, if_pos ⟨rfl, rfl⟩]
    go_enter Tryd.func42, Tryd.ntmps42
    go_wp2_with (first
      | (go_at_call 81; (with_reducible refine (KR.out _).mono ?_); rintro e w1 ⟨rfl, hR, hbel⟩; have hsz := hbel.size)
      | (go_at_call 80; (with_reducible refine (KA.out _ hR).mono ?_); rintro e w2 ⟨rfl, hbel2⟩))
    refine bodyPost_ret (v := .tuple #[.int .u64 (0), .int .i64 (1)]) (by simp [results, Tryd.results42, go_sem, *]) rfl ⟨rfl, hbel.trans (hbel2.mono hsz)⟩
  · rw [if_neg h, if_neg h]
    by_cases h0 : E = 0
    · subst h0
      have d1 : (V == 0) = false := by simpa using fun e => h ⟨rfl, e⟩
      clear h
      go_enter Tryd.func42, Tryd.ntmps42
      go_wp2_with (first
        | (go_at_call 81; (with_reducible refine (KR.out _).mono ?_); rintro e w1 ⟨rfl, hR, hbel⟩; have hsz := hbel.size)
        | (go_at_call 80; (with_reducible refine (KA.out _ hR).mono ?_); rintro e w2 ⟨rfl, hbel2⟩))
      refine bodyPost_ret (v := .tuple #[.int .u64 (V), .int .i64 (0)]) (by simp [results, Tryd.results42, go_sem, *]) rfl ⟨rfl, hbel.trans (hbel2.mono hsz)⟩
    · have d1 : (E == 0) = false := by simpa using h0
      clear h
      go_enter Tryd.func42, Tryd.ntmps42
      go_wp2_with (first
        | (go_at_call 81; (with_reducible refine (KR.out _).mono ?_); rintro e w1 ⟨rfl, hR, hbel⟩; have hsz := hbel.size)
        | (go_at_call 80; (with_reducible refine (KA.out _ hR).mono ?_); rintro e w2 ⟨rfl, hbel2⟩))
      refine bodyPost_ret (v := .tuple #[.int .u64 (V), .int .i64 (E)]) (by simp [results, Tryd.results42, go_sem, *]) rfl ⟨rfl, hbel.trans (hbel2.mono hsz)⟩
theorem time_c (S : ByteArray) (hS : S.size < 9223372036854775807) (w : World) : Calls Tryd.prog 43 #[.string S] w fun ee w' => ee = .returned (.tuple #[.int .u64 (timV S.data.toList), .int .i64 (timE S.data.toList)]) ∧ Below w.heap.size w w' := by
  have KR := Lib.hid times_c
  have ka := fun z hz => tamt_c S hS w.heap.size z hz
  obtain ⟨V, hV⟩ : ∃ V, timV S.data.toList = V := ⟨_, rfl⟩
  obtain ⟨E, hE⟩ : ∃ E, timE S.data.toList = E := ⟨_, rfl⟩
  simp only [hV, hE] at ka ⊢
  have KA := Lib.hid ka
  clear ka hV hE
  go_enter Tryd.func43, Tryd.ntmps43
  go_wp2_with (first
    | (go_at_call 82; (with_reducible refine (KR.out _).mono ?_); rintro e w1 ⟨rfl, hR, hbel⟩; have hsz := hbel.size)
    | (go_at_call 80; (with_reducible refine (KA.out _ hR).mono ?_); rintro e w2 ⟨rfl, hbel2⟩))
  refine bodyPost_ret (v := .tuple #[.int .u64 (V), .int .i64 (E)]) (by simp [results, Tryd.results43, go_sem, *]) rfl ⟨rfl, hbel.trans (hbel2.mono hsz)⟩
end Go.Proofs.YtdiniaokkdcihaaDoor
