/- balanced. -/
import Derived.Test.YtikmdkmejbcmmaaAv5
namespace Go.Proofs.Ytikmdkmejbcmmaa
set_option linter.unusedVariables false
set_option linter.unusedSimpArgs false
set_option maxRecDepth 100000
open Go.RowKit Fg Reg
attribute [local irreducible] Reg.wE NT

theorem drewN_b (w : World) (n : Nat) : Below w.heap.size w (w.drewN n) := below_drewN (Below.refl _ _) n
theorem hei_q (t : Tr) (w : World) (n : Nat) (h : NT w t) : Calls Try.prog 68 #[pt t] (w.drewN n) fun e w' => e = .returned (.int .i64 (hgt t)) ∧ w' = w.drewN n :=
  (hei_c t _ (NT.below (drewN_b w n) h)).mono fun _ _ ⟨a, b⟩ => ⟨a, b.symm⟩
set_option maxHeartbeats 2000000 in
theorem blc_c (b : Nat) (x : It) (l r : Tr) (h : Int) (m : It) (w : World) (hb : NC w b x (pt l) (pt r) h m) (hl : NT w l) (hr : NT w r) (hnd : (b :: (fp l ++ fp r)).Nodup) (gl : hgt l ≤ 900) (gr : hgt r ≤ 900) :
    Calls Try.prog 78 #[.pointer (some ⟨b, 0, none⟩)] w fun e w' => e = .returned (pt (blc b x l r)) ∧ NT w' (blc b x l r) ∧ Only (fun k => k = b ∨ k ∈ fp l ∨ k ∈ fp r) w w' := by
  have W0 : IntKind.i64.wrap ((hgt l : Int) - (hgt r : Int)) = (hgt l : Int) - (hgt r : Int) := by rw [IntKind.wrap_i64]; omega
  by_cases h1 : hgt r + 1 < hgt l
  · have eb : blc b x l r = low true b x l r := by unfold blc; rw [if_pos h1]
    rw [eb]
    have d1 : decide ((1 : Int) < (hgt l : Int) - (hgt r : Int)) = true := decide_eq_true (by omega)
    cases l with
    | nil => exact absurd h1 (by show ¬ _ < 0; omega)
    | node c y p q =>
    have hgq : hgt p ≤ 900 ∧ hgt q ≤ 900 := by rw [hgt_node] at gl; omega
    have kl := fun n => lowL_c b c x y p q r h m (w.drewN n) (hb.below (drewN_b w n)) (NT.below (drewN_b w n) hl) (NT.below (drewN_b w n) hr) hnd hgq.1 hgq.2 gr
    have KL := Lib.hid kl
    clear kl eb
    have e1 := hb.c4
    have e2 := hb.c5
    have l1 := hb.lt
    have K1 := Lib.hid (fun n => hei_q (.node c y p q) w n hl)
    have K2 := Lib.hid (fun n => hei_q r w n hr)
    obtain ⟨ul, hul⟩ := pt_ptr (.node c y p q)
    obtain ⟨ur, hur⟩ := pt_ptr r
    rw [hul] at e1 K1
    rw [hur] at e2 K2
    generalize hgt (.node c y p q) = gg at *
    generalize hgt r = gq at *
    clear hul hur hb
    go_enter Try.func78, Try.ntmps78
    go_wp2
    go_quiet (first | (go_at_call 68; (with_reducible refine Calls.quiet_of_same (K1.out _))) | (go_at_call 68; (with_reducible refine Calls.quiet_of_same (K2.out _))))
    go_wp2_with fail
    with_reducible refine (KL.out _).mono ?_
    rintro _ w1 ⟨rfl, hN1, hO1⟩
    go_wp2
    go_ret
    refine ⟨rfl, hN1, (Only.of_below (drewN_b w _)).trans (hO1.mono fun k hk => ?_)⟩
    rcases hk with rfl | rfl | hk
    · exact .inl rfl
    · exact .inr (.inl (by simp [fp]))
    · exact .inr (.inl (by simp [fp, hk]))
  · have d1 : decide ((1 : Int) < (hgt l : Int) - (hgt r : Int)) = false := decide_eq_false (by omega)
    by_cases h2 : hgt l + 1 < hgt r
    · have eb : blc b x l r = low false b x r l := by unfold blc; rw [if_neg h1, if_pos h2]
      rw [eb]
      have d2 : decide ((hgt l : Int) - (hgt r : Int) < -1) = true := decide_eq_true (by omega)
      cases r with
      | nil => exact absurd h2 (by show ¬ _ < 0; omega)
      | node c y q p =>
      have hgq : hgt p ≤ 900 ∧ hgt q ≤ 900 := by rw [hgt_node] at gr; omega
      have hnd2 : (b :: c :: (fp p ++ fp q ++ fp l)).Nodup := by
        have hs := hnd
        simp only [fp, List.nodup_cons, List.mem_cons, List.mem_append, not_or, List.nodup_append] at hs ⊢
        grind
      have kl := fun n => lowR_c b c x y p q l h m (w.drewN n) (hb.below (drewN_b w n)) (NT.below (drewN_b w n) hr) (NT.below (drewN_b w n) hl) hnd2 hgq.1 hgq.2 gl
      have KL := Lib.hid kl
      clear kl eb
      have e1 := hb.c4
      have e2 := hb.c5
      have l1 := hb.lt
      have K1 := Lib.hid (fun n => hei_q l w n hl)
      have K2 := Lib.hid (fun n => hei_q (.node c y q p) w n hr)
      obtain ⟨ul, hul⟩ := pt_ptr l
      obtain ⟨ur, hur⟩ := pt_ptr (.node c y q p)
      rw [hul] at e1 K1
      rw [hur] at e2 K2
      generalize hgt (.node c y q p) = gg at *
      generalize hgt l = gq at *
      clear hul hur hb
      go_enter Try.func78, Try.ntmps78
      go_wp2
      go_quiet (first | (go_at_call 68; (with_reducible refine Calls.quiet_of_same (K1.out _))) | (go_at_call 68; (with_reducible refine Calls.quiet_of_same (K2.out _))))
      go_wp2_with fail
      with_reducible refine (KL.out _).mono ?_
      rintro _ w1 ⟨rfl, hN1, hO1⟩
      go_wp2
      go_ret
      refine ⟨rfl, hN1, (Only.of_below (drewN_b w _)).trans (hO1.mono fun k hk => ?_)⟩
      rcases hk with rfl | rfl | hk
      · exact .inl rfl
      · exact .inr (.inr (by simp [fp]))
      · exact .inr (.inr (by simp [fp, hk]))
    · have eb : blc b x l r = .node b x l r := by unfold blc; rw [if_neg h1, if_neg h2]
      rw [eb]
      have d2 : decide ((hgt l : Int) - (hgt r : Int) < -1) = false := decide_eq_false (by omega)
      simp only [List.nodup_cons, List.mem_append, not_or] at hnd
      have kl := fun n => lrn_c b x l r h m (w.drewN n) (hb.below (drewN_b w n)) (NT.below (drewN_b w n) hl) (NT.below (drewN_b w n) hr) hnd.1.1 hnd.1.2 (by omega) (by omega)
      have KL := Lib.hid kl
      clear kl eb
      have e1 := hb.c4
      have e2 := hb.c5
      have l1 := hb.lt
      have K1 := Lib.hid (fun n => hei_q l w n hl)
      have K2 := Lib.hid (fun n => hei_q r w n hr)
      obtain ⟨ul, hul⟩ := pt_ptr l
      obtain ⟨ur, hur⟩ := pt_ptr r
      rw [hul] at e1 K1
      rw [hur] at e2 K2
      generalize hgt l = gg at *
      generalize hgt r = gq at *
      clear hul hur hb
      go_enter Try.func78, Try.ntmps78
      go_wp2
      go_quiet (first | (go_at_call 68; (with_reducible refine Calls.quiet_of_same (K1.out _))) | (go_at_call 68; (with_reducible refine Calls.quiet_of_same (K2.out _))))
      go_wp2_with fail
      with_reducible refine (KL.out _).mono ?_
      rintro _ w1 ⟨rfl, hN1, hO1⟩
      go_wp2
      go_ret
      refine ⟨rfl, hN1, (Only.of_below (drewN_b w _)).trans (hO1.mono fun k hk => ?_)⟩
      exact Or.inl hk
end Go.Proofs.Ytikmdkmejbcmmaa
