/- lowered. -/
import Derived.Test.YtikmdkmejbcmmaaAv4
namespace Go.Proofs.Ytikmdkmejbcmmaa
set_option linter.unusedVariables false
set_option linter.unusedSimpArgs false
set_option maxRecDepth 100000
open Go.RowKit Fg Reg
attribute [local irreducible] Reg.wE NT

set_option maxHeartbeats 2000000 in
theorem lowL_c (b c : Nat) (x y : It) (p q r : Tr) (h : Int) (m : It) (w : World) (hb : NC w b x (.pointer (some ⟨c, 0, none⟩)) (pt r) h m) (hP : NT w (.node c y p q)) (hr : NT w r)
    (hnd : (b :: c :: (fp p ++ fp q ++ fp r)).Nodup) (gp : hgt p ≤ 900) (gq : hgt q ≤ 900) (gr : hgt r ≤ 900) :
    Calls Try.prog 86 #[.pointer (some ⟨b, 0, none⟩), .func (.func 84) #[] #[], .func (.func 85) #[] #[]] w fun e w' => e = .returned (pt (low true b x (.node c y p q) r)) ∧ NT w' (low true b x (.node c y p q) r) ∧ Only (fun k => k = b ∨ k = c ∨ k ∈ fp q) w w' := by
  have hnd0 := hnd
  simp only [List.nodup_cons, List.mem_cons, List.mem_append, not_or] at hnd
  obtain ⟨⟨nbc, ⟨nbp, nbq⟩, nbr⟩, ⟨⟨ncp, ncq⟩, ncr⟩, ndl⟩ := hnd
  have hPP := hP
  unfold NT at hPP
  obtain ⟨hc, hp, hq⟩ := hPP
  by_cases hg : hgt p < hgt q
  · cases q with
    | nil => exact absurd hg (by show ¬ hgt p < 0; omega)
    | node e z l' r' =>
      have elow : low true b x (.node c y p (.node e z l' r')) r = (.node e z (.node c y p l') (.node b x r' r)) := by
        unfold low twi
        simp only [if_true, if_false, Bool.false_eq_true, hg]
        rfl
      rw [elow]
      have hqq := hq
      unfold NT at hqq
      obtain ⟨he, hl', hr'⟩ := hqq
      have nd1 : (c :: e :: (fp r' ++ fp l' ++ fp p)).Nodup := by
        have hs := hnd0
        simp only [fp, List.nodup_cons, List.mem_cons, List.mem_append, not_or, List.nodup_append] at hs ⊢
        grind
      have nd2 : (b :: e :: (fp (.node c y p l') ++ fp r' ++ fp r)).Nodup := by
        have hs := hnd0
        simp only [fp, List.nodup_cons, List.mem_cons, List.mem_append, not_or, List.nodup_append] at hs ⊢
        grind
      rw [hgt_node] at gq
      have k1 := hei_c p w hp
      have k2 := hei_c (.node e z l' r') w hq
      have d1 : decide ((hgt p : Int) < (hgt (.node e z l' r') : Int)) = true := decide_eq_true (by omega)
      have d2 : decide (hgt p < hgt (.node e z l' r')) = true := decide_eq_true hg
      obtain ⟨up, hup⟩ := pt_ptr p
      rw [hup] at hc k1
      have kt := trnR_c c e y z r' l' p _ _ _ _ w (hup ▸ hc) he hr' hl' hp nd1 (by omega) (by omega) (by omega)
      have e1 := hb.c4
      have e2 := hc.c5
      have e3 := hc.c4
      have f1 := hb.fz 4
      have l1 := hb.lt
      have l2 := hc.lt
      change w.cell? ⟨c, 5, none⟩ = some (.pointer (some ⟨e, 0, none⟩)) at e2
      change Calls Try.prog 68 #[.pointer (some ⟨e, 0, none⟩)] w _ at k2
      have HGP := Lib.hid gp
      generalize hgt (.node e z l' r') = gg at *
      generalize hgt p = gpp at d1 d2 k1
      have K1 := Lib.hid k1
      have K2 := Lib.hid k2
      clear k1 k2
      go_enter Try.func86, Try.ntmps86
      go_wp2_with (first
        | (go_at_call 84; (with_reducible refine (sd1_c _ _).mono ?_); rintro e w' ⟨rfl, rfl⟩)
        | (go_at_call 85; (with_reducible refine (sd2_c _ _).mono ?_); rintro e w' ⟨rfl, rfl⟩)
        | (go_at_call 68; (with_reducible refine K2.out.mono ?_); rintro e w' ⟨rfl, rfl⟩)
        | (go_at_call 68; (with_reducible refine K1.out.mono ?_); rintro e w' ⟨rfl, rfl⟩))
      with_reducible refine kt.mono ?_
      rintro _ w1 ⟨rfl, hN1, hO1⟩
      have hnb : ¬ (b = c ∨ b = e) := by
        rintro (h | h)
        · exact nbc h
        · subst h; exact nbq (by simp [fp])
      have hb1 := hb.only hO1 hnb
      have hr1 : NT w1 r := NT.only hO1 hr (fun k hk h => by
        have hs := hnd0
        simp only [fp, List.nodup_cons, List.mem_cons, List.mem_append, not_or, List.nodup_append] at hs
        grind)
      have c1 := hb1.c4
      have g1 := hb1.fz 4
      have m1 := hb1.lt
      clear e1 e2 e3 f1 l1 l2
      go_wp2_with (first
        | (go_at_call 84; (with_reducible refine (sd1_c _ _).mono ?_); rintro e w' ⟨rfl, rfl⟩)
        | (go_at_call 85; (with_reducible refine (sd2_c _ _).mono ?_); rintro e w' ⟨rfl, rfl⟩))
      have hN1' := hN1
      unfold NT at hN1'
      obtain ⟨he1, hna, hnb2⟩ := hN1'
      have nbt : b ∉ fp (.node c y p l') := by
        have hs := nd2
        simp only [List.nodup_cons, List.mem_cons, List.mem_append, not_or] at hs
        grind
      have nbd : b ∉ fp r' := by
        have hs := nd2
        simp only [List.nodup_cons, List.mem_cons, List.mem_append, not_or] at hs
        grind
      have kt2 := trnL_c b e x z (.node c y p l') r' r h _ m _ _ (hb1.setL (.pointer (some ⟨e, 0, none⟩))) (he1.only ((Only.refl (fun k => k = b) _).setOne 4 none (.pointer (some ⟨e, 0, none⟩))) (fun hh => hnb (.inr hh.symm))) (hna.set (o := 4) (v := .pointer (some ⟨e, 0, none⟩)) nbt) (hnb2.set (o := 4) (v := .pointer (some ⟨e, 0, none⟩)) nbd) (hr1.set (o := 4) (v := .pointer (some ⟨e, 0, none⟩)) nbr) nd2 (by rw [hgt_node]; have := HGP.out; omega) (by omega) (by omega)
      with_reducible refine kt2.mono ?_
      rintro _ w2 ⟨rfl, hN2, hO2⟩
      go_wp2
      go_ret
      refine ⟨rfl, hN2, ?_⟩
      have hO1' : Only (fun k => k = b ∨ k = c ∨ k ∈ fp (.node e z l' r')) w w1 := hO1.mono (fun k hk => by
        rcases hk with rfl | rfl
        · exact .inr (.inl rfl)
        · exact .inr (.inr (by simp [fp])))
      have hO2' : Only (fun k => k = b ∨ k = c ∨ k ∈ fp (.node e z l' r')) (w1.setCell ⟨b, 4, none⟩ (.pointer (some ⟨e, 0, none⟩))) w2 := hO2.mono (fun k hk => by
        rcases hk with rfl | rfl
        · exact .inl rfl
        · exact .inr (.inr (by simp [fp])))
      exact (hO1'.setCell (p := ⟨b, 4, none⟩) (.inl (.inl rfl)) _).trans hO2'
  · have elow : low true b x (.node c y p q) r = (.node c y p (.node b x q r)) := by
      unfold low twi
      simp only [if_true, if_false, Bool.false_eq_true, hg]
      rfl
    rw [elow]
    have k1 := hei_c p w hp
    have k2 := hei_c q w hq
    have d1 : decide ((hgt p : Int) < (hgt q : Int)) = false := decide_eq_false (by omega)
    have d2 : decide (hgt p < hgt q) = false := decide_eq_false hg
    have kt := trnL_c b c x y p q r h _ m _ w hb hc hp hq hr hnd0 (by omega) (by omega) (by omega)
    obtain ⟨up, hup⟩ := pt_ptr p
    obtain ⟨uq, huq⟩ := pt_ptr q
    rw [hup] at hc k1
    rw [huq] at hc k2
    have e1 := hb.c4
    have e2 := hc.c5
    have e3 := hc.c4
    have l1 := hb.lt
    have l2 := hc.lt
    generalize hgt q = gg at *
    generalize hgt p = gpp at *
    have K1 := Lib.hid k1
    have K2 := Lib.hid k2
    have KT := Lib.hid kt
    clear k1 k2 kt hup huq hb hc elow
    go_enter Try.func86, Try.ntmps86
    go_wp2_with (first
      | (go_at_call 84; (with_reducible refine (sd1_c _ _).mono ?_); rintro e w' ⟨rfl, rfl⟩)
      | (go_at_call 85; (with_reducible refine (sd2_c _ _).mono ?_); rintro e w' ⟨rfl, rfl⟩)
      | (go_at_call 68; (with_reducible refine K2.out.mono ?_); rintro e w' ⟨rfl, rfl⟩)
      | (go_at_call 68; (with_reducible refine K1.out.mono ?_); rintro e w' ⟨rfl, rfl⟩))
    with_reducible refine KT.out.mono ?_
    rintro _ w1 ⟨rfl, hN1, hO1⟩
    go_wp2
    go_ret
    refine ⟨rfl, hN1, hO1.mono fun k hk => ?_⟩
    rcases hk with rfl | rfl
    · exact .inl rfl
    · exact .inr (.inl rfl)
set_option maxHeartbeats 2000000 in
theorem lowR_c (b c : Nat) (x y : It) (p q r : Tr) (h : Int) (m : It) (w : World) (hb : NC w b x (pt r) (.pointer (some ⟨c, 0, none⟩)) h m) (hP : NT w (.node c y q p)) (hr : NT w r)
    (hnd : (b :: c :: (fp p ++ fp q ++ fp r)).Nodup) (gp : hgt p ≤ 900) (gq : hgt q ≤ 900) (gr : hgt r ≤ 900) :
    Calls Try.prog 86 #[.pointer (some ⟨b, 0, none⟩), .func (.func 85) #[] #[], .func (.func 84) #[] #[]] w fun e w' => e = .returned (pt (low false b x (.node c y q p) r)) ∧ NT w' (low false b x (.node c y q p) r) ∧ Only (fun k => k = b ∨ k = c ∨ k ∈ fp q) w w' := by
  have hnd0 := hnd
  simp only [List.nodup_cons, List.mem_cons, List.mem_append, not_or] at hnd
  obtain ⟨⟨nbc, ⟨nbp, nbq⟩, nbr⟩, ⟨⟨ncp, ncq⟩, ncr⟩, ndl⟩ := hnd
  have hPP := hP
  unfold NT at hPP
  obtain ⟨hc, hq, hp⟩ := hPP
  by_cases hg : hgt p < hgt q
  · cases q with
    | nil => exact absurd hg (by show ¬ hgt p < 0; omega)
    | node e z l' r' =>
      have elow : low false b x (.node c y (.node e z l' r') p) r = (.node e z (.node b x r l') (.node c y r' p)) := by
        unfold low twi
        simp only [if_true, if_false, Bool.false_eq_true, hg]
        rfl
      rw [elow]
      have hqq := hq
      unfold NT at hqq
      obtain ⟨he, hl', hr'⟩ := hqq
      have nd1 : (c :: e :: (fp l' ++ fp r' ++ fp p)).Nodup := by
        have hs := hnd0
        simp only [fp, List.nodup_cons, List.mem_cons, List.mem_append, not_or, List.nodup_append] at hs ⊢
        grind
      have nd2 : (b :: e :: (fp (.node c y r' p) ++ fp l' ++ fp r)).Nodup := by
        have hs := hnd0
        simp only [fp, List.nodup_cons, List.mem_cons, List.mem_append, not_or, List.nodup_append] at hs ⊢
        grind
      rw [hgt_node] at gq
      have k1 := hei_c p w hp
      have k2 := hei_c (.node e z l' r') w hq
      have d1 : decide ((hgt p : Int) < (hgt (.node e z l' r') : Int)) = true := decide_eq_true (by omega)
      have d2 : decide (hgt p < hgt (.node e z l' r')) = true := decide_eq_true hg
      obtain ⟨up, hup⟩ := pt_ptr p
      rw [hup] at hc k1
      have kt := trnL_c c e y z l' r' p _ _ _ _ w (hup ▸ hc) he hl' hr' hp nd1 (by omega) (by omega) (by omega)
      have e1 := hb.c5
      have e2 := hc.c4
      have e3 := hc.c5
      have f1 := hb.fz 5
      have l1 := hb.lt
      have l2 := hc.lt
      change w.cell? ⟨c, 4, none⟩ = some (.pointer (some ⟨e, 0, none⟩)) at e2
      change Calls Try.prog 68 #[.pointer (some ⟨e, 0, none⟩)] w _ at k2
      have HGP := Lib.hid gp
      generalize hgt (.node e z l' r') = gg at *
      generalize hgt p = gpp at d1 d2 k1
      have K1 := Lib.hid k1
      have K2 := Lib.hid k2
      clear k1 k2
      go_enter Try.func86, Try.ntmps86
      go_wp2_with (first
        | (go_at_call 84; (with_reducible refine (sd1_c _ _).mono ?_); rintro e w' ⟨rfl, rfl⟩)
        | (go_at_call 85; (with_reducible refine (sd2_c _ _).mono ?_); rintro e w' ⟨rfl, rfl⟩)
        | (go_at_call 68; (with_reducible refine K2.out.mono ?_); rintro e w' ⟨rfl, rfl⟩)
        | (go_at_call 68; (with_reducible refine K1.out.mono ?_); rintro e w' ⟨rfl, rfl⟩))
      with_reducible refine kt.mono ?_
      rintro _ w1 ⟨rfl, hN1, hO1⟩
      have hnb : ¬ (b = c ∨ b = e) := by
        rintro (h | h)
        · exact nbc h
        · subst h; exact nbq (by simp [fp])
      have hb1 := hb.only hO1 hnb
      have hr1 : NT w1 r := NT.only hO1 hr (fun k hk h => by
        have hs := hnd0
        simp only [fp, List.nodup_cons, List.mem_cons, List.mem_append, not_or, List.nodup_append] at hs
        grind)
      have c1 := hb1.c5
      have g1 := hb1.fz 5
      have m1 := hb1.lt
      clear e1 e2 e3 f1 l1 l2
      go_wp2_with (first
        | (go_at_call 84; (with_reducible refine (sd1_c _ _).mono ?_); rintro e w' ⟨rfl, rfl⟩)
        | (go_at_call 85; (with_reducible refine (sd2_c _ _).mono ?_); rintro e w' ⟨rfl, rfl⟩))
      have hN1' := hN1
      unfold NT at hN1'
      obtain ⟨he1, hnb2, hna⟩ := hN1'
      have nbt : b ∉ fp (.node c y r' p) := by
        have hs := nd2
        simp only [List.nodup_cons, List.mem_cons, List.mem_append, not_or] at hs
        grind
      have nbd : b ∉ fp l' := by
        have hs := nd2
        simp only [List.nodup_cons, List.mem_cons, List.mem_append, not_or] at hs
        grind
      have kt2 := trnR_c b e x z (.node c y r' p) l' r h _ m _ _ (hb1.setR (.pointer (some ⟨e, 0, none⟩))) (he1.only ((Only.refl (fun k => k = b) _).setOne 5 none (.pointer (some ⟨e, 0, none⟩))) (fun hh => hnb (.inr hh.symm))) (hna.set (o := 5) (v := .pointer (some ⟨e, 0, none⟩)) nbt) (hnb2.set (o := 5) (v := .pointer (some ⟨e, 0, none⟩)) nbd) (hr1.set (o := 5) (v := .pointer (some ⟨e, 0, none⟩)) nbr) nd2 (by rw [hgt_node]; have := HGP.out; omega) (by omega) (by omega)
      with_reducible refine kt2.mono ?_
      rintro _ w2 ⟨rfl, hN2, hO2⟩
      go_wp2
      go_ret
      refine ⟨rfl, hN2, ?_⟩
      have hO1' : Only (fun k => k = b ∨ k = c ∨ k ∈ fp (.node e z l' r')) w w1 := hO1.mono (fun k hk => by
        rcases hk with rfl | rfl
        · exact .inr (.inl rfl)
        · exact .inr (.inr (by simp [fp])))
      have hO2' : Only (fun k => k = b ∨ k = c ∨ k ∈ fp (.node e z l' r')) (w1.setCell ⟨b, 5, none⟩ (.pointer (some ⟨e, 0, none⟩))) w2 := hO2.mono (fun k hk => by
        rcases hk with rfl | rfl
        · exact .inl rfl
        · exact .inr (.inr (by simp [fp])))
      exact (hO1'.setCell (p := ⟨b, 5, none⟩) (.inl (.inl rfl)) _).trans hO2'
  · have elow : low false b x (.node c y q p) r = (.node c y (.node b x r q) p) := by
      unfold low twi
      simp only [if_true, if_false, Bool.false_eq_true, hg]
      rfl
    rw [elow]
    have k1 := hei_c p w hp
    have k2 := hei_c q w hq
    have d1 : decide ((hgt p : Int) < (hgt q : Int)) = false := decide_eq_false (by omega)
    have d2 : decide (hgt p < hgt q) = false := decide_eq_false hg
    have kt := trnR_c b c x y p q r h _ m _ w hb hc hp hq hr hnd0 (by omega) (by omega) (by omega)
    obtain ⟨up, hup⟩ := pt_ptr p
    obtain ⟨uq, huq⟩ := pt_ptr q
    rw [hup] at hc k1
    rw [huq] at hc k2
    have e1 := hb.c5
    have e2 := hc.c4
    have e3 := hc.c5
    have l1 := hb.lt
    have l2 := hc.lt
    generalize hgt q = gg at *
    generalize hgt p = gpp at *
    have K1 := Lib.hid k1
    have K2 := Lib.hid k2
    have KT := Lib.hid kt
    clear k1 k2 kt hup huq hb hc elow
    go_enter Try.func86, Try.ntmps86
    go_wp2_with (first
      | (go_at_call 84; (with_reducible refine (sd1_c _ _).mono ?_); rintro e w' ⟨rfl, rfl⟩)
      | (go_at_call 85; (with_reducible refine (sd2_c _ _).mono ?_); rintro e w' ⟨rfl, rfl⟩)
      | (go_at_call 68; (with_reducible refine K2.out.mono ?_); rintro e w' ⟨rfl, rfl⟩)
      | (go_at_call 68; (with_reducible refine K1.out.mono ?_); rintro e w' ⟨rfl, rfl⟩))
    with_reducible refine KT.out.mono ?_
    rintro _ w1 ⟨rfl, hN1, hO1⟩
    go_wp2
    go_ret
    refine ⟨rfl, hN1, hO1.mono fun k hk => ?_⟩
    rcases hk with rfl | rfl
    · exact .inl rfl
    · exact .inr (.inl rfl)
end Go.Proofs.Ytikmdkmejbcmmaa
