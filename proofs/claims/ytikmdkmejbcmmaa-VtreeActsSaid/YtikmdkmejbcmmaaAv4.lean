/- turned. -/
import Derived.Test.YtikmdkmejbcmmaaAv3
namespace Go.Proofs.Ytikmdkmejbcmmaa
set_option linter.unusedVariables false
set_option linter.unusedSimpArgs false
set_option maxRecDepth 100000
open Go.RowKit Fg Reg
attribute [local irreducible] Reg.wE NT

set_option maxHeartbeats 2000000 in
theorem trnL_c (b c : Nat) (x y : It) (p q r : Tr) (h h2 : Int) (m m2 : It) (w : World) (hb : NC w b x (.pointer (some ⟨c, 0, none⟩)) (pt r) h m) (hc : NC w c y (pt p) (pt q) h2 m2) (hp : NT w p) (hq : NT w q) (hr : NT w r)
    (hnd : (b :: c :: (fp p ++ fp q ++ fp r)).Nodup) (gp : hgt p ≤ 1000) (gq : hgt q ≤ 1000) (gr : hgt r ≤ 1000) :
    Calls Try.prog 90 #[.pointer (some ⟨b, 0, none⟩), .func (.func 84) #[] #[], .func (.func 85) #[] #[]] w fun e w' => e = .returned (.pointer (some ⟨c, 0, none⟩)) ∧ NT w' (.node c y p (.node b x q r)) ∧ Only (fun k => k = b ∨ k = c) w w' := by
  simp only [List.nodup_cons, List.mem_cons, List.mem_append, not_or] at hnd
  obtain ⟨⟨nbc, ⟨nbp, nbq⟩, nbr⟩, ⟨⟨ncp, ncq⟩, ncr⟩, -⟩ := hnd
  obtain ⟨up, hup⟩ := pt_ptr p
  obtain ⟨uq, huq⟩ := pt_ptr q
  obtain ⟨ur, hur⟩ := pt_ptr r
  rw [hur] at hb
  rw [hup, huq] at hc
  have HP := Lib.hid hup
  have HQ := Lib.hid huq
  have HR := Lib.hid hur
  have HB := Lib.hid hb
  have HC := Lib.hid hc
  have e1 := hb.c4
  have e2 := hc.c5
  have f1 := hb.fz 4
  have f2 := hc.fz 5
  have l1 := hb.lt
  have l2 := hc.lt
  clear hup huq hur hb hc
  go_enter Try.func90, Try.ntmps90
  go_wp2_with (first
    | (go_at_call 84; (with_reducible refine (sd1_c _ _).mono ?_); rintro e w' ⟨rfl, rfl⟩)
    | (go_at_call 85; (with_reducible refine (sd2_c _ _).mono ?_); rintro e w' ⟨rfl, rfl⟩))
  have hB1 := (HB.out.setL (.pointer uq)).only ((Only.refl (fun k => k = c) _).setOne 5 none (.pointer (some ⟨b, 0, none⟩))) nbc
  have hC1 := (HC.out.only ((Only.refl (fun k => k = b) w).setOne 4 none (.pointer uq)) (fun h => nbc h.symm)).setR (.pointer (some ⟨b, 0, none⟩))
  have hP1 := (hp.set (o := 4) (v := .pointer uq) nbp).set (o := 5) (v := .pointer (some ⟨b, 0, none⟩)) ncp
  have hQ1 := (hq.set (o := 4) (v := .pointer uq) nbq).set (o := 5) (v := .pointer (some ⟨b, 0, none⟩)) ncq
  have hR1 := (hr.set (o := 4) (v := .pointer uq) nbr).set (o := 5) (v := .pointer (some ⟨b, 0, none⟩)) ncr
  have hO1 := ((Only.refl (fun k => k = b ∨ k = c) w).setCell (p := ⟨b, 4, none⟩) (.inl (.inl rfl)) (.pointer uq)).setCell (p := ⟨c, 5, none⟩) (.inl (.inr rfl)) (.pointer (some ⟨b, 0, none⟩))
  have k1 := lrn_c b x q r h m _ (by rw [HQ.out, HR.out]; exact hB1) hQ1 hR1 nbq nbr (by omega) (by omega)
  with_reducible refine k1.mono ?_
  rintro e w2 ⟨rfl, hN2, hO2⟩
  have hO3 := hO1.trans (hO2.mono fun k hk => .inl hk)
  have hC2 := hC1.only hO2 (fun h => nbc h.symm)
  have hP2 := NT.only hO2 hP1 (fun k hk h => by subst h; exact nbp hk)
  clear e1 e2 f1 f2 l1 l2
  go_wp2_with fail
  have k2 := lrn_c c y p (.node b x q r) h2 m2 w2 (by rw [HP.out]; exact hC2) hP2 hN2 ncp (by simp only [fp, List.mem_cons, List.mem_append, not_or]; exact ⟨fun h => nbc h.symm, ncq, ncr⟩) (by omega) (by rw [hgt_node]; omega)
  with_reducible refine k2.mono ?_
  rintro e w3 ⟨rfl, hN3, hO4⟩
  go_wp2
  go_ret
  exact ⟨rfl, hN3, hO3.trans (hO4.mono fun k hk => .inr hk)⟩
set_option maxHeartbeats 2000000 in
theorem trnR_c (b c : Nat) (x y : It) (p q r : Tr) (h h2 : Int) (m m2 : It) (w : World) (hb : NC w b x (pt r) (.pointer (some ⟨c, 0, none⟩)) h m) (hc : NC w c y (pt q) (pt p) h2 m2) (hp : NT w p) (hq : NT w q) (hr : NT w r)
    (hnd : (b :: c :: (fp p ++ fp q ++ fp r)).Nodup) (gp : hgt p ≤ 1000) (gq : hgt q ≤ 1000) (gr : hgt r ≤ 1000) :
    Calls Try.prog 90 #[.pointer (some ⟨b, 0, none⟩), .func (.func 85) #[] #[], .func (.func 84) #[] #[]] w fun e w' => e = .returned (.pointer (some ⟨c, 0, none⟩)) ∧ NT w' (.node c y (.node b x r q) p) ∧ Only (fun k => k = b ∨ k = c) w w' := by
  simp only [List.nodup_cons, List.mem_cons, List.mem_append, not_or] at hnd
  obtain ⟨⟨nbc, ⟨nbp, nbq⟩, nbr⟩, ⟨⟨ncp, ncq⟩, ncr⟩, -⟩ := hnd
  obtain ⟨up, hup⟩ := pt_ptr p
  obtain ⟨uq, huq⟩ := pt_ptr q
  obtain ⟨ur, hur⟩ := pt_ptr r
  rw [hur] at hb
  rw [hup, huq] at hc
  have HP := Lib.hid hup
  have HQ := Lib.hid huq
  have HR := Lib.hid hur
  have HB := Lib.hid hb
  have HC := Lib.hid hc
  have e1 := hb.c5
  have e2 := hc.c4
  have f1 := hb.fz 5
  have f2 := hc.fz 4
  have l1 := hb.lt
  have l2 := hc.lt
  clear hup huq hur hb hc
  go_enter Try.func90, Try.ntmps90
  go_wp2_with (first
    | (go_at_call 84; (with_reducible refine (sd1_c _ _).mono ?_); rintro e w' ⟨rfl, rfl⟩)
    | (go_at_call 85; (with_reducible refine (sd2_c _ _).mono ?_); rintro e w' ⟨rfl, rfl⟩))
  have hB1 := (HB.out.setR (.pointer uq)).only ((Only.refl (fun k => k = c) _).setOne 4 none (.pointer (some ⟨b, 0, none⟩))) nbc
  have hC1 := (HC.out.only ((Only.refl (fun k => k = b) w).setOne 5 none (.pointer uq)) (fun h => nbc h.symm)).setL (.pointer (some ⟨b, 0, none⟩))
  have hP1 := (hp.set (o := 5) (v := .pointer uq) nbp).set (o := 4) (v := .pointer (some ⟨b, 0, none⟩)) ncp
  have hQ1 := (hq.set (o := 5) (v := .pointer uq) nbq).set (o := 4) (v := .pointer (some ⟨b, 0, none⟩)) ncq
  have hR1 := (hr.set (o := 5) (v := .pointer uq) nbr).set (o := 4) (v := .pointer (some ⟨b, 0, none⟩)) ncr
  have hO1 := ((Only.refl (fun k => k = b ∨ k = c) w).setCell (p := ⟨b, 5, none⟩) (.inl (.inl rfl)) (.pointer uq)).setCell (p := ⟨c, 4, none⟩) (.inl (.inr rfl)) (.pointer (some ⟨b, 0, none⟩))
  have k1 := lrn_c b x r q h m _ (by rw [HR.out, HQ.out]; exact hB1) hR1 hQ1 nbr nbq (by omega) (by omega)
  with_reducible refine k1.mono ?_
  rintro e w2 ⟨rfl, hN2, hO2⟩
  have hO3 := hO1.trans (hO2.mono fun k hk => .inl hk)
  have hC2 := hC1.only hO2 (fun h => nbc h.symm)
  have hP2 := NT.only hO2 hP1 (fun k hk h => by subst h; exact nbp hk)
  clear e1 e2 f1 f2 l1 l2
  go_wp2_with fail
  have k2 := lrn_c c y (.node b x r q) p h2 m2 w2 (by rw [HP.out]; exact hC2) hN2 hP2 (by simp only [fp, List.mem_cons, List.mem_append, not_or]; exact ⟨fun h => nbc h.symm, ncr, ncq⟩) ncp (by rw [hgt_node]; omega) (by omega)
  with_reducible refine k2.mono ?_
  rintro e w3 ⟨rfl, hN3, hO4⟩
  go_wp2
  go_ret
  exact ⟨rfl, hN3, hO3.trans (hO4.mono fun k hk => .inr hk)⟩
end Go.Proofs.Ytikmdkmejbcmmaa
