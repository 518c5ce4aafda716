/- Acts. -/
import Derived.Test.YtikmdkmejbcmmaaVl7
import Derived.Test.YtikmdkmejbcmmaaEl8
namespace Go.Proofs.Ytikmdkmejbcmmaa
set_option linter.unusedVariables false
set_option linter.unusedSimpArgs false
set_option maxRecDepth 100000
open Go.RowKit Fg Reg
attribute [local irreducible] Reg.wE NT

theorem v_drop2 (tb mb a : Nat) (t : Tr) (L : List Rw) (i : Int) (z : World) (h : TBL z tb mb a t L) (hi : iok i) (hL : L.length ≤ 200) :
    Calls Try.prog 45 #[.pointer (some ⟨tb, 0, none⟩), .int .i64 i] z fun e w' => e = .returned (.int .i64 (dcd (rfd i L))) ∧ ∃ t', TBL w' tb mb a t' (dropL i L) ∧ Only (SB mb a t) z w' ∧ ∀ k ∈ fp t', k ∈ fp t ∨ z.heap.size ≤ k := by
  cases hr : rfd i L with
  | none =>
    refine (v_drop_n tb mb a t L i z h hi hr).mono ?_
    rintro e w' ⟨h1, h2⟩
    exact ⟨h1, t, by rw [drop_no hr]; exact h.below h2, Only.of_below h2, fun k hk => .inl hk⟩
  | some r =>
    obtain ⟨h1, h2⟩ := rfd_some hr
    subst h2
    refine (v_drop_y tb mb a t L r z h hi h1 hL).mono ?_
    rintro e w' ⟨g1, t', g2, g3, g4⟩
    exact ⟨g1, t', g2, g3, fun k hk => .inl (g4 k hk)⟩
set_option maxHeartbeats 32000000 in
theorem v_acts_c (l : List Bc) (n : Nat) (hln : l.length = n) (ad : Option Addr) (cap : Nat) (w : World) (hR : RwV Bc.cells 5 w ad l) (hbk : ∀ j, j < l.length → iok (nthB l j).id ∧ (nthB l j).a ≤ 18446744073709551615) (hn : n ≤ 80) :
    Calls Try.prog 9 #[.slice ad n cap] w fun ee w' => ee = .returned (.bool true) ∧ Below w.heap.size w w' := by
  have HR := Lib.hid hR
  have HLN := Lib.hid hln
  have HBK := Lib.hid hbk
  have D1 : decide (80 < (n : Int)) = false := decide_eq_false (by omega)
  have D1b : decide (80 < n) = false := decide_eq_false (by omega)
  clear hR hln hbk
  go_enter Try.func9, Try.ntmps9
  go_wp2_with (go_at_call 44; (with_reducible refine (v_new_c w).mono ?_); rintro _ w1 ⟨tb, mb, a, rfl, hO⟩; have HS0 := Lib.hid hO; clear hO)
  go_loopg [16, 4] n (fun k9 s19 s4 wr => ∃ (i N : Nat) (t : Tr) (L : List Rw) (ao : Option Addr) (cp : Nat), s19 = .int .i64 i ∧ s4 = .slice ao N cp ∧ i ≤ n ∧ n - i ≤ k9 ∧ N ≤ i ∧ L.length = N ∧ okR L ∧ ATL w wr tb mb a t L ao)
  case atStart => exact ⟨0, 0, .nil, [], none, 0, rfl, rfl, by omega, by omega, by omega, rfl, fun r hr => by simp at hr, HS0.out, RwV.nil _ _, fun ad h => by cases h⟩
  case round =>
    obtain ⟨i, N, t, L, ao, cp, rfl, rfl, hi, hk, hNi, hlt, hokr, hS⟩ := hrel
    have HS := Lib.hid hS
    have HLN2 := Lib.hid hlt
    have HOKR := Lib.hid hokr
    have HNI : Hid (¬ (wr.heap.size = tb ∨ SB mb a t wr.heap.size)) := Lib.hid fun h => absurd (hS.ot.tbl.lts _ h) (Nat.lt_irrefl _)
    clear hlt hokr
    by_cases hin : i < n
    · obtain ⟨pb, po, had, hpb, e0, e1, e2, e3, e4⟩ := bc_cells (HR.out.below hS.ot.hb) (i := i) (by rw [HLN.out]; exact hin)
      subst had
      have W4 : IntKind.i64.wrap ((i : Int) + 1) = ((i + 1 : Nat) : Int) := by rw [IntKind.wrap_i64]; omega
      have hbi := HBK.out i (by rw [HLN.out]; exact hin)
      obtain ⟨X, hX⟩ : ∃ X, nthB l i = X := ⟨_, rfl⟩
      rw [hX] at e0 e1 e2 e3 e4 hbi
      have HBI := Lib.hid hbi
      clear hX hS hbi
      have KFN := Lib.hid (fun z ad cp h => qfi_c L N HLN2.out (by omega) ad cp X.id z h)
      by_cases hkd : X.kd = 0
      · have hkb : (X.kd == 0) = true := by simpa using hkd
        have hkb2 : decide (X.kd = 0) = true := decide_eq_true hkd
        have hkb3 : (X.kd != 0) = false := by simpa using hkd
        clear hkd
        cases hf : rfd X.id L with
        | none =>
          have HFS : Hid ((rfd X.id L).isSome = false) := Lib.hid (by rw [hf]; rfl)
          have KDR := Lib.hid (fun z (h : TBL z tb mb a t L) => (show Calls Try.prog 45 #[.pointer (some ⟨tb, 0, none⟩), .int .i64 X.id] z fun e w' => e = .returned (.int .i64 6) ∧ ∃ t', TBL w' tb mb a t' (dropL X.id L) ∧ Only (SB mb a t) z w' ∧ ∀ k ∈ fp t', k ∈ fp t ∨ z.heap.size ≤ k by have h9 := v_drop2 tb mb a t L X.id z h HBI.out.1 (by have := HLN2.out; omega); rw [hf] at h9; exact h9))
          obtain ⟨N2, hN2⟩ : ∃ N2, (dropL X.id L).length = N2 := ⟨_, rfl⟩
          have hN2l : N2 ≤ N := by rw [← hN2, ← HLN2.out]; exact drop_len _ _
          have HL2 := Lib.hid hN2
          have HOK2 := Lib.hid (HOKR.out.drop X.id)
          have KWO := Lib.hid (fun z ad cp h => (show Calls Try.prog 34 #[.slice ad N cp, .int .i64 X.id] z fun e w' => (∃ ao c, e = .returned (.slice ao N2 c) ∧ RwV Rw.cells 3 w' ao (dropL X.id L) ∧ ∀ ad, ao = some ad → z.heap.size ≤ ad.block) ∧ Below z.heap.size z w' by have h9 := qwo_c L N HLN2.out (by omega) ad cp X.id z h; rw [hN2] at h9; exact h9))
          have KSM := Lib.hid (fun z ao cp (h : ∃ t1, ATL w z tb mb a t1 (dropL X.id L) ao) => (show Calls Try.prog 47 #[.pointer (some ⟨tb, 0, none⟩), .slice ao N2 cp, .int .u64 X.tk] z fun e w' => e = .returned (.bool true) ∧ Below z.heap.size z w' by obtain ⟨t1, h⟩ := h; exact v_same_c tb mb a t1 (dropL X.id L) N2 HL2.out (by omega) ao cp X.tk z h.ot.tbl HOK2.out h.rw))
          clear hf hN2
          go_wp2_with (first | go_guarded | (go_at_call 32; (with_reducible refine (KFN.out _ _ _ (HS.out.step (by (repeat' (first | assumption | exact Below.refl _ _ | refine Below.setCell ?_ (by first | (simp; done) | omega | (simp; omega)) _ | refine Below.alloc ?_ (by first | (simp; done) | omega | (simp; omega)) _ | refine Below.drew ?_ | refine below_drewN ?_ _)))).rw).mono ?_); rintro _ wk ⟨⟨r, rfl, hr⟩, hbel⟩; rw [HFS.out] at hr; have HS := Lib.hid ((HS.out.step (by (repeat' (first | assumption | exact Below.refl _ _ | refine Below.setCell ?_ (by first | (simp; done) | omega | (simp; omega)) _ | refine Below.alloc ?_ (by first | (simp; done) | omega | (simp; omega)) _ | refine Below.drew ?_ | refine below_drewN ?_ _)))).step hbel); obtain ⟨hcc, hff⟩ := bcell hbel; have hsz := hbel.size; (try simp at hsz); have HX : Hid (A5P X wr.heap.size wk) := Lib.hid (by (unfold A5P; ((repeat' apply And.intro) <;> first | (simp [go_sem, *]; done) | omega | (repeat' (first | with_reducible exact Below.refl _ _ | with_reducible assumption | ((with_reducible refine Below.drew ?_)) | ((with_reducible refine below_drewN ?_ _)) | ((with_reducible refine Below.alloc ?_ ?_ _); rotate_left; focus (first | omega | (simp; done) | (simp; omega))) | ((with_reducible refine Below.setCell ?_ ?_ _); rotate_left; focus (first | omega | (simp; done) | (simp; omega))) | ((with_reducible refine Below.trans ?_ (Below.mono (by with_reducible assumption) ?_)); rotate_left; focus (first | omega | (simp; done) | (simp; omega)))))))); obtain ⟨x0, x1, x2, x3, x4, x5⟩ := HX.out; clear hcc hff hbel) | (go_at_call 45; (with_reducible refine (KDR.out _ (HS.out.step (by (repeat' (first | assumption | exact Below.refl _ _ | refine Below.setCell ?_ (by first | (simp; done) | omega | (simp; omega)) _ | refine Below.alloc ?_ (by first | (simp; done) | omega | (simp; omega)) _ | refine Below.drew ?_ | refine below_drewN ?_ _)))).ot.tbl).mono ?_); rintro _ wk ⟨rfl, t1, hT9, hO9, hf9⟩; have HQ := Lib.hid (HS.out.step (by (repeat' (first | assumption | exact Below.refl _ _ | refine Below.setCell ?_ (by first | (simp; done) | omega | (simp; omega)) _ | refine Below.alloc ?_ (by first | (simp; done) | omega | (simp; omega)) _ | refine Below.drew ?_ | refine below_drewN ?_ _)))); have HX := Lib.hid ((HX.out.below (by (repeat' (first | assumption | exact Below.refl _ _ | refine Below.setCell ?_ (by first | (simp; done) | omega | (simp; omega)) _ | refine Below.alloc ?_ (by first | (simp; done) | omega | (simp; omega)) _ | refine Below.drew ?_ | refine below_drewN ?_ _)))).only hO9 (fun h => HNI.out (.inr h))); have HOT := Lib.hid (HQ.out.ot.turn hT9 hO9 hf9); have HRL := Lib.hid (HQ.out.rw.only hO9 (fun ad had h => HQ.out.ap ad had (.inr h))); (clear x0 x1 x2 x3 x4 x5); obtain ⟨x0, x1, x2, x3, x4, x5⟩ := HX.out; clear hT9 hO9 hf9 HS HQ) | (go_at_call 34; (with_reducible refine (KWO.out _ _ _ HRL.out).mono ?_); rintro _ wk ⟨⟨ao2, cp2, rfl, hr2, hlo2⟩, hbel⟩; have HS := Lib.hid (ATL.mk2 HOT.out hbel hr2 hlo2); have HX := Lib.hid ((HX.out.below (by (repeat' (first | assumption | exact Below.refl _ _ | refine Below.setCell ?_ (by first | (simp; done) | omega | (simp; omega)) _ | refine Below.alloc ?_ (by first | (simp; done) | omega | (simp; omega)) _ | refine Below.drew ?_ | refine below_drewN ?_ _)))).below hbel); (clear x0 x1 x2 x3 x4 x5); obtain ⟨x0, x1, x2, x3, x4, x5⟩ := HX.out; clear hbel hr2 hlo2) | (go_at_call 47; (with_reducible refine (KSM.out _ _ _ ⟨_, HS.out.step (by (repeat' (first | assumption | exact Below.refl _ _ | refine Below.setCell ?_ (by first | (simp; done) | omega | (simp; omega)) _ | refine Below.alloc ?_ (by first | (simp; done) | omega | (simp; omega)) _ | refine Below.drew ?_ | refine below_drewN ?_ _)))⟩).mono ?_); rintro _ wk ⟨rfl, hbel⟩; have HS := Lib.hid ((HS.out.step (by (repeat' (first | assumption | exact Below.refl _ _ | refine Below.setCell ?_ (by first | (simp; done) | omega | (simp; omega)) _ | refine Below.alloc ?_ (by first | (simp; done) | omega | (simp; omega)) _ | refine Below.drew ?_ | refine below_drewN ?_ _)))).step hbel); have HX := Lib.hid ((HX.out.below (by (repeat' (first | assumption | exact Below.refl _ _ | refine Below.setCell ?_ (by first | (simp; done) | omega | (simp; omega)) _ | refine Below.alloc ?_ (by first | (simp; done) | omega | (simp; omega)) _ | refine Below.drew ?_ | refine below_drewN ?_ _)))).below hbel); (clear x0 x1 x2 x3 x4 x5); obtain ⟨x0, x1, x2, x3, x4, x5⟩ := HX.out; clear hbel))
          go_roundg (n - (i + 1))
          case rel => exact ⟨i + 1, N2, _, dropL X.id L, _, _, by first | rfl | go_num | (congr 1; omega), rfl, by omega, Nat.le_refl _, by omega, HL2.out, HOK2.out, HS.out.step (by (repeat' (first | assumption | exact Below.refl _ _ | refine Below.setCell ?_ (by first | (simp; done) | omega | (simp; omega)) _ | refine Below.alloc ?_ (by first | (simp; done) | omega | (simp; omega)) _ | refine Below.drew ?_ | refine below_drewN ?_ _)))⟩
          case measure => omega
        | some y =>
          have HFS : Hid ((rfd X.id L).isSome = true) := Lib.hid (by rw [hf]; rfl)
          have KDR := Lib.hid (fun z (h : TBL z tb mb a t L) => (show Calls Try.prog 45 #[.pointer (some ⟨tb, 0, none⟩), .int .i64 X.id] z fun e w' => e = .returned (.int .i64 0) ∧ ∃ t', TBL w' tb mb a t' (dropL X.id L) ∧ Only (SB mb a t) z w' ∧ ∀ k ∈ fp t', k ∈ fp t ∨ z.heap.size ≤ k by have h9 := v_drop2 tb mb a t L X.id z h HBI.out.1 (by have := HLN2.out; omega); rw [hf] at h9; exact h9))
          obtain ⟨N2, hN2⟩ : ∃ N2, (dropL X.id L).length = N2 := ⟨_, rfl⟩
          have hN2l : N2 ≤ N := by rw [← hN2, ← HLN2.out]; exact drop_len _ _
          have HL2 := Lib.hid hN2
          have HOK2 := Lib.hid (HOKR.out.drop X.id)
          have KWO := Lib.hid (fun z ad cp h => (show Calls Try.prog 34 #[.slice ad N cp, .int .i64 X.id] z fun e w' => (∃ ao c, e = .returned (.slice ao N2 c) ∧ RwV Rw.cells 3 w' ao (dropL X.id L) ∧ ∀ ad, ao = some ad → z.heap.size ≤ ad.block) ∧ Below z.heap.size z w' by have h9 := qwo_c L N HLN2.out (by omega) ad cp X.id z h; rw [hN2] at h9; exact h9))
          have KSM := Lib.hid (fun z ao cp (h : ∃ t1, ATL w z tb mb a t1 (dropL X.id L) ao) => (show Calls Try.prog 47 #[.pointer (some ⟨tb, 0, none⟩), .slice ao N2 cp, .int .u64 X.tk] z fun e w' => e = .returned (.bool true) ∧ Below z.heap.size z w' by obtain ⟨t1, h⟩ := h; exact v_same_c tb mb a t1 (dropL X.id L) N2 HL2.out (by omega) ao cp X.tk z h.ot.tbl HOK2.out h.rw))
          clear hf hN2
          go_wp2_with (first | go_guarded | (go_at_call 32; (with_reducible refine (KFN.out _ _ _ (HS.out.step (by (repeat' (first | assumption | exact Below.refl _ _ | refine Below.setCell ?_ (by first | (simp; done) | omega | (simp; omega)) _ | refine Below.alloc ?_ (by first | (simp; done) | omega | (simp; omega)) _ | refine Below.drew ?_ | refine below_drewN ?_ _)))).rw).mono ?_); rintro _ wk ⟨⟨r, rfl, hr⟩, hbel⟩; rw [HFS.out] at hr; have HS := Lib.hid ((HS.out.step (by (repeat' (first | assumption | exact Below.refl _ _ | refine Below.setCell ?_ (by first | (simp; done) | omega | (simp; omega)) _ | refine Below.alloc ?_ (by first | (simp; done) | omega | (simp; omega)) _ | refine Below.drew ?_ | refine below_drewN ?_ _)))).step hbel); obtain ⟨hcc, hff⟩ := bcell hbel; have hsz := hbel.size; (try simp at hsz); have HX : Hid (A5P X wr.heap.size wk) := Lib.hid (by (unfold A5P; ((repeat' apply And.intro) <;> first | (simp [go_sem, *]; done) | omega | (repeat' (first | with_reducible exact Below.refl _ _ | with_reducible assumption | ((with_reducible refine Below.drew ?_)) | ((with_reducible refine below_drewN ?_ _)) | ((with_reducible refine Below.alloc ?_ ?_ _); rotate_left; focus (first | omega | (simp; done) | (simp; omega))) | ((with_reducible refine Below.setCell ?_ ?_ _); rotate_left; focus (first | omega | (simp; done) | (simp; omega))) | ((with_reducible refine Below.trans ?_ (Below.mono (by with_reducible assumption) ?_)); rotate_left; focus (first | omega | (simp; done) | (simp; omega)))))))); obtain ⟨x0, x1, x2, x3, x4, x5⟩ := HX.out; clear hcc hff hbel) | (go_at_call 45; (with_reducible refine (KDR.out _ (HS.out.step (by (repeat' (first | assumption | exact Below.refl _ _ | refine Below.setCell ?_ (by first | (simp; done) | omega | (simp; omega)) _ | refine Below.alloc ?_ (by first | (simp; done) | omega | (simp; omega)) _ | refine Below.drew ?_ | refine below_drewN ?_ _)))).ot.tbl).mono ?_); rintro _ wk ⟨rfl, t1, hT9, hO9, hf9⟩; have HQ := Lib.hid (HS.out.step (by (repeat' (first | assumption | exact Below.refl _ _ | refine Below.setCell ?_ (by first | (simp; done) | omega | (simp; omega)) _ | refine Below.alloc ?_ (by first | (simp; done) | omega | (simp; omega)) _ | refine Below.drew ?_ | refine below_drewN ?_ _)))); have HX := Lib.hid ((HX.out.below (by (repeat' (first | assumption | exact Below.refl _ _ | refine Below.setCell ?_ (by first | (simp; done) | omega | (simp; omega)) _ | refine Below.alloc ?_ (by first | (simp; done) | omega | (simp; omega)) _ | refine Below.drew ?_ | refine below_drewN ?_ _)))).only hO9 (fun h => HNI.out (.inr h))); have HOT := Lib.hid (HQ.out.ot.turn hT9 hO9 hf9); have HRL := Lib.hid (HQ.out.rw.only hO9 (fun ad had h => HQ.out.ap ad had (.inr h))); (clear x0 x1 x2 x3 x4 x5); obtain ⟨x0, x1, x2, x3, x4, x5⟩ := HX.out; clear hT9 hO9 hf9 HS HQ) | (go_at_call 34; (with_reducible refine (KWO.out _ _ _ HRL.out).mono ?_); rintro _ wk ⟨⟨ao2, cp2, rfl, hr2, hlo2⟩, hbel⟩; have HS := Lib.hid (ATL.mk2 HOT.out hbel hr2 hlo2); have HX := Lib.hid ((HX.out.below (by (repeat' (first | assumption | exact Below.refl _ _ | refine Below.setCell ?_ (by first | (simp; done) | omega | (simp; omega)) _ | refine Below.alloc ?_ (by first | (simp; done) | omega | (simp; omega)) _ | refine Below.drew ?_ | refine below_drewN ?_ _)))).below hbel); (clear x0 x1 x2 x3 x4 x5); obtain ⟨x0, x1, x2, x3, x4, x5⟩ := HX.out; clear hbel hr2 hlo2) | (go_at_call 47; (with_reducible refine (KSM.out _ _ _ ⟨_, HS.out.step (by (repeat' (first | assumption | exact Below.refl _ _ | refine Below.setCell ?_ (by first | (simp; done) | omega | (simp; omega)) _ | refine Below.alloc ?_ (by first | (simp; done) | omega | (simp; omega)) _ | refine Below.drew ?_ | refine below_drewN ?_ _)))⟩).mono ?_); rintro _ wk ⟨rfl, hbel⟩; have HS := Lib.hid ((HS.out.step (by (repeat' (first | assumption | exact Below.refl _ _ | refine Below.setCell ?_ (by first | (simp; done) | omega | (simp; omega)) _ | refine Below.alloc ?_ (by first | (simp; done) | omega | (simp; omega)) _ | refine Below.drew ?_ | refine below_drewN ?_ _)))).step hbel); have HX := Lib.hid ((HX.out.below (by (repeat' (first | assumption | exact Below.refl _ _ | refine Below.setCell ?_ (by first | (simp; done) | omega | (simp; omega)) _ | refine Below.alloc ?_ (by first | (simp; done) | omega | (simp; omega)) _ | refine Below.drew ?_ | refine below_drewN ?_ _)))).below hbel); (clear x0 x1 x2 x3 x4 x5); obtain ⟨x0, x1, x2, x3, x4, x5⟩ := HX.out; clear hbel))
          go_roundg (n - (i + 1))
          case rel => exact ⟨i + 1, N2, _, dropL X.id L, _, _, by first | rfl | go_num | (congr 1; omega), rfl, by omega, Nat.le_refl _, by omega, HL2.out, HOK2.out, HS.out.step (by (repeat' (first | assumption | exact Below.refl _ _ | refine Below.setCell ?_ (by first | (simp; done) | omega | (simp; omega)) _ | refine Below.alloc ?_ (by first | (simp; done) | omega | (simp; omega)) _ | refine Below.drew ?_ | refine below_drewN ?_ _)))⟩
          case measure => omega
      · have hkb : (X.kd == 0) = false := by simpa using hkd
        have hkb2 : decide (X.kd = 0) = false := decide_eq_false hkd
        have hkb3 : (X.kd != 0) = true := by simpa using hkd
        clear hkd
        have KST := Lib.hid (fun z (h : TBL z tb mb a t L) => (show Calls Try.prog 46 #[.pointer (some ⟨tb, 0, none⟩), .int .i64 X.id, .int .u64 X.a, .int .u64 X.b] z fun e w' => e = .returned (.int .i64 0) ∧ ∃ t', TBL w' tb mb a t' (setL X.rw L) ∧ Only (SB mb a t) z w' ∧ ∀ k ∈ fp t', k ∈ fp t ∨ z.heap.size ≤ k from v_set_c tb mb a t L X.rw z h HBI.out.1 (by have := HLN2.out; omega)))
        obtain ⟨N2, hN2⟩ : ∃ N2, (setL X.rw L).length = N2 := ⟨_, rfl⟩
        have hN2l : N2 ≤ N + 1 := by rw [← hN2, ← HLN2.out]; exact set_len _ _ HS.out.ot.tbl.rs
        have HL2 := Lib.hid hN2
        have HOK2 := Lib.hid (HOKR.out.set (x := X.rw) HBI.out.1 HBI.out.2)
        have HRS9 := Lib.hid HS.out.ot.tbl.rs
        have KSE := Lib.hid (fun z ad cp h => (show Calls Try.prog 36 #[.slice ad N cp, .agg #[.int .i64 X.id, .int .u64 X.a, .int .u64 X.b]] z fun e w' => (∃ ao c, e = .returned (.slice ao N2 c) ∧ RwV Rw.cells 3 w' ao (setL X.rw L) ∧ ∀ ad, ao = some ad → z.heap.size ≤ ad.block) ∧ Below z.heap.size z w' by have h9 := qse_c L N HLN2.out (by omega) HRS9.out ad cp X.rw z h; rw [hN2] at h9; exact h9))
        have KSM := Lib.hid (fun z ao cp (h : ∃ t1, ATL w z tb mb a t1 (setL X.rw L) ao) => (show Calls Try.prog 47 #[.pointer (some ⟨tb, 0, none⟩), .slice ao N2 cp, .int .u64 X.tk] z fun e w' => e = .returned (.bool true) ∧ Below z.heap.size z w' by obtain ⟨t1, h⟩ := h; exact v_same_c tb mb a t1 (setL X.rw L) N2 HL2.out (by omega) ao cp X.tk z h.ot.tbl HOK2.out h.rw))
        clear hN2
        go_wp2_with (first | go_guarded | (go_at_call 32; (with_reducible refine (KFN.out _ _ _ (HS.out.step (by (repeat' (first | assumption | exact Below.refl _ _ | refine Below.setCell ?_ (by first | (simp; done) | omega | (simp; omega)) _ | refine Below.alloc ?_ (by first | (simp; done) | omega | (simp; omega)) _ | refine Below.drew ?_ | refine below_drewN ?_ _)))).rw).mono ?_); rintro _ wk ⟨⟨r, rfl, hr⟩, hbel⟩; clear hr; have HS := Lib.hid ((HS.out.step (by (repeat' (first | assumption | exact Below.refl _ _ | refine Below.setCell ?_ (by first | (simp; done) | omega | (simp; omega)) _ | refine Below.alloc ?_ (by first | (simp; done) | omega | (simp; omega)) _ | refine Below.drew ?_ | refine below_drewN ?_ _)))).step hbel); obtain ⟨hcc, hff⟩ := bcell hbel; have hsz := hbel.size; (try simp at hsz); have HX : Hid (A5P X wr.heap.size wk) := Lib.hid (by (unfold A5P; ((repeat' apply And.intro) <;> first | (simp [go_sem, *]; done) | omega | (repeat' (first | with_reducible exact Below.refl _ _ | with_reducible assumption | ((with_reducible refine Below.drew ?_)) | ((with_reducible refine below_drewN ?_ _)) | ((with_reducible refine Below.alloc ?_ ?_ _); rotate_left; focus (first | omega | (simp; done) | (simp; omega))) | ((with_reducible refine Below.setCell ?_ ?_ _); rotate_left; focus (first | omega | (simp; done) | (simp; omega))) | ((with_reducible refine Below.trans ?_ (Below.mono (by with_reducible assumption) ?_)); rotate_left; focus (first | omega | (simp; done) | (simp; omega)))))))); obtain ⟨x0, x1, x2, x3, x4, x5⟩ := HX.out; clear hcc hff hbel) | (go_at_call 46; (with_reducible refine (KST.out _ (HS.out.step (by (repeat' (first | assumption | exact Below.refl _ _ | refine Below.setCell ?_ (by first | (simp; done) | omega | (simp; omega)) _ | refine Below.alloc ?_ (by first | (simp; done) | omega | (simp; omega)) _ | refine Below.drew ?_ | refine below_drewN ?_ _)))).ot.tbl).mono ?_); rintro _ wk ⟨rfl, t1, hT9, hO9, hf9⟩; have HQ := Lib.hid (HS.out.step (by (repeat' (first | assumption | exact Below.refl _ _ | refine Below.setCell ?_ (by first | (simp; done) | omega | (simp; omega)) _ | refine Below.alloc ?_ (by first | (simp; done) | omega | (simp; omega)) _ | refine Below.drew ?_ | refine below_drewN ?_ _)))); have HX := Lib.hid ((HX.out.below (by (repeat' (first | assumption | exact Below.refl _ _ | refine Below.setCell ?_ (by first | (simp; done) | omega | (simp; omega)) _ | refine Below.alloc ?_ (by first | (simp; done) | omega | (simp; omega)) _ | refine Below.drew ?_ | refine below_drewN ?_ _)))).only hO9 (fun h => HNI.out (.inr h))); have HOT := Lib.hid (HQ.out.ot.turn hT9 hO9 hf9); have HRL := Lib.hid (HQ.out.rw.only hO9 (fun ad had h => HQ.out.ap ad had (.inr h))); (clear x0 x1 x2 x3 x4 x5); obtain ⟨x0, x1, x2, x3, x4, x5⟩ := HX.out; clear hT9 hO9 hf9 HS HQ) | (go_at_call 36; (with_reducible refine (KSE.out _ _ _ HRL.out).mono ?_); rintro _ wk ⟨⟨ao2, cp2, rfl, hr2, hlo2⟩, hbel⟩; have HS := Lib.hid (ATL.mk2 HOT.out hbel hr2 hlo2); have HX := Lib.hid ((HX.out.below (by (repeat' (first | assumption | exact Below.refl _ _ | refine Below.setCell ?_ (by first | (simp; done) | omega | (simp; omega)) _ | refine Below.alloc ?_ (by first | (simp; done) | omega | (simp; omega)) _ | refine Below.drew ?_ | refine below_drewN ?_ _)))).below hbel); (clear x0 x1 x2 x3 x4 x5); obtain ⟨x0, x1, x2, x3, x4, x5⟩ := HX.out; clear hbel hr2 hlo2) | (go_at_call 47; (with_reducible refine (KSM.out _ _ _ ⟨_, HS.out.step (by (repeat' (first | assumption | exact Below.refl _ _ | refine Below.setCell ?_ (by first | (simp; done) | omega | (simp; omega)) _ | refine Below.alloc ?_ (by first | (simp; done) | omega | (simp; omega)) _ | refine Below.drew ?_ | refine below_drewN ?_ _)))⟩).mono ?_); rintro _ wk ⟨rfl, hbel⟩; have HS := Lib.hid ((HS.out.step (by (repeat' (first | assumption | exact Below.refl _ _ | refine Below.setCell ?_ (by first | (simp; done) | omega | (simp; omega)) _ | refine Below.alloc ?_ (by first | (simp; done) | omega | (simp; omega)) _ | refine Below.drew ?_ | refine below_drewN ?_ _)))).step hbel); have HX := Lib.hid ((HX.out.below (by (repeat' (first | assumption | exact Below.refl _ _ | refine Below.setCell ?_ (by first | (simp; done) | omega | (simp; omega)) _ | refine Below.alloc ?_ (by first | (simp; done) | omega | (simp; omega)) _ | refine Below.drew ?_ | refine below_drewN ?_ _)))).below hbel); (clear x0 x1 x2 x3 x4 x5); obtain ⟨x0, x1, x2, x3, x4, x5⟩ := HX.out; clear hbel))
        go_roundg (n - (i + 1))
        case rel => exact ⟨i + 1, N2, _, setL X.rw L, _, _, by first | rfl | go_num | (congr 1; omega), rfl, by omega, Nat.le_refl _, by omega, HL2.out, HOK2.out, HS.out.step (by (repeat' (first | assumption | exact Below.refl _ _ | refine Below.setCell ?_ (by first | (simp; done) | omega | (simp; omega)) _ | refine Below.alloc ?_ (by first | (simp; done) | omega | (simp; omega)) _ | refine Below.drew ?_ | refine below_drewN ?_ _)))⟩
        case measure => omega
    · have hie : i = n := by omega
      subst hie
      go_wp2_with (first | go_guarded | (go_at_call 43; (with_reducible refine (v_two_c _).mono ?_); rintro _ w9 ⟨rfl, hbel⟩))
      go_ret
      exact ⟨rfl, HS.out.ot.hb.trans (hbel.mono HS.out.ot.hb.size)⟩
theorem vtreeActs_law (v : Value) {w : World} (hs : Op.FlatSlice w 5 [.int .i64, .int .i64, .int .u64, .int .u64, .int .u64] v) :
    Calls Try.prog 9 #[v] w fun ee w' => ee = .returned (.bool true) ∧ Below w.heap.size w w' := by
  obtain ⟨ad, l, cap, rfl, hR, hok⟩ := bcs_of hs
  by_cases hn : l.length ≤ 80
  · exact v_acts_c l l.length rfl ad cap w hR hok hn
  · obtain ⟨n, hln⟩ : ∃ n, l.length = n := ⟨_, rfl⟩
    rw [hln] at hn ⊢
    have D1 : decide (80 < (n : Int)) = true := decide_eq_true (by omega)
    have K := Lib.hid (v_two_c w)
    clear hs hR hln hn hok
    go_enter Try.func9, Try.ntmps9
    go_wp2_with (go_at_call 43; (with_reducible refine K.out.mono ?_); rintro _ w1 ⟨rfl, hbel⟩)
    go_ret
    exact ⟨rfl, by with_reducible assumption⟩
end Go.Proofs.Ytikmdkmejbcmmaa
