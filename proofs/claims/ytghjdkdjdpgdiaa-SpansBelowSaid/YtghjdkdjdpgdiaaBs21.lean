/- Joined texts. -/
import Derived.Test.YtghjdkdjdpgdiaaBs0
import Derived.Test.YtghjdkdjdpgdiaaBs14
import Derived.Test.YtghjdkdjdpgdiaaBs20
set_option linter.unusedVariables false
set_option linter.unusedSimpArgs false
set_option maxRecDepth 100000
set_option maxHeartbeats 16000000
section
namespace Go.Proofs.Ytghjdkdjdpgdiaa
open Go.RowKit Fg Reg Go.Maps Go.Shelf
attribute [local irreducible] Reg.wE VR
def belL (f : Int → Option Cls) (L : List Int) (num : Int) : List Int := (L.filter (sel f Cls.leaf)).filter (fun x => !bel f num x)
theorem sbel_c {z : World} {tb mb : Nat} {f : Int → Option Cls} {L : List Int} (h : HT z tb mb f) (I : TI f L) (num : Int) :
  Calls Try.prog 29 #[.pointer (some ⟨tb, 0, none⟩), .int .i64 num] z fun e z' => ∃ ao cap, e = .returned (.slice ao (belL f L num).length cap) ∧ IntsV z' ao (belL f L num) ∧ Below z.heap.size z z' := by
 have hB0 : Below z.heap.size z ((z.alloc (.cells #[.pointer (some ⟨tb, 0, none⟩)] 25)).alloc (.cells #[.int .i64 num] 3)) := bub
 obtain ⟨W0, hW0⟩ : ∃ W0, ((z.alloc (.cells #[.pointer (some ⟨tb, 0, none⟩)] 25)).alloc (.cells #[.int .i64 num] 3)) = W0 := ⟨_, rfl⟩
 have hsz : W0.heap.size = z.heap.size + 2 := by rw [← hW0]; simp
 have c1 : W0.cell? ⟨z.heap.size, 0, none⟩ = some (.pointer (some ⟨tb, 0, none⟩)) := by rw [← hW0]; simp [go_sem]
 have c2 : W0.cell? ⟨z.heap.size + 1, 0, none⟩ = some (.int .i64 num) := by rw [← hW0]; simp [go_sem]
 rw [hW0] at hB0
 have hT := h.below hB0
 have HTA := Lib.hid hT
 obtain ⟨D, hD⟩ : ∃ D, L.filter (sel f Cls.leaf) = D := ⟨_, rfl⟩
 obtain ⟨n, hn⟩ : ∃ n, D.length = n := ⟨_, rfl⟩
 have hn64 : n ≤ 64 := by rw [← hn, ← hD]; exact Nat.le_trans (List.length_filter_le _ _) I.len
 have hiD : ∀ x ∈ D, iok x := fun x hx => I.iok x (by rw [← hD] at hx; exact (List.mem_filter.1 hx).1)
 have KL : Hid (Calls Try.prog 20 #[.pointer (some ⟨tb, 0, none⟩)] W0 fun e w' => ∃ v, e = .returned v ∧ w'.ownsRow (W0.heap.size + 1) 3 1 v n (D.map (Value.int .i64)) ∧ Below W0.heap.size W0 w') := Lib.hid (by
  have := leaves_c hT L I.srt I.mem (Nat.le_trans I.len (by decide)) I.iok
  rw [hD, hn] at this
  exact this)
 have KD : Hid (∀ x ∈ D, ∀ w, Only (fun k => W0.heap.size ≤ k) W0 w → Calls Try.prog 60 #[.int .i64 x, .pointer (some ⟨(z.heap.size + 1), 0, none⟩), .pointer (some ⟨z.heap.size, 0, none⟩)] w fun ee w' => ee = .returned (.bool (bel f num x)) ∧ Below w.heap.size w w') := Lib.hid (fun x hx w ho => sb1_c hT I (Nat.le_refl _) c2 c1 (by omega) (by omega) ho (hiD x hx))
 obtain ⟨R, hR⟩ : ∃ R, belL f L num = R := ⟨_, rfl⟩
 have hRD : D.filter (fun x => !bel f num x) = R := by rw [← hR, ← hD]; rfl
 rw [hR]
 have HRD := Lib.hid hRD
 have HN := Lib.hid hn
 have HB0 := Lib.hid hB0
 have HW0 := Lib.hid hW0
 have HSZ := Lib.hid hsz
 have C1 := Lib.hid c1
 have C2 := Lib.hid c2
 have hfin : ∀ w9, Only (fun k => W0.heap.size ≤ k) W0 w9 → Below z.heap.size z w9 := fun w9 h => HB0.out.trans ⟨h.1, h.2, h.3, h.4, fun k hk => h.5 k (by have := HSZ.out; omega) (by have := HSZ.out; omega)⟩
 have HFIN := Lib.hid hfin
 have l1 : z.heap.size < W0.heap.size := by omega
 have l2 : z.heap.size + 1 < W0.heap.size := by omega
 clear h I hT hB0 hD hn hiD hR hRD hfin hsz
 go_enter Try.func29, Try.ntmps29
 go_wp2_with (first
  | go_guarded
  | (go_at_call 20; (try rw [HW0.out]); (with_reducible refine KL.out.mono ?_); rintro _ w3 ⟨v, rfl, hr3, hbel⟩; obtain ⟨a3, k3, rfl⟩ := row_form hr3; have HR3 := Lib.hid hr3; have HO3 := Lib.hid (Only.of_below hbel : Only (fun k => W0.heap.size ≤ k) W0 w3); clear hr3 hbel))
 skip
 rcases a3 with _ | ad
 ·have hr3 := HR3.out
  rcases hr3.2 with ⟨h, h0⟩ | ⟨_, _, _, h, _⟩
  ·injection h with _ _ h3
   subst h3
   subst h0
   have hDn : D = [] := List.length_eq_zero_iff.1 HN.out
   have hR0 : R = [] := by rw [← HRD.out, hDn]; rfl
   subst hR0
   clear hr3 hDn
   go_wp2_with (first
    | go_guarded
    | (go_at_call 59; (with_reducible refine (tdlf_nil _ _).mono ?_); rintro _ w6 ⟨rfl, hbel⟩; have HO6 := Lib.hid (HO3.out.trans (Only.of_below hbel)); clear hbel))
   go_ret
   exact ⟨none, 0, rfl, fun k hk => absurd hk (Nat.not_lt_zero _), HFIN.out _ HO6.out⟩
  ·cases h
 ·have hr3 := HR3.out
  obtain ⟨b, rfl, hw3, hbb, hbl, hnk, hkm⟩ := own_wi hr3
  have KDEL := Lib.hid (delf_c (B := W0.heap.size) D KD.out n HN.out (by omega) b k3 hnk hkm (by omega) w3 HO3.out hw3 hbl)
  rw [HRD.out] at KDEL
  clear hr3 hw3 hbb hbl hkm
  go_wp2_with (first
   | go_guarded
   | (go_at_call 59; (with_reducible refine KDEL.out.mono ?_); rintro _ w6 ⟨rfl, hw6, ho6, hl6⟩; have HW6 := Lib.hid hw6; have HO6 := Lib.hid ho6; have HL6 := Lib.hid hl6; clear hw6 ho6 hl6))
  go_ret
  exact ⟨_, _, rfl, wi_ints HW6.out HL6.out, HFIN.out _ HO6.out⟩
theorem sbnil_c (num : Int) (w : World) : Calls Try.prog 29 #[.pointer none, .int .i64 num] w fun e z' => ∃ ao cap, e = .returned (.slice ao 0 cap) ∧ Below w.heap.size w z' := by
 have KL := Lib.hid leaves_nil
 have HB0 : Hid (Below w.heap.size w ((w.alloc (.cells #[.pointer none] 25)).alloc (.cells #[.int .i64 num] 3))) := Lib.hid bub
 go_enter Try.func29, Try.ntmps29
 go_wp2_with (first
  | go_guarded
  | (go_at_call 59; (with_reducible refine (tdlf_nil _ _).mono ?_); rintro _ w6 ⟨rfl, hbel⟩; have HB6 : Hid (Below w.heap.size w w6) := Lib.hid (HB3.out.trans (hbel.mono HB3.out.size)); clear hbel)
  | (go_at_call 20; (with_reducible refine (KL.out _).mono ?_); rintro _ w3 ⟨rfl, hbel⟩; have HB3 : Hid (Below w.heap.size w w3) := Lib.hid (HB0.out.trans (hbel.mono HB0.out.size)); clear hbel))
 go_ret
 exact ⟨none, 0, rfl, HB6.out⟩
theorem hasr_c (zs : List Int) (a : Option Addr) (c : Nat) (x : Int) (hn : zs.length ≤ 4611686018427387904) (w : World) (hc : IntsV w a zs) :
  Calls Try.prog 63 #[.slice a zs.length c, .int .i64 x] w fun ee w' => ee = .returned (.bool (has zs x)) ∧ w = w' := by
 go_enter Try.func63, Try.ntmps63
 go_wp2_with fail
 go_loop [9] (fun i => ∃ k : Nat, k ≤ zs.length ∧ i = .int .i64 k ∧ has (zs.take k) x = false) (fun i => zs.length - (intOf i).toNat)
 case atStart => exact ⟨0, Nat.zero_le _, rfl, rfl⟩
 case round =>
  obtain ⟨k, hk, rfl, hno⟩ := hrel
  by_cases hlt : k < zs.length
  ·obtain ⟨b, o, rfl, hb, hcell⟩ := hc k hlt
   have hs := has_succ zs x k hlt
   rw [hno, Bool.false_or] at hs
   by_cases he : zs[k] = x
   ·have hy := Lib.hid (has_of hlt he)
    have he' : (zs[k] == x) = true := by simp [he]
    clear hc hs hno he
    go_wp2
    go_ret
    exact ⟨by rw [hy.out]; rfl, rfl⟩
   ·have he' : (zs[k] == x) = false := by simp [he]
    have Hs := Lib.hid (show has (zs.take (k + 1)) x = false by rw [hs]; simp [he])
    clear hc hs hno he
    go_wp2
    go_round
    case rel => exact ⟨k + 1, by omega, by go_num, Hs.out⟩
    case measure => simp [intOf]; omega
  ·obtain rfl : k = zs.length := by omega
   rw [List.take_length] at hno
   have HN := Lib.hid hno
   clear hc hno
   go_wp2
   go_ret
   exact ⟨by rw [HN.out]; rfl, rfl⟩
theorem belL_eq {f : Int → Option Cls} (num : Int) : ∀ {L : List Int}, (∀ x ∈ L, ∃ c, f x = some c ∧ c.id = x) → ((rowsX f L).filter (fun c => c.leaf && (num == 0 || has (upl f 16 c.id) num))).map Cls.id = belL f L num
 | [], _ => rfl
 | x :: L, h => by
  obtain ⟨c, hc, hi⟩ := h x List.mem_cons_self
  have ih := belL_eq num (L := L) fun y hy => h y (List.mem_cons_of_mem _ hy)
  unfold rowsX belL at ih ⊢
  rw [List.map_cons, List.filter_cons, List.filter_cons]
  have h1 : sel f Cls.leaf x = c.leaf := by unfold sel; rw [hc]
  have h2 : gcl (f x) = c := by rw [hc]; rfl
  rw [h1, h2]
  cases hl : c.leaf
  ·simpa using ih
  ·have e : (!bel f num x) = (num == 0 || has (upl f 16 c.id) num) := by
    unfold bel
    rw [hi]
    cases (num == 0) <;> cases (has (upl f 16 x) num) <;> rfl
   rw [if_pos rfl, List.filter_cons, e]
   cases hp : (num == 0 || has (upl f 16 c.id) num)
   ·simpa using ih
   ·simp [ih, hi]
end Go.Proofs.Ytghjdkdjdpgdiaa
end
