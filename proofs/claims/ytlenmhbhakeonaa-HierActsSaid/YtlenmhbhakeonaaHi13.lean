/- Whether a child shares. -/
import Derived.Test.YtlenmhbhakeonaaHi12
import Derived.Test.YtlenmhbhakeonaaEv1
namespace Go.Proofs.Ytlenmhbhakeonaa
set_option linter.unusedVariables false
set_option linter.unusedSimpArgs false
set_option maxRecDepth 100000
open Go.RowKit Fg Reg Go.Maps
attribute [local irreducible] Reg.wE VR

theorem own_ints {w : World} {base n c : Nat} {ao : Option Addr} {C : List Int} (h : w.ownsRow base 3 1 (.slice ao n c) n (C.map (Value.int .i64))) : n = C.length ∧ IntsV w ao C := by
  have hn : n = C.length := by have := h.1; simpa using this.symm
  refine ⟨hn, fun k hk => ?_⟩
  rcases h.2 with ⟨_, h0⟩ | ⟨g, cap, cur, hv, hb, hg, hc, hm, hs, ht⟩
  · omega
  · simp only [Value.slice.injEq] at hv
    obtain ⟨rfl, -, -⟩ := hv
    refine ⟨g, 0, rfl, (Array.getElem?_eq_some_iff.1 hg).1, ?_⟩
    rw [cell_of_row w g (0 + k) cur _ _ hg, Nat.zero_add]
    have h1 : (cur.toList.take (n * 1))[k]? = cur.toList[k]? := by rw [List.getElem?_take]; simp; omega
    rw [← Array.getElem?_toList, ← h1, ht]
    simp [hk]
theorem cs1_c {z : World} {tb mb cb : Nat} {f : Int → Option Cls} (h : HT z tb mb f) (hcb : z.cell? ⟨cb, 0, none⟩ = some (.pointer (some ⟨tb, 0, none⟩))) (hl : cb < z.heap.size) {x : Int} (hx : iok x) {c : Cls} (hc : f x = some c) (hin : CIn c) :
    Calls Try.prog 102 #[.int .i64 x, .pointer (some ⟨cb, 0, none⟩)] z fun ee w' => ee = .returned (.bool (sh1 c)) ∧ Below z.heap.size z w' := by
  have c0 := h.c0
  have lt := h.lt
  have hl0 := h.look hx false
  rw [hc] at hl0
  have hk : (Instr.lookup 108 (.map (some mb)) (.int .i64 x) false).run Try.prog z = .ok (.agg #[.int .i64 (c).id, .int .i64 (c).par, .bool (c).leaf, .int .u64 (c).ra, .int .u64 (c).rb, .int .u64 (c).rc, .int .u64 (c).la, .int .u64 (c).lb, .int .u64 (c).lc, .int .u64 (c).ua, .int .u64 (c).ub, .int .u64 (c).uc, .int .i64 (c).pk, .int .i64 (c).bt]) z := hl0
  have K := Lib.hid (fun z' => cshares_c hin z')
  clear hl0 h hc
  go_enter Try.func102, Try.ntmps102
  go_wp2_with (first | go_guarded | (go_at_call 73; (with_reducible refine (K.out _).mono ?_); rintro _ w1 ⟨rfl, hbel⟩))
  refine bodyPost_ret (v := (.bool (sh1 c))) (by simp [results, Try.results102, go_sem, *]) rfl ⟨rfl, ?_⟩
  first | (with_reducible assumption) | (repeat' (first | assumption | exact Below.refl _ _ | refine Below.setCell ?_ (by first | (simp; done) | omega | (simp; omega)) _ | refine Below.alloc ?_ (by first | (simp; done) | omega | (simp; omega)) _ | refine Below.drew ?_ | refine below_drewN ?_ _))
theorem any_take {α : Type} (p : α → Bool) (C : List α) (k : Nat) (h : k < C.length) (h0 : (C.take k).any p = false) : (C.take (k + 1)).any p = p C[k] := by
  rw [take_snoc'' C k h, List.any_append, h0]; simp
theorem any_of {α : Type} (p : α → Bool) {C : List α} {k : Nat} (h : k < C.length) (he : p C[k] = true) : C.any p = true := List.any_eq_true.2 ⟨C[k], List.getElem_mem h, he⟩
def shx (f : Int → Option Cls) (x : Int) : Bool := sh1 (gcl (f x))
set_option maxHeartbeats 4000000 in
theorem ixf_c {w : World} {tb mb cb : Nat} {f : Int → Option Cls} (h : HT w tb mb f) (hcb : w.cell? ⟨cb, 0, none⟩ = some (.pointer (some ⟨tb, 0, none⟩))) (hl : cb < w.heap.size) (C : List Int) (ao : Option Addr) (cap : Nat) (hI : IntsV w ao C) (hC : ∀ x ∈ C, iok x ∧ ∃ c, f x = some c ∧ CIn c) (hn : C.length ≤ 1000) :
    Calls Try.prog 121 #[.slice ao C.length cap, .func (.func 102) #[] #[.pointer (some ⟨cb, 0, none⟩)]] w fun e w' => ∃ i : Int, e = .returned (.int .i64 i) ∧ decide (0 ≤ i) = C.any (shx f) ∧ Below w.heap.size w w' := by
  have H := Lib.hid h
  have HCB := Lib.hid hcb
  have HI := Lib.hid hI
  have HC := Lib.hid hC
  obtain ⟨m, hm⟩ : ∃ m, C.length = m := ⟨_, rfl⟩
  rw [hm] at hn ⊢
  have HM := Lib.hid hm
  clear h hcb hI hC hm
  go_enter Try.func121, Try.ntmps121
  go_wp2_with fail
  go_loopg [8] m (fun k9 s8 wr => ∃ k : Nat, s8 = .int .i64 k ∧ k ≤ m ∧ (C.take k).any (shx f) = false ∧ Below w.heap.size w wr ∧ m - k ≤ k9)
  case atStart => exact ⟨0, rfl, Nat.zero_le _, rfl, Below.refl _ _, by omega⟩
  case round =>
    obtain ⟨k, rfl, hk, hno, hB, hk9⟩ := hrel
    have HB := Lib.hid hB
    by_cases hlt : k < m
    · have hlC : k < C.length := by rw [HM.out]; exact hlt
      obtain ⟨b, o, rfl, hb, hcell⟩ := HI.out k hlC
      obtain ⟨hx, c, hc, hin⟩ := HC.out C[k] (List.getElem_mem hlC)
      have hat := any_take (shx f) C k hlC hno
      have hof := any_of (shx f) hlC
      have hsx : shx f C[k] = sh1 c := by unfold shx; rw [hc]; rfl
      rw [hsx] at hat hof
      have hce := (hB.cell (p := ⟨b, o + k, none⟩) hb).trans hcell
      obtain ⟨x, hxe⟩ : ∃ x, C[k] = x := ⟨_, rfl⟩
      rw [hxe] at hx hc hce
      have K := Lib.hid (fun (z : World) (hz : Below w.heap.size w z) => cs1_c (H.out.below hz) ((hz.cell (p := ⟨cb, 0, none⟩) hl).trans HCB.out) (Nat.lt_of_lt_of_le hl hz.size) hx hc hin)
      have HAT := Lib.hid hat
      have HOF := Lib.hid hof
      have hbs := hB.size
      clear hat hof hno hcell hsx hxe hx hc hin
      cases hs : sh1 c with
      | true =>
        rw [hs] at K
        go_wp2_with (first | go_guarded | (go_at_call 102; (with_reducible refine (K.out _ HB.out).mono ?_); rintro _ w1 ⟨rfl, hbel⟩; have HB1 := Lib.hid (HB.out.trans (hbel.mono HB.out.size)); clear hbel))
        go_ret
        exact ⟨_, rfl, by rw [HOF.out hs]; simp, HB1.out⟩
      | false =>
        rw [hs] at K
        have HA2 : Hid ((C.take (k + 1)).any (shx f) = false) := Lib.hid (by rw [HAT.out, hs])
        go_wp2_with (first | go_guarded | (go_at_call 102; (with_reducible refine (K.out _ HB.out).mono ?_); rintro _ w1 ⟨rfl, hbel⟩; have HB1 := Lib.hid (HB.out.trans (hbel.mono HB.out.size)); clear hbel))
        go_roundg (m - (k + 1))
        case rel => exact ⟨k + 1, by go_num, by omega, HA2.out, HB1.out, Nat.le_refl _⟩
        case measure => omega
    · obtain rfl : k = m := by omega
      have hno2 : C.any (shx f) = false := by rw [← HM.out, List.take_length] at hno; exact hno
      have HN := Lib.hid hno2
      clear hno hno2
      go_wp2_with (first | go_guarded)
      go_ret
      exact ⟨_, rfl, by rw [HN.out]; rfl, HB.out⟩
theorem cnf_c {w : World} {tb mb cb : Nat} {f : Int → Option Cls} (h : HT w tb mb f) (hcb : w.cell? ⟨cb, 0, none⟩ = some (.pointer (some ⟨tb, 0, none⟩))) (hl : cb < w.heap.size) (C : List Int) (ao : Option Addr) (cap : Nat) (hI : IntsV w ao C) (hC : ∀ x ∈ C, iok x ∧ ∃ c, f x = some c ∧ CIn c) (hn : C.length ≤ 1000) :
    Calls Try.prog 101 #[.slice ao C.length cap, .func (.func 102) #[] #[.pointer (some ⟨cb, 0, none⟩)]] w fun ee w' => ee = .returned (.bool (C.any (shx f))) ∧ Below w.heap.size w w' := by
  have K := Lib.hid (ixf_c h hcb hl C ao cap hI hC hn)
  obtain ⟨r, hr⟩ : ∃ r, C.any (shx f) = r := ⟨_, rfl⟩
  obtain ⟨m, hm⟩ : ∃ m, C.length = m := ⟨_, rfl⟩
  rw [hr, hm] at K
  rw [hr, hm]
  clear h hcb hI hC hr
  go_enter Try.func101, Try.ntmps101
  go_wp2_with (first | go_guarded | (go_at_call 121; (with_reducible refine K.out.mono ?_); rintro _ w1 ⟨i, rfl, hi, hbel⟩; have HB := Lib.hid hbel; clear hbel))
  go_ret
  exact ⟨rfl, HB.out⟩
theorem hcs_c {w : World} {tb mb : Nat} {f : Int → Option Cls} (h : HT w tb mb f) (num : Int) (L : List Int) (hL : L.Pairwise (· < ·)) (hm : ∀ x, (f x).isSome = true ↔ x ∈ L) (hn : L.length ≤ 1000) (hok : ∀ x ∈ L, iok x) (hin : ∀ x c, f x = some c → CIn c) :
    Calls Try.prog 75 #[.pointer (some ⟨tb, 0, none⟩), .int .i64 num] w fun ee w' => ee = .returned (.bool ((L.filter (sel f (fun c => c.par == num))).any (shx f))) ∧ Below w.heap.size w w' := by
  have hb0 : Below w.heap.size w (w.alloc (.cells #[.pointer (some ⟨tb, 0, none⟩)] 24)) := by (repeat' (first | assumption | exact Below.refl _ _ | refine Below.setCell ?_ (by first | (simp; done) | omega | (simp; omega)) _ | refine Below.alloc ?_ (by first | (simp; done) | omega | (simp; omega)) _ | refine Below.drew ?_ | refine below_drewN ?_ _))
  have hT : HT (w.alloc (.cells #[.pointer (some ⟨tb, 0, none⟩)] 24)) tb mb f := h.below hb0
  have K1 := Lib.hid (children_c hT num L hL hm hn hok)
  have hsub : ∀ x ∈ L.filter (sel f (fun c => c.par == num)), iok x ∧ ∃ c, f x = some c ∧ CIn c := fun x hx => by
    have hxL := (List.mem_filter.1 hx).1
    refine ⟨hok x hxL, ?_⟩
    obtain ⟨c, hc⟩ := Option.isSome_iff_exists.1 ((hm x).2 hxL)
    exact ⟨c, hc, hin x c hc⟩
  have hlen : (L.filter (sel f (fun c => c.par == num))).length ≤ 1000 := Nat.le_trans (List.length_filter_le _ _) hn
  obtain ⟨C, hC⟩ : ∃ C, L.filter (sel f (fun c => c.par == num)) = C := ⟨_, rfl⟩
  rw [hC] at hsub hlen K1 ⊢
  have c0 : (w.alloc (.cells #[.pointer (some ⟨tb, 0, none⟩)] 24)).cell? ⟨w.heap.size, 0, none⟩ = some (.pointer (some ⟨tb, 0, none⟩)) := by simp [go_sem]
  have HC0 := Lib.hid c0
  have HT0 := Lib.hid hT
  have HSUB := Lib.hid hsub
  have HLEN := Lib.hid hlen
  obtain ⟨r, hr⟩ : ∃ r, C.any (shx f) = r := ⟨_, rfl⟩
  have HR := Lib.hid hr
  rw [hr]
  clear h hm hok hin hT hb0 hC hsub hlen c0 hr
  go_enter Try.func75, Try.ntmps75
  go_wp2_with (first
    | go_guarded
    | (go_at_call 101; (with_reducible refine (K2.out).mono ?_); rintro _ w2 ⟨rfl, hbel⟩; have HB2 := Lib.hid (HB1.out.trans (hbel.mono HB1.out.size)); clear hbel)
    | (go_at_call 25; (with_reducible refine K1.out.mono ?_); rintro _ w1 ⟨v, rfl, hrow, hbel⟩; obtain ⟨ao, cp, rfl⟩ := row_form hrow; have hiv := (own_ints hrow).2; have K2 := Lib.hid (by have := cnf_c (HT0.out.below hbel) ((hbel.cell (p := ⟨w.heap.size, 0, none⟩) (by simp)).trans HC0.out) (Nat.lt_of_lt_of_le (by simp) hbel.size) C ao cp hiv HSUB.out HLEN.out; rw [HR.out] at this; exact this); have HB1 : Hid (Below w.heap.size w w1) := Lib.hid ((Below.alloc (Below.refl _ _) (Nat.le_refl _) _).trans (hbel.mono (by simp))); clear hbel hrow hiv))
  go_ret
  exact ⟨rfl, HB2.out⟩
end Go.Proofs.Ytlenmhbhakeonaa
