/- trace.number of any text. -/
import Derived.Test.YtdiniaokkdcihaaDoorTx3
namespace Go.Proofs.YtdiniaokkdcihaaDoor
set_option linter.unusedVariables false
set_option linter.unusedSimpArgs false
set_option maxRecDepth 100000
open Go.RowKit Fg Reg
attribute [local irreducible] Reg.wE StrIt

/-- Behind i signs, all of them digits: whether it went beyond the bound, and what it is. -/
def NSB (most : Int) (l : List UInt8) (i : Nat) (ov : Bool) (v : Int) : Prop :=
  0 ≤ v ∧ v < 18446744073709551616 ∧ (∀ j, (h : j < l.length) → j < i → isd l[j] = true) ∧ (if ov then most < (dval (l.take i) : Int) else v = dval (l.take i) ∧ v ≤ most)
theorem nsb_zero (most : Int) (h : 0 ≤ most) (l : List UInt8) : NSB most l 0 false 0 := ⟨by omega, by omega, fun j _ h => absurd h (by omega), by simp [dval]; exact h⟩
theorem nsb_next {most : Int} (h9 : 9 ≤ most) (hM : most < 18446744073709551616) {l : List UInt8} {i : Nat} {ov : Bool} {v : Int} (h : NSB most l i ov v) (hi : i < l.length) (hd : isd l[i] = true) (d : Int) (hdd : d = (l[i].toNat : Int) - 48) :
    NSB most l (i + 1) (ov || decide ((most - d) / 10 < v)) ((v * 10 + d) % 18446744073709551616) := by
  obtain ⟨h1, h2, h3, h4⟩ := h
  have hb := (isd_iff _).1 hd
  refine ⟨by omega, by omega, fun j hj hji => ?_, ?_⟩
  · by_cases e : j = i
    · subst e; exact hd
    · exact h3 j hj (by omega)
  · have hs := dval_step l i hi
    have hs' : (dval (l.take (i + 1)) : Int) = 10 * dval (l.take i) + d := by rw [hs]; omega
    rw [hs']
    cases ov with
    | true =>
      simp only [Bool.true_or, if_true]
      simp at h4; omega
    | false =>
      simp at h4
      by_cases hx : (most - d) / 10 < v
      · rw [decide_eq_true hx]; simp only [Bool.false_or, if_true]; omega
      · rw [decide_eq_false hx]; simp only [Bool.or_false, Bool.false_eq_true, if_false]; omega
theorem nsb_all {most : Int} {l : List UInt8} {ov : Bool} {v : Int} (h : NSB most l l.length ov v) : l.all isd = true := by
  rw [List.all_eq_true]
  intro x hx
  obtain ⟨j, hj, rfl⟩ := List.mem_iff_getElem.1 hx
  exact h.2.2.1 j hj hj
theorem nsb_end {most : Int} {l : List UInt8} {ov : Bool} {v : Int} (h : NSB most l l.length ov v) : if ov then most < (dval l : Int) else v = dval l ∧ v ≤ most := by
  have := h.2.2.2
  rwa [List.take_length] at this
theorem tnum_none (most : Int) (w : World) : Calls Tryd.prog 72 #[.string ⟨#[]⟩, .int .u64 most] w fun ee w' => ee = .returned (.tuple #[.int .u64 (0), .int .i64 (4)]) ∧ Below w.heap.size w w' := by
  go_enter Tryd.func72, Tryd.ntmps72
  go_wp2
  (go_ret2; refine ⟨?_, ?_⟩; (focus (exact rfl)); ((repeat' (first | with_reducible exact Below.refl _ _ | with_reducible assumption | ((with_reducible refine Below.drew ?_)) | ((with_reducible refine below_drewN ?_ _)) | ((with_reducible refine Below.alloc ?_ ?_ _); rotate_left; focus (first | omega | (simp; done) | (simp; omega))) | ((with_reducible refine Below.setCell ?_ ?_ _); rotate_left; focus (first | omega | (simp; done) | (simp; omega))) | ((with_reducible refine Below.trans ?_ (Below.mono (by with_reducible assumption) ?_)); rotate_left; focus (first | omega | (simp; done) | (simp; omega))))); done))
theorem tnum_zero (S : ByteArray) (hs : 1 < S.size) (h0 : (S[0]'(by omega)).toNat = 48) (most : Int) (w : World) : Calls Tryd.prog 72 #[.string S, .int .u64 most] w fun ee w' => ee = .returned (.tuple #[.int .u64 (0), .int .i64 (4)]) ∧ Below w.heap.size w w' := by
  have hE := not_empty (by omega : 0 < S.size)
  have hI : ∀ (h : 0 < S.size), (S[0]'h).toNat = 48 := fun _ => h0
  have d1 : decide ((1 : Int) < S.size) = true := by simp; omega
  have d2 : (0 : Int) < S.size := by omega
  clear h0
  go_enter Tryd.func72, Tryd.ntmps72
  go_wp2
  (go_ret2; refine ⟨?_, ?_⟩; (focus (exact rfl)); ((repeat' (first | with_reducible exact Below.refl _ _ | with_reducible assumption | ((with_reducible refine Below.drew ?_)) | ((with_reducible refine below_drewN ?_ _)) | ((with_reducible refine Below.alloc ?_ ?_ _); rotate_left; focus (first | omega | (simp; done) | (simp; omega))) | ((with_reducible refine Below.setCell ?_ ?_ _); rotate_left; focus (first | omega | (simp; done) | (simp; omega))) | ((with_reducible refine Below.trans ?_ (Below.mono (by with_reducible assumption) ?_)); rotate_left; focus (first | omega | (simp; done) | (simp; omega))))); done))
set_option maxHeartbeats 4000000 in
theorem tnum_loop (S : ByteArray) (hs : 0 < S.size) (hbig : S.size < 9223372036854775807) (most : Int) (hm0 : 9 ≤ most) (hm : most < 18446744073709551616) (w : World)
    (hc : (S.size = 1) ∨ (1 < S.size ∧ (S[0]'hs).toNat ≠ 48)) : Calls Tryd.prog 72 #[.string S, .int .u64 most] w fun ee w' => ee = .returned (.tuple #[.int .u64 (numV S.data.toList most), .int .i64 (numE S.data.toList most)]) ∧ Below w.heap.size w w' := by
  have hE := not_empty hs
  have hl := size_len S
  have hne : S.data.toList ≠ [] := by intro e; rw [e] at hl; simp at hl; omega
  have hhd : S.data.toList.head? = some 48 → S.data.toList.length = 1 := by
    intro e
    rcases hc with hc | ⟨hc, h0⟩
    · omega
    · exfalso; apply h0
      rw [List.head?_eq_getElem?, List.getElem?_eq_getElem (by omega)] at e
      have e2 := Option.some.inj e
      rw [byte_at S 0 hs] at e2
      rw [e2]; rfl
  have HH := Lib.hid (And.intro hne hhd)
  clear hhd hne
  obtain ⟨NV, hNV⟩ : ∃ NV, numV S.data.toList most = NV := ⟨_, rfl⟩
  obtain ⟨NE, hNE⟩ : ∃ NE, numE S.data.toList most = NE := ⟨_, rfl⟩
  rw [hNV, hNE]
  obtain ⟨x, hx⟩ : ∃ x : Nat, ∀ (h : 0 < S.size), (S[0]'h).toNat = x := ⟨(S[0]'hs).toNat, fun _ => rfl⟩
  have d2 : (0 : Int) < S.size := by omega
  rcases hc with hc | ⟨hc, h0⟩
  · have d1 : decide ((1 : Int) < S.size) = false := by simp; omega
    have d3 : True := trivial
    clear hc hx
    go_enter Tryd.func72, Tryd.ntmps72
    go_wp2_with (at_range; refine wpList_range_str rfl _ 9 rfl Tryd.underlying9 S rfl w.heap.size rfl ?_; intro w1 hit hB hz)
    simp only [Act.put, Nat.reduceAdd, List.setIfInBounds_toArray, List.set_cons_zero, List.set_cons_succ, List.nil_append, List.cons_append]
    go_loopw [6, 7] (fun v ov wr => ∃ (k : Nat) (vv : Int) (oo : Bool), k ≤ S.size ∧ v = .int .u64 vv ∧ ov = .bool oo ∧ NSB most S.data.toList k oo vv ∧ StrIt wr w.heap.size S k ∧ Below w.heap.size w wr ∧ w.heap.size < wr.heap.size) (fun _ _ z => S.size - posOf z w.heap.size)
    case atStart => exact ⟨0, 0, false, Nat.zero_le _, rfl, rfl, nsb_zero _ (by omega) _, hit, hB, by omega⟩
    case round =>
      obtain ⟨k, vv, oo, hk, rfl, rfl, hN, hI, hBr, hzr⟩ := hrel
      by_cases hlt : k < S.size
      · by_cases hdig : 48 ≤ (S[k]'hlt).toNat ∧ (S[k]'hlt).toNat ≤ 57
        · obtain ⟨hr, hst⟩ := dec_digit S k hlt hdig.2
          have hkl : k < S.data.toList.length := by omega
          have hN2 := nsb_next hm0 hm hN hkl (by rw [byte_at S k hlt, isd_iff]; exact hdig) _ (by rw [byte_at S k hlt])
          obtain ⟨d, hd⟩ : ∃ d : Int, d = ((S[k]'hlt).toNat : Int) - 48 := ⟨_, rfl⟩
          rw [← hd] at hN2
          have hdr : 0 ≤ d ∧ d ≤ 9 := by omega
          have hrr : ((Utf8.decode S k).1 : Int) = d + 48 := by omega
          have hv := hN.1
          have hv2 := hN.2.1
          have e48 : d + 48 - 48 = d := by omega
          have x1 : decide (d + 48 < 48) = false := by simp; omega
          have x2 : decide (57 < d + 48) = false := by simp; omega
          have W5 : IntKind.i32.wrap (d + 48 - 48) = d := by rw [IntKind.wrap_i32]; omega
          have W6 : IntKind.u64.wrap d = d := by rw [wrap_u64]; omega
          have W1 : IntKind.u64.wrap (most - d) = most - d := by rw [wrap_u64]; omega
          have W2 : IntKind.u64.wrap ((most - d).tdiv 10) = (most - d) / 10 := by rw [Int.tdiv_eq_ediv_of_nonneg (by omega), wrap_u64]; omega
          have W3 : IntKind.u64.wrap (IntKind.u64.wrap (vv * 10) + d) = (vv * 10 + d) % 18446744073709551616 := by rw [wrap_u64, wrap_u64]; omega
          have hHN := Lib.hid hN2
          have hHd := Lib.hid hdr
          clear hN2 hN hd hr hdig
          cases oo <;> (go_wp2_with (first
            | (at_next; refine wpList_next_str rfl _ rfl w.heap.size S k rfl hI hlt (d + 48) 1 hrr hst ?_; intro w2 hI2 hO2 hz2; have hB2 : Below w.heap.size w w2 := hO2.below hBr (by omega) (fun k hk => by omega))))
          all_goals exact ⟨⟨k + 1, _, _, by omega, rfl, rfl, by simpa using hHN.out, hI2, hB2, by omega⟩, by rw [hI2.pos, hI.pos]; omega⟩
        · have ho := dec_other S k hlt hdig
          obtain ⟨rn, hrn⟩ : ∃ rn : Int, ((Utf8.decode S k).1 : Int) = rn := ⟨_, rfl⟩
          rw [hrn] at ho
          have hf := num_form (l := S.data.toList) most (.inr (.inr ⟨k, by omega, by rw [byte_at S k hlt, Bool.eq_false_iff]; intro e; rw [isd_iff] at e; exact hdig e⟩))
          obtain rfl : NE = 4 := by rw [← hNE]; exact hf.1
          obtain rfl : NV = 0 := by rw [← hNV]; exact hf.2
          clear hNE hNV
          clear hN hdig hf
          by_cases h6 : rn < 48
          · have x1 : decide (rn < 48) = true := by simpa using h6
            clear ho
            go_wp2_with (at_next; refine wpList_next_str rfl _ rfl w.heap.size S k rfl hI hlt rn _ hrn rfl ?_; intro w2 hI2 hO2 hz2; have hB2 : Below w.heap.size w w2 := hO2.below hBr (by omega) (fun k hk => by omega))
            refine bodyPost_ret (v := .tuple #[.int .u64 (0), .int .i64 (4)]) (by simp [results, Tryd.results72, go_sem, *]) rfl ⟨rfl, (by repeat' (first | with_reducible exact Below.refl _ _ | with_reducible assumption | ((with_reducible refine Below.drew ?_)) | ((with_reducible refine below_drewN ?_ _)) | ((with_reducible refine Below.alloc ?_ ?_ _); rotate_left; focus (first | omega | (simp; done) | (simp; omega))) | ((with_reducible refine Below.setCell ?_ ?_ _); rotate_left; focus (first | omega | (simp; done) | (simp; omega))) | ((with_reducible refine Below.trans ?_ (Below.mono (by with_reducible assumption) ?_)); rotate_left; focus (first | omega | (simp; done) | (simp; omega)))))⟩
          · have x1 : decide (rn < 48) = false := by simpa using h6
            have x2 : decide (57 < rn) = true := by simp; omega
            clear ho
            go_wp2_with (at_next; refine wpList_next_str rfl _ rfl w.heap.size S k rfl hI hlt rn _ hrn rfl ?_; intro w2 hI2 hO2 hz2; have hB2 : Below w.heap.size w w2 := hO2.below hBr (by omega) (fun k hk => by omega))
            refine bodyPost_ret (v := .tuple #[.int .u64 (0), .int .i64 (4)]) (by simp [results, Tryd.results72, go_sem, *]) rfl ⟨rfl, (by repeat' (first | with_reducible exact Below.refl _ _ | with_reducible assumption | ((with_reducible refine Below.drew ?_)) | ((with_reducible refine below_drewN ?_ _)) | ((with_reducible refine Below.alloc ?_ ?_ _); rotate_left; focus (first | omega | (simp; done) | (simp; omega))) | ((with_reducible refine Below.setCell ?_ ?_ _); rotate_left; focus (first | omega | (simp; done) | (simp; omega))) | ((with_reducible refine Below.trans ?_ (Below.mono (by with_reducible assumption) ?_)); rotate_left; focus (first | omega | (simp; done) | (simp; omega)))))⟩
      · obtain rfl : k = S.size := by omega
        rw [← hl] at hN
        have hend := nsb_end hN
        have hall := nsb_all hN
        have hv := hN.1
        obtain ⟨hne, hhd⟩ := HH.out
        cases oo with
        | true =>
          simp only [if_true] at hend
          obtain ⟨r1, r2⟩ := num_over most hne hhd hall (.inr hend)
          obtain rfl : NE = 20 := by rw [← hNE]; exact r1
          obtain rfl : NV = 0 := by rw [← hNV]; exact r2
          clear hN hend hall hne hhd r1 r2 hNE hNV
          go_wp2_with (at_next; refine wpList_next_over rfl _ rfl w.heap.size S S.size rfl hI hlt ?_)
          refine bodyPost_ret (v := .tuple #[.int .u64 (0), .int .i64 (20)]) (by simp [results, Tryd.results72, go_sem, *]) rfl ⟨rfl, (by repeat' (first | with_reducible exact Below.refl _ _ | with_reducible assumption | ((with_reducible refine Below.drew ?_)) | ((with_reducible refine below_drewN ?_ _)) | ((with_reducible refine Below.alloc ?_ ?_ _); rotate_left; focus (first | omega | (simp; done) | (simp; omega))) | ((with_reducible refine Below.setCell ?_ ?_ _); rotate_left; focus (first | omega | (simp; done) | (simp; omega))) | ((with_reducible refine Below.trans ?_ (Below.mono (by with_reducible assumption) ?_)); rotate_left; focus (first | omega | (simp; done) | (simp; omega)))))⟩
        | false =>
          simp only [Bool.false_eq_true, if_false] at hend
          obtain ⟨r1, r2⟩ := num_ok most hne hhd hall (by omega) (by omega)
          obtain rfl : NE = 0 := by rw [← hNE]; exact r1
          obtain rfl : NV = vv := by rw [← hNV, r2, hend.1]
          clear hN hend hall hne hhd r1 r2 hNE hNV
          go_wp2_with (at_next; refine wpList_next_over rfl _ rfl w.heap.size S S.size rfl hI hlt ?_)
          refine bodyPost_ret (v := .tuple #[.int .u64 (NV), .int .i64 (0)]) (by simp [results, Tryd.results72, go_sem, *]) rfl ⟨rfl, (by repeat' (first | with_reducible exact Below.refl _ _ | with_reducible assumption | ((with_reducible refine Below.drew ?_)) | ((with_reducible refine below_drewN ?_ _)) | ((with_reducible refine Below.alloc ?_ ?_ _); rotate_left; focus (first | omega | (simp; done) | (simp; omega))) | ((with_reducible refine Below.setCell ?_ ?_ _); rotate_left; focus (first | omega | (simp; done) | (simp; omega))) | ((with_reducible refine Below.trans ?_ (Below.mono (by with_reducible assumption) ?_)); rotate_left; focus (first | omega | (simp; done) | (simp; omega)))))⟩
  · have d1 : decide ((1 : Int) < S.size) = true := by simp; omega
    have d3 : ((x : Int) == 48) = false := by rw [hx hs] at h0; simpa using (by omega : ¬ (x : Int) = 48)
    clear hc h0
    go_enter Tryd.func72, Tryd.ntmps72
    go_wp2_with (at_range; refine wpList_range_str rfl _ 9 rfl Tryd.underlying9 S rfl w.heap.size rfl ?_; intro w1 hit hB hz)
    simp only [Act.put, Nat.reduceAdd, List.setIfInBounds_toArray, List.set_cons_zero, List.set_cons_succ, List.nil_append, List.cons_append]
    go_loopw [6, 7] (fun v ov wr => ∃ (k : Nat) (vv : Int) (oo : Bool), k ≤ S.size ∧ v = .int .u64 vv ∧ ov = .bool oo ∧ NSB most S.data.toList k oo vv ∧ StrIt wr w.heap.size S k ∧ Below w.heap.size w wr ∧ w.heap.size < wr.heap.size) (fun _ _ z => S.size - posOf z w.heap.size)
    case atStart => exact ⟨0, 0, false, Nat.zero_le _, rfl, rfl, nsb_zero _ (by omega) _, hit, hB, by omega⟩
    case round =>
      obtain ⟨k, vv, oo, hk, rfl, rfl, hN, hI, hBr, hzr⟩ := hrel
      by_cases hlt : k < S.size
      · by_cases hdig : 48 ≤ (S[k]'hlt).toNat ∧ (S[k]'hlt).toNat ≤ 57
        · obtain ⟨hr, hst⟩ := dec_digit S k hlt hdig.2
          have hkl : k < S.data.toList.length := by omega
          have hN2 := nsb_next hm0 hm hN hkl (by rw [byte_at S k hlt, isd_iff]; exact hdig) _ (by rw [byte_at S k hlt])
          obtain ⟨d, hd⟩ : ∃ d : Int, d = ((S[k]'hlt).toNat : Int) - 48 := ⟨_, rfl⟩
          rw [← hd] at hN2
          have hdr : 0 ≤ d ∧ d ≤ 9 := by omega
          have hrr : ((Utf8.decode S k).1 : Int) = d + 48 := by omega
          have hv := hN.1
          have hv2 := hN.2.1
          have e48 : d + 48 - 48 = d := by omega
          have x1 : decide (d + 48 < 48) = false := by simp; omega
          have x2 : decide (57 < d + 48) = false := by simp; omega
          have W5 : IntKind.i32.wrap (d + 48 - 48) = d := by rw [IntKind.wrap_i32]; omega
          have W6 : IntKind.u64.wrap d = d := by rw [wrap_u64]; omega
          have W1 : IntKind.u64.wrap (most - d) = most - d := by rw [wrap_u64]; omega
          have W2 : IntKind.u64.wrap ((most - d).tdiv 10) = (most - d) / 10 := by rw [Int.tdiv_eq_ediv_of_nonneg (by omega), wrap_u64]; omega
          have W3 : IntKind.u64.wrap (IntKind.u64.wrap (vv * 10) + d) = (vv * 10 + d) % 18446744073709551616 := by rw [wrap_u64, wrap_u64]; omega
          have hHN := Lib.hid hN2
          have hHd := Lib.hid hdr
          clear hN2 hN hd hr hdig
          cases oo <;> (go_wp2_with (first
            | (at_next; refine wpList_next_str rfl _ rfl w.heap.size S k rfl hI hlt (d + 48) 1 hrr hst ?_; intro w2 hI2 hO2 hz2; have hB2 : Below w.heap.size w w2 := hO2.below hBr (by omega) (fun k hk => by omega))))
          all_goals exact ⟨⟨k + 1, _, _, by omega, rfl, rfl, by simpa using hHN.out, hI2, hB2, by omega⟩, by rw [hI2.pos, hI.pos]; omega⟩
        · have ho := dec_other S k hlt hdig
          obtain ⟨rn, hrn⟩ : ∃ rn : Int, ((Utf8.decode S k).1 : Int) = rn := ⟨_, rfl⟩
          rw [hrn] at ho
          have hf := num_form (l := S.data.toList) most (.inr (.inr ⟨k, by omega, by rw [byte_at S k hlt, Bool.eq_false_iff]; intro e; rw [isd_iff] at e; exact hdig e⟩))
          obtain rfl : NE = 4 := by rw [← hNE]; exact hf.1
          obtain rfl : NV = 0 := by rw [← hNV]; exact hf.2
          clear hNE hNV
          clear hN hdig hf
          by_cases h6 : rn < 48
          · have x1 : decide (rn < 48) = true := by simpa using h6
            clear ho
            go_wp2_with (at_next; refine wpList_next_str rfl _ rfl w.heap.size S k rfl hI hlt rn _ hrn rfl ?_; intro w2 hI2 hO2 hz2; have hB2 : Below w.heap.size w w2 := hO2.below hBr (by omega) (fun k hk => by omega))
            refine bodyPost_ret (v := .tuple #[.int .u64 (0), .int .i64 (4)]) (by simp [results, Tryd.results72, go_sem, *]) rfl ⟨rfl, (by repeat' (first | with_reducible exact Below.refl _ _ | with_reducible assumption | ((with_reducible refine Below.drew ?_)) | ((with_reducible refine below_drewN ?_ _)) | ((with_reducible refine Below.alloc ?_ ?_ _); rotate_left; focus (first | omega | (simp; done) | (simp; omega))) | ((with_reducible refine Below.setCell ?_ ?_ _); rotate_left; focus (first | omega | (simp; done) | (simp; omega))) | ((with_reducible refine Below.trans ?_ (Below.mono (by with_reducible assumption) ?_)); rotate_left; focus (first | omega | (simp; done) | (simp; omega)))))⟩
          · have x1 : decide (rn < 48) = false := by simpa using h6
            have x2 : decide (57 < rn) = true := by simp; omega
            clear ho
            go_wp2_with (at_next; refine wpList_next_str rfl _ rfl w.heap.size S k rfl hI hlt rn _ hrn rfl ?_; intro w2 hI2 hO2 hz2; have hB2 : Below w.heap.size w w2 := hO2.below hBr (by omega) (fun k hk => by omega))
            refine bodyPost_ret (v := .tuple #[.int .u64 (0), .int .i64 (4)]) (by simp [results, Tryd.results72, go_sem, *]) rfl ⟨rfl, (by repeat' (first | with_reducible exact Below.refl _ _ | with_reducible assumption | ((with_reducible refine Below.drew ?_)) | ((with_reducible refine below_drewN ?_ _)) | ((with_reducible refine Below.alloc ?_ ?_ _); rotate_left; focus (first | omega | (simp; done) | (simp; omega))) | ((with_reducible refine Below.setCell ?_ ?_ _); rotate_left; focus (first | omega | (simp; done) | (simp; omega))) | ((with_reducible refine Below.trans ?_ (Below.mono (by with_reducible assumption) ?_)); rotate_left; focus (first | omega | (simp; done) | (simp; omega)))))⟩
      · obtain rfl : k = S.size := by omega
        rw [← hl] at hN
        have hend := nsb_end hN
        have hall := nsb_all hN
        have hv := hN.1
        obtain ⟨hne, hhd⟩ := HH.out
        cases oo with
        | true =>
          simp only [if_true] at hend
          obtain ⟨r1, r2⟩ := num_over most hne hhd hall (.inr hend)
          obtain rfl : NE = 20 := by rw [← hNE]; exact r1
          obtain rfl : NV = 0 := by rw [← hNV]; exact r2
          clear hN hend hall hne hhd r1 r2 hNE hNV
          go_wp2_with (at_next; refine wpList_next_over rfl _ rfl w.heap.size S S.size rfl hI hlt ?_)
          refine bodyPost_ret (v := .tuple #[.int .u64 (0), .int .i64 (20)]) (by simp [results, Tryd.results72, go_sem, *]) rfl ⟨rfl, (by repeat' (first | with_reducible exact Below.refl _ _ | with_reducible assumption | ((with_reducible refine Below.drew ?_)) | ((with_reducible refine below_drewN ?_ _)) | ((with_reducible refine Below.alloc ?_ ?_ _); rotate_left; focus (first | omega | (simp; done) | (simp; omega))) | ((with_reducible refine Below.setCell ?_ ?_ _); rotate_left; focus (first | omega | (simp; done) | (simp; omega))) | ((with_reducible refine Below.trans ?_ (Below.mono (by with_reducible assumption) ?_)); rotate_left; focus (first | omega | (simp; done) | (simp; omega)))))⟩
        | false =>
          simp only [Bool.false_eq_true, if_false] at hend
          obtain ⟨r1, r2⟩ := num_ok most hne hhd hall (by omega) (by omega)
          obtain rfl : NE = 0 := by rw [← hNE]; exact r1
          obtain rfl : NV = vv := by rw [← hNV, r2, hend.1]
          clear hN hend hall hne hhd r1 r2 hNE hNV
          go_wp2_with (at_next; refine wpList_next_over rfl _ rfl w.heap.size S S.size rfl hI hlt ?_)
          refine bodyPost_ret (v := .tuple #[.int .u64 (NV), .int .i64 (0)]) (by simp [results, Tryd.results72, go_sem, *]) rfl ⟨rfl, (by repeat' (first | with_reducible exact Below.refl _ _ | with_reducible assumption | ((with_reducible refine Below.drew ?_)) | ((with_reducible refine below_drewN ?_ _)) | ((with_reducible refine Below.alloc ?_ ?_ _); rotate_left; focus (first | omega | (simp; done) | (simp; omega))) | ((with_reducible refine Below.setCell ?_ ?_ _); rotate_left; focus (first | omega | (simp; done) | (simp; omega))) | ((with_reducible refine Below.trans ?_ (Below.mono (by with_reducible assumption) ?_)); rotate_left; focus (first | omega | (simp; done) | (simp; omega)))))⟩
/-- A number out of any text. -/
theorem tnum_c (S : ByteArray) (hbig : S.size < 9223372036854775807) (most : Int) (hm0 : 9 ≤ most) (hm : most < 18446744073709551616) (w : World) : Calls Tryd.prog 72 #[.string S, .int .u64 most] w fun ee w' => ee = .returned (.tuple #[.int .u64 (numV S.data.toList most), .int .i64 (numE S.data.toList most)]) ∧ Below w.heap.size w w' := by
  have hl := size_len S
  by_cases h0 : S.size = 0
  · have e : S = ⟨#[]⟩ := by
      apply ByteArray.ext
      apply Array.eq_empty_of_size_eq_zero
      exact h0
    subst e
    have hf := num_form (l := ([] : List UInt8)) most (.inl rfl)
    rw [hf.1, hf.2]
    exact tnum_none most w
  · have hs : 0 < S.size := by omega
    by_cases h1 : 1 < S.size ∧ (S[0]'hs).toNat = 48
    · have hf := num_form (l := S.data.toList) most (.inr (.inl ⟨by
        rw [List.head?_eq_getElem?, List.getElem?_eq_getElem (by omega), byte_at S 0 hs]
        rw [show S[0]'hs = 48 from UInt8.toNat_inj.1 h1.2], by omega⟩))
      rw [hf.1, hf.2]
      exact tnum_zero S h1.1 h1.2 most w
    · exact tnum_loop S hs hbig most hm0 hm w (by
        by_cases e : S.size = 1
        · exact .inl e
        · refine .inr ⟨by omega, fun e2 => h1 ⟨by omega, e2⟩⟩)
end Go.Proofs.YtdiniaokkdcihaaDoor
