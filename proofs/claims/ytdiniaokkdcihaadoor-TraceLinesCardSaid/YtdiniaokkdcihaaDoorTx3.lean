/- inspect.Number of any text. -/
import Derived.Test.YtdiniaokkdcihaaDoorTx2
namespace Go.Proofs.YtdiniaokkdcihaaDoor
set_option linter.unusedVariables false
set_option linter.unusedSimpArgs false
set_option maxRecDepth 100000
open Go.RowKit Fg Reg
attribute [local irreducible] Reg.wE StrIt

theorem size_len (S : ByteArray) : S.data.toList.length = S.size := by rw [Array.length_toList]; rfl
theorem dec_digit (S : ByteArray) (k : Nat) (h : k < S.size) (hd : (S[k]'h).toNat ≤ 57) : ((Utf8.decode S k).1 : Int) = (S[k]'h).toNat ∧ (Utf8.decode S k).2 = 1 := by
  rw [decode_ascii S k h (by omega)]; exact ⟨rfl, rfl⟩
theorem dec_other (S : ByteArray) (k : Nat) (h : k < S.size) (hd : ¬ (48 ≤ (S[k]'h).toNat ∧ (S[k]'h).toNat ≤ 57)) : ((Utf8.decode S k).1 : Int) < 48 ∨ 57 < ((Utf8.decode S k).1 : Int) := by
  by_cases ha : (S[k]'h).toNat < 128
  · rw [decode_ascii S k h ha]
    show ((S[k]'h).toNat : Int) < 48 ∨ 57 < ((S[k]'h).toNat : Int)
    omega
  · have := decode_ge S k h (by omega)
    omega
set_option maxHeartbeats 4000000 in
theorem num_loop (S : ByteArray) (hs : 0 < S.size) (hbig : S.size < 9223372036854775807) (most : Int) (hm0 : 0 ≤ most) (hm : most < 18446744073709551616) (w : World)
    (hc : (S.size = 1) ∨ (1 < S.size ∧ (S[0]'hs).toNat ≠ 48)) : Calls Tryd.prog 28 #[.string S, .int .u64 most] w fun ee w' => ee = .returned (.tuple #[.int .u64 (numV S.data.toList most), .int .i64 (numE S.data.toList most)]) ∧ Below w.heap.size w w' := by
  have hE := not_empty hs
  have hl := size_len S
  have hne : S.data.toList ≠ [] := by intro e; rw [e] at hl; simp at hl; omega
  have hhd : S.data.toList.head? = some 48 → S.data.toList.length = 1 := by
    intro e
    rcases hc with hc | ⟨hc, h0⟩
    · omega
    · exfalso; apply h0
      rw [List.head?_eq_getElem?, List.getElem?_eq_getElem (by omega)] at e
      have e2 := Option.some.inj e
      rw [byte_at S 0 hs] at e2
      rw [e2]; rfl
  have HH := Lib.hid (And.intro hne hhd)
  have KV := Lib.hid val_yes
  have KN := Lib.hid val_no
  clear hhd hne
  obtain ⟨NV, hNV⟩ : ∃ NV, numV S.data.toList most = NV := ⟨_, rfl⟩
  obtain ⟨NE, hNE⟩ : ∃ NE, numE S.data.toList most = NE := ⟨_, rfl⟩
  rw [hNV, hNE]
  obtain ⟨x, hx⟩ : ∃ x : Nat, ∀ (h : 0 < S.size), (S[0]'h).toNat = x := ⟨(S[0]'hs).toNat, fun _ => rfl⟩
  have d2 : (0 : Int) < S.size := by omega
  rcases hc with hc | ⟨hc, h0⟩
  · have d1 : decide ((1 : Int) < S.size) = false := by simp; omega
    have d3 : True := trivial
    clear hc hx
    go_enter Tryd.func28, Tryd.ntmps28
    go_wp2_with (at_range; refine wpList_range_str rfl _ 9 rfl Tryd.underlying9 S rfl w.heap.size rfl ?_; intro w1 hit hB hz)
    simp only [Act.put, Nat.reduceAdd, List.setIfInBounds_toArray, List.set_cons_zero, List.set_cons_succ, List.nil_append, List.cons_append]
    go_loopw [6, 7] (fun v ov wr => ∃ (k : Nat) (vv : Int) (oo : Bool), k ≤ S.size ∧ v = .int .u64 vv ∧ ov = .bool oo ∧ NS S.data.toList k oo vv ∧ StrIt wr w.heap.size S k ∧ Below w.heap.size w wr ∧ w.heap.size < wr.heap.size) (fun _ _ z => S.size - posOf z w.heap.size)
    case atStart => exact ⟨0, 0, false, Nat.zero_le _, rfl, rfl, ns_zero _, hit, hB, by omega⟩
    case round =>
      obtain ⟨k, vv, oo, hk, rfl, rfl, hN, hI, hBr, hzr⟩ := hrel
      by_cases hlt : k < S.size
      · by_cases hdig : 48 ≤ (S[k]'hlt).toNat ∧ (S[k]'hlt).toNat ≤ 57
        · obtain ⟨hr, hst⟩ := dec_digit S k hlt hdig.2
          have hkl : k < S.data.toList.length := by omega
          have hN2 := ns_next hN hkl (by rw [byte_at S k hlt, isd_iff]; exact hdig) _ (by rw [byte_at S k hlt])
          obtain ⟨d, hd⟩ : ∃ d : Int, d = ((S[k]'hlt).toNat : Int) - 48 := ⟨_, rfl⟩
          rw [← hd] at hN2
          have hdr : 0 ≤ d ∧ d ≤ 9 := by omega
          have hrr : ((Utf8.decode S k).1 : Int) = d + 48 := by omega
          have hv := hN.1
          have hv2 := hN.2.1
          have KV2 := Lib.hid (fun w => KV.out (d + 48) (by omega) (by omega) w)
          have e48 : d + 48 - 48 = d := by omega
          rw [e48] at KV2
          have W1 : IntKind.u64.wrap (18446744073709551615 - d) = 18446744073709551615 - d := by rw [wrap_u64]; omega
          have W2 : IntKind.u64.wrap ((18446744073709551615 - d).tdiv 10) = (18446744073709551615 - d) / 10 := by rw [Int.tdiv_eq_ediv_of_nonneg (by omega), wrap_u64]; omega
          have W3 : IntKind.u64.wrap (IntKind.u64.wrap (vv * 10) + d) = (vv * 10 + d) % 18446744073709551616 := by rw [wrap_u64, wrap_u64]; omega
          have hHN := Lib.hid hN2
          have hHd := Lib.hid hdr
          clear hN2 hN hd hr hdig e48
          cases oo <;> (go_wp2_with (first
            | (at_next; refine wpList_next_str rfl _ rfl w.heap.size S k rfl hI hlt (d + 48) 1 hrr hst ?_; intro w2 hI2 hO2 hz2; have hB2 : Below w.heap.size w w2 := hO2.below hBr (by omega) (fun k hk => by omega))
            | (go_at_call 74; (with_reducible refine (KV2.out _).mono ?_); rintro e w3 ⟨rfl, hb3⟩; have hI3 := hI2.below hb3; have hB3 := hB2.trans (hb3.mono (by omega)); have hz3 := hb3.size)))
          all_goals exact ⟨⟨k + 1, _, _, by omega, rfl, rfl, by simpa using hHN.out, hI3, hB3, by omega⟩, by rw [hI3.pos, hI.pos]; omega⟩
        · have ho := dec_other S k hlt hdig
          obtain ⟨rn, hrn⟩ : ∃ rn : Int, ((Utf8.decode S k).1 : Int) = rn := ⟨_, rfl⟩
          rw [hrn] at ho
          have KN2 := Lib.hid (fun w => KN.out rn ho w)
          have hf := num_form (l := S.data.toList) most (.inr (.inr ⟨k, by omega, by rw [byte_at S k hlt, Bool.eq_false_iff]; intro e; rw [isd_iff] at e; exact hdig e⟩))
          obtain rfl : NE = 4 := by rw [← hNE]; exact hf.1
          obtain rfl : NV = 0 := by rw [← hNV]; exact hf.2
          clear hNE hNV
          clear hN hdig ho hf
          go_wp2_with (first
            | (at_next; refine wpList_next_str rfl _ rfl w.heap.size S k rfl hI hlt rn _ hrn rfl ?_; intro w2 hI2 hO2 hz2; have hB2 : Below w.heap.size w w2 := hO2.below hBr (by omega) (fun k hk => by omega))
            | (go_at_call 74; (with_reducible refine (KN2.out _).mono ?_); rintro e w3 ⟨rfl, hb3⟩; have hB3 := hB2.trans (hb3.mono (by omega))))
          refine bodyPost_ret (v := .tuple #[.int .u64 (0), .int .i64 (4)]) (by simp [results, Tryd.results28, go_sem, *]) rfl ⟨rfl, (by repeat' (first | with_reducible exact Below.refl _ _ | with_reducible assumption | ((with_reducible refine Below.drew ?_)) | ((with_reducible refine below_drewN ?_ _)) | ((with_reducible refine Below.alloc ?_ ?_ _); rotate_left; focus (first | omega | (simp; done) | (simp; omega))) | ((with_reducible refine Below.setCell ?_ ?_ _); rotate_left; focus (first | omega | (simp; done) | (simp; omega))) | ((with_reducible refine Below.trans ?_ (Below.mono (by with_reducible assumption) ?_)); rotate_left; focus (first | omega | (simp; done) | (simp; omega)))))⟩
      · obtain rfl : k = S.size := by omega
        rw [← hl] at hN
        have hend := ns_end hN
        have hall := ns_all hN
        have hv := hN.1
        obtain ⟨hne, hhd⟩ := HH.out
        cases oo with
        | true =>
          simp only [if_true] at hend
          obtain ⟨r1, r2⟩ := num_over most hne hhd hall (.inl hend)
          obtain rfl : NE = 20 := by rw [← hNE]; exact r1
          obtain rfl : NV = 0 := by rw [← hNV]; exact r2
          clear hN hend hall hne hhd r1 r2 hNE hNV
          go_wp2_with (at_next; refine wpList_next_over rfl _ rfl w.heap.size S S.size rfl hI hlt ?_)
          refine bodyPost_ret (v := .tuple #[.int .u64 (0), .int .i64 (20)]) (by simp [results, Tryd.results28, go_sem, *]) rfl ⟨rfl, (by repeat' (first | with_reducible exact Below.refl _ _ | with_reducible assumption | ((with_reducible refine Below.drew ?_)) | ((with_reducible refine below_drewN ?_ _)) | ((with_reducible refine Below.alloc ?_ ?_ _); rotate_left; focus (first | omega | (simp; done) | (simp; omega))) | ((with_reducible refine Below.setCell ?_ ?_ _); rotate_left; focus (first | omega | (simp; done) | (simp; omega))) | ((with_reducible refine Below.trans ?_ (Below.mono (by with_reducible assumption) ?_)); rotate_left; focus (first | omega | (simp; done) | (simp; omega)))))⟩
        | false =>
          simp only [Bool.false_eq_true, if_false] at hend
          by_cases hg : most < vv
          · obtain ⟨r1, r2⟩ := num_over most hne hhd hall (.inr (by omega))
            obtain rfl : NE = 20 := by rw [← hNE]; exact r1
            obtain rfl : NV = 0 := by rw [← hNV]; exact r2
            have d4 : decide (most < vv) = true := by simpa using hg
            clear hN hend hall hne hhd r1 r2 hNE hNV
            go_wp2_with (at_next; refine wpList_next_over rfl _ rfl w.heap.size S S.size rfl hI hlt ?_)
            refine bodyPost_ret (v := .tuple #[.int .u64 (0), .int .i64 (20)]) (by simp [results, Tryd.results28, go_sem, *]) rfl ⟨rfl, (by repeat' (first | with_reducible exact Below.refl _ _ | with_reducible assumption | ((with_reducible refine Below.drew ?_)) | ((with_reducible refine below_drewN ?_ _)) | ((with_reducible refine Below.alloc ?_ ?_ _); rotate_left; focus (first | omega | (simp; done) | (simp; omega))) | ((with_reducible refine Below.setCell ?_ ?_ _); rotate_left; focus (first | omega | (simp; done) | (simp; omega))) | ((with_reducible refine Below.trans ?_ (Below.mono (by with_reducible assumption) ?_)); rotate_left; focus (first | omega | (simp; done) | (simp; omega)))))⟩
          · obtain ⟨r1, r2⟩ := num_ok most hne hhd hall (by have := hN.2.1; omega) (by omega)
            obtain rfl : NE = 0 := by rw [← hNE]; exact r1
            obtain rfl : NV = vv := by rw [← hNV, r2, hend]
            have d4 : decide (most < NV) = false := by simpa using hg
            clear hN hend hall hne hhd r1 r2 hNE hNV
            go_wp2_with (at_next; refine wpList_next_over rfl _ rfl w.heap.size S S.size rfl hI hlt ?_)
            refine bodyPost_ret (v := .tuple #[.int .u64 (NV), .int .i64 (0)]) (by simp [results, Tryd.results28, go_sem, *]) rfl ⟨rfl, (by repeat' (first | with_reducible exact Below.refl _ _ | with_reducible assumption | ((with_reducible refine Below.drew ?_)) | ((with_reducible refine below_drewN ?_ _)) | ((with_reducible refine Below.alloc ?_ ?_ _); rotate_left; focus (first | omega | (simp; done) | (simp; omega))) | ((with_reducible refine Below.setCell ?_ ?_ _); rotate_left; focus (first | omega | (simp; done) | (simp; omega))) | ((with_reducible refine Below.trans ?_ (Below.mono (by with_reducible assumption) ?_)); rotate_left; focus (first | omega | (simp; done) | (simp; omega)))))⟩
  · have d1 : decide ((1 : Int) < S.size) = true := by simp; omega
    have d3 : ((x : Int) == 48) = false := by rw [hx hs] at h0; simpa using (by omega : ¬ (x : Int) = 48)
    clear hc h0
    go_enter Tryd.func28, Tryd.ntmps28
    go_wp2_with (at_range; refine wpList_range_str rfl _ 9 rfl Tryd.underlying9 S rfl w.heap.size rfl ?_; intro w1 hit hB hz)
    simp only [Act.put, Nat.reduceAdd, List.setIfInBounds_toArray, List.set_cons_zero, List.set_cons_succ, List.nil_append, List.cons_append]
    go_loopw [6, 7] (fun v ov wr => ∃ (k : Nat) (vv : Int) (oo : Bool), k ≤ S.size ∧ v = .int .u64 vv ∧ ov = .bool oo ∧ NS S.data.toList k oo vv ∧ StrIt wr w.heap.size S k ∧ Below w.heap.size w wr ∧ w.heap.size < wr.heap.size) (fun _ _ z => S.size - posOf z w.heap.size)
    case atStart => exact ⟨0, 0, false, Nat.zero_le _, rfl, rfl, ns_zero _, hit, hB, by omega⟩
    case round =>
      obtain ⟨k, vv, oo, hk, rfl, rfl, hN, hI, hBr, hzr⟩ := hrel
      by_cases hlt : k < S.size
      · by_cases hdig : 48 ≤ (S[k]'hlt).toNat ∧ (S[k]'hlt).toNat ≤ 57
        · obtain ⟨hr, hst⟩ := dec_digit S k hlt hdig.2
          have hkl : k < S.data.toList.length := by omega
          have hN2 := ns_next hN hkl (by rw [byte_at S k hlt, isd_iff]; exact hdig) _ (by rw [byte_at S k hlt])
          obtain ⟨d, hd⟩ : ∃ d : Int, d = ((S[k]'hlt).toNat : Int) - 48 := ⟨_, rfl⟩
          rw [← hd] at hN2
          have hdr : 0 ≤ d ∧ d ≤ 9 := by omega
          have hrr : ((Utf8.decode S k).1 : Int) = d + 48 := by omega
          have hv := hN.1
          have hv2 := hN.2.1
          have KV2 := Lib.hid (fun w => KV.out (d + 48) (by omega) (by omega) w)
          have e48 : d + 48 - 48 = d := by omega
          rw [e48] at KV2
          have W1 : IntKind.u64.wrap (18446744073709551615 - d) = 18446744073709551615 - d := by rw [wrap_u64]; omega
          have W2 : IntKind.u64.wrap ((18446744073709551615 - d).tdiv 10) = (18446744073709551615 - d) / 10 := by rw [Int.tdiv_eq_ediv_of_nonneg (by omega), wrap_u64]; omega
          have W3 : IntKind.u64.wrap (IntKind.u64.wrap (vv * 10) + d) = (vv * 10 + d) % 18446744073709551616 := by rw [wrap_u64, wrap_u64]; omega
          have hHN := Lib.hid hN2
          have hHd := Lib.hid hdr
          clear hN2 hN hd hr hdig e48
          cases oo <;> (go_wp2_with (first
            | (at_next; refine wpList_next_str rfl _ rfl w.heap.size S k rfl hI hlt (d + 48) 1 hrr hst ?_; intro w2 hI2 hO2 hz2; have hB2 : Below w.heap.size w w2 := hO2.below hBr (by omega) (fun k hk => by omega))
            | (go_at_call 74; (with_reducible refine (KV2.out _).mono ?_); rintro e w3 ⟨rfl, hb3⟩; have hI3 := hI2.below hb3; have hB3 := hB2.trans (hb3.mono (by omega)); have hz3 := hb3.size)))
          all_goals exact ⟨⟨k + 1, _, _, by omega, rfl, rfl, by simpa using hHN.out, hI3, hB3, by omega⟩, by rw [hI3.pos, hI.pos]; omega⟩
        · have ho := dec_other S k hlt hdig
          obtain ⟨rn, hrn⟩ : ∃ rn : Int, ((Utf8.decode S k).1 : Int) = rn := ⟨_, rfl⟩
          rw [hrn] at ho
          have KN2 := Lib.hid (fun w => KN.out rn ho w)
          have hf := num_form (l := S.data.toList) most (.inr (.inr ⟨k, by omega, by rw [byte_at S k hlt, Bool.eq_false_iff]; intro e; rw [isd_iff] at e; exact hdig e⟩))
          obtain rfl : NE = 4 := by rw [← hNE]; exact hf.1
          obtain rfl : NV = 0 := by rw [← hNV]; exact hf.2
          clear hNE hNV
          clear hN hdig ho hf
          go_wp2_with (first
            | (at_next; refine wpList_next_str rfl _ rfl w.heap.size S k rfl hI hlt rn _ hrn rfl ?_; intro w2 hI2 hO2 hz2; have hB2 : Below w.heap.size w w2 := hO2.below hBr (by omega) (fun k hk => by omega))
            | (go_at_call 74; (with_reducible refine (KN2.out _).mono ?_); rintro e w3 ⟨rfl, hb3⟩; have hB3 := hB2.trans (hb3.mono (by omega))))
          refine bodyPost_ret (v := .tuple #[.int .u64 (0), .int .i64 (4)]) (by simp [results, Tryd.results28, go_sem, *]) rfl ⟨rfl, (by repeat' (first | with_reducible exact Below.refl _ _ | with_reducible assumption | ((with_reducible refine Below.drew ?_)) | ((with_reducible refine below_drewN ?_ _)) | ((with_reducible refine Below.alloc ?_ ?_ _); rotate_left; focus (first | omega | (simp; done) | (simp; omega))) | ((with_reducible refine Below.setCell ?_ ?_ _); rotate_left; focus (first | omega | (simp; done) | (simp; omega))) | ((with_reducible refine Below.trans ?_ (Below.mono (by with_reducible assumption) ?_)); rotate_left; focus (first | omega | (simp; done) | (simp; omega)))))⟩
      · obtain rfl : k = S.size := by omega
        rw [← hl] at hN
        have hend := ns_end hN
        have hall := ns_all hN
        have hv := hN.1
        obtain ⟨hne, hhd⟩ := HH.out
        cases oo with
        | true =>
          simp only [if_true] at hend
          obtain ⟨r1, r2⟩ := num_over most hne hhd hall (.inl hend)
          obtain rfl : NE = 20 := by rw [← hNE]; exact r1
          obtain rfl : NV = 0 := by rw [← hNV]; exact r2
          clear hN hend hall hne hhd r1 r2 hNE hNV
          go_wp2_with (at_next; refine wpList_next_over rfl _ rfl w.heap.size S S.size rfl hI hlt ?_)
          refine bodyPost_ret (v := .tuple #[.int .u64 (0), .int .i64 (20)]) (by simp [results, Tryd.results28, go_sem, *]) rfl ⟨rfl, (by repeat' (first | with_reducible exact Below.refl _ _ | with_reducible assumption | ((with_reducible refine Below.drew ?_)) | ((with_reducible refine below_drewN ?_ _)) | ((with_reducible refine Below.alloc ?_ ?_ _); rotate_left; focus (first | omega | (simp; done) | (simp; omega))) | ((with_reducible refine Below.setCell ?_ ?_ _); rotate_left; focus (first | omega | (simp; done) | (simp; omega))) | ((with_reducible refine Below.trans ?_ (Below.mono (by with_reducible assumption) ?_)); rotate_left; focus (first | omega | (simp; done) | (simp; omega)))))⟩
        | false =>
          simp only [Bool.false_eq_true, if_false] at hend
          by_cases hg : most < vv
          · obtain ⟨r1, r2⟩ := num_over most hne hhd hall (.inr (by omega))
            obtain rfl : NE = 20 := by rw [← hNE]; exact r1
            obtain rfl : NV = 0 := by rw [← hNV]; exact r2
            have d4 : decide (most < vv) = true := by simpa using hg
            clear hN hend hall hne hhd r1 r2 hNE hNV
            go_wp2_with (at_next; refine wpList_next_over rfl _ rfl w.heap.size S S.size rfl hI hlt ?_)
            refine bodyPost_ret (v := .tuple #[.int .u64 (0), .int .i64 (20)]) (by simp [results, Tryd.results28, go_sem, *]) rfl ⟨rfl, (by repeat' (first | with_reducible exact Below.refl _ _ | with_reducible assumption | ((with_reducible refine Below.drew ?_)) | ((with_reducible refine below_drewN ?_ _)) | ((with_reducible refine Below.alloc ?_ ?_ _); rotate_left; focus (first | omega | (simp; done) | (simp; omega))) | ((with_reducible refine Below.setCell ?_ ?_ _); rotate_left; focus (first | omega | (simp; done) | (simp; omega))) | ((with_reducible refine Below.trans ?_ (Below.mono (by with_reducible assumption) ?_)); rotate_left; focus (first | omega | (simp; done) | (simp; omega)))))⟩
          · obtain ⟨r1, r2⟩ := num_ok most hne hhd hall (by have := hN.2.1; omega) (by omega)
            obtain rfl : NE = 0 := by rw [← hNE]; exact r1
            obtain rfl : NV = vv := by rw [← hNV, r2, hend]
            have d4 : decide (most < NV) = false := by simpa using hg
            clear hN hend hall hne hhd r1 r2 hNE hNV
            go_wp2_with (at_next; refine wpList_next_over rfl _ rfl w.heap.size S S.size rfl hI hlt ?_)
            refine bodyPost_ret (v := .tuple #[.int .u64 (NV), .int .i64 (0)]) (by simp [results, Tryd.results28, go_sem, *]) rfl ⟨rfl, (by repeat' (first | with_reducible exact Below.refl _ _ | with_reducible assumption | ((with_reducible refine Below.drew ?_)) | ((with_reducible refine below_drewN ?_ _)) | ((with_reducible refine Below.alloc ?_ ?_ _); rotate_left; focus (first | omega | (simp; done) | (simp; omega))) | ((with_reducible refine Below.setCell ?_ ?_ _); rotate_left; focus (first | omega | (simp; done) | (simp; omega))) | ((with_reducible refine Below.trans ?_ (Below.mono (by with_reducible assumption) ?_)); rotate_left; focus (first | omega | (simp; done) | (simp; omega)))))⟩
/-- A number out of any text. -/
theorem num_c (S : ByteArray) (hbig : S.size < 9223372036854775807) (most : Int) (hm0 : 0 ≤ most) (hm : most < 18446744073709551616) (w : World) : Calls Tryd.prog 28 #[.string S, .int .u64 most] w fun ee w' => ee = .returned (.tuple #[.int .u64 (numV S.data.toList most), .int .i64 (numE S.data.toList most)]) ∧ Below w.heap.size w w' := by
  have hl := size_len S
  by_cases h0 : S.size = 0
  · have e : S = ⟨#[]⟩ := by
      apply ByteArray.ext
      apply Array.eq_empty_of_size_eq_zero
      exact h0
    subst e
    have hf := num_form (l := ([] : List UInt8)) most (.inl rfl)
    rw [hf.1, hf.2]
    exact num_none most w
  · have hs : 0 < S.size := by omega
    by_cases h1 : 1 < S.size ∧ (S[0]'hs).toNat = 48
    · have hf := num_form (l := S.data.toList) most (.inr (.inl ⟨by
        rw [List.head?_eq_getElem?, List.getElem?_eq_getElem (by omega), byte_at S 0 hs]
        rw [show S[0]'hs = 48 from UInt8.toNat_inj.1 h1.2], by omega⟩))
      rw [hf.1, hf.2]
      exact num_zero S h1.1 h1.2 most w
    · exact num_loop S hs hbig most hm0 hm w (by
        by_cases e : S.size = 1
        · exact .inl e
        · refine .inr ⟨by omega, fun e2 => h1 ⟨by omega, e2⟩⟩)
end Go.Proofs.YtdiniaokkdcihaaDoor
