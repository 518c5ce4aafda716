/- The reference's numbers: as text, and out of text. -/
import Derived.Test.YtdiniaokkdcihaaDoorTx3
import Derived.Test.YtdiniaokkdcihaaDoorWideA
import Derived.Laws.Concat
namespace Go.Proofs.YtdiniaokkdcihaaDoor
set_option linter.unusedVariables false
set_option linter.unusedSimpArgs false
set_option maxRecDepth 100000
open Go.RowKit Fg Reg
attribute [local irreducible] Reg.wE

theorem one_dig (m : Nat) : strOf [48 + (m : Int) % 10] = ⟨#[UInt8.ofNat (48 + m % 10)]⟩ := by
  rw [strOf_eq]
  simp only [List.map_cons, List.map_nil]
  rw [show (48 + (m : Int) % 10).toNat = 48 + m % 10 by omega]
theorem cons_text (x : UInt8) (l : List UInt8) : (⟨#[x]⟩ : ByteArray) ++ ⟨l.toArray⟩ = ⟨(x :: l).toArray⟩ := by
  apply ByteArray.ext; simp
set_option maxHeartbeats 4000000 in
theorem rtens_nat (V : Nat) (hV : V < 18446744073709551616) (w : World) : Calls Tryd.prog 31 #[.int .u64 V] w fun ee w' => ee = .returned (.string ⟨(Lib.decDigits V).toArray⟩) ∧ Below w.heap.size w w' := by
  obtain ⟨OUT, hOUT⟩ : ∃ OUT : ByteArray, OUT = ⟨(Lib.decDigits V).toArray⟩ := ⟨_, rfl⟩
  rw [← hOUT]
  go_enter Tryd.func31, Tryd.ntmps31
  go_wp2
  go_loopw [0, 3, 4] (fun v s i wr => ∃ (k m : Nat) (l : List UInt8), i = .int .i64 k ∧ v = .int .u64 m ∧ s = .string ⟨l.toArray⟩ ∧ k ≤ 20 ∧ l.length = k ∧ m < 10 ^ (20 - k) ∧ (k = 0 ∨ 0 < m) ∧ Lib.decDigits V = Lib.decDigits m ++ l ∧ Below w.heap.size w wr) (fun _ _ i _ => 20 - (intOf i).toNat)
  case atStart => exact ⟨0, V, [], rfl, rfl, rfl, by omega, rfl, by omega, .inl rfl, by simp, Below.refl _ _⟩
  case round =>
    obtain ⟨k, m, l, rfl, rfl, rfl, hk, hl, hm, hk0, hD, hB⟩ := hrel
    have hsB := hB.size
    have hk20 : k < 20 := by
      rcases Nat.lt_or_ge k 20 with h | h
      · exact h
      · exfalso
        obtain rfl : k = 20 := by omega
        rcases hk0 with h | h
        · omega
        · simp at hm; omega
    have hm64 : m < 18446744073709551616 := by
      rcases Nat.eq_zero_or_pos k with h | h
      · subst h
        have hl0 : l = [] := List.eq_nil_of_length_eq_zero hl
        subst hl0
        have := congrArg dval hD
        rw [List.append_nil, dval_dec, dval_dec] at this
        omega
      · have : 10 ^ (20 - k) ≤ 10 ^ 19 := Nat.pow_le_pow_right (by omega) (by omega)
        omega
    have W1 : IntKind.u64.wrap ((m : Int).tmod 10) = (m : Int) % 10 := by rw [Int.tmod_eq_emod_of_nonneg (by omega), wrap_u64]; omega
    have W2 : IntKind.u64.wrap (48 + (m : Int) % 10) = 48 + (m : Int) % 10 := by rw [wrap_u64]; omega
    have W3 : IntKind.u8.wrap (48 + (m : Int) % 10) = 48 + (m : Int) % 10 := by rw [IntKind.wrap_u8]; omega
    obtain ⟨q, hq⟩ : ∃ q : Nat, m / 10 = q := ⟨_, rfl⟩
    have hdiv : (m : Int) / 10 = (q : Int) := by omega
    have W4 : IntKind.u64.wrap ((m : Int).tdiv 10) = (q : Int) := by rw [Int.tdiv_eq_ediv_of_nonneg (by omega), wrap_u64]; omega
    have hmod : (0 : Int) ≤ (m : Int) % 10 ∧ (m : Int) % 10 ≤ 9 := by omega
    have hadd := fun w => run_string_add_sum (P := Tryd.prog) (w := w) (strOf [48 + (m : Int) % 10]) ⟨l.toArray⟩ (by
      rw [strOf_size]
      show 1 + l.toArray.size ≤ 9223372036854775807
      simp only [List.size_toArray]; omega)
    have HD := Lib.hid hD
    have HM := Lib.hid hm
    have hOUT2 := Lib.hid hOUT
    clear hm hD hOUT
    have hstep : Lib.decDigits V = (if m < 10 then [] else Lib.decDigits q) ++ (UInt8.ofNat (48 + m % 10) :: l) := by
      rw [HD.out]
      by_cases h : m < 10
      · rw [if_pos h, Lib.decDigits, dif_pos h, Nat.mod_eq_of_lt h]; rfl
      · rw [if_neg h, Lib.decDigits, dif_neg h, List.append_assoc, hq]; rfl
    have HS := Lib.hid hstep
    have HA := Lib.hid hadd
    have HC := Lib.hid (one_dig m)
    clear hstep hadd
    go_wp2
    rw [run_dec _ _ 0 1 1 [48 + (m : Int) % 10] rfl (fun j x hj => by
      match j, hj with
      | 0, hj => obtain rfl := Option.some.inj hj; simp [go_sem])]
    have hadd := HA.out
    have hq2 := hq
    by_cases hlt : m < 10
    · obtain rfl : q = 0 := by omega
      have hdiv' : (m : Int) / 10 = 0 := by simpa using hdiv
      clear hdiv hq
      simp only [Int.natCast_zero, Int.ofNat_zero] at W4
      go_wp2
      go_ret
      refine ⟨?_, (by repeat' (first | with_reducible exact Below.refl _ _ | with_reducible assumption | ((with_reducible refine Below.drew ?_)) | ((with_reducible refine below_drewN ?_ _)) | ((with_reducible refine Below.alloc ?_ ?_ _); rotate_left; focus (first | omega | (simp; done) | (simp; omega))) | ((with_reducible refine Below.setCell ?_ ?_ _); rotate_left; focus (first | omega | (simp; done) | (simp; omega))) | ((with_reducible refine Below.trans ?_ (Below.mono (by with_reducible assumption) ?_)); rotate_left; focus (first | omega | (simp; done) | (simp; omega)))))⟩
      have := HS.out
      rw [if_pos hlt, List.nil_append] at this
      rw [hOUT2.out, HC.out, cons_text, ← this]
      rfl
    · have d0 : ((q : Int) == 0) = false := by simpa using (by omega : ¬ q = 0)
      clear hq
      go_wp2
      go_roundw
      case rel =>
        have h2 := HS.out
        rw [if_neg hlt] at h2
        refine ⟨k + 1, q, UInt8.ofNat (48 + m % 10) :: l, by go_num, rfl, ?_, by omega, by simp [hl], ?_, .inr (by omega), h2, (by repeat' (first | with_reducible exact Below.refl _ _ | with_reducible assumption | ((with_reducible refine Below.drew ?_)) | ((with_reducible refine below_drewN ?_ _)) | ((with_reducible refine Below.alloc ?_ ?_ _); rotate_left; focus (first | omega | (simp; done) | (simp; omega))) | ((with_reducible refine Below.setCell ?_ ?_ _); rotate_left; focus (first | omega | (simp; done) | (simp; omega))) | ((with_reducible refine Below.trans ?_ (Below.mono (by with_reducible assumption) ?_)); rotate_left; focus (first | omega | (simp; done) | (simp; omega)))))⟩
        · rw [HC.out, cons_text]
        · have hm' := HM.out
          rw [show 20 - k = (20 - (k + 1)) + 1 by omega, Nat.pow_succ] at hm'
          omega
      case measure => simp [intOf]; omega
theorem rtens_c (v : Int) (h0 : 0 ≤ v) (h1 : v < 18446744073709551616) (w : World) : Calls Tryd.prog 31 #[.int .u64 v] w fun ee w' => ee = .returned (.string ⟨(Lib.decDigits v.toNat).toArray⟩) ∧ Below w.heap.size w w' := by
  obtain ⟨u, rfl⟩ : ∃ u : Nat, v = u := ⟨v.toNat, by omega⟩
  exact rtens_nat u (by omega) w
set_option maxHeartbeats 4000000 in
theorem rnum_bad0 (most : Int) (w : World) : Calls Tryd.prog 29 #[.string ⟨#[]⟩, .int .u64 most] w fun ee w' => ee = .returned (.agg #[.int .u64 (0), .int .i64 (4)]) ∧ Below w.heap.size w w' := by
  go_enter Tryd.func29, Tryd.ntmps29
  go_wp2
  refine bodyPost_ret (v := .agg #[.int .u64 (0), .int .i64 (4)]) (by simp [results, Tryd.results29, go_sem, *]) rfl ⟨rfl, (by repeat' (first | with_reducible exact Below.refl _ _ | with_reducible assumption | ((with_reducible refine Below.drew ?_)) | ((with_reducible refine below_drewN ?_ _)) | ((with_reducible refine Below.alloc ?_ ?_ _); rotate_left; focus (first | omega | (simp; done) | (simp; omega))) | ((with_reducible refine Below.setCell ?_ ?_ _); rotate_left; focus (first | omega | (simp; done) | (simp; omega))) | ((with_reducible refine Below.trans ?_ (Below.mono (by with_reducible assumption) ?_)); rotate_left; focus (first | omega | (simp; done) | (simp; omega)))))⟩
set_option maxHeartbeats 4000000 in
theorem rnum_zero (S : ByteArray) (hs : 1 < S.size) (h0 : (S[0]'(by omega)).toNat = 48) (most : Int) (w : World) : Calls Tryd.prog 29 #[.string S, .int .u64 most] w fun ee w' => ee = .returned (.agg #[.int .u64 (0), .int .i64 (4)]) ∧ Below w.heap.size w w' := by
  have hI : ∀ (h : 0 < S.size), (S[0]'h).toNat = 48 := fun _ => h0
  have d0 : ((S.size : Int) == 0) = false := by simpa using (by omega : ¬ S.size = 0)
  have d1 : decide ((1 : Int) < S.size) = true := by simp; omega
  have d2 : (0 : Int) < S.size := by omega
  clear h0
  go_enter Tryd.func29, Tryd.ntmps29
  go_wp2
  refine bodyPost_ret (v := .agg #[.int .u64 (0), .int .i64 (4)]) (by simp [results, Tryd.results29, go_sem, *]) rfl ⟨rfl, (by repeat' (first | with_reducible exact Below.refl _ _ | with_reducible assumption | ((with_reducible refine Below.drew ?_)) | ((with_reducible refine below_drewN ?_ _)) | ((with_reducible refine Below.alloc ?_ ?_ _); rotate_left; focus (first | omega | (simp; done) | (simp; omega))) | ((with_reducible refine Below.setCell ?_ ?_ _); rotate_left; focus (first | omega | (simp; done) | (simp; omega))) | ((with_reducible refine Below.trans ?_ (Below.mono (by with_reducible assumption) ?_)); rotate_left; focus (first | omega | (simp; done) | (simp; omega)))))⟩
set_option maxHeartbeats 8000000 in
theorem rnum_loop (S : ByteArray) (hs : 0 < S.size) (hbig : S.size < 9223372036854775807) (most : Int) (hm0 : 0 ≤ most) (hm : most < 18446744073709551616) (w : World)
    (hc : (S.size = 1) ∨ (1 < S.size ∧ (S[0]'hs).toNat ≠ 48)) : Calls Tryd.prog 29 #[.string S, .int .u64 most] w fun ee w' => ee = .returned (.agg #[.int .u64 (numV S.data.toList most), .int .i64 (numE S.data.toList most)]) ∧ Below w.heap.size w w' := by
  have hl := size_len S
  have hne : S.data.toList ≠ [] := by intro e; rw [e] at hl; simp at hl; omega
  have hhd : S.data.toList.head? = some 48 → S.data.toList.length = 1 := by
    intro e
    rcases hc with hc | ⟨hc, h0⟩
    · omega
    · exfalso; apply h0
      rw [List.head?_eq_getElem?, List.getElem?_eq_getElem (by omega)] at e
      have e2 := Option.some.inj e
      rw [byte_at S 0 hs] at e2
      rw [e2]; rfl
  have HH := Lib.hid (And.intro hne hhd)
  clear hhd hne
  obtain ⟨NV, hNV⟩ : ∃ NV, numV S.data.toList most = NV := ⟨_, rfl⟩
  obtain ⟨NE, hNE⟩ : ∃ NE, numE S.data.toList most = NE := ⟨_, rfl⟩
  rw [hNV, hNE]
  obtain ⟨x, hx⟩ : ∃ x : Nat, ∀ (h : 0 < S.size), (S[0]'h).toNat = x := ⟨(S[0]'hs).toNat, fun _ => rfl⟩
  have d0 : ((S.size : Int) == 0) = false := by simpa using (by omega : ¬ S.size = 0)
  have d2 : (0 : Int) < S.size := by omega
  have HX := Lib.hid hx
  have hcc : (decide ((1 : Int) < S.size) = false ∧ ((x : Int) == 48) = true) ∨ (True ∧ ((x : Int) == 48) = false) := by
    by_cases hx48 : x = 48
    · rcases hc with hc | ⟨hc, h0⟩
      · exact .inl ⟨by simp; omega, by simpa using (by omega : (x : Int) = 48)⟩
      · rw [hx hs] at h0; exact absurd hx48 h0
    · exact .inr ⟨trivial, by simpa using (by omega : ¬ (x : Int) = 48)⟩
  clear hc
  rcases hcc with ⟨d1, d3⟩ | ⟨d1, d3⟩
  all_goals
    go_enter Tryd.func29, Tryd.ntmps29
    go_wp2
    clear hx d1 d3 d0 d2
    go_loopw [25] (fun i wr => ∃ (k : Nat), k ≤ S.size ∧ i = .int .i64 k ∧ (∀ j, (h : j < S.data.toList.length) → j < k → isd S.data.toList[j] = true) ∧ (wr.cell? ⟨w.heap.size, 0, none⟩ = some (.int .u64 0) ∧ wr.cell? ⟨w.heap.size, 1, none⟩ = some (.int .i64 0) ∧ wr.frozen? ⟨w.heap.size, 0, none⟩ = false ∧ wr.frozen? ⟨w.heap.size, 1, none⟩ = false ∧ w.heap.size < wr.heap.size) ∧ Below w.heap.size w wr) (fun i _ => S.size - (intOf i).toNat)
    case atStart => exact ⟨0, Nat.zero_le _, rfl, fun j _ h => absurd h (by omega), by ((repeat' apply And.intro) <;> first | (simp [go_sem, *]; done) | omega | (repeat' (first | with_reducible exact Below.refl _ _ | with_reducible assumption | ((with_reducible refine Below.drew ?_)) | ((with_reducible refine below_drewN ?_ _)) | ((with_reducible refine Below.alloc ?_ ?_ _); rotate_left; focus (first | omega | (simp; done) | (simp; omega))) | ((with_reducible refine Below.setCell ?_ ?_ _); rotate_left; focus (first | omega | (simp; done) | (simp; omega))) | ((with_reducible refine Below.trans ?_ (Below.mono (by with_reducible assumption) ?_)); rotate_left; focus (first | omega | (simp; done) | (simp; omega)))))), (by repeat' (first | with_reducible exact Below.refl _ _ | with_reducible assumption | ((with_reducible refine Below.drew ?_)) | ((with_reducible refine below_drewN ?_ _)) | ((with_reducible refine Below.alloc ?_ ?_ _); rotate_left; focus (first | omega | (simp; done) | (simp; omega))) | ((with_reducible refine Below.setCell ?_ ?_ _); rotate_left; focus (first | omega | (simp; done) | (simp; omega))) | ((with_reducible refine Below.trans ?_ (Below.mono (by with_reducible assumption) ?_)); rotate_left; focus (first | omega | (simp; done) | (simp; omega)))))⟩
    case round =>
      obtain ⟨k, hk, rfl, hdg, hG, hB⟩ := hrel
      have hsB := hB.size
      by_cases hlt : k < S.size
      · obtain ⟨y, hy⟩ : ∃ y : Nat, ∀ (h : k < S.size), (S[k]'h).toNat = y := ⟨(S[k]'hlt).toNat, fun _ => rfl⟩
        have hyb : y < 256 := by rw [← hy hlt]; exact UInt8.toNat_lt _
        have d5 : (k : Int) < S.size := by omega
        by_cases hdig : 48 ≤ y ∧ y ≤ 57
        · have d6 : decide ((y : Int) < 48) = false := by simp; omega
          have d7 : decide ((57 : Int) < y) = false := by simp; omega
          have hdg2 : ∀ j, (h : j < S.data.toList.length) → j < k + 1 → isd S.data.toList[j] = true := fun j h hj => by
            by_cases e : j = k
            · subst e; rw [byte_at S j hlt, isd_iff, hy hlt]; exact hdig
            · exact hdg j h (by omega)
          have HD := Lib.hid hdg2
          clear hdg hdg2
          go_split_ands
          go_wp2
          go_roundw
          case rel => exact ⟨k + 1, by omega, by go_num, HD.out, by ((repeat' apply And.intro) <;> first | (simp [go_sem, *]; done) | omega | (repeat' (first | with_reducible exact Below.refl _ _ | with_reducible assumption | ((with_reducible refine Below.drew ?_)) | ((with_reducible refine below_drewN ?_ _)) | ((with_reducible refine Below.alloc ?_ ?_ _); rotate_left; focus (first | omega | (simp; done) | (simp; omega))) | ((with_reducible refine Below.setCell ?_ ?_ _); rotate_left; focus (first | omega | (simp; done) | (simp; omega))) | ((with_reducible refine Below.trans ?_ (Below.mono (by with_reducible assumption) ?_)); rotate_left; focus (first | omega | (simp; done) | (simp; omega)))))), (by repeat' (first | with_reducible exact Below.refl _ _ | with_reducible assumption | ((with_reducible refine Below.drew ?_)) | ((with_reducible refine below_drewN ?_ _)) | ((with_reducible refine Below.alloc ?_ ?_ _); rotate_left; focus (first | omega | (simp; done) | (simp; omega))) | ((with_reducible refine Below.setCell ?_ ?_ _); rotate_left; focus (first | omega | (simp; done) | (simp; omega))) | ((with_reducible refine Below.trans ?_ (Below.mono (by with_reducible assumption) ?_)); rotate_left; focus (first | omega | (simp; done) | (simp; omega)))))⟩
          case measure => simp [intOf]; omega
        · have hf := num_form (l := S.data.toList) most (.inr (.inr ⟨k, by omega, by rw [byte_at S k hlt, Bool.eq_false_iff]; intro e; rw [isd_iff, hy hlt] at e; exact hdig e⟩))
          obtain rfl : NE = 4 := by rw [← hNE]; exact hf.1
          obtain rfl : NV = 0 := by rw [← hNV]; exact hf.2
          clear hNE hNV hf hdg
          by_cases h6 : (y : Int) < 48
          · have d6 : decide ((y : Int) < 48) = true := by simpa using h6
            go_split_ands
            go_wp2
            refine bodyPost_ret (v := .agg #[.int .u64 (0), .int .i64 (4)]) (by simp [results, Tryd.results29, go_sem, *]) rfl ⟨rfl, (by repeat' (first | with_reducible exact Below.refl _ _ | with_reducible assumption | ((with_reducible refine Below.drew ?_)) | ((with_reducible refine below_drewN ?_ _)) | ((with_reducible refine Below.alloc ?_ ?_ _); rotate_left; focus (first | omega | (simp; done) | (simp; omega))) | ((with_reducible refine Below.setCell ?_ ?_ _); rotate_left; focus (first | omega | (simp; done) | (simp; omega))) | ((with_reducible refine Below.trans ?_ (Below.mono (by with_reducible assumption) ?_)); rotate_left; focus (first | omega | (simp; done) | (simp; omega)))))⟩
          · have d6 : decide ((y : Int) < 48) = false := by simpa using h6
            have d7 : decide ((57 : Int) < y) = true := by simp; omega
            go_split_ands
            go_wp2
            refine bodyPost_ret (v := .agg #[.int .u64 (0), .int .i64 (4)]) (by simp [results, Tryd.results29, go_sem, *]) rfl ⟨rfl, (by repeat' (first | with_reducible exact Below.refl _ _ | with_reducible assumption | ((with_reducible refine Below.drew ?_)) | ((with_reducible refine below_drewN ?_ _)) | ((with_reducible refine Below.alloc ?_ ?_ _); rotate_left; focus (first | omega | (simp; done) | (simp; omega))) | ((with_reducible refine Below.setCell ?_ ?_ _); rotate_left; focus (first | omega | (simp; done) | (simp; omega))) | ((with_reducible refine Below.trans ?_ (Below.mono (by with_reducible assumption) ?_)); rotate_left; focus (first | omega | (simp; done) | (simp; omega)))))⟩
      · obtain rfl : k = S.size := by omega
        have hall : S.data.toList.all isd = true := by
          rw [List.all_eq_true]
          intro z hz
          obtain ⟨j, hj, rfl⟩ := List.mem_iff_getElem.1 hz
          exact hdg j hj (by omega)
        have HAL := Lib.hid hall
        clear hdg hall
        go_split_ands
        go_wp2
        go_loopw [6, 42] (fun v i wq => ∃ (k : Nat) (vv : Int), k ≤ S.size ∧ i = .int .i64 k ∧ v = .int .u64 vv ∧ NS S.data.toList k false vv ∧ (wq.cell? ⟨w.heap.size, 0, none⟩ = some (.int .u64 0) ∧ wq.cell? ⟨w.heap.size, 1, none⟩ = some (.int .i64 0) ∧ wq.frozen? ⟨w.heap.size, 0, none⟩ = false ∧ wq.frozen? ⟨w.heap.size, 1, none⟩ = false ∧ w.heap.size < wq.heap.size) ∧ Below w.heap.size w wq) (fun _ i _ => S.size - (intOf i).toNat)
        case atStart => exact ⟨0, 0, Nat.zero_le _, rfl, rfl, ns_zero _, by ((repeat' apply And.intro) <;> first | (simp [go_sem, *]; done) | omega | (repeat' (first | with_reducible exact Below.refl _ _ | with_reducible assumption | ((with_reducible refine Below.drew ?_)) | ((with_reducible refine below_drewN ?_ _)) | ((with_reducible refine Below.alloc ?_ ?_ _); rotate_left; focus (first | omega | (simp; done) | (simp; omega))) | ((with_reducible refine Below.setCell ?_ ?_ _); rotate_left; focus (first | omega | (simp; done) | (simp; omega))) | ((with_reducible refine Below.trans ?_ (Below.mono (by with_reducible assumption) ?_)); rotate_left; focus (first | omega | (simp; done) | (simp; omega)))))), (by repeat' (first | with_reducible exact Below.refl _ _ | with_reducible assumption | ((with_reducible refine Below.drew ?_)) | ((with_reducible refine below_drewN ?_ _)) | ((with_reducible refine Below.alloc ?_ ?_ _); rotate_left; focus (first | omega | (simp; done) | (simp; omega))) | ((with_reducible refine Below.setCell ?_ ?_ _); rotate_left; focus (first | omega | (simp; done) | (simp; omega))) | ((with_reducible refine Below.trans ?_ (Below.mono (by with_reducible assumption) ?_)); rotate_left; focus (first | omega | (simp; done) | (simp; omega)))))⟩
        case round =>
          obtain ⟨k, vv, hk, rfl, rfl, hN, hG, hB2⟩ := hrel
          have hsB2 := hB2.size
          have hv := hN.1
          have hv2 := hN.2.1
          by_cases hlt : k < S.size
          · obtain ⟨y, hy⟩ : ∃ y : Nat, ∀ (h : k < S.size), (S[k]'h).toNat = y := ⟨(S[k]'hlt).toNat, fun _ => rfl⟩
            have d5 : (k : Int) < S.size := by omega
            have hyd : isd S.data.toList[k] = true := List.all_eq_true.1 HAL.out _ (List.getElem_mem (by omega))
            have hdig : 48 ≤ y ∧ y ≤ 57 := by rw [byte_at S k hlt, isd_iff, hy hlt] at hyd; exact hyd
            obtain ⟨d, hd⟩ : ∃ d : Int, d = (y : Int) - 48 := ⟨_, rfl⟩
            have hdr : 0 ≤ d ∧ d ≤ 9 := by omega
            have hN2 := ns_next hN (by omega) hyd d (by rw [byte_at S k hlt, hy hlt, hd])
            have W0 : IntKind.u8.wrap ((y : Int) - 48) = d := by rw [IntKind.wrap_u8]; omega
            have W1 : IntKind.u64.wrap (18446744073709551615 - d) = 18446744073709551615 - d := by rw [wrap_u64]; omega
            have W2 : IntKind.u64.wrap ((18446744073709551615 - d).tdiv 10) = (18446744073709551615 - d) / 10 := by rw [Int.tdiv_eq_ediv_of_nonneg (by omega), wrap_u64]; omega
            have W4 : IntKind.u64.wrap d = d := by rw [wrap_u64]; omega
            obtain ⟨q, hq⟩ : ∃ q : Int, (18446744073709551615 - d) / 10 = q := ⟨_, rfl⟩
            rw [hq] at W2 hN2
            by_cases ho : q < vv
            · have d6 : decide (q < vv) = true := by simpa using ho
              rw [d6, Bool.or_true] at hN2
              obtain ⟨r1, r2⟩ := num_over most HH.out.1 HH.out.2 HAL.out (.inl (ns_over hN2))
              obtain rfl : NE = 20 := by rw [← hNE]; exact r1
              obtain rfl : NV = 0 := by rw [← hNV]; exact r2
              clear hNE hNV r1 r2 hN2 hN hyd hdig
              go_split_ands
              go_wp2
              refine bodyPost_ret (v := .agg #[.int .u64 (0), .int .i64 (20)]) (by simp [results, Tryd.results29, go_sem, *]) rfl ⟨rfl, (by repeat' (first | with_reducible exact Below.refl _ _ | with_reducible assumption | ((with_reducible refine Below.drew ?_)) | ((with_reducible refine below_drewN ?_ _)) | ((with_reducible refine Below.alloc ?_ ?_ _); rotate_left; focus (first | omega | (simp; done) | (simp; omega))) | ((with_reducible refine Below.setCell ?_ ?_ _); rotate_left; focus (first | omega | (simp; done) | (simp; omega))) | ((with_reducible refine Below.trans ?_ (Below.mono (by with_reducible assumption) ?_)); rotate_left; focus (first | omega | (simp; done) | (simp; omega)))))⟩
            · have d6 : decide (q < vv) = false := by simpa using ho
              rw [d6, Bool.or_false] at hN2
              have W3 : IntKind.u64.wrap (IntKind.u64.wrap (vv * 10) + d) = (vv * 10 + d) % 18446744073709551616 := by rw [wrap_u64, wrap_u64]; omega
              have e3 : (vv * 10 + d) % 18446744073709551616 = vv * 10 + ((y : Int) - 48) := by omega
              rw [e3] at hN2
              have HN2 := Lib.hid hN2
              clear hN2 hN hyd hdig e3
              go_split_ands
              go_wp2
              go_roundw
              case rel => exact ⟨k + 1, _, by omega, by go_num, rfl, by simpa using HN2.out, by ((repeat' apply And.intro) <;> first | (simp [go_sem, *]; done) | omega | (repeat' (first | with_reducible exact Below.refl _ _ | with_reducible assumption | ((with_reducible refine Below.drew ?_)) | ((with_reducible refine below_drewN ?_ _)) | ((with_reducible refine Below.alloc ?_ ?_ _); rotate_left; focus (first | omega | (simp; done) | (simp; omega))) | ((with_reducible refine Below.setCell ?_ ?_ _); rotate_left; focus (first | omega | (simp; done) | (simp; omega))) | ((with_reducible refine Below.trans ?_ (Below.mono (by with_reducible assumption) ?_)); rotate_left; focus (first | omega | (simp; done) | (simp; omega)))))), (by repeat' (first | with_reducible exact Below.refl _ _ | with_reducible assumption | ((with_reducible refine Below.drew ?_)) | ((with_reducible refine below_drewN ?_ _)) | ((with_reducible refine Below.alloc ?_ ?_ _); rotate_left; focus (first | omega | (simp; done) | (simp; omega))) | ((with_reducible refine Below.setCell ?_ ?_ _); rotate_left; focus (first | omega | (simp; done) | (simp; omega))) | ((with_reducible refine Below.trans ?_ (Below.mono (by with_reducible assumption) ?_)); rotate_left; focus (first | omega | (simp; done) | (simp; omega)))))⟩
              case measure => simp [intOf]; omega
          · obtain rfl : k = S.size := by omega
            rw [← hl] at hN
            have hend := ns_end hN
            simp only [Bool.false_eq_true, if_false] at hend
            by_cases hg : most < vv
            · obtain ⟨r1, r2⟩ := num_over most HH.out.1 HH.out.2 HAL.out (.inr (by omega))
              obtain rfl : NE = 20 := by rw [← hNE]; exact r1
              obtain rfl : NV = 0 := by rw [← hNV]; exact r2
              have d4 : decide (most < vv) = true := by simpa using hg
              clear hN hend r1 r2 hNE hNV
              go_split_ands
              go_wp2
              refine bodyPost_ret (v := .agg #[.int .u64 (0), .int .i64 (20)]) (by simp [results, Tryd.results29, go_sem, *]) rfl ⟨rfl, (by repeat' (first | with_reducible exact Below.refl _ _ | with_reducible assumption | ((with_reducible refine Below.drew ?_)) | ((with_reducible refine below_drewN ?_ _)) | ((with_reducible refine Below.alloc ?_ ?_ _); rotate_left; focus (first | omega | (simp; done) | (simp; omega))) | ((with_reducible refine Below.setCell ?_ ?_ _); rotate_left; focus (first | omega | (simp; done) | (simp; omega))) | ((with_reducible refine Below.trans ?_ (Below.mono (by with_reducible assumption) ?_)); rotate_left; focus (first | omega | (simp; done) | (simp; omega)))))⟩
            · obtain ⟨r1, r2⟩ := num_ok most HH.out.1 HH.out.2 HAL.out (by have := hN.2.1; omega) (by omega)
              obtain rfl : NE = 0 := by rw [← hNE]; exact r1
              obtain rfl : NV = vv := by rw [← hNV, r2, hend]
              have d4 : decide (most < NV) = false := by simpa using hg
              clear hN hend r1 r2 hNE hNV
              go_split_ands
              go_wp2
              refine bodyPost_ret (v := .agg #[.int .u64 (NV), .int .i64 (0)]) (by simp [results, Tryd.results29, go_sem, *]) rfl ⟨rfl, (by repeat' (first | with_reducible exact Below.refl _ _ | with_reducible assumption | ((with_reducible refine Below.drew ?_)) | ((with_reducible refine below_drewN ?_ _)) | ((with_reducible refine Below.alloc ?_ ?_ _); rotate_left; focus (first | omega | (simp; done) | (simp; omega))) | ((with_reducible refine Below.setCell ?_ ?_ _); rotate_left; focus (first | omega | (simp; done) | (simp; omega))) | ((with_reducible refine Below.trans ?_ (Below.mono (by with_reducible assumption) ?_)); rotate_left; focus (first | omega | (simp; done) | (simp; omega)))))⟩
/-- The reference's number out of any text. -/
theorem rnum_c (S : ByteArray) (hbig : S.size < 9223372036854775807) (most : Int) (hm0 : 0 ≤ most) (hm : most < 18446744073709551616) (w : World) : Calls Tryd.prog 29 #[.string S, .int .u64 most] w fun ee w' => ee = .returned (.agg #[.int .u64 (numV S.data.toList most), .int .i64 (numE S.data.toList most)]) ∧ Below w.heap.size w w' := by
  have hl := size_len S
  by_cases h0 : S.size = 0
  · have e : S = ⟨#[]⟩ := by
      apply ByteArray.ext
      apply Array.eq_empty_of_size_eq_zero
      exact h0
    subst e
    have hf := num_form (l := ([] : List UInt8)) most (.inl rfl)
    rw [hf.1, hf.2]
    exact rnum_bad0 most w
  · have hs : 0 < S.size := by omega
    by_cases h1 : 1 < S.size ∧ (S[0]'hs).toNat = 48
    · have hf := num_form (l := S.data.toList) most (.inr (.inl ⟨by
        rw [List.head?_eq_getElem?, List.getElem?_eq_getElem (by omega), byte_at S 0 hs]
        rw [show S[0]'hs = 48 from UInt8.toNat_inj.1 h1.2], by omega⟩))
      rw [hf.1, hf.2]
      exact rnum_zero S h1.1 h1.2 most w
    · exact rnum_loop S hs hbig most hm0 hm w (by
        by_cases e : S.size = 1
        · exact .inl e
        · refine .inr ⟨by omega, fun e2 => h1 ⟨by omega, e2⟩⟩)
end Go.Proofs.YtdiniaokkdcihaaDoor
