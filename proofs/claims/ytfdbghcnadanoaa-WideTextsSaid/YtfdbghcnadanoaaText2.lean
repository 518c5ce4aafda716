import Derived.Test.YtfdbghcnadanoaaLaw1
import Derived.Test.YtfdbghcnadanoaaText1
namespace Go.Proofs.Ytfdbghcnadanoaa
set_option linter.unusedVariables false
set_option linter.unusedSimpArgs false
open Go.RowKit Fg Reg

set_option maxHeartbeats 1000000 in
theorem wideTexts_core (a0 a1 A : Int) (s : ByteArray) (h1 : 1 ≤ s.size) (h2 : s.size ≤ 39) (hb : ∀ k (h : k < s.size), 48 ≤ (s[k].toNat : Int) ∧ (s[k].toNat : Int) ≤ 57) (hz : ∀ h : 1 < s.size, ((s[0].toNat : Int) == 48) = false)
    (k1 : ∀ w, Calls Try.prog 26 #[.agg #[.int .u64 a0, .int .u64 a1]] w fun ee w' => ee = .returned (.string s) ∧ Below w.heap.size w w')
    (k2 : ∀ w, Calls Try.prog 14 #[.agg #[.int .u64 a0, .int .u64 a1]] w fun ee w' => ee = .returned (.agg #[.int .u64 (d0 A), .int .u64 (d1 A), .int .u64 (d2 A), .int .u64 (d3 A)]) ∧ Below w.heap.size w w')
    (k3 : ∀ w, Calls Try.prog 27 #[.agg #[.int .u64 (d0 A), .int .u64 (d1 A), .int .u64 (d2 A), .int .u64 (d3 A)]] w fun ee w' => ee = .returned (.string s) ∧ Below w.heap.size w w')
    (w : World) : Calls Try.prog 7 #[.agg #[.int .u64 a0, .int .u64 a1]] w fun e w' => e = .returned (.bool true) ∧ Below w.heap.size w w' := by
  have K1 := Lib.hid k1
  have K2 := Lib.hid k2
  have K3 := Lib.hid k3
  have HB := Lib.hid hb
  have HZ := Lib.hid hz
  clear k1 k2 k3 hb hz
  go_enter Try.func7, Try.ntmps7
  go_wp2_with (go_at_call 26; ((with_reducible refine (K1.out _).mono ?_); rintro e w1 ⟨rfl, hbel⟩; obtain ⟨hcc, hff⟩ := bcell hbel; have hsz := hbel.size; (try simp at hsz); have hF : (w1.cell? ⟨w.heap.size, 0, none⟩ = some (.int .u64 a0) ∧ w1.cell? ⟨w.heap.size, 1, none⟩ = some (.int .u64 a1) ∧ w.heap.size < w1.heap.size) ∧ Below w.heap.size w w1 := (by ((repeat' apply And.intro) <;> first | (simp [go_sem, *]; done) | omega | (repeat' (first | with_reducible exact Below.refl _ _ | with_reducible assumption | ((with_reducible refine Below.drew ?_)) | ((with_reducible refine below_drewN ?_ _)) | ((with_reducible refine Below.alloc ?_ ?_ _); rotate_left; focus (first | omega | (simp; done) | (simp; omega))) | ((with_reducible refine Below.setCell ?_ ?_ _); rotate_left; focus (first | omega | (simp; done) | (simp; omega))) | ((with_reducible refine Below.trans ?_ (Below.mono (by with_reducible assumption) ?_)); rotate_left; focus (first | omega | (simp; done) | (simp; omega))))))); go_split_ands; clear hcc hff hbel))
  go_loop [9] (fun i => ∃ k : Nat, k ≤ s.size ∧ i = .int .i64 k) (fun i => s.size - (intOf i).toNat)
  case atStart => exact ⟨0, Nat.zero_le _, rfl⟩
  case round =>
    obtain ⟨k, hk, rfl⟩ := hrel
    by_cases hlt : k < s.size
    · have b := HB.out k hlt
      by_cases h0 : k = 0
      · subst h0
        by_cases hs : 1 < s.size
        · have z := HZ.out hs
          go_wp2
          go_round
          case rel => exact ⟨1, by omega, by go_num⟩
          case measure => simp [intOf]; omega
        · have hs' : s.size ≤ 1 := by omega
          clear hs
          go_wp2
          all_goals
            go_round
            case rel => exact ⟨1, by omega, by go_num⟩
            case measure => simp [intOf]; omega
      · have h0' : ((k : Int) == 0) = false := by rw [beq_eq_false_iff_ne]; omega
        clear h0
        go_wp2
        go_round
        case rel => exact ⟨k + 1, by omega, by go_num⟩
        case measure => simp [intOf]; omega
    · obtain rfl : k = s.size := by omega
      go_wp2_with (first
        | (go_at_call 14; ((with_reducible refine (K2.out _).mono ?_); rintro e w2 ⟨rfl, hbel⟩; obtain ⟨hcc, hff⟩ := bcell hbel; have hsz := hbel.size; (try simp at hsz); have hF : Below w.heap.size w w2 := (by ((repeat' apply And.intro) <;> first | (simp [go_sem, *]; done) | omega | (repeat' (first | with_reducible exact Below.refl _ _ | with_reducible assumption | ((with_reducible refine Below.drew ?_)) | ((with_reducible refine below_drewN ?_ _)) | ((with_reducible refine Below.alloc ?_ ?_ _); rotate_left; focus (first | omega | (simp; done) | (simp; omega))) | ((with_reducible refine Below.setCell ?_ ?_ _); rotate_left; focus (first | omega | (simp; done) | (simp; omega))) | ((with_reducible refine Below.trans ?_ (Below.mono (by with_reducible assumption) ?_)); rotate_left; focus (first | omega | (simp; done) | (simp; omega))))))); go_split_ands; clear hcc hff hbel))
        | (go_at_call 27; ((with_reducible refine (K3.out _).mono ?_); rintro e w3 ⟨rfl, hbel⟩; obtain ⟨hcc, hff⟩ := bcell hbel; have hsz := hbel.size; (try simp at hsz); have hF : Below w.heap.size w w3 := (by ((repeat' apply And.intro) <;> first | (simp [go_sem, *]; done) | omega | (repeat' (first | with_reducible exact Below.refl _ _ | with_reducible assumption | ((with_reducible refine Below.drew ?_)) | ((with_reducible refine below_drewN ?_ _)) | ((with_reducible refine Below.alloc ?_ ?_ _); rotate_left; focus (first | omega | (simp; done) | (simp; omega))) | ((with_reducible refine Below.setCell ?_ ?_ _); rotate_left; focus (first | omega | (simp; done) | (simp; omega))) | ((with_reducible refine Below.trans ?_ (Below.mono (by with_reducible assumption) ?_)); rotate_left; focus (first | omega | (simp; done) | (simp; omega))))))); go_split_ands; clear hcc hff hbel))
        | (go_at_call 19; ((with_reducible refine (six_c _).mono ?_); rintro e w4 ⟨rfl, hbel⟩; obtain ⟨hcc, hff⟩ := bcell hbel; have hsz := hbel.size; (try simp at hsz); have hF : Below w.heap.size w w4 := (by ((repeat' apply And.intro) <;> first | (simp [go_sem, *]; done) | omega | (repeat' (first | with_reducible exact Below.refl _ _ | with_reducible assumption | ((with_reducible refine Below.drew ?_)) | ((with_reducible refine below_drewN ?_ _)) | ((with_reducible refine Below.alloc ?_ ?_ _); rotate_left; focus (first | omega | (simp; done) | (simp; omega))) | ((with_reducible refine Below.setCell ?_ ?_ _); rotate_left; focus (first | omega | (simp; done) | (simp; omega))) | ((with_reducible refine Below.trans ?_ (Below.mono (by with_reducible assumption) ?_)); rotate_left; focus (first | omega | (simp; done) | (simp; omega))))))); go_split_ands; clear hcc hff hbel)))
      (go_ret; refine ⟨?_, ?_⟩; (focus (exact rfl)); ((repeat' (first | with_reducible exact Below.refl _ _ | with_reducible assumption | ((with_reducible refine Below.drew ?_)) | ((with_reducible refine below_drewN ?_ _)) | ((with_reducible refine Below.alloc ?_ ?_ _); rotate_left; focus (first | omega | (simp; done) | (simp; omega))) | ((with_reducible refine Below.setCell ?_ ?_ _); rotate_left; focus (first | omega | (simp; done) | (simp; omega))) | ((with_reducible refine Below.trans ?_ (Below.mono (by with_reducible assumption) ?_)); rotate_left; focus (first | omega | (simp; done) | (simp; omega))))); done))

theorem u8_of {x : Int} (h : 48 ≤ x ∧ x ≤ 57) : ((UInt8.ofNat x.toNat).toNat : Int) = x := by
  rw [UInt8.toNat_ofNat']
  omega

theorem wideTexts_law (a0 a1 : Int) (wa0 : (Lit.int .u64 a0).wf = true) (wa1 : (Lit.int .u64 a1).wf = true) (w : World) : Calls Try.prog 7 #[.agg #[.int .u64 a0, .int .u64 a1]] w fun e w' => e = .returned (.bool true) ∧ Below w.heap.size w w' := by
  have ha0 := in_wf wa0
  have ha1 := in_wf wa1
  have hA : Wd (val a0 a1) := val_in ha0 ha1
  have hl := decF_len (val a0 a1) hA
  have hsz : (dec (val a0 a1)).size = (decF 39 (val a0 a1)).length := strOf_size _
  have hget : ∀ k (h : k < (dec (val a0 a1)).size) (h' : k < (decF 39 (val a0 a1)).length), ((dec (val a0 a1))[k].toNat : Int) = (decF 39 (val a0 a1))[k] := by
    intro k h h'
    have e := strOf_eq (decF 39 (val a0 a1))
    have : (dec (val a0 a1))[k] = UInt8.ofNat ((decF 39 (val a0 a1))[k]).toNat := by
      simp only [dec, e]
      simp [ByteArray.getElem_eq_getElem_data]
    rw [this]
    exact u8_of (decF_bounds _ _ _ (List.getElem_mem h'))
  refine wideTexts_core a0 a1 (val a0 a1) (dec (val a0 a1)) (by omega) (by omega) ?_ ?_ ?_ (ref_c a0 a1 ha0 ha1) (reftext_c _ hA) w
  · intro k h
    rw [hget k h (by omega)]
    exact decF_bounds _ _ _ (List.getElem_mem _)
  · intro h
    rw [hget 0 (by omega) (by omega), beq_eq_false_iff_ne]
    exact decF_head _ hA.1 39 (by have := wd_ten hA; simpa using this) (by omega)
  · intro w
    have h := text_c (val a0 a1) hA w
    rwa [hi_val ha0 ha1, lo_val ha1] at h
end Go.Proofs.Ytfdbghcnadanoaa
