/- SumStraight: the law. -/
import Derived.Test.YtpabidiggehmnaaSu33
namespace Go.Proofs.Ytpabidiggehmnaa
set_option linter.unusedVariables false
set_option linter.unusedSimpArgs false
set_option maxRecDepth 100000
open Go.RowKit Fg Reg Go.Sort
attribute [local irreducible] Reg.wE Holds QS

theorem straight_out (a : Option Addr) (n c : Nat) (x y : Int) (hn : 60 < n ∨ y < x ∨ 4611686018427387904 < y) (w : World) : Calls Try.prog 5 #[.slice a n c, .int .u64 x, .int .u64 y] w fun e w' => e = .returned (.bool true) ∧ Below w.heap.size w w' := by
  have K7 := Lib.hid two_c
  by_cases h1 : 60 < n
  · have d1 : decide (60 < (n : Int)) = true := by simp; omega
    go_enter Try.func5, Try.ntmps5
    go_wp2_with (first | go_guarded | (go_at_call 11; ((with_reducible refine (K7.out _).mono ?_); rintro e w7 ⟨rfl, hbel⟩; obtain ⟨hcc, hff⟩ := bcell hbel; have hsz := hbel.size; (try simp at hsz); have hF : Below w.heap.size w w7 := (by ((repeat' apply And.intro) <;> first | (simp [go_sem, *]; done) | omega | (repeat' (first | with_reducible exact Below.refl _ _ | with_reducible assumption | ((with_reducible refine Below.drew ?_)) | ((with_reducible refine below_drewN ?_ _)) | ((with_reducible refine Below.alloc ?_ ?_ _); rotate_left; focus (first | omega | (simp; done) | (simp; omega))) | ((with_reducible refine Below.setCell ?_ ?_ _); rotate_left; focus (first | omega | (simp; done) | (simp; omega))) | ((with_reducible refine Below.trans ?_ (Below.mono (by with_reducible assumption) ?_)); rotate_left; focus (first | omega | (simp; done) | (simp; omega))))))); go_split_ands; clear hcc hff hbel)))
    (go_ret; refine ⟨?_, ?_⟩; (focus (exact rfl)); ((repeat' (first | with_reducible exact Below.refl _ _ | with_reducible assumption | ((with_reducible refine Below.drew ?_)) | ((with_reducible refine below_drewN ?_ _)) | ((with_reducible refine Below.alloc ?_ ?_ _); rotate_left; focus (first | omega | (simp; done) | (simp; omega))) | ((with_reducible refine Below.setCell ?_ ?_ _); rotate_left; focus (first | omega | (simp; done) | (simp; omega))) | ((with_reducible refine Below.trans ?_ (Below.mono (by with_reducible assumption) ?_)); rotate_left; focus (first | omega | (simp; done) | (simp; omega))))); done))
  · have d1 : decide (60 < (n : Int)) = false := by simp; omega
    by_cases h2 : y < x
    · have d2 : decide (y < x) = true := decide_eq_true h2
      go_enter Try.func5, Try.ntmps5
      go_wp2_with (first | go_guarded | (go_at_call 11; ((with_reducible refine (K7.out _).mono ?_); rintro e w7 ⟨rfl, hbel⟩; obtain ⟨hcc, hff⟩ := bcell hbel; have hsz := hbel.size; (try simp at hsz); have hF : Below w.heap.size w w7 := (by ((repeat' apply And.intro) <;> first | (simp [go_sem, *]; done) | omega | (repeat' (first | with_reducible exact Below.refl _ _ | with_reducible assumption | ((with_reducible refine Below.drew ?_)) | ((with_reducible refine below_drewN ?_ _)) | ((with_reducible refine Below.alloc ?_ ?_ _); rotate_left; focus (first | omega | (simp; done) | (simp; omega))) | ((with_reducible refine Below.setCell ?_ ?_ _); rotate_left; focus (first | omega | (simp; done) | (simp; omega))) | ((with_reducible refine Below.trans ?_ (Below.mono (by with_reducible assumption) ?_)); rotate_left; focus (first | omega | (simp; done) | (simp; omega))))))); go_split_ands; clear hcc hff hbel)))
      (go_ret; refine ⟨?_, ?_⟩; (focus (exact rfl)); ((repeat' (first | with_reducible exact Below.refl _ _ | with_reducible assumption | ((with_reducible refine Below.drew ?_)) | ((with_reducible refine below_drewN ?_ _)) | ((with_reducible refine Below.alloc ?_ ?_ _); rotate_left; focus (first | omega | (simp; done) | (simp; omega))) | ((with_reducible refine Below.setCell ?_ ?_ _); rotate_left; focus (first | omega | (simp; done) | (simp; omega))) | ((with_reducible refine Below.trans ?_ (Below.mono (by with_reducible assumption) ?_)); rotate_left; focus (first | omega | (simp; done) | (simp; omega))))); done))
    · have d2 : decide (y < x) = false := decide_eq_false h2
      have d3 : decide (4611686018427387904 < y) = true := decide_eq_true (by omega)
      go_enter Try.func5, Try.ntmps5
      go_wp2_with (first | go_guarded | (go_at_call 11; ((with_reducible refine (K7.out _).mono ?_); rintro e w7 ⟨rfl, hbel⟩; obtain ⟨hcc, hff⟩ := bcell hbel; have hsz := hbel.size; (try simp at hsz); have hF : Below w.heap.size w w7 := (by ((repeat' apply And.intro) <;> first | (simp [go_sem, *]; done) | omega | (repeat' (first | with_reducible exact Below.refl _ _ | with_reducible assumption | ((with_reducible refine Below.drew ?_)) | ((with_reducible refine below_drewN ?_ _)) | ((with_reducible refine Below.alloc ?_ ?_ _); rotate_left; focus (first | omega | (simp; done) | (simp; omega))) | ((with_reducible refine Below.setCell ?_ ?_ _); rotate_left; focus (first | omega | (simp; done) | (simp; omega))) | ((with_reducible refine Below.trans ?_ (Below.mono (by with_reducible assumption) ?_)); rotate_left; focus (first | omega | (simp; done) | (simp; omega))))))); go_split_ands; clear hcc hff hbel)))
      (go_ret; refine ⟨?_, ?_⟩; (focus (exact rfl)); ((repeat' (first | with_reducible exact Below.refl _ _ | with_reducible assumption | ((with_reducible refine Below.drew ?_)) | ((with_reducible refine below_drewN ?_ _)) | ((with_reducible refine Below.alloc ?_ ?_ _); rotate_left; focus (first | omega | (simp; done) | (simp; omega))) | ((with_reducible refine Below.setCell ?_ ?_ _); rotate_left; focus (first | omega | (simp; done) | (simp; omega))) | ((with_reducible refine Below.trans ?_ (Below.mono (by with_reducible assumption) ?_)); rotate_left; focus (first | omega | (simp; done) | (simp; omega))))); done))
set_option maxHeartbeats 8000000 in
theorem straight_in (l : List Cv) (a : Option Addr) (c : Nat) (hn : l.length ≤ 60) (hok : ∀ k (h : k < l.length), l[k].ok) (x y : Int) (hx : 0 ≤ x) (hxy : x ≤ y) (hy : y ≤ 4611686018427387904) (w : World) (hR : RwV Cv.cells 3 w a l) :
    Calls Try.prog 5 #[.slice a l.length c, .int .u64 x, .int .u64 y] w fun e w' => e = .returned (.bool true) ∧ Below w.heap.size w w' := by
  have K7 := Lib.hid two_c
  have K1 := Lib.hid (kneesA_c l a c (by omega) hok w hR)
  have hmem : ∀ cv ∈ l, cv.ok := fun cv hcv => by
    obtain ⟨j, hj, rfl⟩ := List.getElem_of_mem hcv
    exact hok j hj
  have r1 := fun (z : World) (hz : Below w.heap.size w z) => rise_c l a c hn hok x hx (by omega) z (hR.below hz)
  have r2 := fun (z : World) (hz : Below w.heap.size w z) => rise_c l a c hn hok y (by omega) hy z (hR.below hz)
  have r3 := fun (z : World) (hz : Below w.heap.size w z) => slope_c l a c (by omega) hok z (hR.below hz)
  have HS := Lib.hid (fun h => rise_same l hmem hx hxy h)
  have HL := Lib.hid (fun h => rise_last l hmem hx h)
  have hlen := kns_len l
  generalize kns l = K at *
  generalize tots (rse x) l = A at *
  generalize tots (rse y) l = B at *
  generalize tots csl l = S at *
  have d1 : decide (60 < (l.length : Int)) = false := by simp; omega
  have d2 : decide (y < x) = false := decide_eq_false (by omega)
  have d3 : decide (4611686018427387904 < y) = false := decide_eq_false (by omega)
  have R1 := Lib.hid r1
  have R2 := Lib.hid r2
  have R3 := Lib.hid r3
  clear r1 r2 r3 hok hR hmem
  go_enter Try.func5, Try.ntmps5
  go_wp2_with (first
    | go_guarded
    | (go_at_call 18; (with_reducible refine K1.out.mono ?_); rintro e w1 ⟨⟨p1, c1, rfl, hk1⟩, hb1⟩))
  have HK1 := Lib.hid hk1
  have hs1 := hb1.size
  clear hk1
  go_loopw [7, 26] (fun lv jv wr => ∃ (j : Nat) (lb : Bool), j ≤ K.length ∧ jv = .int .i64 j ∧ lv = .bool lb ∧ (∀ i, i < j → ¬ (x < K.getD i 0 ∧ K.getD i 0 ≤ y)) ∧ (lb = true → ∀ i, i < j → K.getD i 0 ≤ x) ∧ Below w1.heap.size w1 wr) (fun _ jv _ => K.length - (intOf jv).toNat)
  case atStart => exact ⟨0, true, Nat.zero_le _, rfl, rfl, fun i h => absurd h (by omega), fun _ i h => absurd h (by omega), Below.refl _ _⟩
  case round =>
    obtain ⟨j, lb, hj, rfl, rfl, hno, hla, hB⟩ := hrel
    have hb3 : Below w.heap.size w wr := hb1.trans (Below.mono hB hs1)
    have hs3 := hb3.size
    by_cases hlt : j < K.length
    · obtain ⟨b1, o1, rfl, hbl1, hu1⟩ := (HK1.out.below hB).at hlt
      have e1 := hu1 j hlt
      have HNO := Lib.hid hno
      have HLA := Lib.hid hla
      clear hu1 hno hla
      obtain ⟨z, hz⟩ : ∃ z, K.getD j 0 = z := ⟨_, rfl⟩
      rw [hz] at e1
      have HZ := Lib.hid hz
      clear hz
      by_cases h1 : x < z
      · have t1 : decide (x < z) = true := decide_eq_true h1
        by_cases h2 : z ≤ y
        · have t2 : decide (z ≤ y) = true := decide_eq_true h2
          go_wp2_with (first | go_guarded | (go_at_call 11; ((with_reducible refine (K7.out _).mono ?_); rintro e w7 ⟨rfl, hbel⟩; obtain ⟨hcc, hff⟩ := bcell hbel; have hsz := hbel.size; (try simp at hsz); have hF : Below w.heap.size w w7 := (by ((repeat' apply And.intro) <;> first | (simp [go_sem, *]; done) | omega | (repeat' (first | with_reducible exact Below.refl _ _ | with_reducible assumption | ((with_reducible refine Below.drew ?_)) | ((with_reducible refine below_drewN ?_ _)) | ((with_reducible refine Below.alloc ?_ ?_ _); rotate_left; focus (first | omega | (simp; done) | (simp; omega))) | ((with_reducible refine Below.setCell ?_ ?_ _); rotate_left; focus (first | omega | (simp; done) | (simp; omega))) | ((with_reducible refine Below.trans ?_ (Below.mono (by with_reducible assumption) ?_)); rotate_left; focus (first | omega | (simp; done) | (simp; omega))))))); go_split_ands; clear hcc hff hbel)))
          (go_ret; refine ⟨?_, ?_⟩; (focus (exact rfl)); ((repeat' (first | with_reducible exact Below.refl _ _ | with_reducible assumption | ((with_reducible refine Below.drew ?_)) | ((with_reducible refine below_drewN ?_ _)) | ((with_reducible refine Below.alloc ?_ ?_ _); rotate_left; focus (first | omega | (simp; done) | (simp; omega))) | ((with_reducible refine Below.setCell ?_ ?_ _); rotate_left; focus (first | omega | (simp; done) | (simp; omega))) | ((with_reducible refine Below.trans ?_ (Below.mono (by with_reducible assumption) ?_)); rotate_left; focus (first | omega | (simp; done) | (simp; omega))))); done))
        · have t2 : decide (z ≤ y) = false := decide_eq_false h2
          have t3 : decide (z ≤ x) = false := decide_eq_false (by omega)
          cases lb
          all_goals
            go_wp2_with go_guarded
            go_roundw
            case rel =>
              first
              | exact ⟨j + 1, false, by omega, by go_num, rfl, fun i hi => by
                  by_cases hij : i = j
                  · subst hij; rw [HZ.out]; omega
                  · exact HNO.out i (by omega), fun h => absurd h (by simp), hB⟩
              | ((repeat apply Exists.intro); exact ⟨⟨j + 1, false, by omega, by go_num, rfl, fun i hi => by
                  by_cases hij : i = j
                  · subst hij; rw [HZ.out]; omega
                  · exact HNO.out i (by omega), fun h => absurd h (by simp), hB⟩, rfl⟩)
            case measure => simp [intOf]; omega
      · have t1 : decide (x < z) = false := decide_eq_false h1
        have t3 : decide (z ≤ x) = true := decide_eq_true (by omega)
        cases lb
        · go_wp2_with go_guarded
          go_roundw
          case rel =>
            first
            | exact ⟨j + 1, false, by omega, by go_num, rfl, fun i hi => by
                by_cases hij : i = j
                · subst hij; rw [HZ.out]; omega
                · exact HNO.out i (by omega), fun h => absurd h (by simp), hB⟩
            | ((repeat apply Exists.intro); exact ⟨⟨j + 1, false, by omega, by go_num, rfl, fun i hi => by
                by_cases hij : i = j
                · subst hij; rw [HZ.out]; omega
                · exact HNO.out i (by omega), fun h => absurd h (by simp), hB⟩, rfl⟩)
          case measure => simp [intOf]; omega
        · go_wp2_with go_guarded
          go_roundw
          case rel =>
            first
            | exact ⟨j + 1, true, by omega, by go_num, rfl, fun i hi => by
                by_cases hij : i = j
                · subst hij; rw [HZ.out]; omega
                · exact HNO.out i (by omega), fun _ i hi => by
                by_cases hij : i = j
                · subst hij; rw [HZ.out]; omega
                · exact HLA.out rfl i (by omega), hB⟩
            | ((repeat apply Exists.intro); exact ⟨⟨j + 1, true, by omega, by go_num, rfl, fun i hi => by
                by_cases hij : i = j
                · subst hij; rw [HZ.out]; omega
                · exact HNO.out i (by omega), fun _ i hi => by
                by_cases hij : i = j
                · subst hij; rw [HZ.out]; omega
                · exact HLA.out rfl i (by omega), hB⟩, rfl⟩)
          case measure => simp [intOf]; omega
    · obtain rfl : j = K.length := by omega
      have hgm : ∀ k ∈ K, ∃ i, i < K.length ∧ K.getD i 0 = k := fun k hk => by
        obtain ⟨i, hi, rfl⟩ := List.getElem_of_mem hk
        exact ⟨i, hi, by simp [List.getD, hi]⟩
      have hBA : B = A := HS.out (fun k hk => by
        obtain ⟨i, hi, rfl⟩ := hgm k hk
        exact hno i hi)
      subst hBA
      have q1 := eqNumS (hi B) (lo B)
      cases lb
      · clear hgm hno hla
        generalize hi B = p at *
        generalize lo B = q at *
        go_wp2_with (first
          | go_guarded
          | (go_at_call 20; ((with_reducible refine (R1.out _ (by repeat' (first | with_reducible exact Below.refl _ _ | with_reducible assumption | ((with_reducible refine Below.drew ?_)) | ((with_reducible refine below_drewN ?_ _)) | ((with_reducible refine Below.alloc ?_ ?_ _); rotate_left; focus (first | omega | (simp; done) | (simp; omega))) | ((with_reducible refine Below.setCell ?_ ?_ _); rotate_left; focus (first | omega | (simp; done) | (simp; omega))) | ((with_reducible refine Below.trans ?_ (Below.mono (by with_reducible assumption) ?_)); rotate_left; focus (first | omega | (simp; done) | (simp; omega)))))).mono ?_); rintro e w4 ⟨rfl, hbel⟩; obtain ⟨hcc, hff⟩ := bcell hbel; have hsz := hbel.size; (try simp at hsz); have hF : Below w.heap.size w w4 := (by ((repeat' apply And.intro) <;> first | (simp [go_sem, *]; done) | omega | (repeat' (first | with_reducible exact Below.refl _ _ | with_reducible assumption | ((with_reducible refine Below.drew ?_)) | ((with_reducible refine below_drewN ?_ _)) | ((with_reducible refine Below.alloc ?_ ?_ _); rotate_left; focus (first | omega | (simp; done) | (simp; omega))) | ((with_reducible refine Below.setCell ?_ ?_ _); rotate_left; focus (first | omega | (simp; done) | (simp; omega))) | ((with_reducible refine Below.trans ?_ (Below.mono (by with_reducible assumption) ?_)); rotate_left; focus (first | omega | (simp; done) | (simp; omega))))))); go_split_ands; clear hcc hff hbel))
          | (go_at_call 20; ((with_reducible refine (R2.out _ (by repeat' (first | with_reducible exact Below.refl _ _ | with_reducible assumption | ((with_reducible refine Below.drew ?_)) | ((with_reducible refine below_drewN ?_ _)) | ((with_reducible refine Below.alloc ?_ ?_ _); rotate_left; focus (first | omega | (simp; done) | (simp; omega))) | ((with_reducible refine Below.setCell ?_ ?_ _); rotate_left; focus (first | omega | (simp; done) | (simp; omega))) | ((with_reducible refine Below.trans ?_ (Below.mono (by with_reducible assumption) ?_)); rotate_left; focus (first | omega | (simp; done) | (simp; omega)))))).mono ?_); rintro e w5 ⟨rfl, hbel⟩; obtain ⟨hcc, hff⟩ := bcell hbel; have hsz := hbel.size; (try simp at hsz); have hF : Below w.heap.size w w5 := (by ((repeat' apply And.intro) <;> first | (simp [go_sem, *]; done) | omega | (repeat' (first | with_reducible exact Below.refl _ _ | with_reducible assumption | ((with_reducible refine Below.drew ?_)) | ((with_reducible refine below_drewN ?_ _)) | ((with_reducible refine Below.alloc ?_ ?_ _); rotate_left; focus (first | omega | (simp; done) | (simp; omega))) | ((with_reducible refine Below.setCell ?_ ?_ _); rotate_left; focus (first | omega | (simp; done) | (simp; omega))) | ((with_reducible refine Below.trans ?_ (Below.mono (by with_reducible assumption) ?_)); rotate_left; focus (first | omega | (simp; done) | (simp; omega))))))); go_split_ands; clear hcc hff hbel))
          | (go_at_call 11; ((with_reducible refine (K7.out _).mono ?_); rintro e w7 ⟨rfl, hbel⟩; obtain ⟨hcc, hff⟩ := bcell hbel; have hsz := hbel.size; (try simp at hsz); have hF : Below w.heap.size w w7 := (by ((repeat' apply And.intro) <;> first | (simp [go_sem, *]; done) | omega | (repeat' (first | with_reducible exact Below.refl _ _ | with_reducible assumption | ((with_reducible refine Below.drew ?_)) | ((with_reducible refine below_drewN ?_ _)) | ((with_reducible refine Below.alloc ?_ ?_ _); rotate_left; focus (first | omega | (simp; done) | (simp; omega))) | ((with_reducible refine Below.setCell ?_ ?_ _); rotate_left; focus (first | omega | (simp; done) | (simp; omega))) | ((with_reducible refine Below.trans ?_ (Below.mono (by with_reducible assumption) ?_)); rotate_left; focus (first | omega | (simp; done) | (simp; omega))))))); go_split_ands; clear hcc hff hbel)))
        (go_ret; refine ⟨?_, ?_⟩; (focus (exact rfl)); ((repeat' (first | with_reducible exact Below.refl _ _ | with_reducible assumption | ((with_reducible refine Below.drew ?_)) | ((with_reducible refine below_drewN ?_ _)) | ((with_reducible refine Below.alloc ?_ ?_ _); rotate_left; focus (first | omega | (simp; done) | (simp; omega))) | ((with_reducible refine Below.setCell ?_ ?_ _); rotate_left; focus (first | omega | (simp; done) | (simp; omega))) | ((with_reducible refine Below.trans ?_ (Below.mono (by with_reducible assumption) ?_)); rotate_left; focus (first | omega | (simp; done) | (simp; omega))))); done))
      · have hSA : B = S := HL.out (fun k hk => by
          obtain ⟨i, hi, rfl⟩ := hgm k hk
          exact hla rfl i hi)
        subst hSA
        clear hgm hno hla
        generalize hi B = p at *
        generalize lo B = q at *
        go_wp2_with (first
          | go_guarded
          | (go_at_call 20; ((with_reducible refine (R1.out _ (by repeat' (first | with_reducible exact Below.refl _ _ | with_reducible assumption | ((with_reducible refine Below.drew ?_)) | ((with_reducible refine below_drewN ?_ _)) | ((with_reducible refine Below.alloc ?_ ?_ _); rotate_left; focus (first | omega | (simp; done) | (simp; omega))) | ((with_reducible refine Below.setCell ?_ ?_ _); rotate_left; focus (first | omega | (simp; done) | (simp; omega))) | ((with_reducible refine Below.trans ?_ (Below.mono (by with_reducible assumption) ?_)); rotate_left; focus (first | omega | (simp; done) | (simp; omega)))))).mono ?_); rintro e w4 ⟨rfl, hbel⟩; obtain ⟨hcc, hff⟩ := bcell hbel; have hsz := hbel.size; (try simp at hsz); have hF : Below w.heap.size w w4 := (by ((repeat' apply And.intro) <;> first | (simp [go_sem, *]; done) | omega | (repeat' (first | with_reducible exact Below.refl _ _ | with_reducible assumption | ((with_reducible refine Below.drew ?_)) | ((with_reducible refine below_drewN ?_ _)) | ((with_reducible refine Below.alloc ?_ ?_ _); rotate_left; focus (first | omega | (simp; done) | (simp; omega))) | ((with_reducible refine Below.setCell ?_ ?_ _); rotate_left; focus (first | omega | (simp; done) | (simp; omega))) | ((with_reducible refine Below.trans ?_ (Below.mono (by with_reducible assumption) ?_)); rotate_left; focus (first | omega | (simp; done) | (simp; omega))))))); go_split_ands; clear hcc hff hbel))
          | (go_at_call 20; ((with_reducible refine (R2.out _ (by repeat' (first | with_reducible exact Below.refl _ _ | with_reducible assumption | ((with_reducible refine Below.drew ?_)) | ((with_reducible refine below_drewN ?_ _)) | ((with_reducible refine Below.alloc ?_ ?_ _); rotate_left; focus (first | omega | (simp; done) | (simp; omega))) | ((with_reducible refine Below.setCell ?_ ?_ _); rotate_left; focus (first | omega | (simp; done) | (simp; omega))) | ((with_reducible refine Below.trans ?_ (Below.mono (by with_reducible assumption) ?_)); rotate_left; focus (first | omega | (simp; done) | (simp; omega)))))).mono ?_); rintro e w5 ⟨rfl, hbel⟩; obtain ⟨hcc, hff⟩ := bcell hbel; have hsz := hbel.size; (try simp at hsz); have hF : Below w.heap.size w w5 := (by ((repeat' apply And.intro) <;> first | (simp [go_sem, *]; done) | omega | (repeat' (first | with_reducible exact Below.refl _ _ | with_reducible assumption | ((with_reducible refine Below.drew ?_)) | ((with_reducible refine below_drewN ?_ _)) | ((with_reducible refine Below.alloc ?_ ?_ _); rotate_left; focus (first | omega | (simp; done) | (simp; omega))) | ((with_reducible refine Below.setCell ?_ ?_ _); rotate_left; focus (first | omega | (simp; done) | (simp; omega))) | ((with_reducible refine Below.trans ?_ (Below.mono (by with_reducible assumption) ?_)); rotate_left; focus (first | omega | (simp; done) | (simp; omega))))))); go_split_ands; clear hcc hff hbel))
          | (go_at_call 15; ((with_reducible refine (R3.out _ (by repeat' (first | with_reducible exact Below.refl _ _ | with_reducible assumption | ((with_reducible refine Below.drew ?_)) | ((with_reducible refine below_drewN ?_ _)) | ((with_reducible refine Below.alloc ?_ ?_ _); rotate_left; focus (first | omega | (simp; done) | (simp; omega))) | ((with_reducible refine Below.setCell ?_ ?_ _); rotate_left; focus (first | omega | (simp; done) | (simp; omega))) | ((with_reducible refine Below.trans ?_ (Below.mono (by with_reducible assumption) ?_)); rotate_left; focus (first | omega | (simp; done) | (simp; omega)))))).mono ?_); rintro e w6 ⟨rfl, hbel⟩; obtain ⟨hcc, hff⟩ := bcell hbel; have hsz := hbel.size; (try simp at hsz); have hF : Below w.heap.size w w6 := (by ((repeat' apply And.intro) <;> first | (simp [go_sem, *]; done) | omega | (repeat' (first | with_reducible exact Below.refl _ _ | with_reducible assumption | ((with_reducible refine Below.drew ?_)) | ((with_reducible refine below_drewN ?_ _)) | ((with_reducible refine Below.alloc ?_ ?_ _); rotate_left; focus (first | omega | (simp; done) | (simp; omega))) | ((with_reducible refine Below.setCell ?_ ?_ _); rotate_left; focus (first | omega | (simp; done) | (simp; omega))) | ((with_reducible refine Below.trans ?_ (Below.mono (by with_reducible assumption) ?_)); rotate_left; focus (first | omega | (simp; done) | (simp; omega))))))); go_split_ands; clear hcc hff hbel))
          | (go_at_call 11; ((with_reducible refine (K7.out _).mono ?_); rintro e w7 ⟨rfl, hbel⟩; obtain ⟨hcc, hff⟩ := bcell hbel; have hsz := hbel.size; (try simp at hsz); have hF : Below w.heap.size w w7 := (by ((repeat' apply And.intro) <;> first | (simp [go_sem, *]; done) | omega | (repeat' (first | with_reducible exact Below.refl _ _ | with_reducible assumption | ((with_reducible refine Below.drew ?_)) | ((with_reducible refine below_drewN ?_ _)) | ((with_reducible refine Below.alloc ?_ ?_ _); rotate_left; focus (first | omega | (simp; done) | (simp; omega))) | ((with_reducible refine Below.setCell ?_ ?_ _); rotate_left; focus (first | omega | (simp; done) | (simp; omega))) | ((with_reducible refine Below.trans ?_ (Below.mono (by with_reducible assumption) ?_)); rotate_left; focus (first | omega | (simp; done) | (simp; omega))))))); go_split_ands; clear hcc hff hbel)))
        (go_ret; refine ⟨?_, ?_⟩; (focus (exact rfl)); ((repeat' (first | with_reducible exact Below.refl _ _ | with_reducible assumption | ((with_reducible refine Below.drew ?_)) | ((with_reducible refine below_drewN ?_ _)) | ((with_reducible refine Below.alloc ?_ ?_ _); rotate_left; focus (first | omega | (simp; done) | (simp; omega))) | ((with_reducible refine Below.setCell ?_ ?_ _); rotate_left; focus (first | omega | (simp; done) | (simp; omega))) | ((with_reducible refine Below.trans ?_ (Below.mono (by with_reducible assumption) ?_)); rotate_left; focus (first | omega | (simp; done) | (simp; omega))))); done))
theorem sumStraight_law (v : Value) (x y : Int) {w : World} (hs : Op.FlatSlice w 3 [.int .u64, .int .u64, .int .u64] v) (wx : (Lit.int .u64 x).wf = true) (wy : (Lit.int .u64 y).wf = true) :
    Calls Try.prog 5 #[v, .int .u64 x, .int .u64 y] w fun e w' => e = .returned (.bool true) ∧ Below w.heap.size w w' := by
  have hx := in_wf wx
  have hy := in_wf wy
  obtain ⟨a, l, cap, rfl, hR, hok⟩ := cvs_of hs
  by_cases hn : l.length ≤ 60
  case neg => exact straight_out a _ cap x y (Or.inl (by omega)) w
  by_cases h2 : x ≤ y
  case neg => exact straight_out a _ cap x y (Or.inr (Or.inl (by omega))) w
  by_cases h3 : y ≤ 4611686018427387904
  case neg => exact straight_out a _ cap x y (Or.inr (Or.inr (by omega))) w
  exact straight_in l a cap hn hok x y hx.1 h2 h3 w hR
end Go.Proofs.Ytpabidiggehmnaa
