/- SumKnees. -/
import Derived.Test.YtpabidiggehmnaaSu31
namespace Go.Proofs.Ytpabidiggehmnaa
set_option linter.unusedVariables false
set_option linter.unusedSimpArgs false
set_option maxRecDepth 100000
open Go.RowKit Fg Reg Go.Sort
attribute [local irreducible] Reg.wE Holds QS

theorem KV.at {z : World} {p : Option Addr} {L : List Int} (h : KV z p L) {j : Nat} (hj : j < L.length) : ∃ b o, p = some ⟨b, o, none⟩ ∧ b < z.heap.size ∧ ∀ i, i < L.length → z.cell? ⟨b, o + i, none⟩ = some (.int .u64 (L.getD i 0)) := by
  rcases h with h | h
  · rw [h] at hj; exact absurd hj (by simp)
  · exact h
theorem kns_lt (l : List Cv) {i j : Nat} (hij : i < j) (hj : j < (kns l).length) : (kns l).getD i 0 < (kns l).getD j 0 := by
  have h := List.pairwise_iff_getElem.1 (kns_ss l) i j (by omega) hj hij
  simpa [List.getD, show i < (kns l).length by omega, hj] using h
theorem knees_out (a : Option Addr) (n c : Nat) (hn : 100 < n) (w : World) : Calls Try.prog 4 #[.slice a n c] w fun e w' => e = .returned (.bool true) ∧ Below w.heap.size w w' := by
  have K7 := Lib.hid two_c
  have d1 : decide (100 < (n : Int)) = true := by simp; omega
  go_enter Try.func4, Try.ntmps4
  go_wp2_with (go_at_call 11; ((with_reducible refine (K7.out _).mono ?_); rintro e w7 ⟨rfl, hbel⟩; obtain ⟨hcc, hff⟩ := bcell hbel; have hsz := hbel.size; (try simp at hsz); have hF : Below w.heap.size w w7 := (by ((repeat' apply And.intro) <;> first | (simp [go_sem, *]; done) | omega | (repeat' (first | with_reducible exact Below.refl _ _ | with_reducible assumption | ((with_reducible refine Below.drew ?_)) | ((with_reducible refine below_drewN ?_ _)) | ((with_reducible refine Below.alloc ?_ ?_ _); rotate_left; focus (first | omega | (simp; done) | (simp; omega))) | ((with_reducible refine Below.setCell ?_ ?_ _); rotate_left; focus (first | omega | (simp; done) | (simp; omega))) | ((with_reducible refine Below.trans ?_ (Below.mono (by with_reducible assumption) ?_)); rotate_left; focus (first | omega | (simp; done) | (simp; omega))))))); go_split_ands; clear hcc hff hbel))
  (go_ret; refine ⟨?_, ?_⟩; (focus (exact rfl)); ((repeat' (first | with_reducible exact Below.refl _ _ | with_reducible assumption | ((with_reducible refine Below.drew ?_)) | ((with_reducible refine below_drewN ?_ _)) | ((with_reducible refine Below.alloc ?_ ?_ _); rotate_left; focus (first | omega | (simp; done) | (simp; omega))) | ((with_reducible refine Below.setCell ?_ ?_ _); rotate_left; focus (first | omega | (simp; done) | (simp; omega))) | ((with_reducible refine Below.trans ?_ (Below.mono (by with_reducible assumption) ?_)); rotate_left; focus (first | omega | (simp; done) | (simp; omega))))); done))
set_option maxHeartbeats 4000000 in
theorem knees_in (l : List Cv) (a : Option Addr) (c : Nat) (hn : l.length ≤ 100) (hok : ∀ k (h : k < l.length), l[k].ok) (w : World) (hR : RwV Cv.cells 3 w a l) :
    Calls Try.prog 4 #[.slice a l.length c] w fun e w' => e = .returned (.bool true) ∧ Below w.heap.size w w' := by
  have K7 := Lib.hid two_c
  have K1 := Lib.hid (kneesA_c l a c hn hok w hR)
  have K2 := Lib.hid (fun (z : World) (hz : Below w.heap.size w z) => rknees_c l a c hn hok z (hR.below hz))
  have hlt := fun {i j : Nat} (h : i < j) hj => kns_lt l (i := i) (j := j) h hj
  have hlen := kns_len l
  generalize kns l = K at *
  have HLT := Lib.hid (fun (i j : Nat) (h : i < j) (hj : j < K.length) => hlt h hj)
  have d1 : decide (100 < (l.length : Int)) = false := by simp; omega
  clear hlt hok hR
  go_enter Try.func4, Try.ntmps4
  go_wp2_with (first
    | (go_at_call 18; (with_reducible refine K1.out.mono ?_); rintro e w1 ⟨⟨p1, c1, rfl, hk1⟩, hb1⟩)
    | (go_at_call 19; (with_reducible refine (K2.out _ hb1).mono ?_); rintro e w2 ⟨⟨p2, c2, rfl, hk2⟩, hb2⟩))
  have hk1' := hk1.below hb2
  have hb2' : Below w.heap.size w w2 := hb1.trans (Below.mono hb2 hb1.size)
  have HK1 := Lib.hid hk1'
  have HK2 := Lib.hid hk2
  have hs2 := hb2'.size
  clear hk1 hk1' hk2 hb1 hb2
  go_loopw [22] (fun jv wr => ∃ j : Nat, j ≤ K.length ∧ jv = .int .i64 j ∧ Below w2.heap.size w2 wr) (fun jv _ => K.length - (intOf jv).toNat)
  case atStart => exact ⟨0, Nat.zero_le _, rfl, Below.refl _ _⟩
  case round =>
    obtain ⟨j, hj, rfl, hB⟩ := hrel
    by_cases hlt : j < K.length
    · obtain ⟨b1, o1, rfl, hbl1, hu1⟩ := (HK1.out.below hB).at hlt
      obtain ⟨b2, o2, rfl, hbl2, hu2⟩ := (HK2.out.below hB).at hlt
      have e1 := hu1 j hlt
      have e2 := hu2 j hlt
      cases j with
      | zero =>
        clear hu1 hu2
        simp only [Nat.add_zero] at e1 e2
        generalize K.getD 0 0 = y at *
        go_wp2
        go_roundw
        case rel => exact ⟨1, by omega, by go_num, hB⟩
        case measure => simp [intOf]; omega
      | succ i =>
        have e3 := hu1 i (by omega)
        have hyz := HLT.out i (i + 1) (by omega) hlt
        clear hu1 hu2
        generalize K.getD (i + 1) 0 = y at *
        generalize K.getD i 0 = z at *
        have d2 : decide (y ≤ z) = false := decide_eq_false (by omega)
        have t1 : ((i : Int) + 1).toNat = i + 1 := by omega
        have e1' : wr.cell? ⟨b1, o1 + (i + 1), none⟩ = some (.int .u64 y) := e1
        have e2' : wr.cell? ⟨b2, o2 + (i + 1), none⟩ = some (.int .u64 y) := e2
        have hil : (i : Int) + 1 < K.length := by omega
        have hil0 : (i : Int) < K.length := by omega
        have hip : (0 : Int) < (i : Int) + 1 := by omega
        go_wp2
        go_roundw
        case rel => exact ⟨i + 2, by omega, by go_num, hB⟩
        case measure => simp [intOf]; omega
    · obtain rfl : j = K.length := by omega
      have hb3 : Below w.heap.size w wr := hb2'.trans (Below.mono hB hs2)
      have hs3 := hb3.size
      go_wp2_with (go_at_call 11; ((with_reducible refine (K7.out _).mono ?_); rintro e w7 ⟨rfl, hbel⟩; obtain ⟨hcc, hff⟩ := bcell hbel; have hsz := hbel.size; (try simp at hsz); have hF : Below w.heap.size w w7 := (by ((repeat' apply And.intro) <;> first | (simp [go_sem, *]; done) | omega | (repeat' (first | with_reducible exact Below.refl _ _ | with_reducible assumption | ((with_reducible refine Below.drew ?_)) | ((with_reducible refine below_drewN ?_ _)) | ((with_reducible refine Below.alloc ?_ ?_ _); rotate_left; focus (first | omega | (simp; done) | (simp; omega))) | ((with_reducible refine Below.setCell ?_ ?_ _); rotate_left; focus (first | omega | (simp; done) | (simp; omega))) | ((with_reducible refine Below.trans ?_ (Below.mono (by with_reducible assumption) ?_)); rotate_left; focus (first | omega | (simp; done) | (simp; omega))))))); go_split_ands; clear hcc hff hbel))
      (go_ret; refine ⟨?_, ?_⟩; (focus (exact rfl)); ((repeat' (first | with_reducible exact Below.refl _ _ | with_reducible assumption | ((with_reducible refine Below.drew ?_)) | ((with_reducible refine below_drewN ?_ _)) | ((with_reducible refine Below.alloc ?_ ?_ _); rotate_left; focus (first | omega | (simp; done) | (simp; omega))) | ((with_reducible refine Below.setCell ?_ ?_ _); rotate_left; focus (first | omega | (simp; done) | (simp; omega))) | ((with_reducible refine Below.trans ?_ (Below.mono (by with_reducible assumption) ?_)); rotate_left; focus (first | omega | (simp; done) | (simp; omega))))); done))
theorem sumKnees_law (v : Value) {w : World} (hs : Op.FlatSlice w 3 [.int .u64, .int .u64, .int .u64] v) :
    Calls Try.prog 4 #[v] w fun e w' => e = .returned (.bool true) ∧ Below w.heap.size w w' := by
  obtain ⟨a, l, cap, rfl, hR, hok⟩ := cvs_of hs
  by_cases hn : l.length ≤ 100
  case neg => exact knees_out a _ cap (by omega) w
  exact knees_in l a cap hn hok w hR
end Go.Proofs.Ytpabidiggehmnaa
