/- The law on curves out of text. -/
import Derived.Test.YtdiniaokkdcihaaDoorTx17
import Derived.Test.YtdiniaokkdcihaaDoorTx28
namespace Go.Proofs.YtdiniaokkdcihaaDoor
set_option linter.unusedVariables false
set_option linter.unusedSimpArgs false
set_option maxRecDepth 100000
open Go.RowKit Fg Reg
attribute [local irreducible] Reg.wE TB

set_option maxHeartbeats 4000000 in
theorem rateCurves_core (S : ByteArray) (h : Int) (hs : S.size ≤ 200) (w : World) (hT : TB w) (a b c e : Int) (k0 : ∀ w, Calls Tryd.prog 58 #[.string S, .int .u64 h] w fun ee w' => ee = .returned (.tuple #[.agg #[.int .u64 (a), .int .u64 (b), .int .u64 (c)], .int .i64 (e)]) ∧ Below w.heap.size w w') (k1 : ∀ w, Calls Tryd.prog 59 #[.string S, .int .u64 h] w fun ee w' => ee = .returned (.agg #[.int .u64 (a), .int .u64 (b), .int .u64 (c), .int .i64 (e)]) ∧ Below w.heap.size w w') :
    Calls Tryd.prog 16 #[.string S, .int .u64 h] w fun e w' => e = .returned (.bool true) ∧ Below w.heap.size w w' := by
  have K0 := Lib.hid k0
  have K1 := Lib.hid k1
  have KK := Lib.hid kilo_c
  have HT := Lib.hid hT
  have g0 : decide ((200 : Int) < S.size) = false := by simp; omega
  have g1 : decide (200 < S.size) = false := by simp; omega
  clear k0 k1 hT
  go_enter Tryd.func16, Tryd.ntmps16
  go_wp2_with (first
    | (go_at_call 58; ((with_reducible refine (K0.out _).mono ?_); rintro e w1 ⟨rfl, hbel⟩; obtain ⟨hcc, hff⟩ := bcell hbel; have hsz := hbel.size; (try simp at hsz); have hF : Below w.heap.size w w1 := (by ((repeat' apply And.intro) <;> first | (simp [go_sem, *]; done) | omega | (repeat' (first | with_reducible exact Below.refl _ _ | with_reducible assumption | ((with_reducible refine Below.drew ?_)) | ((with_reducible refine below_drewN ?_ _)) | ((with_reducible refine Below.alloc ?_ ?_ _); rotate_left; focus (first | omega | (simp; done) | (simp; omega))) | ((with_reducible refine Below.setCell ?_ ?_ _); rotate_left; focus (first | omega | (simp; done) | (simp; omega))) | ((with_reducible refine Below.trans ?_ (Below.mono (by with_reducible assumption) ?_)); rotate_left; focus (first | omega | (simp; done) | (simp; omega))))))); go_split_ands; clear hcc hff hbel))
    | (go_at_call 59; ((with_reducible refine (K1.out _).mono ?_); rintro e w2 ⟨rfl, hbel⟩; obtain ⟨hcc, hff⟩ := bcell hbel; have hsz := hbel.size; (try simp at hsz); have hF : (w2.cell? ⟨w1.heap.size, 0, none⟩ = some (.int .u64 (a)) ∧ w2.cell? ⟨w1.heap.size, 1, none⟩ = some (.int .u64 (b)) ∧ w2.cell? ⟨w1.heap.size, 2, none⟩ = some (.int .u64 (c)) ∧ w1.heap.size < w2.heap.size) ∧ Below w.heap.size w w2 := (by ((repeat' apply And.intro) <;> first | (simp [go_sem, *]; done) | omega | (repeat' (first | with_reducible exact Below.refl _ _ | with_reducible assumption | ((with_reducible refine Below.drew ?_)) | ((with_reducible refine below_drewN ?_ _)) | ((with_reducible refine Below.alloc ?_ ?_ _); rotate_left; focus (first | omega | (simp; done) | (simp; omega))) | ((with_reducible refine Below.setCell ?_ ?_ _); rotate_left; focus (first | omega | (simp; done) | (simp; omega))) | ((with_reducible refine Below.trans ?_ (Below.mono (by with_reducible assumption) ?_)); rotate_left; focus (first | omega | (simp; done) | (simp; omega))))))); go_split_ands; clear hcc hff hbel))
    | (go_at_call 41; ((with_reducible refine (KK.out _ (TB.below HT.out (by repeat' (first | with_reducible exact Below.refl _ _ | with_reducible assumption | ((with_reducible refine Below.drew ?_)) | ((with_reducible refine below_drewN ?_ _)) | ((with_reducible refine Below.alloc ?_ ?_ _); rotate_left; focus (first | omega | (simp; done) | (simp; omega))) | ((with_reducible refine Below.setCell ?_ ?_ _); rotate_left; focus (first | omega | (simp; done) | (simp; omega))) | ((with_reducible refine Below.trans ?_ (Below.mono (by with_reducible assumption) ?_)); rotate_left; focus (first | omega | (simp; done) | (simp; omega))))) (Nat.le_refl _))).mono ?_); rintro e w7 ⟨rfl, hbel⟩; obtain ⟨hcc, hff⟩ := bcell hbel; have hsz := hbel.size; (try simp at hsz); have hF : Below w.heap.size w w7 := (by ((repeat' apply And.intro) <;> first | (simp [go_sem, *]; done) | omega | (repeat' (first | with_reducible exact Below.refl _ _ | with_reducible assumption | ((with_reducible refine Below.drew ?_)) | ((with_reducible refine below_drewN ?_ _)) | ((with_reducible refine Below.alloc ?_ ?_ _); rotate_left; focus (first | omega | (simp; done) | (simp; omega))) | ((with_reducible refine Below.setCell ?_ ?_ _); rotate_left; focus (first | omega | (simp; done) | (simp; omega))) | ((with_reducible refine Below.trans ?_ (Below.mono (by with_reducible assumption) ?_)); rotate_left; focus (first | omega | (simp; done) | (simp; omega))))))); go_split_ands; clear hcc hff hbel)))
  (go_ret; refine ⟨?_, ?_⟩; (focus (exact rfl)); ((repeat' (first | with_reducible exact Below.refl _ _ | with_reducible assumption | ((with_reducible refine Below.drew ?_)) | ((with_reducible refine below_drewN ?_ _)) | ((with_reducible refine Below.alloc ?_ ?_ _); rotate_left; focus (first | omega | (simp; done) | (simp; omega))) | ((with_reducible refine Below.setCell ?_ ?_ _); rotate_left; focus (first | omega | (simp; done) | (simp; omega))) | ((with_reducible refine Below.trans ?_ (Below.mono (by with_reducible assumption) ?_)); rotate_left; focus (first | omega | (simp; done) | (simp; omega))))); done))
theorem rateCurves_out (S : ByteArray) (h : Int) (hs : ¬ S.size ≤ 200) (w : World) (hT : TB w) : Calls Tryd.prog 16 #[.string S, .int .u64 h] w fun e w' => e = .returned (.bool true) ∧ Below w.heap.size w w' := by
  have g0 : decide ((200 : Int) < S.size) = true := by simp; omega
  have g1 : decide (200 < S.size) = true := by simp; omega
  have KK := Lib.hid kilo_c
  have HT := Lib.hid hT
  clear hT
  go_enter Tryd.func16, Tryd.ntmps16
  go_wp2_with (go_at_call 41; ((with_reducible refine (KK.out _ HT.out).mono ?_); rintro e w4 ⟨rfl, hbel⟩; obtain ⟨hcc, hff⟩ := bcell hbel; have hsz := hbel.size; (try simp at hsz); have hF : Below w.heap.size w w4 := (by ((repeat' apply And.intro) <;> first | (simp [go_sem, *]; done) | omega | (repeat' (first | with_reducible exact Below.refl _ _ | with_reducible assumption | ((with_reducible refine Below.drew ?_)) | ((with_reducible refine below_drewN ?_ _)) | ((with_reducible refine Below.alloc ?_ ?_ _); rotate_left; focus (first | omega | (simp; done) | (simp; omega))) | ((with_reducible refine Below.setCell ?_ ?_ _); rotate_left; focus (first | omega | (simp; done) | (simp; omega))) | ((with_reducible refine Below.trans ?_ (Below.mono (by with_reducible assumption) ?_)); rotate_left; focus (first | omega | (simp; done) | (simp; omega))))))); go_split_ands; clear hcc hff hbel))
  (go_ret; refine ⟨?_, ?_⟩; (focus (exact rfl)); ((repeat' (first | with_reducible exact Below.refl _ _ | with_reducible assumption | ((with_reducible refine Below.drew ?_)) | ((with_reducible refine below_drewN ?_ _)) | ((with_reducible refine Below.alloc ?_ ?_ _); rotate_left; focus (first | omega | (simp; done) | (simp; omega))) | ((with_reducible refine Below.setCell ?_ ?_ _); rotate_left; focus (first | omega | (simp; done) | (simp; omega))) | ((with_reducible refine Below.trans ?_ (Below.mono (by with_reducible assumption) ?_)); rotate_left; focus (first | omega | (simp; done) | (simp; omega))))); done))
theorem glue_len (x : List UInt8) (l : List (List UInt8)) : True := trivial
theorem cut_short (l : List UInt8) : ∀ p ∈ cutL 32 l, p.length ≤ l.length := by
  induction l with
  | nil => intro p hp; simp [cutL] at hp; simp [hp]
  | cons b l ih =>
    intro p hp
    unfold cutL at hp
    by_cases hb : b = 32
    · rw [if_pos hb] at hp
      rcases List.mem_cons.1 hp with rfl | hp
      · simp
      · have := ih p hp; simp; omega
    · rw [if_neg hb] at hp
      split at hp
      · rename_i hh t e
        rcases List.mem_cons.1 hp with rfl | hp
        · have := ih hh (by rw [e]; simp); simp; omega
        · have := ih p (by rw [e]; simp [hp]); simp; omega
      · simp at hp; simp [hp]
theorem pcs_short {S P : ByteArray} (h : P ∈ pcs32 S) : P.size ≤ S.size := by
  unfold pcs32 at h
  obtain ⟨l, hl, rfl⟩ := List.mem_map.1 h
  have h2 := cut_short _ l hl
  rw [size_len] at h2
  show l.toArray.size ≤ _
  simpa using h2
theorem rateCurves_law (S : ByteArray) (h : Int) {P : Prop} (wS : P) (wh : (Lit.int .u64 h).wf = true) {w : World} (hT : TB w) : Calls Tryd.prog 16 #[.string S, .int .u64 h] w fun e w' => e = .returned (.bool true) ∧ Below w.heap.size w w' := by
  have hin := in_wf wh
  by_cases hs : S.size ≤ 200
  · cases hh : cm h with
    | false => exact rateCurves_core S h hs w hT _ _ _ _ (crv_bad S h hh) (rcrv_bad S h hh)
    | true =>
      by_cases hd : S = ⟨#[45]⟩
      · subst hd
        exact rateCurves_core _ h hs w hT _ _ _ _ (crv_dash h hh) (rcrv_dash h hh)
      · have hdb : (S.toList == [45]) = false := by
          rw [Bool.eq_false_iff]; intro e
          apply hd
          have e2 := eq_of_beq e
          rw [ByteArray.toList_eq] at e2
          apply ByteArray.ext
          apply Array.toList_inj.1
          exact e2
        have hfew : (∃ A, pcs32 S = [A]) ∨ (∃ A B C, pcs32 S = [A, B, C]) ∨ (¬ (pcs32 S).length = 1 ∧ ¬ (pcs32 S).length = 3) := by
          rcases pcs32 S with _ | ⟨A, _ | ⟨B, _ | ⟨C, _ | ⟨D, l⟩⟩⟩⟩
          · exact .inr (.inr ⟨by simp, by simp⟩)
          · exact .inl ⟨A, rfl⟩
          · exact .inr (.inr ⟨by simp, by simp⟩)
          · exact .inr (.inl ⟨A, B, C, rfl⟩)
          · exact .inr (.inr ⟨by simp, by simp⟩)
        rcases hfew with ⟨A, hp⟩ | ⟨A, B, C, hp⟩ | ⟨h1, h3⟩
        · have hA := pcs_short (S := S) (P := A) (by rw [hp]; simp)
          by_cases h0 : nrE A.data.toList h = 0
          · refine rateCurves_core S h hs w hT (nrV A.data.toList h) 0 (nrV A.data.toList h) 0 (fun w => ?_) (fun w => ?_)
            · have k := crv_one S A (by omega) hp (by omega) h hin hh hdb w
              simpa only [h0, if_true] using k
            · have k := rcrv_one S A (by omega) hp (by omega) h hin hh hdb w
              simpa only [h0, if_true] using k
          · refine rateCurves_core S h hs w hT 0 0 0 (nrE A.data.toList h) (fun w => ?_) (fun w => ?_)
            · have k := crv_one S A (by omega) hp (by omega) h hin hh hdb w
              simpa only [if_neg h0] using k
            · have k := rcrv_one S A (by omega) hp (by omega) h hin hh hdb w
              simpa only [if_neg h0] using k
        · have hA := pcs_short (S := S) (P := A) (by rw [hp]; simp)
          have hB := pcs_short (S := S) (P := B) (by rw [hp]; simp)
          have hC := pcs_short (S := S) (P := C) (by rw [hp]; simp)
          by_cases h0 : c3E A.data.toList B.data.toList C.data.toList h = 0
          · refine rateCurves_core S h hs w hT (nrV A.data.toList h) (ntV B.data.toList h) (nrV C.data.toList h) 0 (fun w => ?_) (fun w => ?_)
            · have k := crv_three S A B C (by omega) hp (by omega) (by omega) (by omega) h hin hh hdb w
              simpa only [h0, if_true] using k
            · have k := rcrv_three S A B C (by omega) hp (by omega) (by omega) (by omega) h hin hh hdb w
              simpa only [h0, if_true] using k
          · refine rateCurves_core S h hs w hT 0 0 0 (c3E A.data.toList B.data.toList C.data.toList h) (fun w => ?_) (fun w => ?_)
            · have k := crv_three S A B C (by omega) hp (by omega) (by omega) (by omega) h hin hh hdb w
              simpa only [if_neg h0] using k
            · have k := rcrv_three S A B C (by omega) hp (by omega) (by omega) (by omega) h hin hh hdb w
              simpa only [if_neg h0] using k
        · exact rateCurves_core S h hs w hT _ _ _ _ (crv_form S (by omega) h hh hdb h1 h3) (rcrv_form S (by omega) h hh hdb h1 h3)
  · exact rateCurves_out S h hs w hT
end Go.Proofs.YtdiniaokkdcihaaDoor
