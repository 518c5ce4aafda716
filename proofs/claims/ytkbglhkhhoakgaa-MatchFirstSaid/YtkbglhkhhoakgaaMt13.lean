/- Law 16's example; MatchNil. -/
import Derived.Test.YtkbglhkhhoakgaaMt12
namespace Go.Proofs.Ytkbglhkhhoakgaa
set_option linter.unusedVariables false
set_option linter.unusedSimpArgs false
set_option maxRecDepth 100000
open Go.RowKit Fg Reg
attribute [local irreducible] Reg.wE

def r1 : Rl := ⟨four 65535 0 0 0, four 7 0 0 0, 3⟩
theorem r1_wf : ∀ k (hk : k < [r1].length), ([r1] : List Rl)[k].wf := fun k hk => by
  obtain rfl : k = 0 := by simpa using hk
  exact ⟨four_lt (by decide) (by decide) (by decide) (by decide), four_lt (by decide) (by decide) (by decide) (by decide)⟩
theorem r1_new (a : Option Addr) (c : Nat) (w : World) (h : RlsV w a [r1]) : Calls Try.prog 13 #[.slice a 1 c] w fun e w' => Below w.heap.size w w' ∧ ∃ p, e = .returned (.tuple #[.pointer (some ⟨p, 0, none⟩), .int .i64 0]) ∧ TB w' p [r1] :=
  (new_c [r1] a c (by decide) r1_wf w h).mono fun e w' ⟨hb, h⟩ => by
    rcases h with ⟨_, p, he, ht, _⟩ | ⟨h, _⟩
    · exact ⟨hb, p, he, ht⟩
    · exact absurd h (by decide)
theorem r1_find (p : Nat) (w : World) (h : TB w p [r1]) : Calls Try.prog 15 #[.pointer (some ⟨p, 0, none⟩), .agg #[.int .u16 7, .int .u16 1, .int .u16 2, .int .u16 3]] w fun ee w' => ee = .returned (.tuple #[.int .i64 3, .int .i64 0]) ∧ Below w.heap.size w w' := by
  have := find_c [r1] p (four 7 1 2 3) (by decide) (four_lt (by decide) (by decide) (by decide) (by decide)) r1_wf w h
  rw [show rfind [r1] (four 7 1 2 3) = 3 by decide, show ferr [r1] (four 7 1 2 3) = 0 by decide] at this
  exact this
theorem r1_none (p : Nat) (w : World) (h : TB w p [r1]) : Calls Try.prog 15 #[.pointer (some ⟨p, 0, none⟩), .agg #[.int .u16 8, .int .u16 1, .int .u16 2, .int .u16 3]] w fun ee w' => ee = .returned (.tuple #[.int .i64 0, .int .i64 31]) ∧ Below w.heap.size w w' := by
  have := find_c [r1] p (four 8 1 2 3) (by decide) (four_lt (by decide) (by decide) (by decide) (by decide)) r1_wf w h
  rw [show rfind [r1] (four 8 1 2 3) = 0 by decide, show ferr [r1] (four 8 1 2 3) = 31 by decide] at this
  exact this
theorem r1_mat (w : World) : Calls Try.prog 18 #[.agg #[.int .u16 65535, .int .u16 0, .int .u16 0, .int .u16 0, .int .u16 7, .int .u16 0, .int .u16 0, .int .u16 0, .int .i64 3], .agg #[.int .u16 7, .int .u16 0, .int .u16 0, .int .u16 0]] w fun ee w' => ee = .returned (.bool true) ∧ Below w.heap.size w w' := by
  have := mma_c r1.m r1.s (four 7 0 0 0) r1.cls (four_lt (by decide) (by decide) (by decide) (by decide)) (four_lt (by decide) (by decide) (by decide) (by decide)) w
  rw [show mtc r1.m r1.s (four 7 0 0 0) = true by decide] at this
  exact this
theorem r1_uses (p : Nat) (w : World) (h : TB w p [r1]) : Calls Try.prog 20 #[.pointer (some ⟨p, 0, none⟩), .int .i64 3] w fun ee w' => ee = .returned (.bool true) ∧ Below w.heap.size w w' := by
  have := uses_c [r1] p (by decide) 3 w h
  rw [show ruses [r1] 3 = true by decide] at this
  exact this
theorem r1_not (p : Nat) (w : World) (h : TB w p [r1]) : Calls Try.prog 20 #[.pointer (some ⟨p, 0, none⟩), .int .i64 4] w fun ee w' => ee = .returned (.bool false) ∧ Below w.heap.size w w' := by
  have := uses_c [r1] p (by decide) 4 w h
  rw [show ruses [r1] 4 = false by decide] at this
  exact this
set_option maxHeartbeats 4000000 in
theorem seven_c (w : World) : Calls Try.prog 12 #[] w fun ee w' => ee = .returned (.bool true) ∧ Below w.heap.size w w' := by
  have HN := Lib.hid r1_new
  have H1 := Lib.hid r1_find
  have H2 := Lib.hid r1_none
  have H3 := Lib.hid r1_mat
  have H4 := Lib.hid r1_uses
  have H5 := Lib.hid r1_not
  go_enter Try.func12, Try.ntmps12
  go_wp2_with (first
    | (go_at_call 13; ((with_reducible refine (HN.out _ _ _ ?_).mono ?_); (focus (intro k hk; obtain rfl : k = 0 := (by simpa using hk); refine ⟨_, 0, rfl, (by simp), fun j v hv => ?_⟩; rcases j with _ | _ | _ | _ | _ | _ | _ | _ | _ | j <;> simp [Rl.cells, r1, four] at hv <;> (try subst hv) <;> simp [go_sem])); rintro e w1 ⟨hb, p, rfl, hT⟩; obtain ⟨hcc, hff⟩ := bcell hb; (have hsz := hb.size); (try simp at hsz); have hF : w1.cell? ⟨w.heap.size, 0, none⟩ = some (.int .u16 65535) ∧ w1.cell? ⟨w.heap.size, 1, none⟩ = some (.int .u16 0) ∧ w1.cell? ⟨w.heap.size, 2, none⟩ = some (.int .u16 0) ∧ w1.cell? ⟨w.heap.size, 3, none⟩ = some (.int .u16 0) ∧ w1.cell? ⟨w.heap.size, 4, none⟩ = some (.int .u16 7) ∧ w1.cell? ⟨w.heap.size, 5, none⟩ = some (.int .u16 0) ∧ w1.cell? ⟨w.heap.size, 6, none⟩ = some (.int .u16 0) ∧ w1.cell? ⟨w.heap.size, 7, none⟩ = some (.int .u16 0) ∧ w1.cell? ⟨w.heap.size, 8, none⟩ = some (.int .i64 3) ∧ w.heap.size < w1.heap.size := (by ((repeat' apply And.intro) <;> first | (simp [go_sem, *]; done) | omega | (repeat' (first | with_reducible exact Below.refl _ _ | with_reducible assumption | ((with_reducible refine Below.drew ?_)) | ((with_reducible refine below_drewN ?_ _)) | ((with_reducible refine Below.alloc ?_ ?_ _); rotate_left; focus (first | omega | (simp; done) | (simp; omega))) | ((with_reducible refine Below.setCell ?_ ?_ _); rotate_left; focus (first | omega | (simp; done) | (simp; omega))) | ((with_reducible refine Below.trans ?_ (Below.mono (by with_reducible assumption) ?_)); rotate_left; focus (first | omega | (simp; done) | (simp; omega))))))); go_split_ands; clear hcc hff; have hB1 : Below w.heap.size w w1 := Below.trans (by (repeat' (first | with_reducible exact Below.refl _ _ | with_reducible assumption | ((with_reducible refine Below.drew ?_)) | ((with_reducible refine below_drewN ?_ _)) | ((with_reducible refine Below.alloc ?_ ?_ _); rotate_left; focus (first | omega | (simp; done) | (simp; omega))) | ((with_reducible refine Below.setCell ?_ ?_ _); rotate_left; focus (first | omega | (simp; done) | (simp; omega))) | ((with_reducible refine Below.trans ?_ (Below.mono (by with_reducible assumption) ?_)); rotate_left; focus (first | omega | (simp; done) | (simp; omega)))))) (hb.mono (by simp; omega)); clear hb))
    | (go_at_call 15; ((with_reducible refine (H1.out _ _ hT).mono ?_); rintro e w2 ⟨rfl, hb⟩; obtain ⟨hcc, hff⟩ := bcell hb; (have hsz := hb.size); (try simp at hsz); have hF : w2.cell? ⟨w.heap.size, 0, none⟩ = some (.int .u16 65535) ∧ w2.cell? ⟨w.heap.size, 1, none⟩ = some (.int .u16 0) ∧ w2.cell? ⟨w.heap.size, 2, none⟩ = some (.int .u16 0) ∧ w2.cell? ⟨w.heap.size, 3, none⟩ = some (.int .u16 0) ∧ w2.cell? ⟨w.heap.size, 4, none⟩ = some (.int .u16 7) ∧ w2.cell? ⟨w.heap.size, 5, none⟩ = some (.int .u16 0) ∧ w2.cell? ⟨w.heap.size, 6, none⟩ = some (.int .u16 0) ∧ w2.cell? ⟨w.heap.size, 7, none⟩ = some (.int .u16 0) ∧ w2.cell? ⟨w.heap.size, 8, none⟩ = some (.int .i64 3) ∧ w.heap.size < w2.heap.size := (by ((repeat' apply And.intro) <;> first | (simp [go_sem, *]; done) | omega | (repeat' (first | with_reducible exact Below.refl _ _ | with_reducible assumption | ((with_reducible refine Below.drew ?_)) | ((with_reducible refine below_drewN ?_ _)) | ((with_reducible refine Below.alloc ?_ ?_ _); rotate_left; focus (first | omega | (simp; done) | (simp; omega))) | ((with_reducible refine Below.setCell ?_ ?_ _); rotate_left; focus (first | omega | (simp; done) | (simp; omega))) | ((with_reducible refine Below.trans ?_ (Below.mono (by with_reducible assumption) ?_)); rotate_left; focus (first | omega | (simp; done) | (simp; omega))))))); go_split_ands; clear hcc hff; replace hT := hT.below hb; replace hB1 := hB1.trans (hb.mono hB1.size); clear hb))
    | (go_at_call 15; ((with_reducible refine (H2.out _ _ hT).mono ?_); rintro e w3 ⟨rfl, hb⟩; obtain ⟨hcc, hff⟩ := bcell hb; (have hsz := hb.size); (try simp at hsz); have hF : w3.cell? ⟨w.heap.size, 0, none⟩ = some (.int .u16 65535) ∧ w3.cell? ⟨w.heap.size, 1, none⟩ = some (.int .u16 0) ∧ w3.cell? ⟨w.heap.size, 2, none⟩ = some (.int .u16 0) ∧ w3.cell? ⟨w.heap.size, 3, none⟩ = some (.int .u16 0) ∧ w3.cell? ⟨w.heap.size, 4, none⟩ = some (.int .u16 7) ∧ w3.cell? ⟨w.heap.size, 5, none⟩ = some (.int .u16 0) ∧ w3.cell? ⟨w.heap.size, 6, none⟩ = some (.int .u16 0) ∧ w3.cell? ⟨w.heap.size, 7, none⟩ = some (.int .u16 0) ∧ w3.cell? ⟨w.heap.size, 8, none⟩ = some (.int .i64 3) ∧ w.heap.size < w3.heap.size := (by ((repeat' apply And.intro) <;> first | (simp [go_sem, *]; done) | omega | (repeat' (first | with_reducible exact Below.refl _ _ | with_reducible assumption | ((with_reducible refine Below.drew ?_)) | ((with_reducible refine below_drewN ?_ _)) | ((with_reducible refine Below.alloc ?_ ?_ _); rotate_left; focus (first | omega | (simp; done) | (simp; omega))) | ((with_reducible refine Below.setCell ?_ ?_ _); rotate_left; focus (first | omega | (simp; done) | (simp; omega))) | ((with_reducible refine Below.trans ?_ (Below.mono (by with_reducible assumption) ?_)); rotate_left; focus (first | omega | (simp; done) | (simp; omega))))))); go_split_ands; clear hcc hff; replace hT := hT.below hb; replace hB1 := hB1.trans (hb.mono hB1.size); clear hb))
    | (go_at_call 18; ((with_reducible refine (H3.out _).mono ?_); rintro e w4 ⟨rfl, hb⟩; replace hT := hT.below hb; replace hB1 := hB1.trans (hb.mono hB1.size); clear hb))
    | (go_at_call 20; ((with_reducible refine (H4.out _ _ hT).mono ?_); rintro e w5 ⟨rfl, hb⟩; replace hT := hT.below hb; replace hB1 := hB1.trans (hb.mono hB1.size); clear hb))
    | (go_at_call 20; ((with_reducible refine (H5.out _ _ hT).mono ?_); rintro e w6 ⟨rfl, hb⟩; replace hT := hT.below hb; replace hB1 := hB1.trans (hb.mono hB1.size); clear hb)))
  go_ret
  exact ⟨rfl, hB1⟩
set_option maxHeartbeats 4000000 in
theorem matchNil_law (h0 h1 h2 h3 cl : Int) (w0 : (Lit.int .u16 h0).wf = true) (w1 : (Lit.int .u16 h1).wf = true) (w2 : (Lit.int .u16 h2).wf = true) (w3 : (Lit.int .u16 h3).wf = true) (w4 : (Lit.int .i64 cl).wf = true) (w : World) :
    Calls Try.prog 5 #[.agg #[.int .u16 h0, .int .u16 h1, .int .u16 h2, .int .u16 h3], .int .i64 cl] w fun e w' => e = .returned (.bool true) ∧ Below w.heap.size w w' := by
  obtain ⟨n0, rfl, l0⟩ := u16_nat w0
  obtain ⟨n1, rfl, l1⟩ := u16_nat w1
  obtain ⟨n2, rfl, l2⟩ := u16_nat w2
  obtain ⟨n3, rfl, l3⟩ := u16_nat w3
  have K1 := Lib.hid (fun z => (show Calls Try.prog 15 #[.pointer none, .agg #[.int .u16 (n0 : Nat), .int .u16 (n1 : Nat), .int .u16 (n2 : Nat), .int .u16 (n3 : Nat)]] z (fun ee w' => ee = .returned (.tuple #[.int .i64 0, .int .i64 7]) ∧ Below z.heap.size z w') from find_nil (four n0 n1 n2 n3) z))
  have K2 := Lib.hid rules_nil
  have K3 := Lib.hid (uses_nil cl)
  have K4 := Lib.hid seven_c
  clear w0 w1 w2 w3 w4
  go_enter Try.func5, Try.ntmps5
  go_wp2_with (first
    | (go_at_call 15; ((with_reducible refine (K1.out _).mono ?_); rintro e w1 ⟨rfl, hbel⟩; obtain ⟨hcc, hff⟩ := bcell hbel; have hsz := hbel.size; (try simp at hsz); have hF : Below w.heap.size w w1 := (by ((repeat' apply And.intro) <;> first | (simp [go_sem, *]; done) | omega | (repeat' (first | with_reducible exact Below.refl _ _ | with_reducible assumption | ((with_reducible refine Below.drew ?_)) | ((with_reducible refine below_drewN ?_ _)) | ((with_reducible refine Below.alloc ?_ ?_ _); rotate_left; focus (first | omega | (simp; done) | (simp; omega))) | ((with_reducible refine Below.setCell ?_ ?_ _); rotate_left; focus (first | omega | (simp; done) | (simp; omega))) | ((with_reducible refine Below.trans ?_ (Below.mono (by with_reducible assumption) ?_)); rotate_left; focus (first | omega | (simp; done) | (simp; omega))))))); go_split_ands; clear hcc hff hbel))
    | (go_at_call 17; ((with_reducible refine (K2.out _).mono ?_); rintro e w2 ⟨rfl, hbel⟩; obtain ⟨hcc, hff⟩ := bcell hbel; have hsz := hbel.size; (try simp at hsz); have hF : Below w.heap.size w w2 := (by ((repeat' apply And.intro) <;> first | (simp [go_sem, *]; done) | omega | (repeat' (first | with_reducible exact Below.refl _ _ | with_reducible assumption | ((with_reducible refine Below.drew ?_)) | ((with_reducible refine below_drewN ?_ _)) | ((with_reducible refine Below.alloc ?_ ?_ _); rotate_left; focus (first | omega | (simp; done) | (simp; omega))) | ((with_reducible refine Below.setCell ?_ ?_ _); rotate_left; focus (first | omega | (simp; done) | (simp; omega))) | ((with_reducible refine Below.trans ?_ (Below.mono (by with_reducible assumption) ?_)); rotate_left; focus (first | omega | (simp; done) | (simp; omega))))))); go_split_ands; clear hcc hff hbel))
    | (go_at_call 20; ((with_reducible refine (K3.out _).mono ?_); rintro e w3 ⟨rfl, hbel⟩; obtain ⟨hcc, hff⟩ := bcell hbel; have hsz := hbel.size; (try simp at hsz); have hF : Below w.heap.size w w3 := (by ((repeat' apply And.intro) <;> first | (simp [go_sem, *]; done) | omega | (repeat' (first | with_reducible exact Below.refl _ _ | with_reducible assumption | ((with_reducible refine Below.drew ?_)) | ((with_reducible refine below_drewN ?_ _)) | ((with_reducible refine Below.alloc ?_ ?_ _); rotate_left; focus (first | omega | (simp; done) | (simp; omega))) | ((with_reducible refine Below.setCell ?_ ?_ _); rotate_left; focus (first | omega | (simp; done) | (simp; omega))) | ((with_reducible refine Below.trans ?_ (Below.mono (by with_reducible assumption) ?_)); rotate_left; focus (first | omega | (simp; done) | (simp; omega))))))); go_split_ands; clear hcc hff hbel))
    | (go_at_call 12; ((with_reducible refine (K4.out _).mono ?_); rintro e w4 ⟨rfl, hbel⟩; obtain ⟨hcc, hff⟩ := bcell hbel; have hsz := hbel.size; (try simp at hsz); have hF : Below w.heap.size w w4 := (by ((repeat' apply And.intro) <;> first | (simp [go_sem, *]; done) | omega | (repeat' (first | with_reducible exact Below.refl _ _ | with_reducible assumption | ((with_reducible refine Below.drew ?_)) | ((with_reducible refine below_drewN ?_ _)) | ((with_reducible refine Below.alloc ?_ ?_ _); rotate_left; focus (first | omega | (simp; done) | (simp; omega))) | ((with_reducible refine Below.setCell ?_ ?_ _); rotate_left; focus (first | omega | (simp; done) | (simp; omega))) | ((with_reducible refine Below.trans ?_ (Below.mono (by with_reducible assumption) ?_)); rotate_left; focus (first | omega | (simp; done) | (simp; omega))))))); go_split_ands; clear hcc hff hbel)))
  (go_ret; refine ⟨?_, ?_⟩; (focus (exact rfl)); ((repeat' (first | with_reducible exact Below.refl _ _ | with_reducible assumption | ((with_reducible refine Below.drew ?_)) | ((with_reducible refine below_drewN ?_ _)) | ((with_reducible refine Below.alloc ?_ ?_ _); rotate_left; focus (first | omega | (simp; done) | (simp; omega))) | ((with_reducible refine Below.setCell ?_ ?_ _); rotate_left; focus (first | omega | (simp; done) | (simp; omega))) | ((with_reducible refine Below.trans ?_ (Below.mono (by with_reducible assumption) ?_)); rotate_left; focus (first | omega | (simp; done) | (simp; omega))))); done))
end Go.Proofs.Ytkbglhkhhoakgaa
