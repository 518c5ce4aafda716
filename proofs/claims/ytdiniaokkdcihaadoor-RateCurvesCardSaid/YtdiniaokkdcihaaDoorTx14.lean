/- A slope or ticks out of a text; a text's one, or three, pieces. -/
import Derived.Test.YtdiniaokkdcihaaDoorTx9
import Derived.Test.YtdiniaokkdcihaaDoorTx11
import Derived.Test.YtdiniaokkdcihaaDoorTx13
namespace Go.Proofs.YtdiniaokkdcihaaDoor
set_option linter.unusedVariables false
set_option linter.unusedSimpArgs false
set_option maxRecDepth 100000
open Go.RowKit Fg Reg
attribute [local irreducible] Reg.wE

theorem amV_in (l : List UInt8) (n : Nat) (times most : Int) (ht : 0 < times) (hm : 0 ≤ most) (hM : most < 18446744073709551616) : 0 ≤ amV l n times most ∧ amV l n times most ≤ most := by
  rcases am_cases l n times most ht hm hM _ _ rfl rfl with ⟨_, _, h⟩ | ⟨_, _, _, h⟩ | ⟨_, _, _, h, h2, h3⟩
  · rw [h]; omega
  · rw [h]; omega
  · rw [h]; exact ⟨Int.mul_nonneg h2 (Int.le_of_lt ht), h3⟩
theorem rtim_pos (k : Nat) : 0 < rtim k := by unfold rtim; split <;> omega
theorem ttim_pos (k : Nat) : 0 < ttim k := by unfold ttim; split <;> omega
theorem ratV_in (l : List UInt8) : 0 ≤ ratV l ∧ ratV l ≤ 1000000000000 := by
  unfold ratV ratV0
  have h := amV_in l (rlen (rsel l)) (rtim (rsel l)) 1000000000000 (rtim_pos _) (by omega) (by omega)
  split <;> try split
  all_goals omega
theorem timV_in (l : List UInt8) : 0 ≤ timV l ∧ timV l ≤ 1000000000 := by
  unfold timV
  have h := amV_in l (tlen (tsel l)) (ttim (tsel l)) 1000000000 (ttim_pos _) (by omega) (by omega)
  split
  all_goals omega
def nrE (l : List UInt8) (h : Int) : Int := if ratE l = 0 then sloE (ratV l) h else ratE l
def nrV (l : List UInt8) (h : Int) : Int := if ratE l = 0 then sloV (ratV l) h else 0
def ntE (l : List UInt8) (h : Int) : Int := if timE l = 0 then tikE (timV l) h else timE l
def ntV (l : List UInt8) (h : Int) : Int := if timE l = 0 then tikV (timV l) h else 0
theorem nr_c (S : ByteArray) (hS : S.size < 9223372036854775807) (h : Int) (hh : In h) (w : World) : Calls Tryd.prog 97 #[.string S, .int .u64 h, .bool false] w fun ee w' => ee = .returned (.tuple #[.int .u64 (nrV S.data.toList h), .int .i64 (nrE S.data.toList h)]) ∧ Below w.heap.size w w' := by
  unfold nrV nrE
  have kr := fun w => rate_c S hS w
  have hv := ratV_in S.data.toList
  have ks := fun w => slo_c (ratV S.data.toList) h (by unfold In; omega) hh w
  obtain ⟨V, hV⟩ : ∃ V, ratV S.data.toList = V := ⟨_, rfl⟩
  obtain ⟨E, hE⟩ : ∃ E, ratE S.data.toList = E := ⟨_, rfl⟩
  simp only [hV, hE] at kr ks hv ⊢
  have KR := Lib.hid kr
  have KS := Lib.hid ks
  clear kr ks hV hE
  by_cases h0 : E = 0
  · subst h0
    rw [if_pos rfl, if_pos rfl]
    generalize sloV V h = a at *
    generalize sloE V h = b at *
    go_enter Tryd.func97, Tryd.ntmps97
    go_wp2_with (first | (go_at_call 42; ((with_reducible refine (KR.out _).mono ?_); rintro e w1 ⟨rfl, hbel⟩; obtain ⟨hcc, hff⟩ := bcell hbel; have hsz := hbel.size; (try simp at hsz); have hF : Below w.heap.size w w1 := (by ((repeat' apply And.intro) <;> first | (simp [go_sem, *]; done) | omega | (repeat' (first | with_reducible exact Below.refl _ _ | with_reducible assumption | ((with_reducible refine Below.drew ?_)) | ((with_reducible refine below_drewN ?_ _)) | ((with_reducible refine Below.alloc ?_ ?_ _); rotate_left; focus (first | omega | (simp; done) | (simp; omega))) | ((with_reducible refine Below.setCell ?_ ?_ _); rotate_left; focus (first | omega | (simp; done) | (simp; omega))) | ((with_reducible refine Below.trans ?_ (Below.mono (by with_reducible assumption) ?_)); rotate_left; focus (first | omega | (simp; done) | (simp; omega))))))); go_split_ands; clear hcc hff hbel)) | (go_at_call 50; ((with_reducible refine (KS.out _).mono ?_); rintro e w2 ⟨rfl, hbel⟩; obtain ⟨hcc, hff⟩ := bcell hbel; have hsz := hbel.size; (try simp at hsz); have hF : Below w.heap.size w w2 := (by ((repeat' apply And.intro) <;> first | (simp [go_sem, *]; done) | omega | (repeat' (first | with_reducible exact Below.refl _ _ | with_reducible assumption | ((with_reducible refine Below.drew ?_)) | ((with_reducible refine below_drewN ?_ _)) | ((with_reducible refine Below.alloc ?_ ?_ _); rotate_left; focus (first | omega | (simp; done) | (simp; omega))) | ((with_reducible refine Below.setCell ?_ ?_ _); rotate_left; focus (first | omega | (simp; done) | (simp; omega))) | ((with_reducible refine Below.trans ?_ (Below.mono (by with_reducible assumption) ?_)); rotate_left; focus (first | omega | (simp; done) | (simp; omega))))))); go_split_ands; clear hcc hff hbel)))
    refine bodyPost_ret (v := .tuple #[.int .u64 (a), .int .i64 (b)]) (by simp [results, Tryd.results97, go_sem, *]) rfl ⟨rfl, (by repeat' (first | with_reducible exact Below.refl _ _ | with_reducible assumption | ((with_reducible refine Below.drew ?_)) | ((with_reducible refine below_drewN ?_ _)) | ((with_reducible refine Below.alloc ?_ ?_ _); rotate_left; focus (first | omega | (simp; done) | (simp; omega))) | ((with_reducible refine Below.setCell ?_ ?_ _); rotate_left; focus (first | omega | (simp; done) | (simp; omega))) | ((with_reducible refine Below.trans ?_ (Below.mono (by with_reducible assumption) ?_)); rotate_left; focus (first | omega | (simp; done) | (simp; omega)))))⟩
  · rw [if_neg h0, if_neg h0]
    have d1 : (E == 0) = false := by simpa using h0
    go_enter Tryd.func97, Tryd.ntmps97
    go_wp2_with (first | (go_at_call 42; ((with_reducible refine (KR.out _).mono ?_); rintro e w1 ⟨rfl, hbel⟩; obtain ⟨hcc, hff⟩ := bcell hbel; have hsz := hbel.size; (try simp at hsz); have hF : Below w.heap.size w w1 := (by ((repeat' apply And.intro) <;> first | (simp [go_sem, *]; done) | omega | (repeat' (first | with_reducible exact Below.refl _ _ | with_reducible assumption | ((with_reducible refine Below.drew ?_)) | ((with_reducible refine below_drewN ?_ _)) | ((with_reducible refine Below.alloc ?_ ?_ _); rotate_left; focus (first | omega | (simp; done) | (simp; omega))) | ((with_reducible refine Below.setCell ?_ ?_ _); rotate_left; focus (first | omega | (simp; done) | (simp; omega))) | ((with_reducible refine Below.trans ?_ (Below.mono (by with_reducible assumption) ?_)); rotate_left; focus (first | omega | (simp; done) | (simp; omega))))))); go_split_ands; clear hcc hff hbel)))
    refine bodyPost_ret (v := .tuple #[.int .u64 (0), .int .i64 (E)]) (by simp [results, Tryd.results97, go_sem, *]) rfl ⟨rfl, (by repeat' (first | with_reducible exact Below.refl _ _ | with_reducible assumption | ((with_reducible refine Below.drew ?_)) | ((with_reducible refine below_drewN ?_ _)) | ((with_reducible refine Below.alloc ?_ ?_ _); rotate_left; focus (first | omega | (simp; done) | (simp; omega))) | ((with_reducible refine Below.setCell ?_ ?_ _); rotate_left; focus (first | omega | (simp; done) | (simp; omega))) | ((with_reducible refine Below.trans ?_ (Below.mono (by with_reducible assumption) ?_)); rotate_left; focus (first | omega | (simp; done) | (simp; omega)))))⟩
theorem nt_c (S : ByteArray) (hS : S.size < 9223372036854775807) (h : Int) (hh : In h) (w : World) : Calls Tryd.prog 97 #[.string S, .int .u64 h, .bool true] w fun ee w' => ee = .returned (.tuple #[.int .u64 (ntV S.data.toList h), .int .i64 (ntE S.data.toList h)]) ∧ Below w.heap.size w w' := by
  unfold ntV ntE
  have kr := fun w => time_c S hS w
  have hv := timV_in S.data.toList
  have ks := fun w => tik_c (timV S.data.toList) h (by unfold In; omega) hh w
  obtain ⟨V, hV⟩ : ∃ V, timV S.data.toList = V := ⟨_, rfl⟩
  obtain ⟨E, hE⟩ : ∃ E, timE S.data.toList = E := ⟨_, rfl⟩
  simp only [hV, hE] at kr ks hv ⊢
  have KR := Lib.hid kr
  have KS := Lib.hid ks
  clear kr ks hV hE
  by_cases h0 : E = 0
  · subst h0
    rw [if_pos rfl, if_pos rfl]
    generalize tikV V h = a at *
    generalize tikE V h = b at *
    go_enter Tryd.func97, Tryd.ntmps97
    go_wp2_with (first | (go_at_call 43; ((with_reducible refine (KR.out _).mono ?_); rintro e w1 ⟨rfl, hbel⟩; obtain ⟨hcc, hff⟩ := bcell hbel; have hsz := hbel.size; (try simp at hsz); have hF : Below w.heap.size w w1 := (by ((repeat' apply And.intro) <;> first | (simp [go_sem, *]; done) | omega | (repeat' (first | with_reducible exact Below.refl _ _ | with_reducible assumption | ((with_reducible refine Below.drew ?_)) | ((with_reducible refine below_drewN ?_ _)) | ((with_reducible refine Below.alloc ?_ ?_ _); rotate_left; focus (first | omega | (simp; done) | (simp; omega))) | ((with_reducible refine Below.setCell ?_ ?_ _); rotate_left; focus (first | omega | (simp; done) | (simp; omega))) | ((with_reducible refine Below.trans ?_ (Below.mono (by with_reducible assumption) ?_)); rotate_left; focus (first | omega | (simp; done) | (simp; omega))))))); go_split_ands; clear hcc hff hbel)) | (go_at_call 51; ((with_reducible refine (KS.out _).mono ?_); rintro e w2 ⟨rfl, hbel⟩; obtain ⟨hcc, hff⟩ := bcell hbel; have hsz := hbel.size; (try simp at hsz); have hF : Below w.heap.size w w2 := (by ((repeat' apply And.intro) <;> first | (simp [go_sem, *]; done) | omega | (repeat' (first | with_reducible exact Below.refl _ _ | with_reducible assumption | ((with_reducible refine Below.drew ?_)) | ((with_reducible refine below_drewN ?_ _)) | ((with_reducible refine Below.alloc ?_ ?_ _); rotate_left; focus (first | omega | (simp; done) | (simp; omega))) | ((with_reducible refine Below.setCell ?_ ?_ _); rotate_left; focus (first | omega | (simp; done) | (simp; omega))) | ((with_reducible refine Below.trans ?_ (Below.mono (by with_reducible assumption) ?_)); rotate_left; focus (first | omega | (simp; done) | (simp; omega))))))); go_split_ands; clear hcc hff hbel)))
    refine bodyPost_ret (v := .tuple #[.int .u64 (a), .int .i64 (b)]) (by simp [results, Tryd.results97, go_sem, *]) rfl ⟨rfl, (by repeat' (first | with_reducible exact Below.refl _ _ | with_reducible assumption | ((with_reducible refine Below.drew ?_)) | ((with_reducible refine below_drewN ?_ _)) | ((with_reducible refine Below.alloc ?_ ?_ _); rotate_left; focus (first | omega | (simp; done) | (simp; omega))) | ((with_reducible refine Below.setCell ?_ ?_ _); rotate_left; focus (first | omega | (simp; done) | (simp; omega))) | ((with_reducible refine Below.trans ?_ (Below.mono (by with_reducible assumption) ?_)); rotate_left; focus (first | omega | (simp; done) | (simp; omega)))))⟩
  · rw [if_neg h0, if_neg h0]
    have d1 : (E == 0) = false := by simpa using h0
    go_enter Tryd.func97, Tryd.ntmps97
    go_wp2_with (first | (go_at_call 43; ((with_reducible refine (KR.out _).mono ?_); rintro e w1 ⟨rfl, hbel⟩; obtain ⟨hcc, hff⟩ := bcell hbel; have hsz := hbel.size; (try simp at hsz); have hF : Below w.heap.size w w1 := (by ((repeat' apply And.intro) <;> first | (simp [go_sem, *]; done) | omega | (repeat' (first | with_reducible exact Below.refl _ _ | with_reducible assumption | ((with_reducible refine Below.drew ?_)) | ((with_reducible refine below_drewN ?_ _)) | ((with_reducible refine Below.alloc ?_ ?_ _); rotate_left; focus (first | omega | (simp; done) | (simp; omega))) | ((with_reducible refine Below.setCell ?_ ?_ _); rotate_left; focus (first | omega | (simp; done) | (simp; omega))) | ((with_reducible refine Below.trans ?_ (Below.mono (by with_reducible assumption) ?_)); rotate_left; focus (first | omega | (simp; done) | (simp; omega))))))); go_split_ands; clear hcc hff hbel)))
    refine bodyPost_ret (v := .tuple #[.int .u64 (0), .int .i64 (E)]) (by simp [results, Tryd.results97, go_sem, *]) rfl ⟨rfl, (by repeat' (first | with_reducible exact Below.refl _ _ | with_reducible assumption | ((with_reducible refine Below.drew ?_)) | ((with_reducible refine below_drewN ?_ _)) | ((with_reducible refine Below.alloc ?_ ?_ _); rotate_left; focus (first | omega | (simp; done) | (simp; omega))) | ((with_reducible refine Below.setCell ?_ ?_ _); rotate_left; focus (first | omega | (simp; done) | (simp; omega))) | ((with_reducible refine Below.trans ?_ (Below.mono (by with_reducible assumption) ?_)); rotate_left; focus (first | omega | (simp; done) | (simp; omega)))))⟩
theorem spl_one (S P : ByteArray) (hS : S.size < 4294967281) (hp : pcs32 S = [P]) (w : World) : Calls Tryd.prog 68 #[.string S, .string (⟨#[32]⟩ : ByteArray)] w fun e w' => e = .returned (.slice (some ⟨w.heap.size, 0, none⟩) 1 1) ∧ (w'.cell? ⟨w.heap.size, 0, none⟩ = some (.string P) ∧ w.heap.size < w'.heap.size) ∧ Below w.heap.size w w' := by
  refine (spl_c S hS w).mono fun e w' ⟨he, hw⟩ => ?_
  rw [hp] at he hw
  subst hw
  exact ⟨he, ⟨by simp [go_sem], by simp⟩, Below.alloc (Below.refl _ _) (Nat.le_refl _) _⟩
theorem spl_three (S P Q R : ByteArray) (hS : S.size < 4294967281) (hp : pcs32 S = [P, Q, R]) (w : World) : Calls Tryd.prog 68 #[.string S, .string (⟨#[32]⟩ : ByteArray)] w fun e w' => e = .returned (.slice (some ⟨w.heap.size, 0, none⟩) 3 3) ∧ (w'.cell? ⟨w.heap.size, 0, none⟩ = some (.string P) ∧ w'.cell? ⟨w.heap.size, 1, none⟩ = some (.string Q) ∧ w'.cell? ⟨w.heap.size, 2, none⟩ = some (.string R) ∧ w.heap.size < w'.heap.size) ∧ Below w.heap.size w w' := by
  refine (spl_c S hS w).mono fun e w' ⟨he, hw⟩ => ?_
  rw [hp] at he hw
  subst hw
  exact ⟨he, ⟨by simp [go_sem], by simp [go_sem], by simp [go_sem], by simp⟩, Below.alloc (Below.refl _ _) (Nat.le_refl _) _⟩
theorem spl_other (S : ByteArray) (hS : S.size < 4294967281) (w : World) : Calls Tryd.prog 68 #[.string S, .string (⟨#[32]⟩ : ByteArray)] w fun ee w' => ee = .returned (.slice (some ⟨w.heap.size, 0, none⟩) (pcs32 S).length (pcs32 S).length) ∧ Below w.heap.size w w' := by
  refine (spl_c S hS w).mono fun e w' ⟨he, hw⟩ => ?_
  subst hw
  exact ⟨he, Below.alloc (Below.refl _ _) (Nat.le_refl _) _⟩
end Go.Proofs.YtdiniaokkdcihaaDoor
