/- AuditChecks. -/
import Derived.Test.YtlenmhbhakeonaaAu14
namespace Go.Proofs.Ytlenmhbhakeonaa
set_option linter.unusedVariables false
set_option linter.unusedSimpArgs false
set_option maxRecDepth 100000
open Go.RowKit Fg Reg
attribute [local irreducible] Reg.wE QR

theorem eqF7 (w : World) : (Op.equalIn 10000 80 (.agg #[.int .i64 0, .int .i64 7]) (.agg #[.int .i64 0, .int .i64 7])).run Try.prog w = .ok true w := by kernel_rfl
def FC (wr : World) (w : World) (fb : Nat) (T lm a0 e0 : Int) : Prop := wr.cell? ⟨w.heap.size, 0, none⟩ = some (.int .i64 T) ∧ wr.cell? ⟨w.heap.size, 1, none⟩ = some (.int .i64 lm) ∧ wr.cell? ⟨fb, 0, none⟩ = some (.int .i64 a0) ∧ wr.cell? ⟨fb, 1, none⟩ = some (.int .i64 e0) ∧ w.heap.size < wr.heap.size ∧ fb < wr.heap.size ∧ Below w.heap.size w wr
theorem FC.below {w z z' : World} {fb : Nat} {T lm a0 e0 : Int} (h : FC z w fb T lm a0 e0) (hb : Below z.heap.size z z') : FC z' w fb T lm a0 e0 := by
  obtain ⟨c0, c1, f0, f1, h1, h2, h3⟩ := h
  exact ⟨(hb.cell h1).trans c0, (hb.cell h1).trans c1, (hb.cell h2).trans f0, (hb.cell h2).trans f1, Nat.lt_of_lt_of_le h1 hb.size, Nat.lt_of_lt_of_le h2 hb.size, h3.trans (hb.mono (Nat.le_of_lt h1))⟩
set_option maxHeartbeats 8000000 in
theorem checksBad_c (T lm : Int) (h : ¬ (1 ≤ T ∧ T ≤ 65536 ∧ 1 ≤ lm ∧ lm ≤ 16384)) (n : Nat) (hn : n ≤ 100) (ad : Option Addr) (cap : Nat) (w : World) :
    Calls Try.prog 7 #[.agg #[.int .i64 T, .int .i64 lm], .slice ad n cap] w fun ee w' => ee = .returned (.bool true) ∧ Below w.heap.size w w' := by
  have K1 := Lib.hid (fun z => chk_bad T lm h n ad cap z)
  have k2 := rmay_c T lm
  rw [decide_eq_false h] at k2
  have K2 := Lib.hid k2
  have E := eqF7
  have D1 : decide (100 < (n : Int)) = false := decide_eq_false (by omega)
  have D1b : decide (100 < n) = false := decide_eq_false (by omega)
  clear k2 h
  go_enter Try.func7, Try.ntmps7
  go_wp2_with (first | go_guarded | (go_at_call 45; (with_reducible refine (K1.out _).mono ?_); rintro _ w1 ⟨rfl, hbel⟩; obtain ⟨hcc, hff⟩ := bcell hbel; have hsz := hbel.size; (try simp at hsz); have hF : w1.cell? ⟨w.heap.size, 0, none⟩ = some (.int .i64 T) ∧ w1.cell? ⟨w.heap.size, 1, none⟩ = some (.int .i64 lm) ∧ w.heap.size < w1.heap.size := (by ((repeat' apply And.intro) <;> first | (simp [go_sem, *]; done) | omega | (repeat' (first | with_reducible exact Below.refl _ _ | with_reducible assumption | ((with_reducible refine Below.drew ?_)) | ((with_reducible refine below_drewN ?_ _)) | ((with_reducible refine Below.alloc ?_ ?_ _); rotate_left; focus (first | omega | (simp; done) | (simp; omega))) | ((with_reducible refine Below.setCell ?_ ?_ _); rotate_left; focus (first | omega | (simp; done) | (simp; omega))) | ((with_reducible refine Below.trans ?_ (Below.mono (by with_reducible assumption) ?_)); rotate_left; focus (first | omega | (simp; done) | (simp; omega))))))); go_split_ands; clear hcc hff; have HB1 : Hid (Below w.heap.size w w1) := Lib.hid (Below.trans (by (repeat' (first | assumption | exact Below.refl _ _ | refine Below.setCell ?_ (by first | (simp; done) | omega | (simp; omega)) _ | refine Below.alloc ?_ (by first | (simp; done) | omega | (simp; omega)) _ | refine Below.drew ?_ | refine below_drewN ?_ _))) (hbel.mono (by simp))); clear hbel) | (go_at_call 46; (with_reducible refine (K2.out _).mono ?_); rintro _ w2 ⟨rfl, hbel⟩; obtain ⟨hcc, hff⟩ := bcell hbel; have hsz2 := hbel.size; (try simp at hsz2); have hF : w2.cell? ⟨w.heap.size, 0, none⟩ = some (.int .i64 T) ∧ w2.cell? ⟨w.heap.size, 1, none⟩ = some (.int .i64 lm) ∧ w2.cell? ⟨w1.heap.size, 0, none⟩ = some (.int .i64 0) ∧ w2.cell? ⟨w1.heap.size, 1, none⟩ = some (.int .i64 7) ∧ w.heap.size < w2.heap.size ∧ w1.heap.size < w2.heap.size := (by ((repeat' apply And.intro) <;> first | (simp [go_sem, *]; done) | omega | (repeat' (first | with_reducible exact Below.refl _ _ | with_reducible assumption | ((with_reducible refine Below.drew ?_)) | ((with_reducible refine below_drewN ?_ _)) | ((with_reducible refine Below.alloc ?_ ?_ _); rotate_left; focus (first | omega | (simp; done) | (simp; omega))) | ((with_reducible refine Below.setCell ?_ ?_ _); rotate_left; focus (first | omega | (simp; done) | (simp; omega))) | ((with_reducible refine Below.trans ?_ (Below.mono (by with_reducible assumption) ?_)); rotate_left; focus (first | omega | (simp; done) | (simp; omega))))))); go_split_ands; clear hcc hff; have HB2 : Hid (Below w.heap.size w w2) := Lib.hid (Below.trans (show Below w.heap.size w (w1.alloc (.cells #[.int .i64 0, .int .i64 7] 80)) from by have := HB1.out; (repeat' (first | assumption | exact Below.refl _ _ | refine Below.setCell ?_ (by first | (simp; done) | omega | (simp; omega)) _ | refine Below.alloc ?_ (by first | (simp; done) | omega | (simp; omega)) _ | refine Below.drew ?_ | refine below_drewN ?_ _))) (hbel.mono (by have := HB1.out.size; simp; omega))); clear hbel) | (go_at_call 44; (with_reducible refine (late_c _).mono ?_); rintro _ w8 ⟨rfl, hb8⟩; have HB8 := Lib.hid (HB2.out.trans (hb8.mono (HB2.out).size)); clear hb8))
  go_ret
  exact ⟨rfl, HB8.out⟩
set_option maxHeartbeats 16000000 in
theorem checksAll_c (T lm : Int) (l : List Ev) (n : Nat) (hln : l.length = n) (hn : n ≤ 100) (h1 : 1 ≤ T ∧ T ≤ 65536 ∧ 1 ≤ lm ∧ lm ≤ 16384) (ad : Option Addr) (cap : Nat) (hcap : n ≤ cap) (hcm : cap ≤ maxLen) (w : World) (hE : EvsV w ad l)
    (hz : ∀ j, j < n → codeAt T lm l j = 0) (K : ∀ z, EvsV z ad l → Calls Try.prog 45 #[.agg #[.int .i64 T, .int .i64 lm], .slice ad n cap] z fun ee w' => ee = .returned (.agg #[.int .i64 0, .int .i64 0]) ∧ Below z.heap.size z w') :
    Calls Try.prog 7 #[.agg #[.int .i64 T, .int .i64 lm], .slice ad n cap] w fun ee w' => ee = .returned (.bool true) ∧ Below w.heap.size w w' := by
  have E := eqF2 0 0
  rw [show decide ((0 : Int) = 0 ∧ (0 : Int) = 0) = true from rfl] at E
  have D1 : decide (100 < (n : Int)) = false := decide_eq_false (by omega)
  have D1b : decide (100 < n) = false := decide_eq_false (by omega)
  have HK := Lib.hid K
  have HE := Lib.hid hE
  have HW := Lib.hid (fun i (hi : i < n) h0 z (hz : EvsV z ad l) => wrong_c T lm l n hln (by omega) h1 i hi h0 ad cap hcap hcm z hz)
  have k2 := rmay_c T lm
  rw [decide_eq_true h1] at k2
  have K2 := Lib.hid k2
  have HZ := Lib.hid hz
  have HLN := Lib.hid hln
  clear k2 K hE hz hln
  go_enter Try.func7, Try.ntmps7
  go_wp2_with (first | go_guarded | (go_at_call 45; (with_reducible refine (HK.out _ (HE.out.below (by (repeat' (first | assumption | exact Below.refl _ _ | refine Below.setCell ?_ (by first | (simp; done) | omega | (simp; omega)) _ | refine Below.alloc ?_ (by first | (simp; done) | omega | (simp; omega)) _ | refine Below.drew ?_ | refine below_drewN ?_ _))))).mono ?_); rintro _ w1 ⟨rfl, hbel⟩; obtain ⟨hcc, hff⟩ := bcell hbel; have hsz := hbel.size; (try simp at hsz); have hF : w1.cell? ⟨w.heap.size, 0, none⟩ = some (.int .i64 T) ∧ w1.cell? ⟨w.heap.size, 1, none⟩ = some (.int .i64 lm) ∧ w.heap.size < w1.heap.size := (by ((repeat' apply And.intro) <;> first | (simp [go_sem, *]; done) | omega | (repeat' (first | with_reducible exact Below.refl _ _ | with_reducible assumption | ((with_reducible refine Below.drew ?_)) | ((with_reducible refine below_drewN ?_ _)) | ((with_reducible refine Below.alloc ?_ ?_ _); rotate_left; focus (first | omega | (simp; done) | (simp; omega))) | ((with_reducible refine Below.setCell ?_ ?_ _); rotate_left; focus (first | omega | (simp; done) | (simp; omega))) | ((with_reducible refine Below.trans ?_ (Below.mono (by with_reducible assumption) ?_)); rotate_left; focus (first | omega | (simp; done) | (simp; omega))))))); go_split_ands; clear hcc hff; have HB1 : Hid (Below w.heap.size w w1) := Lib.hid (Below.trans (by (repeat' (first | assumption | exact Below.refl _ _ | refine Below.setCell ?_ (by first | (simp; done) | omega | (simp; omega)) _ | refine Below.alloc ?_ (by first | (simp; done) | omega | (simp; omega)) _ | refine Below.drew ?_ | refine below_drewN ?_ _))) (hbel.mono (by simp))); clear hbel) | (go_at_call 46; (with_reducible refine (K2.out _).mono ?_); rintro _ w2 ⟨rfl, hbel⟩; obtain ⟨hcc, hff⟩ := bcell hbel; have hsz2 := hbel.size; (try simp at hsz2); have hF : w2.cell? ⟨w.heap.size, 0, none⟩ = some (.int .i64 T) ∧ w2.cell? ⟨w.heap.size, 1, none⟩ = some (.int .i64 lm) ∧ w2.cell? ⟨w1.heap.size, 0, none⟩ = some (.int .i64 0) ∧ w2.cell? ⟨w1.heap.size, 1, none⟩ = some (.int .i64 0) ∧ w.heap.size < w2.heap.size ∧ w1.heap.size < w2.heap.size := (by ((repeat' apply And.intro) <;> first | (simp [go_sem, *]; done) | omega | (repeat' (first | with_reducible exact Below.refl _ _ | with_reducible assumption | ((with_reducible refine Below.drew ?_)) | ((with_reducible refine below_drewN ?_ _)) | ((with_reducible refine Below.alloc ?_ ?_ _); rotate_left; focus (first | omega | (simp; done) | (simp; omega))) | ((with_reducible refine Below.setCell ?_ ?_ _); rotate_left; focus (first | omega | (simp; done) | (simp; omega))) | ((with_reducible refine Below.trans ?_ (Below.mono (by with_reducible assumption) ?_)); rotate_left; focus (first | omega | (simp; done) | (simp; omega))))))); go_split_ands; clear hcc hff; have HB2 : Hid (Below w.heap.size w w2) := Lib.hid (Below.trans (show Below w.heap.size w (w1.alloc (.cells #[.int .i64 0, .int .i64 0] 80)) from by have := HB1.out; (repeat' (first | assumption | exact Below.refl _ _ | refine Below.setCell ?_ (by first | (simp; done) | omega | (simp; omega)) _ | refine Below.alloc ?_ (by first | (simp; done) | omega | (simp; omega)) _ | refine Below.drew ?_ | refine below_drewN ?_ _))) (hbel.mono (by have := HB1.out.size; simp; omega))); clear hbel))
  have hFC : FC w2 w w1.heap.size T lm 0 0 := ⟨by assumption, by assumption, by assumption, by assumption, by assumption, by assumption, HB2.out⟩
  go_loopg [26] n (fun k9 s26 wr => ∃ (i : Nat), s26 = .int .i64 i ∧ i ≤ n ∧ n - i ≤ k9 ∧ FC wr w w1.heap.size T lm 0 0)
  case atStart => exact ⟨0, rfl, by omega, by omega, hFC⟩
  case round =>
    clear hFC
    obtain ⟨i, rfl, hi, hk, hF⟩ := hrel
    obtain ⟨c0, c1, f0, f1, hs1, hs2, hbl⟩ := hF
    have HBL := Lib.hid hbl
    have hwr := HW.out i
    by_cases hin : i < n
    · have W4 : IntKind.i64.wrap ((i : Int) + 1) = ((i + 1 : Nat) : Int) := by rw [IntKind.wrap_i64]; omega
      have KR : Hid (∀ z, EvsV z ad l → Calls Try.prog 47 #[.agg #[.int .i64 T, .int .i64 lm], .slice ad n cap, .int .i64 i] z fun ee w' => ee = .returned (.int .i64 0) ∧ Below z.heap.size z w') := Lib.hid fun z hz => by
        have := hwr (by omega) (fun j hj => HZ.out j (by omega)) z hz
        rwa [HZ.out i (by omega)] at this
      clear hwr
      have hinn : i < n := by omega
      go_wp2_with (first | go_guarded | (go_at_call 47; (with_reducible refine (KR.out _ (HE.out.below HBL.out)).mono ?_); rintro _ w5 ⟨rfl, hbel⟩; have HF5 := Lib.hid (FC.below (show FC wr w w1.heap.size T lm 0 0 from ⟨c0, c1, f0, f1, hs1, hs2, HBL.out⟩) hbel); clear hbel))
      go_roundg (n - (i + 1))
      case rel => exact ⟨i + 1, by first | rfl | go_num | (congr 1; omega), by omega, Nat.le_refl _, HF5.out⟩
      case measure => omega
    · have hie : i = n := by omega
      subst hie
      clear hin
      clear hwr
      go_wp2_with (first | go_guarded | (go_at_call 44; (with_reducible refine (late_c _).mono ?_); rintro _ w8 ⟨rfl, hb8⟩; have HB8 := Lib.hid (HBL.out.trans (hb8.mono (HBL.out).size)); clear hb8))
      go_ret
      exact ⟨rfl, HB8.out⟩
set_option maxHeartbeats 16000000 in
theorem checksOne_c (T lm : Int) (l : List Ev) (n : Nat) (hln : l.length = n) (hn : n ≤ 100) (h1 : 1 ≤ T ∧ T ≤ 65536 ∧ 1 ≤ lm ∧ lm ≤ 16384) (ad : Option Addr) (cap : Nat) (hcap : n ≤ cap) (hcm : cap ≤ maxLen) (w : World) (hE : EvsV w ad l) (m : Nat) (hmn : m < n) (e0 : Int) (hc : codeAt T lm l m = e0) (he0 : e0 ≠ 0)
    (hz : ∀ j, j < m → codeAt T lm l j = 0) (K : ∀ z, EvsV z ad l → Calls Try.prog 45 #[.agg #[.int .i64 T, .int .i64 lm], .slice ad n cap] z fun ee w' => ee = .returned (.agg #[.int .i64 m, .int .i64 e0]) ∧ Below z.heap.size z w') :
    Calls Try.prog 7 #[.agg #[.int .i64 T, .int .i64 lm], .slice ad n cap] w fun ee w' => ee = .returned (.bool true) ∧ Below w.heap.size w w' := by
  have HCE := Lib.hid hc
  clear hc
  have D1 : decide (100 < (n : Int)) = false := decide_eq_false (by omega)
  have D1b : decide (100 < n) = false := decide_eq_false (by omega)
  have HK := Lib.hid K
  have HE := Lib.hid hE
  have HW := Lib.hid (fun i (hi : i < n) h0 z (hz : EvsV z ad l) => wrong_c T lm l n hln (by omega) h1 i hi h0 ad cap hcap hcm z hz)
  have k2 := rmay_c T lm
  rw [decide_eq_true h1] at k2
  have K2 := Lib.hid k2
  have HZ := Lib.hid hz
  have HLN := Lib.hid hln
  clear k2 K hE hz hln
  go_enter Try.func7, Try.ntmps7
  go_wp2_with (first | go_guarded | (go_at_call 45; (with_reducible refine (HK.out _ (HE.out.below (by (repeat' (first | assumption | exact Below.refl _ _ | refine Below.setCell ?_ (by first | (simp; done) | omega | (simp; omega)) _ | refine Below.alloc ?_ (by first | (simp; done) | omega | (simp; omega)) _ | refine Below.drew ?_ | refine below_drewN ?_ _))))).mono ?_); rintro _ w1 ⟨rfl, hbel⟩; obtain ⟨hcc, hff⟩ := bcell hbel; have hsz := hbel.size; (try simp at hsz); have hF : w1.cell? ⟨w.heap.size, 0, none⟩ = some (.int .i64 T) ∧ w1.cell? ⟨w.heap.size, 1, none⟩ = some (.int .i64 lm) ∧ w.heap.size < w1.heap.size := (by ((repeat' apply And.intro) <;> first | (simp [go_sem, *]; done) | omega | (repeat' (first | with_reducible exact Below.refl _ _ | with_reducible assumption | ((with_reducible refine Below.drew ?_)) | ((with_reducible refine below_drewN ?_ _)) | ((with_reducible refine Below.alloc ?_ ?_ _); rotate_left; focus (first | omega | (simp; done) | (simp; omega))) | ((with_reducible refine Below.setCell ?_ ?_ _); rotate_left; focus (first | omega | (simp; done) | (simp; omega))) | ((with_reducible refine Below.trans ?_ (Below.mono (by with_reducible assumption) ?_)); rotate_left; focus (first | omega | (simp; done) | (simp; omega))))))); go_split_ands; clear hcc hff; have HB1 : Hid (Below w.heap.size w w1) := Lib.hid (Below.trans (by (repeat' (first | assumption | exact Below.refl _ _ | refine Below.setCell ?_ (by first | (simp; done) | omega | (simp; omega)) _ | refine Below.alloc ?_ (by first | (simp; done) | omega | (simp; omega)) _ | refine Below.drew ?_ | refine below_drewN ?_ _))) (hbel.mono (by simp))); clear hbel) | (go_at_call 46; (with_reducible refine (K2.out _).mono ?_); rintro _ w2 ⟨rfl, hbel⟩; obtain ⟨hcc, hff⟩ := bcell hbel; have hsz2 := hbel.size; (try simp at hsz2); have hF : w2.cell? ⟨w.heap.size, 0, none⟩ = some (.int .i64 T) ∧ w2.cell? ⟨w.heap.size, 1, none⟩ = some (.int .i64 lm) ∧ w2.cell? ⟨w1.heap.size, 0, none⟩ = some (.int .i64 (m : Int)) ∧ w2.cell? ⟨w1.heap.size, 1, none⟩ = some (.int .i64 e0) ∧ w.heap.size < w2.heap.size ∧ w1.heap.size < w2.heap.size := (by ((repeat' apply And.intro) <;> first | (simp [go_sem, *]; done) | omega | (repeat' (first | with_reducible exact Below.refl _ _ | with_reducible assumption | ((with_reducible refine Below.drew ?_)) | ((with_reducible refine below_drewN ?_ _)) | ((with_reducible refine Below.alloc ?_ ?_ _); rotate_left; focus (first | omega | (simp; done) | (simp; omega))) | ((with_reducible refine Below.setCell ?_ ?_ _); rotate_left; focus (first | omega | (simp; done) | (simp; omega))) | ((with_reducible refine Below.trans ?_ (Below.mono (by with_reducible assumption) ?_)); rotate_left; focus (first | omega | (simp; done) | (simp; omega))))))); go_split_ands; clear hcc hff; have HB2 : Hid (Below w.heap.size w w2) := Lib.hid (Below.trans (show Below w.heap.size w (w1.alloc (.cells #[.int .i64 (m : Int), .int .i64 e0] 80)) from by have := HB1.out; (repeat' (first | assumption | exact Below.refl _ _ | refine Below.setCell ?_ (by first | (simp; done) | omega | (simp; omega)) _ | refine Below.alloc ?_ (by first | (simp; done) | omega | (simp; omega)) _ | refine Below.drew ?_ | refine below_drewN ?_ _))) (hbel.mono (by have := HB1.out.size; simp; omega))); clear hbel))
  have hFC : FC w2 w w1.heap.size T lm (m : Int) e0 := ⟨by assumption, by assumption, by assumption, by assumption, by assumption, by assumption, HB2.out⟩
  go_loopg [26] m (fun k9 s26 wr => ∃ (i : Nat), s26 = .int .i64 i ∧ i ≤ m ∧ m - i ≤ k9 ∧ FC wr w w1.heap.size T lm (m : Int) e0)
  case atStart => exact ⟨0, rfl, by omega, by omega, hFC⟩
  case round =>
    clear hFC
    obtain ⟨i, rfl, hi, hk, hF⟩ := hrel
    obtain ⟨c0, c1, f0, f1, hs1, hs2, hbl⟩ := hF
    have HBL := Lib.hid hbl
    have hwr := HW.out i
    by_cases hin : i < m
    · have W4 : IntKind.i64.wrap ((i : Int) + 1) = ((i + 1 : Nat) : Int) := by rw [IntKind.wrap_i64]; omega
      have KR : Hid (∀ z, EvsV z ad l → Calls Try.prog 47 #[.agg #[.int .i64 T, .int .i64 lm], .slice ad n cap, .int .i64 i] z fun ee w' => ee = .returned (.int .i64 0) ∧ Below z.heap.size z w') := Lib.hid fun z hz => by
        have := hwr (by omega) (fun j hj => HZ.out j (by omega)) z hz
        rwa [HZ.out i (by omega)] at this
      clear hwr
      have hinn : i < n := by omega
      go_wp2_with (first | go_guarded | (go_at_call 47; (with_reducible refine (KR.out _ (HE.out.below HBL.out)).mono ?_); rintro _ w5 ⟨rfl, hbel⟩; have HF5 := Lib.hid (FC.below (show FC wr w w1.heap.size T lm (m : Int) e0 from ⟨c0, c1, f0, f1, hs1, hs2, HBL.out⟩) hbel); clear hbel))
      go_roundg (m - (i + 1))
      case rel => exact ⟨i + 1, by first | rfl | go_num | (congr 1; omega), by omega, Nat.le_refl _, HF5.out⟩
      case measure => omega
    · have hie : i = m := by omega
      subst hie
      clear hin
      have KR : Hid (∀ z, EvsV z ad l → Calls Try.prog 47 #[.agg #[.int .i64 T, .int .i64 lm], .slice ad n cap, .int .i64 i] z fun ee w' => ee = .returned (.int .i64 e0) ∧ Below z.heap.size z w') := Lib.hid fun z hz => by
        have := hwr hmn HZ.out z hz
        rwa [HCE.out] at this
      clear hwr
      have N1 : (e0 != 0) = true := by simpa using he0
      have N2 : (e0 == 0) = false := by simpa using he0
      clear he0
      go_wp2_with (first | go_guarded | (go_at_call 47; (with_reducible refine (KR.out _ (HE.out.below HBL.out)).mono ?_); rintro _ w5 ⟨rfl, hbel⟩; obtain ⟨c05, c15, f05, f15, hs15, hs25, hbl5⟩ := (FC.below (show FC wr w w1.heap.size T lm i e0 from ⟨c0, c1, f0, f1, hs1, hs2, HBL.out⟩) hbel); have HB5 := Lib.hid hbl5; clear hbel) | (go_at_call 44; (with_reducible refine (late_c _).mono ?_); rintro _ w8 ⟨rfl, hb8⟩; have HB8 := Lib.hid (HB5.out.trans (hb8.mono (HB5.out).size)); clear hb8))
      go_ret
      exact ⟨rfl, HB8.out⟩
theorem auditChecks_law (T lm : Int) (v : Value) {w : World} (wT : (Lit.int .i64 T).wf = true) (wl : (Lit.int .i64 lm).wf = true) (hs : Op.FlatSlice w 12 [.int .i64, .bool, .bool, .int .u64, .int .u64, .int .i64, .int .u64, .int .i64, .int .u16, .int .u16, .int .u16, .int .u16] v) :
    Calls Try.prog 7 #[.agg #[.int .i64 T, .int .i64 lm], v] w fun ee w' => ee = .returned (.bool true) ∧ Below w.heap.size w w' := by
  obtain ⟨ad, l, cap, rfl, hcap, hcm, hE, hwf⟩ := evs_of4 hs
  by_cases hn : l.length ≤ 100
  · by_cases h1 : 1 ≤ T ∧ T ≤ 65536 ∧ 1 ≤ lm ∧ lm ≤ 16384
    · obtain ⟨a0, e0, hck⟩ := CK.ex T lm l
      have K : ∀ z, EvsV z ad l → Calls Try.prog 45 #[.agg #[.int .i64 T, .int .i64 lm], .slice ad l.length cap] z fun ee w' => ee = .returned (.agg #[.int .i64 a0, .int .i64 e0]) ∧ Below z.heap.size z w' := fun z h => by
        refine (chk_c T lm l l.length rfl (by omega) h1.1 h1.2.1 h1.2.2.1 h1.2.2.2 (fun j hj => (hwf j hj).1) ad cap z h).mono ?_
        rintro e w' ⟨⟨a, b, rfl, hc⟩, hb⟩
        obtain ⟨rfl, rfl⟩ := hc.uniq hck
        exact ⟨rfl, hb⟩
      rcases hck with ⟨i, hi, rfl, hc, hne, hz⟩ | ⟨rfl, rfl, hz⟩
      · exact checksOne_c T lm l l.length rfl hn h1 ad cap hcap hcm w hE i hi e0 hc hne hz K
      · exact checksAll_c T lm l l.length rfl hn h1 ad cap hcap hcm w hE hz K
    · exact checksBad_c T lm h1 l.length hn ad cap w
  · obtain ⟨n, hln⟩ : ∃ n, l.length = n := ⟨_, rfl⟩
    rw [hln] at hn ⊢
    have D1 : decide (100 < (n : Int)) = true := decide_eq_true (by omega)
    have D1b : decide (100 < n) = true := decide_eq_true (by omega)
    clear hs hE hln hn hwf wT wl hcap hcm
    go_enter Try.func7, Try.ntmps7
    go_wp2_with (first | go_guarded | (go_at_call 44; (with_reducible refine (late_c _).mono ?_); rintro _ w1 ⟨rfl, hbel⟩; have HB1 : Hid (Below w.heap.size w w1) := Lib.hid (Below.trans (by (repeat' (first | assumption | exact Below.refl _ _ | refine Below.setCell ?_ (by first | (simp; done) | omega | (simp; omega)) _ | refine Below.alloc ?_ (by first | (simp; done) | omega | (simp; omega)) _ | refine Below.drew ?_ | refine below_drewN ?_ _))) (hbel.mono (by simp))); clear hbel))
    go_ret
    exact ⟨rfl, HB1.out⟩
end Go.Proofs.Ytlenmhbhakeonaa
