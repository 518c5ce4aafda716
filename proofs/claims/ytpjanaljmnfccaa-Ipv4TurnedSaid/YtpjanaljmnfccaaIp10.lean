/- The laws' closed example: a datagram of four bytes. -/
import Derived.Test.YtpjanaljmnfccaaIp8
import Derived.Test.YtpjanaljmnfccaaIp9
namespace Go.Proofs.Ytpjanaljmnfccaa
set_option linter.unusedVariables false
set_option linter.unusedSimpArgs false
set_option maxRecDepth 100000
open Go.RowKit Fg Reg
attribute [local irreducible] Reg.wE Reg2.wT Reg.wN

def l20 : List Int := [69, 0, 0, 24, 0, 1, 0, 0, 64, 17, 102, 210, 10, 0, 0, 1, 10, 0, 0, 2]
def w20 : ByteArray := strOf l20
def s4 : ByteArray := w20 ++ (⟨#[97, 98, 99, 100]⟩ : ByteArray)
theorem s4_enc : encs 0 1 0 0 64 17 167772161 167772162 (fil ⟨#[]⟩) (⟨#[97, 98, 99, 100]⟩ : ByteArray) = s4 := by decide +kernel
theorem four_e (z : World) : Calls Try.prog 39 #[.agg #[.int .u8 0, .int .u16 1, .int .u8 0, .int .u16 0, .int .u8 64, .int .u8 17, .int .u32 167772161, .int .u32 167772162, .string ⟨#[]⟩], .string (⟨#[97, 98, 99, 100]⟩ : ByteArray)] z fun ee w' => ee = .returned (.tuple #[.string s4, .int .i64 0]) ∧ Below (z).heap.size z w' := by
  have h := enc_ok 0 1 0 0 64 17 167772161 167772162 ⟨#[]⟩ (⟨#[97, 98, 99, 100]⟩ : ByteArray) (by omega) (by omega) (by omega) (by decide) (by decide +kernel) z
  rw [s4_enc] at h
  exact h
theorem four_d (z : World) : Calls Try.prog 42 #[.string s4] z fun ee w' => ee = .returned (.tuple #[.agg #[.int .u8 0, .int .u16 1, .int .u8 0, .int .u16 0, .int .u8 64, .int .u8 17, .int .u32 167772161, .int .u32 167772162, .string ⟨#[]⟩], .string (⟨#[97, 98, 99, 100]⟩ : ByteArray), .int .i64 0]) ∧ Below (z).heap.size z w' := by
  have h := dec_ok s4 (by decide +kernel) (by decide +kernel) (by decide +kernel) (by decide +kernel) (by decide +kernel) z
  rw [show byt s4 1 = 0 by decide +kernel, show nat s4 4 2 = 1 by decide +kernel, show flgs (nat s4 6 2) = 0 by decide +kernel, show offs (nat s4 6 2) = 0 by decide +kernel, show byt s4 8 = 64 by decide +kernel, show byt s4 9 = 17 by decide +kernel, show nat s4 12 4 = 167772161 by decide +kernel, show nat s4 16 4 = 167772162 by decide +kernel, show s4.extract 20 (hlen s4) = ⟨#[]⟩ by decide +kernel, show s4.extract (hlen s4) s4.size = (⟨#[97, 98, 99, 100]⟩ : ByteArray) by decide +kernel] at h
  exact h
theorem four_s (z : World) : Calls Try.prog 37 #[.string w20] z fun ee w' => ee = .returned (.int .u16 65535) ∧ Below (z).heap.size z w' := by
  have h := sum_c w20 (by decide +kernel) z
  rw [show sumb w20 = 65535 by decide +kernel] at h
  exact h
theorem h0_eq (w : World) : (Op.equalIn 10000 79 (.agg #[.int .u8 0, .int .u16 1, .int .u8 0, .int .u16 0, .int .u8 64, .int .u8 17, .int .u32 167772161, .int .u32 167772162, .string ⟨#[]⟩]) (.agg #[.int .u8 0, .int .u16 1, .int .u8 0, .int .u16 0, .int .u8 64, .int .u8 17, .int .u32 167772161, .int .u32 167772162, .string ⟨#[]⟩])).run Try.prog w = .ok true w := by kernel_rfl
theorem conv20 (W : World) (b : Nat) (hb : b = W.heap.size) : (convert 75 9 (.slice (some ⟨b, 0, none⟩) 20 20)).run Try.prog (W.alloc (.cells #[.int .u8 69, .int .u8 0, .int .u8 0, .int .u8 24, .int .u8 0, .int .u8 1, .int .u8 0, .int .u8 0, .int .u8 64, .int .u8 17, .int .u8 102, .int .u8 210, .int .u8 10, .int .u8 0, .int .u8 0, .int .u8 1, .int .u8 10, .int .u8 0, .int .u8 0, .int .u8 2] 5)) = .ok (.string w20) (W.alloc (.cells #[.int .u8 69, .int .u8 0, .int .u8 0, .int .u8 24, .int .u8 0, .int .u8 1, .int .u8 0, .int .u8 0, .int .u8 64, .int .u8 17, .int .u8 102, .int .u8 210, .int .u8 10, .int .u8 0, .int .u8 0, .int .u8 1, .int .u8 10, .int .u8 0, .int .u8 0, .int .u8 2] 5)) :=
  conv_new l20 20 20 rfl W b hb
set_option maxHeartbeats 4000000 in
theorem four_c (w : World) : Calls Try.prog 36 #[] w fun ee w' => ee = .returned (.bool true) ∧ Below w.heap.size w w' := by
  have KE := Lib.hid four_e
  have KD := Lib.hid four_d
  have KS := Lib.hid four_s
  have hadd := fun w => run_string_add_sum (P := Try.prog) (w := w) w20 (⟨#[97, 98, 99, 100]⟩ : ByteArray) (by decide +kernel)
  rw [show w20 ++ (⟨#[97, 98, 99, 100]⟩ : ByteArray) = s4 from rfl] at hadd
  have hcv := conv20
  have heq := h0_eq
  have HWs : w20.size = 20 := by decide +kernel
  clear HWs
  go_enter Try.func36, Try.ntmps36
  go_wp2_with (first
    | (go_at_call 39; ((with_reducible refine (KE.out _).mono ?_); rintro e w1 ⟨rfl, hbel⟩; obtain ⟨hcc, hff⟩ := bcell hbel; have hsz := hbel.size; (try simp at hsz); have hF : (w1.cell? ⟨w.heap.size, 0, none⟩ = some (.int .u8 0) ∧ w1.cell? ⟨w.heap.size, 1, none⟩ = some (.int .u16 1) ∧ w1.cell? ⟨w.heap.size, 2, none⟩ = some (.int .u8 0) ∧ w1.cell? ⟨w.heap.size, 3, none⟩ = some (.int .u16 0) ∧ w1.cell? ⟨w.heap.size, 4, none⟩ = some (.int .u8 64) ∧ w1.cell? ⟨w.heap.size, 5, none⟩ = some (.int .u8 17) ∧ w1.cell? ⟨w.heap.size, 6, none⟩ = some (.int .u32 167772161) ∧ w1.cell? ⟨w.heap.size, 7, none⟩ = some (.int .u32 167772162) ∧ w1.cell? ⟨w.heap.size, 8, none⟩ = some (.string ⟨#[]⟩) ∧ w.heap.size < w1.heap.size) ∧ Below w.heap.size w w1 := (by ((repeat' apply And.intro) <;> first | (simp [go_sem, *]; done) | omega | (repeat' (first | with_reducible exact Below.refl _ _ | with_reducible assumption | ((with_reducible refine Below.drew ?_)) | ((with_reducible refine below_drewN ?_ _)) | ((with_reducible refine Below.alloc ?_ ?_ _); rotate_left; focus (first | omega | (simp; done) | (simp; omega))) | ((with_reducible refine Below.setCell ?_ ?_ _); rotate_left; focus (first | omega | (simp; done) | (simp; omega))) | ((with_reducible refine Below.trans ?_ (Below.mono (by with_reducible assumption) ?_)); rotate_left; focus (first | omega | (simp; done) | (simp; omega))))))); go_split_ands; clear hcc hff hbel))
    | (go_at_call 42; ((with_reducible refine (KD.out _).mono ?_); rintro e w2 ⟨rfl, hbel⟩; obtain ⟨hcc, hff⟩ := bcell hbel; have hsz := hbel.size; (try simp at hsz); have hF : (w2.cell? ⟨w.heap.size, 0, none⟩ = some (.int .u8 0) ∧ w2.cell? ⟨w.heap.size, 1, none⟩ = some (.int .u16 1) ∧ w2.cell? ⟨w.heap.size, 2, none⟩ = some (.int .u8 0) ∧ w2.cell? ⟨w.heap.size, 3, none⟩ = some (.int .u16 0) ∧ w2.cell? ⟨w.heap.size, 4, none⟩ = some (.int .u8 64) ∧ w2.cell? ⟨w.heap.size, 5, none⟩ = some (.int .u8 17) ∧ w2.cell? ⟨w.heap.size, 6, none⟩ = some (.int .u32 167772161) ∧ w2.cell? ⟨w.heap.size, 7, none⟩ = some (.int .u32 167772162) ∧ w2.cell? ⟨w.heap.size, 8, none⟩ = some (.string ⟨#[]⟩) ∧ w.heap.size < w2.heap.size) ∧ Below w.heap.size w w2 := (by ((repeat' apply And.intro) <;> first | (simp [go_sem, *]; done) | omega | (repeat' (first | with_reducible exact Below.refl _ _ | with_reducible assumption | ((with_reducible refine Below.drew ?_)) | ((with_reducible refine below_drewN ?_ _)) | ((with_reducible refine Below.alloc ?_ ?_ _); rotate_left; focus (first | omega | (simp; done) | (simp; omega))) | ((with_reducible refine Below.setCell ?_ ?_ _); rotate_left; focus (first | omega | (simp; done) | (simp; omega))) | ((with_reducible refine Below.trans ?_ (Below.mono (by with_reducible assumption) ?_)); rotate_left; focus (first | omega | (simp; done) | (simp; omega))))))); go_split_ands; clear hcc hff hbel))
    | (go_at_call 37; ((with_reducible refine (KS.out _).mono ?_); rintro e w3 ⟨rfl, hbel⟩; obtain ⟨hcc, hff⟩ := bcell hbel; have hsz := hbel.size; (try simp at hsz); have hF : Below w.heap.size w w3 := (by ((repeat' apply And.intro) <;> first | (simp [go_sem, *]; done) | omega | (repeat' (first | with_reducible exact Below.refl _ _ | with_reducible assumption | ((with_reducible refine Below.drew ?_)) | ((with_reducible refine below_drewN ?_ _)) | ((with_reducible refine Below.alloc ?_ ?_ _); rotate_left; focus (first | omega | (simp; done) | (simp; omega))) | ((with_reducible refine Below.setCell ?_ ?_ _); rotate_left; focus (first | omega | (simp; done) | (simp; omega))) | ((with_reducible refine Below.trans ?_ (Below.mono (by with_reducible assumption) ?_)); rotate_left; focus (first | omega | (simp; done) | (simp; omega))))))); go_split_ands; clear hcc hff hbel)))
  (go_ret; refine ⟨?_, ?_⟩; (focus (exact rfl)); ((repeat' (first | with_reducible exact Below.refl _ _ | with_reducible assumption | ((with_reducible refine Below.drew ?_)) | ((with_reducible refine below_drewN ?_ _)) | ((with_reducible refine Below.alloc ?_ ?_ _); rotate_left; focus (first | omega | (simp; done) | (simp; omega))) | ((with_reducible refine Below.setCell ?_ ?_ _); rotate_left; focus (first | omega | (simp; done) | (simp; omega))) | ((with_reducible refine Below.trans ?_ (Below.mono (by with_reducible assumption) ?_)); rotate_left; focus (first | omega | (simp; done) | (simp; omega))))); done))
end Go.Proofs.Ytpjanaljmnfccaa
