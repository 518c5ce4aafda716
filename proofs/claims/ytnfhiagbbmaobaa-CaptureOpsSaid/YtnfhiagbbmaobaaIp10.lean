/- The laws' closed example: a datagram of four bytes. -/
import Derived.Test.YtnfhiagbbmaobaaIp8
import Derived.Test.YtnfhiagbbmaobaaIp9
namespace Go.Proofs.Ytnfhiagbbmaobaa
set_option linter.unusedVariables false
set_option linter.unusedSimpArgs false
set_option maxRecDepth 100000
open Go.RowKit Fg Reg
attribute [local irreducible] Reg.wE Reg2.wT Reg.wN

def l20 : List Int := [69, 0, 0, 24, 0, 1, 0, 0, 64, 17, 102, 210, 10, 0, 0, 1, 10, 0, 0, 2]
def w20 : ByteArray := strOf l20
def s4 : ByteArray := w20 ++ (⟨#[97, 98, 99, 100]⟩ : ByteArray)
theorem s4_enc : encs 0 1 0 0 64 17 167772161 167772162 (fil ⟨#[]⟩) (⟨#[97, 98, 99, 100]⟩ : ByteArray) = s4 := by decide +kernel
theorem four_e (z : World) : Calls Try.prog 17 #[.agg #[.int .u8 0, .int .u16 1, .int .u8 0, .int .u16 0, .int .u8 64, .int .u8 17, .int .u32 167772161, .int .u32 167772162, .string ⟨#[]⟩], .string (⟨#[97, 98, 99, 100]⟩ : ByteArray)] z fun ee w' => ee = .returned (.tuple #[.string s4, .int .i64 0]) ∧ Below (z).heap.size z w' := by
  have h := enc_ok 0 1 0 0 64 17 167772161 167772162 ⟨#[]⟩ (⟨#[97, 98, 99, 100]⟩ : ByteArray) (by omega) (by omega) (by omega) (by decide) (by decide +kernel) z
  rw [s4_enc] at h
  exact h
theorem four_d (z : World) : Calls Try.prog 41 #[.string s4] z fun ee w' => ee = .returned (.tuple #[.agg #[.int .u8 0, .int .u16 1, .int .u8 0, .int .u16 0, .int .u8 64, .int .u8 17, .int .u32 167772161, .int .u32 167772162, .string ⟨#[]⟩], .string (⟨#[97, 98, 99, 100]⟩ : ByteArray), .int .i64 0]) ∧ Below (z).heap.size z w' := by
  have h := dec_ok s4 (by decide +kernel) (by decide +kernel) (by decide +kernel) (by decide +kernel) (by decide +kernel) z
  rw [show byt s4 1 = 0 by decide +kernel, show nat s4 4 2 = 1 by decide +kernel, show flgs (nat s4 6 2) = 0 by decide +kernel, show offs (nat s4 6 2) = 0 by decide +kernel, show byt s4 8 = 64 by decide +kernel, show byt s4 9 = 17 by decide +kernel, show nat s4 12 4 = 167772161 by decide +kernel, show nat s4 16 4 = 167772162 by decide +kernel, show s4.extract 20 (hlen s4) = ⟨#[]⟩ by decide +kernel, show s4.extract (hlen s4) s4.size = (⟨#[97, 98, 99, 100]⟩ : ByteArray) by decide +kernel] at h
  exact h
theorem four_s (z : World) : Calls Try.prog 66 #[.string w20] z fun ee w' => ee = .returned (.int .u16 65535) ∧ Below (z).heap.size z w' := by
  have h := sum_c w20 (by decide +kernel) z
  rw [show sumb w20 = 65535 by decide +kernel] at h
  exact h
theorem h0_eq (w : World) : (Op.equalIn 10000 39 (.agg #[.int .u8 0, .int .u16 1, .int .u8 0, .int .u16 0, .int .u8 64, .int .u8 17, .int .u32 167772161, .int .u32 167772162, .string ⟨#[]⟩]) (.agg #[.int .u8 0, .int .u16 1, .int .u8 0, .int .u16 0, .int .u8 64, .int .u8 17, .int .u32 167772161, .int .u32 167772162, .string ⟨#[]⟩])).run Try.prog w = .ok true w := by kernel_rfl
theorem conv20 (W : World) (b : Nat) (hb : b = W.heap.size) : (convert 43 9 (.slice (some ⟨b, 0, none⟩) 20 20)).run Try.prog (W.alloc (.cells #[.int .u8 69, .int .u8 0, .int .u8 0, .int .u8 24, .int .u8 0, .int .u8 1, .int .u8 0, .int .u8 0, .int .u8 64, .int .u8 17, .int .u8 102, .int .u8 210, .int .u8 10, .int .u8 0, .int .u8 0, .int .u8 1, .int .u8 10, .int .u8 0, .int .u8 0, .int .u8 2] 5)) = .ok (.string w20) (W.alloc (.cells #[.int .u8 69, .int .u8 0, .int .u8 0, .int .u8 24, .int .u8 0, .int .u8 1, .int .u8 0, .int .u8 0, .int .u8 64, .int .u8 17, .int .u8 102, .int .u8 210, .int .u8 10, .int .u8 0, .int .u8 0, .int .u8 1, .int .u8 10, .int .u8 0, .int .u8 0, .int .u8 2] 5)) :=
  conv_new l20 20 20 rfl W b hb
end Go.Proofs.Ytnfhiagbbmaobaa
