/- Both ways of a talk: the plain mathematics. -/
import Derived.Test.YtnfhiagbbmaobaaFk2
import Derived.Test.YtnfhiagbbmaobaaIp14
namespace Go.Proofs.Ytnfhiagbbmaobaa
set_option linter.unusedVariables false
set_option linter.unusedSimpArgs false
set_option maxRecDepth 100000
open Go.RowKit Fg Reg

def p4 (a b c d : Int) : ByteArray := strOf [a, b, c, d]
theorem p4_size (a b c d : Int) : (p4 a b c d).size = 4 := by unfold p4; rw [strOf_size]; rfl
theorem p4_two (a b c d : Int) (ha : 0 ≤ a ∧ a ≤ 255) (hb : 0 ≤ b ∧ b ≤ 255) (hc : 0 ≤ c ∧ c ≤ 255) (hd : 0 ≤ d ∧ d ≤ 255) (R : ByteArray) : nat (p4 a b c d ++ R) 0 2 = a * 256 + b ∧ nat (p4 a b c d ++ R) 2 2 = c * 256 + d := by
  have hs := p4_size a b c d
  have hb : ∀ j, byt (p4 a b c d) j = [a, b, c, d].getD j 0 := fun j => byt_strOf _ j (by simp; omega)
  rw [nat_two, nat_two, byt_app, byt_app, byt_app, byt_app, if_pos (by omega), if_pos (by omega), if_pos (by omega), if_pos (by omega), hb, hb, hb, hb]
  exact ⟨rfl, rfl⟩
theorem back_key (tos idn flg ttl src dst : Int) (F B : ByteArray) (hi : (0 ≤ tos ∧ tos ≤ 255) ∧ (0 ≤ idn ∧ idn ≤ 65535) ∧ (0 ≤ flg ∧ flg ≤ 255) ∧ (0 ≤ ttl ∧ ttl ≤ 255) ∧ (0 ≤ src ∧ src ≤ 4294967295) ∧ (0 ≤ dst ∧ dst ≤ 4294967295)) (h1 : flg ≤ 7) (hF : F.size ≤ 40) (hF4 : F.size % 4 = 0) (hB : 4 ≤ B.size) (hb : B.size ≤ 65535 - 20 - F.size) :
    kbad (encs tos idn flg 0 ttl 17 src dst F B) = 0 ∧ k0 (encs tos idn flg 0 ttl 17 src dst F B) = 4352 + tos / 4 ∧ k1 (encs tos idn flg 0 ttl 17 src dst F B) = nat B 0 2 ∧ k2 (encs tos idn flg 0 ttl 17 src dst F B) = nat B 2 2 ∧ k3 (encs tos idn flg 0 ttl 17 src dst F B) = mix src dst := by
  have hs := encs_size tos idn flg 0 ttl 17 src dst F B
  obtain ⟨⟨b0, b0'⟩, bl, b2, b1, b4, b6, b6', b8, b9, b10, b12, b16⟩ := encs_back tos idn flg 0 ttl 17 src dst F B ⟨hi.1, hi.2.1, hi.2.2.1, by omega, hi.2.2.2.1, by omega, hi.2.2.2.2.1, hi.2.2.2.2.2⟩ h1 (by omega) hF hF4 hb
  have hsm := encs_sum tos idn flg 0 ttl 17 src dst F B
  have hbo := encs_body tos idn flg 0 ttl 17 src dst F B
  generalize encs tos idn flg 0 ttl 17 src dst F B = T at *
  have hl : ((byt T 0 - 64) * 4 : Int) = 20 + F.size := by unfold hlen at bl; omega
  have hp : hasp T := ⟨.inr b9, b6', by omega⟩
  refine ⟨?_, ?_, ?_, ?_, ?_⟩
  · unfold kbad
    rw [if_neg (by omega), if_neg (by omega), if_neg (by omega), if_neg (by omega), if_neg]
    rw [b10, bl]; exact not_not_intro hsm
  · unfold k0; rw [b9, b1]; omega
  · unfold k1; rw [if_pos hp, ← hbo, ← bl, nat_tail2 T (hlen T) 0 2 (by omega)]; rfl
  · unfold k2; rw [if_pos hp, ← hbo, ← bl, nat_tail2 T (hlen T) 2 2 (by omega)]
  · unfold k3; rw [b12, b16]
end Go.Proofs.Ytnfhiagbbmaobaa
