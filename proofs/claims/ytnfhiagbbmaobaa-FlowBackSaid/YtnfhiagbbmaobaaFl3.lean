/- FlowBack. -/
import Derived.Test.YtnfhiagbbmaobaaFb1
namespace Go.Proofs.Ytnfhiagbbmaobaa
set_option linter.unusedVariables false
set_option linter.unusedSimpArgs false
set_option maxRecDepth 100000
open Go.RowKit Fg Reg
attribute [local irreducible] Reg.wE Reg2.wT

theorem back_c (tos idn flg ttl src dst : Int) (O B : ByteArray) (hi : (0 ≤ tos ∧ tos ≤ 255) ∧ (0 ≤ idn ∧ idn ≤ 65535) ∧ (0 ≤ flg ∧ flg ≤ 255) ∧ (0 ≤ ttl ∧ ttl ≤ 255) ∧ (0 ≤ src ∧ src ≤ 4294967295) ∧ (0 ≤ dst ∧ dst ≤ 4294967295)) (h1 : flg ≤ 7) (hO : O.size ≤ 40) (hB : 4 ≤ B.size) (hb : B.size ≤ 65535 - 20 - (fil O).size) (z : World) :
    Calls Try.prog 12 #[.string (encs tos idn flg 0 ttl 17 src dst (fil O) B)] z fun ee w' => ee = .returned (.tuple #[.agg #[.int .u16 (4352 + tos / 4), .int .u16 (nat B 0 2), .int .u16 (nat B 2 2), .int .u16 (mix src dst)], .int .i64 0]) ∧ Below (z).heap.size z w' := by
  have hfs := fil_size O
  have hf4 := fil_four O
  obtain ⟨e0, e1, e2, e3, e4⟩ := back_key tos idn flg ttl src dst (fil O) B hi h1 (by omega) hf4 hB hb
  have h := key_c (encs tos idn flg 0 ttl 17 src dst (fil O) B) (by rw [encs_size]; omega) z
  unfold kval at h
  rw [e0, if_pos rfl, e1, e2, e3, e4] at h
  exact h
theorem flowBack_law (tos idn flg ofs ttl pro src dst : Int) (O : ByteArray) (p q r s : Int) (R : ByteArray) (w0 : (Lit.int .u8 tos).wf = true) (w1 : (Lit.int .u16 idn).wf = true) (w2 : (Lit.int .u8 flg).wf = true) (w3 : (Lit.int .u16 ofs).wf = true) (w4 : (Lit.int .u8 ttl).wf = true) (w5 : (Lit.int .u8 pro).wf = true) (w6 : (Lit.int .u32 src).wf = true) (w7 : (Lit.int .u32 dst).wf = true) (w8 : O.size ≤ maxLen)
    (v0 : (Lit.int .u8 p).wf = true) (v1 : (Lit.int .u8 q).wf = true) (v2 : (Lit.int .u8 r).wf = true) (v3 : (Lit.int .u8 s).wf = true) (hR : R.size ≤ 140737488351232) (w : World) : Calls Try.prog 4 #[.agg #[.int .u8 tos, .int .u16 idn, .int .u8 flg, .int .u16 (ofs), .int .u8 ttl, .int .u8 (pro), .int .u32 src, .int .u32 dst, .string O], .agg #[.int .u8 p, .int .u8 q, .int .u8 r, .int .u8 s], .string R] w fun e w' => e = .returned (.bool true) ∧ Below w.heap.size w w' := by
  have hO : O.size ≤ 9223372036854775807 := by unfold maxLen at w8; omega
  have i0 := bounds_u8 w0
  have i1 := bounds_u16 w1
  have i2 := bounds_u8 w2
  have i4 := bounds_u8 w4
  have i6 := bounds_u32 w6
  have i7 := bounds_u32 w7
  have j0 := bounds_u8 v0
  have j1 := bounds_u8 v1
  have j2 := bounds_u8 v2
  have j3 := bounds_u8 v3
  have s1 : (p4 p q r s ++ R).size = 4 + R.size := by rw [app_size, p4_size]
  have s2 : (p4 r s p q ++ R).size = 4 + R.size := by rw [app_size, p4_size]
  have H1 : (0 ≤ tos ∧ tos ≤ 255) ∧ (0 ≤ idn ∧ idn ≤ 65535) ∧ (0 ≤ flg ∧ flg ≤ 255) ∧ (0 ≤ (0 : Int) ∧ (0 : Int) ≤ 65535) ∧ (0 ≤ ttl ∧ ttl ≤ 255) ∧ (0 ≤ (17 : Int) ∧ (17 : Int) ≤ 255) ∧ (0 ≤ src ∧ src ≤ 4294967295) ∧ (0 ≤ dst ∧ dst ≤ 4294967295) := ⟨i0, i1, i2, by omega, i4, by omega, i6, i7⟩
  have H2 : (0 ≤ tos ∧ tos ≤ 255) ∧ (0 ≤ idn ∧ idn ≤ 65535) ∧ (0 ≤ flg ∧ flg ≤ 255) ∧ (0 ≤ (0 : Int) ∧ (0 : Int) ≤ 65535) ∧ (0 ≤ ttl ∧ ttl ≤ 255) ∧ (0 ≤ (17 : Int) ∧ (17 : Int) ≤ 255) ∧ (0 ≤ dst ∧ dst ≤ 4294967295) ∧ (0 ≤ src ∧ src ≤ 4294967295) := ⟨i0, i1, i2, by omega, i4, by omega, i7, i6⟩
  by_cases h1 : 7 < flg
  · exact fback_bad tos idn flg ofs ttl pro src dst p q r s O R 1 (.inl rfl) _ _ (by omega) (fun z => enc_arg tos idn flg 0 ttl 17 src dst O _ H1 (.inl h1) z) (fun z => enc_arg tos idn flg 0 ttl 17 dst src O _ H2 (.inl h1) z) w
  by_cases h2 : 40 < O.size
  · exact fback_bad tos idn flg ofs ttl pro src dst p q r s O R 2 (.inr rfl) _ _ (by omega) (fun z => enc_opts tos idn flg 0 ttl 17 src dst O _ H1 (by omega) (by omega) h2 hO z) (fun z => enc_opts tos idn flg 0 ttl 17 dst src O _ H2 (by omega) (by omega) h2 hO z) w
  by_cases h3 : 65535 - 20 - (fil O).size < 4 + R.size
  · exact fback_bad tos idn flg ofs ttl pro src dst p q r s O R 2 (.inr rfl) _ _ (by omega) (fun z => enc_long tos idn flg 0 ttl 17 src dst O _ H1 (by omega) (by omega) (by omega) (by omega) (by omega) z) (fun z => enc_long tos idn flg 0 ttl 17 dst src O _ H2 (by omega) (by omega) (by omega) (by omega) (by omega) z) w
  · obtain ⟨n1, n2⟩ := p4_two p q r s j0 j1 j2 j3 R
    obtain ⟨n3, n4⟩ := p4_two r s p q j2 j3 j0 j1 R
    have k1 := fun z => back_c tos idn flg ttl src dst O (p4 p q r s ++ R) ⟨i0, i1, i2, i4, i6, i7⟩ (by omega) (by omega) (by omega) (by omega) z
    have k2 := fun z => back_c tos idn flg ttl dst src O (p4 r s p q ++ R) ⟨i0, i1, i2, i4, i7, i6⟩ (by omega) (by omega) (by omega) (by omega) z
    rw [n1, n2] at k1
    rw [n3, n4, mix_swap] at k2
    exact fback_ok tos idn flg ofs ttl pro src dst p q r s O R _ _ _ _ _ _ (by omega) (fun z => enc_ok tos idn flg 0 ttl 17 src dst O _ H1 (by omega) (by omega) (by omega) (by omega) z) (fun z => enc_ok tos idn flg 0 ttl 17 dst src O _ H2 (by omega) (by omega) (by omega) (by omega) z) k1 k2 w
end Go.Proofs.Ytnfhiagbbmaobaa
