/- A datagram's bytes, taken apart again: the plain mathematics. -/
import Derived.Test.YtnfhiagbbmaobaaIp12
import Derived.Test.YtnfhiagbbmaobaaIp9
namespace Go.Proofs.Ytnfhiagbbmaobaa
set_option linter.unusedVariables false
set_option linter.unusedSimpArgs false
set_option maxRecDepth 100000
open Go.RowKit Fg Reg

theorem by1_ok (v : Int) : ∀ x ∈ by1 v, 0 ≤ x ∧ x ≤ 255 := fun x hx => by simp [by1] at hx; omega
theorem by2_ok (v : Int) : ∀ x ∈ by2 v, 0 ≤ x ∧ x ≤ 255 := fun x hx => by simp [by2] at hx; omega
theorem by4_ok (v : Int) : ∀ x ∈ by4 v, 0 ≤ x ∧ x ≤ 255 := fun x hx => by simp [by4] at hx; omega
theorem bl_ok (F : ByteArray) : ∀ x ∈ bl F, 0 ≤ x ∧ x ≤ 255 := fun x hx => by
  unfold bl at hx
  obtain ⟨b, _, rfl⟩ := List.mem_map.1 hx
  have := b.toNat_lt
  omega
/-- The first twenty bytes. -/
def h20 (a tos al idn fo ttl pro c src dst : Int) : List Int := e10 a tos al idn fo ttl pro ++ by2 c ++ (by4 src ++ by4 dst)
theorem h20_ok (a tos al idn fo ttl pro c src dst : Int) : ∀ x ∈ h20 a tos al idn fo ttl pro c src dst, 0 ≤ x ∧ x ≤ 255 := fun x hx => by
  simp only [h20, e10, List.mem_append] at hx
  rcases hx with (((((((h | h) | h) | h) | h) | h) | h) | h) | h | h
  · exact by1_ok _ x h
  · exact by1_ok _ x h
  · exact by2_ok _ x h
  · exact by2_ok _ x h
  · exact by2_ok _ x h
  · exact by1_ok _ x h
  · exact by1_ok _ x h
  · exact by2_ok _ x h
  · exact by4_ok _ x h
  · exact by4_ok _ x h
theorem h20_len (a tos al idn fo ttl pro c src dst : Int) : (h20 a tos al idn fo ttl pro c src dst).length = 20 := rfl
def csum (tos idn flg ofs ttl pro src dst : Int) (F body : ByteArray) : Int := 65535 - sumb (zeroed (strOf (eh1 tos idn flg ofs ttl pro F body ++ by2 0 ++ eh2 src dst F)))
def hd20 (tos idn flg ofs ttl pro src dst : Int) (F body : ByteArray) : List Int := h20 (64 + (20 + (F.size : Int)) / 4) tos (20 + (F.size : Int) + (body.size : Int)) idn (flg * 8192 + ofs) ttl pro (csum tos idn flg ofs ttl pro src dst F body) src dst
theorem encs_20 (tos idn flg ofs ttl pro src dst : Int) (F body : ByteArray) : encs tos idn flg ofs ttl pro src dst F body = strOf (hd20 tos idn flg ofs ttl pro src dst F body) ++ F ++ body := by
  have e : eh1 tos idn flg ofs ttl pro F body ++ by2 (csum tos idn flg ofs ttl pro src dst F body) ++ eh2 src dst F = hd20 tos idn flg ofs ttl pro src dst F body ++ bl F := by
    unfold hd20 h20 eh1 eh2
    simp only [List.append_assoc]
  have h : encs tos idn flg ofs ttl pro src dst F body = strOf (eh1 tos idn flg ofs ttl pro F body ++ by2 (csum tos idn flg ofs ttl pro src dst F body) ++ eh2 src dst F) ++ body := by unfold encs csum; rfl
  rw [h, e, ← strOf_append, bl_str]
theorem encs_size (tos idn flg ofs ttl pro src dst : Int) (F body : ByteArray) : (encs tos idn flg ofs ttl pro src dst F body).size = 20 + F.size + body.size := by
  rw [encs_20, app_size, app_size, strOf_size]; rfl
theorem encs_byt (tos idn flg ofs ttl pro src dst : Int) (F body : ByteArray) (j : Nat) (hj : j < 20) : byt (encs tos idn flg ofs ttl pro src dst F body) j = (hd20 tos idn flg ofs ttl pro src dst F body).getD j 0 := by
  have hs : (strOf (hd20 tos idn flg ofs ttl pro src dst F body)).size = 20 := by rw [strOf_size]; rfl
  rw [encs_20, byt_app, app_size, hs, if_pos (by omega), byt_app, hs, if_pos hj, byt_strOf (hd20 tos idn flg ofs ttl pro src dst F body) j (by unfold hd20; exact h20_ok _ _ _ _ _ _ _ _ _ _)]
theorem nat_two (S : ByteArray) (p : Nat) : nat S p 2 = byt S p * 256 + byt S (p + 1) := by simp [nat, hor]
theorem nat_four (S : ByteArray) (p : Nat) : nat S p 4 = ((byt S p * 256 + byt S (p + 1)) * 256 + byt S (p + 2)) * 256 + byt S (p + 3) := by simp [nat, hor]
theorem csum_bd (tos idn flg ofs ttl pro src dst : Int) (F body : ByteArray) : 0 ≤ csum tos idn flg ofs ttl pro src dst F body ∧ csum tos idn flg ofs ttl pro src dst F body ≤ 65535 := by
  unfold csum
  have := sumb_bd (zeroed (strOf (eh1 tos idn flg ofs ttl pro F body ++ by2 0 ++ eh2 src dst F)))
  omega
theorem extract_mid (A B C : ByteArray) : (A ++ B ++ C).extract A.size (A.size + B.size) = B := by
  have hs : (A ++ B ++ C).size = A.size + B.size + C.size := by rw [app_size, app_size]
  apply bytes_same
  · rw [ext_size _ _ _ (by omega)]; omega
  · intro j hj
    rw [ext_size _ _ _ (by omega)] at hj
    rw [byt_ext _ _ _ _ (by omega) (by omega), byt_app, app_size, if_pos (by omega), byt_app, if_neg (by omega)]
    congr 1; omega
theorem extract_end (A B : ByteArray) : (A ++ B).extract A.size (A ++ B).size = B := by
  apply bytes_same
  · rw [ext_size _ _ _ (by omega), app_size]; omega
  · intro j hj
    rw [ext_size _ _ _ (by omega), app_size] at hj
    rw [byt_ext _ _ _ _ (by omega) (by rw [app_size]; omega), byt_app, if_neg (by omega)]
    congr 1; omega
theorem extract_front (A B : ByteArray) : (A ++ B).extract 0 A.size = A := by
  apply bytes_same
  · rw [ext_size _ _ _ (by rw [app_size]; omega)]; omega
  · intro j hj
    rw [ext_size _ _ _ (by rw [app_size]; omega)] at hj
    rw [byt_ext _ _ _ _ (by rw [app_size]; omega) (by omega), byt_app, if_pos (by omega), Nat.zero_add]
/-- What Decode asks of an encoded datagram, and what it gives. -/
theorem encs_back (tos idn flg ofs ttl pro src dst : Int) (F body : ByteArray) (hi : (0 ≤ tos ∧ tos ≤ 255) ∧ (0 ≤ idn ∧ idn ≤ 65535) ∧ (0 ≤ flg ∧ flg ≤ 255) ∧ (0 ≤ ofs ∧ ofs ≤ 65535) ∧ (0 ≤ ttl ∧ ttl ≤ 255) ∧ (0 ≤ pro ∧ pro ≤ 255) ∧ (0 ≤ src ∧ src ≤ 4294967295) ∧ (0 ≤ dst ∧ dst ≤ 4294967295)) (h1 : flg ≤ 7) (h2 : ofs ≤ 8191) (hF : F.size ≤ 40) (hF4 : F.size % 4 = 0) (hb : body.size ≤ 65535 - 20 - F.size) :
    (69 ≤ byt (encs tos idn flg ofs ttl pro src dst F body) 0 ∧ byt (encs tos idn flg ofs ttl pro src dst F body) 0 ≤ 79) ∧ hlen (encs tos idn flg ofs ttl pro src dst F body) = 20 + F.size ∧ nat (encs tos idn flg ofs ttl pro src dst F body) 2 2 = (20 + F.size + body.size : Nat) ∧ byt (encs tos idn flg ofs ttl pro src dst F body) 1 = tos ∧ nat (encs tos idn flg ofs ttl pro src dst F body) 4 2 = idn ∧ flgs (nat (encs tos idn flg ofs ttl pro src dst F body) 6 2) = flg ∧ offs (nat (encs tos idn flg ofs ttl pro src dst F body) 6 2) = ofs ∧
    byt (encs tos idn flg ofs ttl pro src dst F body) 8 = ttl ∧ byt (encs tos idn flg ofs ttl pro src dst F body) 9 = pro ∧ nat (encs tos idn flg ofs ttl pro src dst F body) 10 2 = csum tos idn flg ofs ttl pro src dst F body ∧ nat (encs tos idn flg ofs ttl pro src dst F body) 12 4 = src ∧ nat (encs tos idn flg ofs ttl pro src dst F body) 16 4 = dst := by
  have hc := csum_bd tos idn flg ofs ttl pro src dst F body
  have g0 : byt (encs tos idn flg ofs ttl pro src dst F body) 0 = (64 + (20 + (F.size : Int)) / 4) % 256 := encs_byt tos idn flg ofs ttl pro src dst F body 0 (by omega)
  have g1 : byt (encs tos idn flg ofs ttl pro src dst F body) 1 = tos % 256 := encs_byt tos idn flg ofs ttl pro src dst F body 1 (by omega)
  have g2 : byt (encs tos idn flg ofs ttl pro src dst F body) 2 = (20 + (F.size : Int) + (body.size : Int)) / 256 % 256 := encs_byt tos idn flg ofs ttl pro src dst F body 2 (by omega)
  have g3 : byt (encs tos idn flg ofs ttl pro src dst F body) 3 = (20 + (F.size : Int) + (body.size : Int)) % 256 := encs_byt tos idn flg ofs ttl pro src dst F body 3 (by omega)
  have g4 : byt (encs tos idn flg ofs ttl pro src dst F body) 4 = idn / 256 % 256 := encs_byt tos idn flg ofs ttl pro src dst F body 4 (by omega)
  have g5 : byt (encs tos idn flg ofs ttl pro src dst F body) 5 = idn % 256 := encs_byt tos idn flg ofs ttl pro src dst F body 5 (by omega)
  have g6 : byt (encs tos idn flg ofs ttl pro src dst F body) 6 = (flg * 8192 + ofs) / 256 % 256 := encs_byt tos idn flg ofs ttl pro src dst F body 6 (by omega)
  have g7 : byt (encs tos idn flg ofs ttl pro src dst F body) 7 = (flg * 8192 + ofs) % 256 := encs_byt tos idn flg ofs ttl pro src dst F body 7 (by omega)
  have g8 : byt (encs tos idn flg ofs ttl pro src dst F body) 8 = ttl % 256 := encs_byt tos idn flg ofs ttl pro src dst F body 8 (by omega)
  have g9 : byt (encs tos idn flg ofs ttl pro src dst F body) 9 = pro % 256 := encs_byt tos idn flg ofs ttl pro src dst F body 9 (by omega)
  have g10 : byt (encs tos idn flg ofs ttl pro src dst F body) 10 = csum tos idn flg ofs ttl pro src dst F body / 256 % 256 := encs_byt tos idn flg ofs ttl pro src dst F body 10 (by omega)
  have g11 : byt (encs tos idn flg ofs ttl pro src dst F body) 11 = csum tos idn flg ofs ttl pro src dst F body % 256 := encs_byt tos idn flg ofs ttl pro src dst F body 11 (by omega)
  have g12 : byt (encs tos idn flg ofs ttl pro src dst F body) 12 = src / 16777216 % 256 := encs_byt tos idn flg ofs ttl pro src dst F body 12 (by omega)
  have g13 : byt (encs tos idn flg ofs ttl pro src dst F body) 13 = src / 65536 % 256 := encs_byt tos idn flg ofs ttl pro src dst F body 13 (by omega)
  have g14 : byt (encs tos idn flg ofs ttl pro src dst F body) 14 = src / 256 % 256 := encs_byt tos idn flg ofs ttl pro src dst F body 14 (by omega)
  have g15 : byt (encs tos idn flg ofs ttl pro src dst F body) 15 = src % 256 := encs_byt tos idn flg ofs ttl pro src dst F body 15 (by omega)
  have g16 : byt (encs tos idn flg ofs ttl pro src dst F body) 16 = dst / 16777216 % 256 := encs_byt tos idn flg ofs ttl pro src dst F body 16 (by omega)
  have g17 : byt (encs tos idn flg ofs ttl pro src dst F body) 17 = dst / 65536 % 256 := encs_byt tos idn flg ofs ttl pro src dst F body 17 (by omega)
  have g18 : byt (encs tos idn flg ofs ttl pro src dst F body) 18 = dst / 256 % 256 := encs_byt tos idn flg ofs ttl pro src dst F body 18 (by omega)
  have g19 : byt (encs tos idn flg ofs ttl pro src dst F body) 19 = dst % 256 := encs_byt tos idn flg ofs ttl pro src dst F body 19 (by omega)
  generalize encs tos idn flg ofs ttl pro src dst F body = T at *
  generalize csum tos idn flg ofs ttl pro src dst F body = c at *
  have hf : ((F.size : Nat) : Int) % 4 = 0 := by omega
  refine ⟨by omega, ?_, ?_, by omega, ?_, ?_, ?_, by omega, by omega, ?_, ?_, ?_⟩
  · unfold hlen; omega
  · rw [nat_two]; (simp only [Nat.reduceAdd]); omega
  · rw [nat_two]; (simp only [Nat.reduceAdd]); omega
  · rw [nat_two]; (simp only [Nat.reduceAdd]); unfold flgs; omega
  · rw [nat_two]; (simp only [Nat.reduceAdd]); unfold offs; omega
  · rw [nat_two]; (simp only [Nat.reduceAdd]); omega
  · rw [nat_four]; (simp only [Nat.reduceAdd]); omega
  · rw [nat_four]; (simp only [Nat.reduceAdd]); omega
theorem encs_opts (tos idn flg ofs ttl pro src dst : Int) (F body : ByteArray) : (encs tos idn flg ofs ttl pro src dst F body).extract 20 (20 + F.size) = F := by
  rw [encs_20]
  have h := extract_mid (strOf (hd20 tos idn flg ofs ttl pro src dst F body)) F body
  rw [show (strOf (hd20 tos idn flg ofs ttl pro src dst F body)).size = 20 by rw [strOf_size]; rfl] at h
  exact h
theorem encs_body (tos idn flg ofs ttl pro src dst : Int) (F body : ByteArray) : (encs tos idn flg ofs ttl pro src dst F body).extract (20 + F.size) (encs tos idn flg ofs ttl pro src dst F body).size = body := by
  have hs : (strOf (hd20 tos idn flg ofs ttl pro src dst F body) ++ F).size = 20 + F.size := by rw [app_size, strOf_size]; rfl
  rw [encs_20]
  have h := extract_end (strOf (hd20 tos idn flg ofs ttl pro src dst F body) ++ F) body
  rw [hs] at h
  exact h
theorem encs_front (tos idn flg ofs ttl pro src dst : Int) (F body : ByteArray) : (encs tos idn flg ofs ttl pro src dst F body).extract 0 (20 + F.size) = strOf (eh1 tos idn flg ofs ttl pro F body ++ by2 (csum tos idn flg ofs ttl pro src dst F body) ++ eh2 src dst F) := by
  have hs : (strOf (eh1 tos idn flg ofs ttl pro F body ++ by2 (csum tos idn flg ofs ttl pro src dst F body) ++ eh2 src dst F)).size = 20 + F.size := by
    rw [strOf_size, List.length_append, List.length_append]
    unfold eh2
    rw [List.length_append, bl_len]
    show 10 + 2 + (8 + F.size) = _
    omega
  have h := extract_front (strOf (eh1 tos idn flg ofs ttl pro F body ++ by2 (csum tos idn flg ofs ttl pro src dst F body) ++ eh2 src dst F)) body
  rw [hs] at h
  exact h
theorem encs_sum (tos idn flg ofs ttl pro src dst : Int) (F body : ByteArray) : csum tos idn flg ofs ttl pro src dst F body = 65535 - sumb (zeroed ((encs tos idn flg ofs ttl pro src dst F body).extract 0 (20 + F.size))) := by
  rw [encs_front]
  have hE : (strOf (eh1 tos idn flg ofs ttl pro F body)).size = 10 := by rw [strOf_size]; rfl
  rw [← strOf_append (_ ++ by2 _) (eh2 src dst F), ← strOf_append _ (by2 _), zeroed_same _ _ hE _ (by rw [strOf_size]; rfl)]
  unfold csum
  rw [← strOf_append (_ ++ by2 0) (eh2 src dst F), ← strOf_append _ (by2 0), zeroed_same _ _ hE _ (by rw [strOf_size]; rfl)]
end Go.Proofs.Ytnfhiagbbmaobaa
