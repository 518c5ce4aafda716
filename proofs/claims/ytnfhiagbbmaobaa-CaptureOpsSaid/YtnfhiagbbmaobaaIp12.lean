/- The reference's answers: whether a datagram may be, and its bytes. -/
import Derived.Test.YtnfhiagbbmaobaaIp8
import Derived.Test.YtnfhiagbbmaobaaIp5
namespace Go.Proofs.Ytnfhiagbbmaobaa
set_option linter.unusedVariables false
set_option linter.unusedSimpArgs false
set_option maxRecDepth 100000
open Go.RowKit Fg Reg
attribute [local irreducible] Reg.wE Reg2.wT Reg.wN

/-- Two bytes 0 in the middle change no sum. -/
theorem sumb_mid (A B : ByteArray) (hA : A.size % 2 = 0) : sumb (A ++ strOf [0, 0] ++ B) = sumb (A ++ B) := by
  have hz : sumb (strOf [0, 0]) = 0 := by decide +kernel
  have hs : (strOf [0, 0]).size = 2 := by rw [strOf_size]; rfl
  rw [ByteArray.append_assoc, sumb_app A _ hA, sumb_app A B hA, sumb_app (strOf [0, 0]) B (by rw [hs]), hz, Int.zero_add, fl_small (sumb_bd B)]
theorem zeroed_same (A B : ByteArray) (hA : A.size = 10) (x : ByteArray) (hx : x.size = 2) : zeroed (A ++ x ++ B) = A ++ strOf [0, 0] ++ B := by
  have hs : (strOf [0, 0]).size = 2 := by rw [strOf_size]; rfl
  have hsz : (A ++ x ++ B).size = 12 + B.size := by rw [app_size, app_size, hA, hx]
  apply bytes_same
  · rw [zeroed_size _ (by omega), hsz, app_size, app_size, hA, hs]
  · intro j _
    rw [byt_zeroed _ (by omega), byt_app, byt_app, app_size, hA, hs]
    unfold zap
    by_cases h1 : j = 10 ∨ j = 11
    · rw [if_pos h1, if_pos (by omega), if_neg (by omega), byt_strOf _ _ (by simp)]
      have h3 : j - 10 = 0 ∨ j - 10 = 1 := by omega
      rcases h3 with h3 | h3 <;> rw [h3] <;> rfl
    · rw [if_neg h1, byt_app, byt_app, app_size, hA, hx]
      by_cases h2 : j < 10
      · rw [if_pos (by omega), if_pos h2, if_pos (by omega), if_pos h2]
      · rw [if_neg (by omega), if_neg (by omega)]
def rback (src dst : Int) (F : ByteArray) : ByteArray := strOf (by4 src ++ by4 dst) ++ F
theorem eh2_str (src dst : Int) (F : ByteArray) : strOf (eh2 src dst F) = rback src dst F := by
  unfold eh2 rback
  rw [← strOf_append (by4 src ++ by4 dst), bl_str]
theorem encs_eq (tos idn flg ofs ttl pro src dst : Int) (F body : ByteArray) :
    encs tos idn flg ofs ttl pro src dst F body = strOf (eh1 tos idn flg ofs ttl pro F body) ++ strOf (by2 (65535 - sumb (strOf (eh1 tos idn flg ofs ttl pro F body) ++ rback src dst F))) ++ rback src dst F ++ body := by
  have hE : (strOf (eh1 tos idn flg ofs ttl pro F body)).size = 10 := by rw [strOf_size]; rfl
  unfold encs
  rw [← strOf_append (_ ++ by2 0) (eh2 src dst F), ← strOf_append _ (by2 0), eh2_str, zeroed_same _ _ hE _ (by rw [strOf_size]; rfl), sumb_mid _ _ (by rw [hE]), ← strOf_append, ← strOf_append, eh2_str]
end Go.Proofs.Ytnfhiagbbmaobaa
