/- A datagram with one byte of its header turned is not read: the plain mathematics, and Decode's answer. -/
import Derived.Test.YtnfhiagbbmaobaaIp14
namespace Go.Proofs.Ytnfhiagbbmaobaa
set_option linter.unusedVariables false
set_option linter.unusedSimpArgs false
set_option maxRecDepth 100000
open Go.RowKit Fg Reg

theorem bl_get (T : ByteArray) (j : Nat) : (bl T).getD j 0 = byt T j := by
  have h := byt_strOf (bl T) j (bl_ok T)
  rw [bl_str] at h
  exact h.symm
/-- The bytes with one of them turned. -/
def turned (T : ByteArray) (k : Nat) (v : Int) : ByteArray := strOf ((bl T).set k v)
theorem turned_size (T : ByteArray) (k : Nat) (v : Int) : (turned T k v).size = T.size := by unfold turned; rw [strOf_size, List.length_set, bl_len]
theorem turned_byt (T : ByteArray) (k : Nat) (v : Int) (hk : k < T.size) (hv : 0 ≤ v ∧ v ≤ 255) (j : Nat) : byt (turned T k v) j = if j = k then v else byt T j := by
  unfold turned
  rw [byt_strOf _ _ (fun x hx => by rcases List.mem_or_eq_of_mem_set hx with h | h; exact bl_ok T x h; subst h; exact hv), ← bl_get T j]
  have hl := bl_len T
  unfold List.getD
  rw [List.getElem?_set]
  by_cases h : j = k
  · subst h; rw [if_pos rfl, if_pos (by omega), if_pos rfl]; rfl
  · rw [if_neg (fun e => h e.symm), if_neg h]
theorem wsf_turn (f g : Nat → Int) (k n : Nat) (hk : k < 2 * n) (hg : ∀ j, j ≠ k → g j = f j) : wsf g n = wsf f n + (g k - f k) * (if k % 2 = 0 then 256 else 1) := by
  induction n with
  | zero => omega
  | succ n ih =>
    have e1 : wsf g (n + 1) = wsf g n + g (2 * n) * 256 + g (2 * n + 1) := rfl
    have e2 : wsf f (n + 1) = wsf f n + f (2 * n) * 256 + f (2 * n + 1) := rfl
    by_cases h : k < 2 * n
    · rw [e1, e2, ih h, hg (2 * n) (by omega), hg (2 * n + 1) (by omega)]; omega
    · have hc : wsf g n = wsf f n := wsf_congr _ fun j hj => hg j (by omega)
      have hk2 : k = 2 * n ∨ k = 2 * n + 1 := by omega
      rcases hk2 with rfl | rfl
      · rw [e1, e2, hc, hg (2 * n + 1) (by omega), if_pos (by omega)]; omega
      · rw [e1, e2, hc, hg (2 * n) (by omega), if_neg (by omega)]; omega
theorem sum_head (X : ByteArray) (L : Nat) (hL : L ≤ X.size) (h12 : 12 ≤ L) (hev : L % 2 = 0) : sumb (zeroed (X.extract 0 L)) = fl (wsf (zap (byt X)) (L / 2)) := by
  have hs : (X.extract 0 L).size = L := by rw [ext_size _ _ _ hL]; omega
  rw [sumb_zeroed _ (by omega), hs, show (L + 1) / 2 = L / 2 by omega]
  congr 1
  exact wsf_congr _ fun j hj => by
    unfold zap
    by_cases h : j = 10 ∨ j = 11
    · rw [if_pos h, if_pos h]
    · rw [if_neg h, if_neg h, byt_ext _ _ _ _ hL (by omega), Nat.zero_add]
theorem zap_bd {f : Nat → Int} (hf : ∀ j, 0 ≤ f j ∧ f j ≤ 255) (j : Nat) : 0 ≤ zap f j ∧ zap f j ≤ 255 := by
  unfold zap; split
  · omega
  · exact hf j
/-- The sum does not fit any more. -/
theorem turned_sum (T : ByteArray) (L k : Nat) (v : Int) (hL : L ≤ T.size) (h20 : 20 ≤ L) (hev : L % 2 = 0) (hk : k < L) (h1 : 1 ≤ k) (hv : 0 ≤ v ∧ v ≤ 255) (hne : v ≠ byt T k) (h0 : 1 ≤ byt T 0)
    (hs : nat T 10 2 = 65535 - sumb (zeroed (T.extract 0 L))) : nat (turned T k v) 10 2 ≠ 65535 - sumb (zeroed ((turned T k v).extract 0 L)) := by
  have hsz := turned_size T k v
  have hb := turned_byt T k v (by omega) hv
  have n1 := nat_two T 10
  have n2 := nat_two (turned T k v) 10
  simp only [Nat.reduceAdd] at n1 n2
  rw [sum_head T L hL (by omega) hev] at hs
  rw [sum_head _ L (by omega) (by omega) hev]
  have q10 := hb 10
  have q11 := hb 11
  by_cases h10 : k = 10 ∨ k = 11
  · have hz : wsf (zap (byt (turned T k v))) (L / 2) = wsf (zap (byt T)) (L / 2) := wsf_congr _ fun j _ => by
      unfold zap
      by_cases h : j = 10 ∨ j = 11
      · rw [if_pos h, if_pos h]
      · rw [if_neg h, if_neg h, hb j, if_neg (by omega)]
    rw [hz]
    have := byt_bd T 10
    have := byt_bd T 11
    rcases h10 with rfl | rfl
    · rw [if_pos rfl] at q10
      rw [if_neg (by omega)] at q11
      omega
    · rw [if_neg (by omega)] at q10
      rw [if_pos rfl] at q11
      omega
  · rw [if_neg (by omega)] at q10 q11
    have ht := wsf_turn (zap (byt T)) (zap (byt (turned T k v))) k (L / 2) (by omega) (fun j hj => by unfold zap; split; rfl; rw [hb j, if_neg hj])
    have e1 : zap (byt (turned T k v)) k = v := by unfold zap; rw [if_neg h10, hb k, if_pos rfl]
    have e2 : zap (byt T) k = byt T k := by unfold zap; rw [if_neg h10]
    rw [e1, e2] at ht
    have p1 := wsf_pos (f := zap (byt T)) (zap_bd (byt_bd T)) (L / 2 - 1) (by unfold zap; rw [if_neg (by omega)]; exact h0)
    have p2 := wsf_pos (f := zap (byt (turned T k v))) (zap_bd (byt_bd _)) (L / 2 - 1) (by unfold zap; rw [if_neg (by omega), hb 0, if_neg (by omega)]; exact h0)
    rw [show L / 2 - 1 + 1 = L / 2 by omega] at p1 p2
    have hbk := byt_bd T k
    have hfn : fl (wsf (zap (byt (turned T k v))) (L / 2)) ≠ fl (wsf (zap (byt T)) (L / 2)) := by
      split at ht
      · exact fl_ne p2 p1 (by omega) (by omega) (by omega)
      · exact fl_ne p2 p1 (by omega) (by omega) (by omega)
    omega
theorem turned_dec (tos idn flg ofs ttl pro src dst : Int) (F body : ByteArray) (hi : (0 ≤ tos ∧ tos ≤ 255) ∧ (0 ≤ idn ∧ idn ≤ 65535) ∧ (0 ≤ flg ∧ flg ≤ 255) ∧ (0 ≤ ofs ∧ ofs ≤ 65535) ∧ (0 ≤ ttl ∧ ttl ≤ 255) ∧ (0 ≤ pro ∧ pro ≤ 255) ∧ (0 ≤ src ∧ src ≤ 4294967295) ∧ (0 ≤ dst ∧ dst ≤ 4294967295)) (h1 : flg ≤ 7) (h2 : ofs ≤ 8191) (hF : F.size ≤ 40) (hF4 : F.size % 4 = 0) (hb : body.size ≤ 65535 - 20 - F.size) (k : Nat) (v : Int) (hk1 : 1 ≤ k) (hk2 : k < 20 + F.size) (hv : 0 ≤ v ∧ v ≤ 255) (hne : v ≠ byt (encs tos idn flg ofs ttl pro src dst F body) k) :
    ∃ e : Int, (e = 2 ∨ e = 3 ∨ e = 4 ∨ e = 7) ∧ ∀ z, Calls Try.prog 41 #[.string (turned (encs tos idn flg ofs ttl pro src dst F body) k v)] z fun ee w' => ee = .returned (.tuple #[.agg #[.int .u8 0, .int .u16 0, .int .u8 0, .int .u16 0, .int .u8 0, .int .u8 0, .int .u32 0, .int .u32 0, .string ⟨#[]⟩], .string ⟨#[]⟩, .int .i64 e]) ∧ Below (z).heap.size z w' := by
  obtain ⟨⟨g0, g0'⟩, gL, g2, -, -, -, -, -, -, g9, -, -⟩ := encs_back tos idn flg ofs ttl pro src dst F body hi h1 h2 hF hF4 hb
  have hsz := encs_size tos idn flg ofs ttl pro src dst F body
  have hsm := encs_sum tos idn flg ofs ttl pro src dst F body
  rw [← g9] at hsm
  generalize encs tos idn flg ofs ttl pro src dst F body = T at *
  have hts := turned_size T k v
  have htb := turned_byt T k v (by omega) hv
  have t0 : byt (turned T k v) 0 = byt T 0 := by rw [htb, if_neg (by omega)]
  have hlen : hlen (turned T k v) = 20 + F.size := by rw [← gL]; unfold Go.Proofs.Ytnfhiagbbmaobaa.hlen; rw [t0]
  have hL4 : (byt T 0 - 64) * 4 = ((20 + F.size : Nat) : Int) := by unfold Go.Proofs.Ytnfhiagbbmaobaa.hlen at gL; omega
  have hS : 20 ≤ (turned T k v).size := by omega
  have hM : (turned T k v).size ≤ 9223372036854775807 := by omega
  have t23 : k = 2 ∨ k = 3 ∨ (k ≠ 2 ∧ k ≠ 3) := by omega
  have m2 := nat_two T 2
  have m3 := nat_two (turned T k v) 2
  simp only [Nat.reduceAdd] at m2 m3
  have q2 := htb 2
  have q3 := htb 3
  by_cases hf : nat (turned T k v) 2 2 < (byt (turned T k v) 0 - 64) * 4
  · exact ⟨4, by omega, fun z => dec_form _ hS hM (.inr (.inr hf)) z⟩
  have hg : 69 ≤ byt (turned T k v) 0 ∧ byt (turned T k v) 0 ≤ 79 ∧ (byt (turned T k v) 0 - 64) * 4 ≤ nat (turned T k v) 2 2 := by rw [t0] at hf ⊢; omega
  by_cases c1 : ((turned T k v).size : Int) < nat (turned T k v) 2 2
  · exact ⟨3, by omega, fun z => dec_less _ hS hM hg c1 z⟩
  by_cases c2 : nat (turned T k v) 2 2 < ((turned T k v).size : Int)
  · exact ⟨2, by omega, fun z => dec_more _ hS hM hg c2 z⟩
  have hs := turned_sum T (20 + F.size) k v (by omega) (by omega) (by omega) hk2 hk1 hv hne (by omega) hsm
  rw [← hlen] at hs
  exact ⟨7, by omega, fun z => dec_state _ hS hM hg (by omega) hs z⟩
end Go.Proofs.Ytnfhiagbbmaobaa
