/- flow.Key and flow.Packet of any text. -/
import Derived.Test.YtnfhiagbbmaobaaFk1
namespace Go.Proofs.Ytnfhiagbbmaobaa
set_option linter.unusedVariables false
set_option linter.unusedSimpArgs false
set_option maxRecDepth 100000
open Go.RowKit Fg Reg
attribute [local irreducible] Reg.wE Reg2.wT

theorem dec_bad (S : ByteArray) (hM : S.size ≤ 9223372036854775807) (h : kbad S ≠ 0) (w : World) : Calls Try.prog 41 #[.string S] w fun ee w' => ee = .returned (.tuple #[.agg #[.int .u8 0, .int .u16 0, .int .u8 0, .int .u16 0, .int .u8 0, .int .u8 0, .int .u32 0, .int .u32 0, .string ⟨#[]⟩], .string ⟨#[]⟩, .int .i64 (kbad S)]) ∧ Below w.heap.size w w' := by
  unfold kbad at h ⊢
  by_cases h1 : S.size < 20
  · rw [if_pos h1]; exact dec_short S h1 w
  rw [if_neg h1] at h ⊢
  by_cases h2 : byt S 0 < 69 ∨ 79 < byt S 0 ∨ nat S 2 2 < (byt S 0 - 64) * 4
  · rw [if_pos h2]; exact dec_form S (by omega) hM h2 w
  rw [if_neg h2] at h ⊢
  have g : 69 ≤ byt S 0 ∧ byt S 0 ≤ 79 ∧ (byt S 0 - 64) * 4 ≤ nat S 2 2 := ⟨by omega, by omega, by omega⟩
  by_cases h3 : (S.size : Int) < nat S 2 2
  · rw [if_pos h3]; exact dec_less S (by omega) hM g h3 w
  rw [if_neg h3] at h ⊢
  by_cases h4 : nat S 2 2 < (S.size : Int)
  · rw [if_pos h4]; exact dec_more S (by omega) hM g h4 w
  rw [if_neg h4] at h ⊢
  by_cases h5 : nat S 10 2 ≠ 65535 - sumb (zeroed (S.extract 0 (hlen S)))
  · rw [if_pos h5]; exact dec_state S (by omega) hM g (by omega) h5 w
  · rw [if_neg h5] at h; exact absurd rfl h
theorem dec_good (S : ByteArray) (hM : S.size ≤ 9223372036854775807) (h : kbad S = 0) (w : World) :
    Calls Try.prog 41 #[.string S] w fun ee w' => ee = .returned (.tuple #[.agg #[.int .u8 (byt S 1), .int .u16 (nat S 4 2), .int .u8 (flgs (nat S 6 2)), .int .u16 (offs (nat S 6 2)), .int .u8 (byt S 8), .int .u8 (byt S 9), .int .u32 (nat S 12 4), .int .u32 (nat S 16 4), .string (S.extract 20 (hlen S))], .string (S.extract (hlen S) S.size), .int .i64 0]) ∧ Below w.heap.size w w' := by
  obtain ⟨h1, h2, h3, h4⟩ := kbad_ok h
  exact dec_ok S h1 hM h2 h3 h4 w
set_option maxHeartbeats 4000000 in
theorem key_no (S : ByteArray) (e : Int) (he : e = 2 ∨ e = 3 ∨ e = 4 ∨ e = 7) (kd : ∀ z, Calls Try.prog 41 #[.string S] z fun ee w' => ee = .returned (.tuple #[.agg #[.int .u8 0, .int .u16 0, .int .u8 0, .int .u16 0, .int .u8 0, .int .u8 0, .int .u32 0, .int .u32 0, .string ⟨#[]⟩], .string ⟨#[]⟩, .int .i64 e]) ∧ Below (z).heap.size z w') (w : World) : Calls Try.prog 12 #[.string S] w fun ee w' => ee = .returned (.tuple #[.agg #[.int .u16 0, .int .u16 0, .int .u16 0, .int .u16 0], .int .i64 e]) ∧ Below w.heap.size w w' := by
  have K := Lib.hid kd
  clear kd
  rcases he with rfl | rfl | rfl | rfl
  all_goals
    go_enter Try.func12, Try.ntmps12
    go_wp2_with (go_at_call 41; ((with_reducible refine (K.out _).mono ?_); rintro e w1 ⟨rfl, hbel⟩; obtain ⟨hcc, hff⟩ := bcell hbel; have hsz := hbel.size; (try simp at hsz); have hF : w.heap.size < w1.heap.size ∧ ((w1).cell? ⟨w.heap.size, 0, none⟩ = some (.int .u16 0) ∧ (w1).cell? ⟨w.heap.size, 1, none⟩ = some (.int .u16 0) ∧ (w1).cell? ⟨w.heap.size, 2, none⟩ = some (.int .u16 0) ∧ (w1).cell? ⟨w.heap.size, 3, none⟩ = some (.int .u16 0) ∧ (w1).frozen? ⟨w.heap.size, 0, none⟩ = false ∧ (w1).frozen? ⟨w.heap.size, 1, none⟩ = false ∧ (w1).frozen? ⟨w.heap.size, 2, none⟩ = false ∧ (w1).frozen? ⟨w.heap.size, 3, none⟩ = false) ∧ Below w.heap.size w w1 := (by ((repeat' apply And.intro) <;> first | (simp [go_sem, *]; done) | omega | (repeat' (first | with_reducible exact Below.refl _ _ | with_reducible assumption | ((with_reducible refine Below.drew ?_)) | ((with_reducible refine below_drewN ?_ _)) | ((with_reducible refine Below.alloc ?_ ?_ _); rotate_left; focus (first | omega | (simp; done) | (simp; omega))) | ((with_reducible refine Below.setCell ?_ ?_ _); rotate_left; focus (first | omega | (simp; done) | (simp; omega))) | ((with_reducible refine Below.trans ?_ (Below.mono (by with_reducible assumption) ?_)); rotate_left; focus (first | omega | (simp; done) | (simp; omega))))))); go_split_ands; clear hcc hff hbel))
    refine bodyPost_ret (v := .tuple #[.agg #[.int .u16 0, .int .u16 0, .int .u16 0, .int .u16 0], .int .i64 _]) (by simp [results, Try.results12, go_sem, *]) rfl ⟨rfl, (by repeat' (first | with_reducible exact Below.refl _ _ | with_reducible assumption | ((with_reducible refine Below.drew ?_)) | ((with_reducible refine below_drewN ?_ _)) | ((with_reducible refine Below.alloc ?_ ?_ _); rotate_left; focus (first | omega | (simp; done) | (simp; omega))) | ((with_reducible refine Below.setCell ?_ ?_ _); rotate_left; focus (first | omega | (simp; done) | (simp; omega))) | ((with_reducible refine Below.trans ?_ (Below.mono (by with_reducible assumption) ?_)); rotate_left; focus (first | omega | (simp; done) | (simp; omega)))))⟩
set_option maxHeartbeats 4000000 in
theorem key_yes (S : ByteArray) (tos idn flg ofs ttl pro src dst p1 p2 : Int) (O B : ByteArray) (ht : 0 ≤ tos ∧ tos ≤ 255) (hp : 0 ≤ pro ∧ pro ≤ 255) (hs : 0 ≤ src ∧ src < 4294967296) (hd : 0 ≤ dst ∧ dst < 4294967296)
    (kd : ∀ z, Calls Try.prog 41 #[.string S] z fun ee w' => ee = .returned (.tuple #[.agg #[.int .u8 tos, .int .u16 idn, .int .u8 flg, .int .u16 ofs, .int .u8 ttl, .int .u8 pro, .int .u32 src, .int .u32 dst, .string O], .string B, .int .i64 0]) ∧ Below (z).heap.size z w')
    (kp : ∀ z, Calls Try.prog 42 #[.agg #[.int .u8 tos, .int .u16 idn, .int .u8 flg, .int .u16 ofs, .int .u8 ttl, .int .u8 pro, .int .u32 src, .int .u32 dst, .string O], .string B] z fun ee w' => ee = .returned (.tuple #[.int .u16 p1, .int .u16 p2]) ∧ Below (z).heap.size z w') (w : World) : Calls Try.prog 12 #[.string S] w fun ee w' => ee = .returned (.tuple #[.agg #[.int .u16 (pro * 256 + tos / 4), .int .u16 (p1), .int .u16 (p2), .int .u16 (mix src dst)], .int .i64 0]) ∧ Below w.heap.size w w' := by
  have K := Lib.hid kd
  have KP := Lib.hid kp
  clear kd kp
  have m1 : pro * 256 % 65536 = pro * 256 := by omega
  have r1 := or16 hp (y := tos / 4) (by omega)
  obtain ⟨K0, hK0⟩ : ∃ K0, pro * 256 + tos / 4 = K0 := ⟨_, rfl⟩
  rw [hK0] at r1 ⊢
  have s1 : src / 65536 % 65536 = src / 65536 := by omega
  have s2 : dst / 65536 % 65536 = dst / 65536 := by omega
  have v1 : IntKind.u16.wrap src = src % 65536 := by simp [IntKind.wrap, IntKind.bits, IntKind.signed]
  have v2 : IntKind.u16.wrap dst = dst % 65536 := by simp [IntKind.wrap, IntKind.bits, IntKind.signed]
  have x1 := bits_xor16 (a := src / 65536) (b := src % 65536) (by omega) (by omega)
  have y1 := xr_bd (a := src / 65536) (b := src % 65536) (by omega) (by omega)
  obtain ⟨X1, hX1⟩ : ∃ X1, xr (src / 65536) (src % 65536) = X1 := ⟨_, rfl⟩
  rw [hX1] at x1 y1
  have x2 := bits_xor16 (a := X1) (b := dst / 65536) (by omega) (by omega)
  have y2 := xr_bd (a := X1) (b := dst / 65536) (by omega) (by omega)
  obtain ⟨X2, hX2⟩ : ∃ X2, xr X1 (dst / 65536) = X2 := ⟨_, rfl⟩
  rw [hX2] at x2 y2
  have x3 := bits_xor16 (a := X2) (b := dst % 65536) (by omega) (by omega)
  obtain ⟨X3, hX3⟩ : ∃ X3, xr X2 (dst % 65536) = X3 := ⟨_, rfl⟩
  rw [hX3] at x3
  have hm : mix src dst = X3 := by unfold mix; rw [hX1, hX2, hX3]
  rw [hm]
  clear hm hX1 hX2 hX3 hK0
  go_enter Try.func12, Try.ntmps12
  go_wp2_with (first
    | (go_at_call 41; ((with_reducible refine (K.out _).mono ?_); rintro e w1 ⟨rfl, hbel⟩; obtain ⟨hcc, hff⟩ := bcell hbel; have hsz := hbel.size; (try simp at hsz); have hF : w.heap.size < w1.heap.size ∧ ((w1).cell? ⟨w.heap.size, 0, none⟩ = some (.int .u16 0) ∧ (w1).cell? ⟨w.heap.size, 1, none⟩ = some (.int .u16 0) ∧ (w1).cell? ⟨w.heap.size, 2, none⟩ = some (.int .u16 0) ∧ (w1).cell? ⟨w.heap.size, 3, none⟩ = some (.int .u16 0) ∧ (w1).frozen? ⟨w.heap.size, 0, none⟩ = false ∧ (w1).frozen? ⟨w.heap.size, 1, none⟩ = false ∧ (w1).frozen? ⟨w.heap.size, 2, none⟩ = false ∧ (w1).frozen? ⟨w.heap.size, 3, none⟩ = false) ∧ Below w.heap.size w w1 := (by ((repeat' apply And.intro) <;> first | (simp [go_sem, *]; done) | omega | (repeat' (first | with_reducible exact Below.refl _ _ | with_reducible assumption | ((with_reducible refine Below.drew ?_)) | ((with_reducible refine below_drewN ?_ _)) | ((with_reducible refine Below.alloc ?_ ?_ _); rotate_left; focus (first | omega | (simp; done) | (simp; omega))) | ((with_reducible refine Below.setCell ?_ ?_ _); rotate_left; focus (first | omega | (simp; done) | (simp; omega))) | ((with_reducible refine Below.trans ?_ (Below.mono (by with_reducible assumption) ?_)); rotate_left; focus (first | omega | (simp; done) | (simp; omega))))))); go_split_ands; clear hcc hff hbel))
    | (go_at_call 42; ((with_reducible refine (KP.out _).mono ?_); rintro e w2 ⟨rfl, hbel⟩; obtain ⟨hcc, hff⟩ := bcell hbel; have hsz := hbel.size; (try simp at hsz); have hF : w.heap.size < w2.heap.size ∧ ((w2).cell? ⟨w.heap.size, 0, none⟩ = some (.int .u16 0) ∧ (w2).cell? ⟨w.heap.size, 1, none⟩ = some (.int .u16 0) ∧ (w2).cell? ⟨w.heap.size, 2, none⟩ = some (.int .u16 0) ∧ (w2).cell? ⟨w.heap.size, 3, none⟩ = some (.int .u16 0) ∧ (w2).frozen? ⟨w.heap.size, 0, none⟩ = false ∧ (w2).frozen? ⟨w.heap.size, 1, none⟩ = false ∧ (w2).frozen? ⟨w.heap.size, 2, none⟩ = false ∧ (w2).frozen? ⟨w.heap.size, 3, none⟩ = false) ∧ ((w2).cell? ⟨w1.heap.size, 0, none⟩ = some (.int .u8 tos) ∧ (w2).cell? ⟨w1.heap.size, 1, none⟩ = some (.int .u16 idn) ∧ (w2).cell? ⟨w1.heap.size, 2, none⟩ = some (.int .u8 flg) ∧ (w2).cell? ⟨w1.heap.size, 3, none⟩ = some (.int .u16 ofs) ∧ (w2).cell? ⟨w1.heap.size, 4, none⟩ = some (.int .u8 ttl) ∧ (w2).cell? ⟨w1.heap.size, 5, none⟩ = some (.int .u8 pro) ∧ (w2).cell? ⟨w1.heap.size, 6, none⟩ = some (.int .u32 src) ∧ (w2).cell? ⟨w1.heap.size, 7, none⟩ = some (.int .u32 dst) ∧ (w2).cell? ⟨w1.heap.size, 8, none⟩ = some (.string O) ∧ w1.heap.size < (w2).heap.size) ∧ Below w.heap.size w w2 := (by ((repeat' apply And.intro) <;> first | (simp [go_sem, *]; done) | omega | (repeat' (first | with_reducible exact Below.refl _ _ | with_reducible assumption | ((with_reducible refine Below.drew ?_)) | ((with_reducible refine below_drewN ?_ _)) | ((with_reducible refine Below.alloc ?_ ?_ _); rotate_left; focus (first | omega | (simp; done) | (simp; omega))) | ((with_reducible refine Below.setCell ?_ ?_ _); rotate_left; focus (first | omega | (simp; done) | (simp; omega))) | ((with_reducible refine Below.trans ?_ (Below.mono (by with_reducible assumption) ?_)); rotate_left; focus (first | omega | (simp; done) | (simp; omega))))))); go_split_ands; clear hcc hff hbel)))
  refine bodyPost_ret (v := .tuple #[.agg #[.int .u16 (K0), .int .u16 (p1), .int .u16 (p2), .int .u16 (X3)], .int .i64 0]) (by simp [results, Try.results12, go_sem, *]) rfl ⟨rfl, (by repeat' (first | with_reducible exact Below.refl _ _ | with_reducible assumption | ((with_reducible refine Below.drew ?_)) | ((with_reducible refine below_drewN ?_ _)) | ((with_reducible refine Below.alloc ?_ ?_ _); rotate_left; focus (first | omega | (simp; done) | (simp; omega))) | ((with_reducible refine Below.setCell ?_ ?_ _); rotate_left; focus (first | omega | (simp; done) | (simp; omega))) | ((with_reducible refine Below.trans ?_ (Below.mono (by with_reducible assumption) ?_)); rotate_left; focus (first | omega | (simp; done) | (simp; omega)))))⟩
def kval (S : ByteArray) : Value := if kbad S = 0 then .agg #[.int .u16 (k0 S), .int .u16 (k1 S), .int .u16 (k2 S), .int .u16 (k3 S)] else .agg #[.int .u16 0, .int .u16 0, .int .u16 0, .int .u16 0]
theorem nat_tail2 (S : ByteArray) (L p n : Nat) (h : L + p + n ≤ S.size) : nat (S.extract L S.size) p n = nat S (L + p) n := by
  unfold nat
  have : ∀ m, m ≤ n → hor (fun j => byt (S.extract L S.size) (p + j)) m = hor (fun j => byt S (L + p + j)) m := fun m => by
    induction m with
    | zero => intro _; rfl
    | succ m ih =>
      intro hm
      have e1 : ∀ f : Nat → Int, hor f (m + 1) = hor f m * 256 + f m := fun _ => rfl
      rw [e1, e1, ih (by omega), byt_ext _ _ _ _ (Nat.le_refl _) (by omega), show L + (p + m) = L + p + m by omega]
  exact this n (Nat.le_refl _)
theorem ports_c (S : ByteArray) (h : kbad S = 0) (hM : S.size ≤ 9223372036854775807) (tos idn flg ttl src dst : Int) (O : ByteArray) (w : World) :
    Calls Try.prog 42 #[.agg #[.int .u8 tos, .int .u16 idn, .int .u8 flg, .int .u16 (offs (nat S 6 2)), .int .u8 ttl, .int .u8 (byt S 9), .int .u32 src, .int .u32 dst, .string O], .string (S.extract (hlen S) S.size)] w fun ee w' => ee = .returned (.tuple #[.int .u16 (k1 S), .int .u16 (k2 S)]) ∧ Below w.heap.size w w' := by
  obtain ⟨h1, h2, h3, h4⟩ := kbad_ok h
  have hz := ext_size S (hlen S) S.size (Nat.le_refl _)
  have hl : hlen S ≤ S.size := by unfold hlen; omega
  unfold k1 k2
  by_cases hp : byt S 9 = 6 ∨ byt S 9 = 17
  · by_cases hr : offs (nat S 6 2) = 0 ∧ hlen S + 4 ≤ S.size
    · rw [if_pos ⟨hp, hr⟩, if_pos ⟨hp, hr⟩]
      have := ports_told tos idn flg (offs (nat S 6 2)) ttl (byt S 9) src dst O (S.extract (hlen S) S.size) hp hr.1 (by omega) (by omega) w
      rw [nat_tail2 S (hlen S) 0 2 (by omega), nat_tail2 S (hlen S) 2 2 (by omega)] at this
      exact this
    · rw [if_neg (fun hh => hr hh.2), if_neg (fun hh => hr hh.2)]
      exact ports_rest tos idn flg (offs (nat S 6 2)) ttl (byt S 9) src dst O (S.extract (hlen S) S.size) hp (by omega) w
  · rw [if_neg (fun hh => hp hh.1), if_neg (fun hh => hp hh.1)]
    exact ports_proto tos idn flg (offs (nat S 6 2)) ttl (byt S 9) src dst O (S.extract (hlen S) S.size) (by omega) w
theorem nat4_bd (S : ByteArray) (p : Nat) : 0 ≤ nat S p 4 ∧ nat S p 4 < 4294967296 := by have := nat_bd S p 4; simpa using this
/-- flow.Key of any text. -/
theorem key_c (S : ByteArray) (hM : S.size ≤ 9223372036854775807) (w : World) : Calls Try.prog 12 #[.string S] w fun ee w' => ee = .returned (.tuple #[kval S, .int .i64 (kbad S)]) ∧ Below w.heap.size w w' := by
  by_cases h : kbad S = 0
  · unfold kval
    rw [if_pos h, h]
    have b1 := byt_bd S 1
    have b9 := byt_bd S 9
    exact key_yes S _ _ _ _ _ _ _ _ _ _ _ _ b1 b9 (nat4_bd S 12) (nat4_bd S 16) (dec_good S hM h) (fun z => ports_c S h hM _ _ _ _ _ _ _ z) w
  · unfold kval
    rw [if_neg h]
    exact key_no S _ (by have := kbad_val S; omega) (dec_bad S hM h) w
end Go.Proofs.Ytnfhiagbbmaobaa
