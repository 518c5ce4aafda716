/- Ipv4Decodes. -/
import Derived.Test.YtpjanaljmnfccaaIp15
namespace Go.Proofs.Ytpjanaljmnfccaa
set_option linter.unusedVariables false
set_option linter.unusedSimpArgs false
set_option maxRecDepth 100000
open Go.RowKit Fg Reg
attribute [local irreducible] Reg.wE Reg2.wT

set_option maxHeartbeats 4000000 in
theorem ldec_bad (S : ByteArray) (e : Int) (he : e = 2 ∨ e = 3 ∨ e = 4 ∨ e = 7) (kd : ∀ z, Calls Try.prog 42 #[.string S] z fun ee w' => ee = .returned (.tuple #[.agg #[.int .u8 0, .int .u16 0, .int .u8 0, .int .u16 0, .int .u8 0, .int .u8 0, .int .u32 0, .int .u32 0, .string ⟨#[]⟩], .string ⟨#[]⟩, .int .i64 e]) ∧ Below (z).heap.size z w') (kb : ∀ z, Calls Try.prog 45 #[.string S] z fun ee w' => ee = .returned (.int .i64 e) ∧ Below (z).heap.size z w') (w : World) :
    Calls Try.prog 12 #[.string S] w fun e w' => e = .returned (.bool true) ∧ Below w.heap.size w w' := by
  have KF := Lib.hid four_c
  have KD := Lib.hid kd
  have KB := Lib.hid kb
  have heq := hdr_eq 0 0 0 0 0 0 0 0 ⟨#[]⟩
  clear kd kb
  rcases he with rfl | rfl | rfl | rfl
  all_goals
    go_enter Try.func12, Try.ntmps12
    go_wp2_with (first
      | (go_at_call 42; ((with_reducible refine (KD.out _).mono ?_); rintro e w1 ⟨rfl, hbel⟩; obtain ⟨hcc, hff⟩ := bcell hbel; have hsz := hbel.size; (try simp at hsz); have hF : Below w.heap.size w w1 := (by ((repeat' apply And.intro) <;> first | (simp [go_sem, *]; done) | omega | (repeat' (first | with_reducible exact Below.refl _ _ | with_reducible assumption | ((with_reducible refine Below.drew ?_)) | ((with_reducible refine below_drewN ?_ _)) | ((with_reducible refine Below.alloc ?_ ?_ _); rotate_left; focus (first | omega | (simp; done) | (simp; omega))) | ((with_reducible refine Below.setCell ?_ ?_ _); rotate_left; focus (first | omega | (simp; done) | (simp; omega))) | ((with_reducible refine Below.trans ?_ (Below.mono (by with_reducible assumption) ?_)); rotate_left; focus (first | omega | (simp; done) | (simp; omega))))))); go_split_ands; clear hcc hff hbel))
      | (go_at_call 45; ((with_reducible refine (KB.out _).mono ?_); rintro e w2 ⟨rfl, hbel⟩; obtain ⟨hcc, hff⟩ := bcell hbel; have hsz := hbel.size; (try simp at hsz); have hF : (w2.cell? ⟨w1.heap.size, 0, none⟩ = some (.int .u8 0) ∧ w2.cell? ⟨w1.heap.size, 1, none⟩ = some (.int .u16 0) ∧ w2.cell? ⟨w1.heap.size, 2, none⟩ = some (.int .u8 0) ∧ w2.cell? ⟨w1.heap.size, 3, none⟩ = some (.int .u16 0) ∧ w2.cell? ⟨w1.heap.size, 4, none⟩ = some (.int .u8 0) ∧ w2.cell? ⟨w1.heap.size, 5, none⟩ = some (.int .u8 0) ∧ w2.cell? ⟨w1.heap.size, 6, none⟩ = some (.int .u32 0) ∧ w2.cell? ⟨w1.heap.size, 7, none⟩ = some (.int .u32 0) ∧ w2.cell? ⟨w1.heap.size, 8, none⟩ = some (.string ⟨#[]⟩) ∧ w1.heap.size < w2.heap.size) ∧ Below w.heap.size w w2 := (by ((repeat' apply And.intro) <;> first | (simp [go_sem, *]; done) | omega | (repeat' (first | with_reducible exact Below.refl _ _ | with_reducible assumption | ((with_reducible refine Below.drew ?_)) | ((with_reducible refine below_drewN ?_ _)) | ((with_reducible refine Below.alloc ?_ ?_ _); rotate_left; focus (first | omega | (simp; done) | (simp; omega))) | ((with_reducible refine Below.setCell ?_ ?_ _); rotate_left; focus (first | omega | (simp; done) | (simp; omega))) | ((with_reducible refine Below.trans ?_ (Below.mono (by with_reducible assumption) ?_)); rotate_left; focus (first | omega | (simp; done) | (simp; omega))))))); go_split_ands; clear hcc hff hbel))
      | (go_at_call 36; ((with_reducible refine (KF.out _).mono ?_); rintro e w3 ⟨rfl, hbel⟩; obtain ⟨hcc, hff⟩ := bcell hbel; have hsz := hbel.size; (try simp at hsz); have hF : Below w.heap.size w w3 := (by ((repeat' apply And.intro) <;> first | (simp [go_sem, *]; done) | omega | (repeat' (first | with_reducible exact Below.refl _ _ | with_reducible assumption | ((with_reducible refine Below.drew ?_)) | ((with_reducible refine below_drewN ?_ _)) | ((with_reducible refine Below.alloc ?_ ?_ _); rotate_left; focus (first | omega | (simp; done) | (simp; omega))) | ((with_reducible refine Below.setCell ?_ ?_ _); rotate_left; focus (first | omega | (simp; done) | (simp; omega))) | ((with_reducible refine Below.trans ?_ (Below.mono (by with_reducible assumption) ?_)); rotate_left; focus (first | omega | (simp; done) | (simp; omega))))))); go_split_ands; clear hcc hff hbel)))
    (go_ret; refine ⟨?_, ?_⟩; (focus (exact rfl)); ((repeat' (first | with_reducible exact Below.refl _ _ | with_reducible assumption | ((with_reducible refine Below.drew ?_)) | ((with_reducible refine below_drewN ?_ _)) | ((with_reducible refine Below.alloc ?_ ?_ _); rotate_left; focus (first | omega | (simp; done) | (simp; omega))) | ((with_reducible refine Below.setCell ?_ ?_ _); rotate_left; focus (first | omega | (simp; done) | (simp; omega))) | ((with_reducible refine Below.trans ?_ (Below.mono (by with_reducible assumption) ?_)); rotate_left; focus (first | omega | (simp; done) | (simp; omega))))); done))
set_option maxHeartbeats 8000000 in
theorem ldec_ok (S : ByteArray) (tos idn flg ofs ttl pro src dst : Int) (O body : ByteArray) (kd : ∀ z, Calls Try.prog 42 #[.string S] z fun ee w' => ee = .returned (.tuple #[.agg #[.int .u8 tos, .int .u16 idn, .int .u8 flg, .int .u16 ofs, .int .u8 ttl, .int .u8 pro, .int .u32 src, .int .u32 dst, .string O], .string body, .int .i64 0]) ∧ Below (z).heap.size z w') (kb : ∀ z, Calls Try.prog 45 #[.string S] z fun ee w' => ee = .returned (.int .i64 0) ∧ Below (z).heap.size z w')
    (kh : ∀ z, Calls Try.prog 46 #[.string S] z fun ee w' => ee = .returned (.agg #[.int .u8 tos, .int .u16 idn, .int .u8 flg, .int .u16 ofs, .int .u8 ttl, .int .u8 pro, .int .u32 src, .int .u32 dst, .string O]) ∧ Below (z).heap.size z w') (ko : ∀ z, Calls Try.prog 47 #[.string S] z fun ee w' => ee = .returned (.string body) ∧ Below (z).heap.size z w') (ke : ∀ z, Calls Try.prog 39 #[.agg #[.int .u8 tos, .int .u16 idn, .int .u8 flg, .int .u16 ofs, .int .u8 ttl, .int .u8 pro, .int .u32 src, .int .u32 dst, .string O], .string body] z fun ee w' => ee = .returned (.tuple #[.string S, .int .i64 0]) ∧ Below (z).heap.size z w') (w : World) :
    Calls Try.prog 12 #[.string S] w fun e w' => e = .returned (.bool true) ∧ Below w.heap.size w w' := by
  have KFO := Lib.hid four_c
  have KD := Lib.hid kd
  have KB := Lib.hid kb
  have KH := Lib.hid kh
  have KO := Lib.hid ko
  have KE := Lib.hid ke
  have KR := Lib.hid (fun z => ref_c tos idn flg ofs ttl pro src dst O z)
  have heq := rhdr_eq tos idn flg ofs ttl pro src dst O
  clear kd kb kh ko ke
  go_enter Try.func12, Try.ntmps12
  go_wp2_with (first
    | (go_at_call 42; ((with_reducible refine (KD.out _).mono ?_); rintro e w1 ⟨rfl, hbel⟩; obtain ⟨hcc, hff⟩ := bcell hbel; have hsz := hbel.size; (try simp at hsz); have hF : Below w.heap.size w w1 := (by ((repeat' apply And.intro) <;> first | (simp [go_sem, *]; done) | omega | (repeat' (first | with_reducible exact Below.refl _ _ | with_reducible assumption | ((with_reducible refine Below.drew ?_)) | ((with_reducible refine below_drewN ?_ _)) | ((with_reducible refine Below.alloc ?_ ?_ _); rotate_left; focus (first | omega | (simp; done) | (simp; omega))) | ((with_reducible refine Below.setCell ?_ ?_ _); rotate_left; focus (first | omega | (simp; done) | (simp; omega))) | ((with_reducible refine Below.trans ?_ (Below.mono (by with_reducible assumption) ?_)); rotate_left; focus (first | omega | (simp; done) | (simp; omega))))))); go_split_ands; clear hcc hff hbel))
    | (go_at_call 45; ((with_reducible refine (KB.out _).mono ?_); rintro e w2 ⟨rfl, hbel⟩; obtain ⟨hcc, hff⟩ := bcell hbel; have hsz := hbel.size; (try simp at hsz); have hF : (w2.cell? ⟨w1.heap.size, 0, none⟩ = some (.int .u8 tos) ∧ w2.cell? ⟨w1.heap.size, 1, none⟩ = some (.int .u16 idn) ∧ w2.cell? ⟨w1.heap.size, 2, none⟩ = some (.int .u8 flg) ∧ w2.cell? ⟨w1.heap.size, 3, none⟩ = some (.int .u16 ofs) ∧ w2.cell? ⟨w1.heap.size, 4, none⟩ = some (.int .u8 ttl) ∧ w2.cell? ⟨w1.heap.size, 5, none⟩ = some (.int .u8 pro) ∧ w2.cell? ⟨w1.heap.size, 6, none⟩ = some (.int .u32 src) ∧ w2.cell? ⟨w1.heap.size, 7, none⟩ = some (.int .u32 dst) ∧ w2.cell? ⟨w1.heap.size, 8, none⟩ = some (.string O) ∧ w1.heap.size < w2.heap.size) ∧ Below w.heap.size w w2 := (by ((repeat' apply And.intro) <;> first | (simp [go_sem, *]; done) | omega | (repeat' (first | with_reducible exact Below.refl _ _ | with_reducible assumption | ((with_reducible refine Below.drew ?_)) | ((with_reducible refine below_drewN ?_ _)) | ((with_reducible refine Below.alloc ?_ ?_ _); rotate_left; focus (first | omega | (simp; done) | (simp; omega))) | ((with_reducible refine Below.setCell ?_ ?_ _); rotate_left; focus (first | omega | (simp; done) | (simp; omega))) | ((with_reducible refine Below.trans ?_ (Below.mono (by with_reducible assumption) ?_)); rotate_left; focus (first | omega | (simp; done) | (simp; omega))))))); go_split_ands; clear hcc hff hbel))
    | (go_at_call 41; ((with_reducible refine (KR.out _).mono ?_); rintro e w3 ⟨rfl, hbel⟩; obtain ⟨hcc, hff⟩ := bcell hbel; have hsz := hbel.size; (try simp at hsz); have hF : (w3.cell? ⟨w1.heap.size, 0, none⟩ = some (.int .u8 tos) ∧ w3.cell? ⟨w1.heap.size, 1, none⟩ = some (.int .u16 idn) ∧ w3.cell? ⟨w1.heap.size, 2, none⟩ = some (.int .u8 flg) ∧ w3.cell? ⟨w1.heap.size, 3, none⟩ = some (.int .u16 ofs) ∧ w3.cell? ⟨w1.heap.size, 4, none⟩ = some (.int .u8 ttl) ∧ w3.cell? ⟨w1.heap.size, 5, none⟩ = some (.int .u8 pro) ∧ w3.cell? ⟨w1.heap.size, 6, none⟩ = some (.int .u32 src) ∧ w3.cell? ⟨w1.heap.size, 7, none⟩ = some (.int .u32 dst) ∧ w3.cell? ⟨w1.heap.size, 8, none⟩ = some (.string O) ∧ w1.heap.size < w3.heap.size) ∧ Below w.heap.size w w3 := (by ((repeat' apply And.intro) <;> first | (simp [go_sem, *]; done) | omega | (repeat' (first | with_reducible exact Below.refl _ _ | with_reducible assumption | ((with_reducible refine Below.drew ?_)) | ((with_reducible refine below_drewN ?_ _)) | ((with_reducible refine Below.alloc ?_ ?_ _); rotate_left; focus (first | omega | (simp; done) | (simp; omega))) | ((with_reducible refine Below.setCell ?_ ?_ _); rotate_left; focus (first | omega | (simp; done) | (simp; omega))) | ((with_reducible refine Below.trans ?_ (Below.mono (by with_reducible assumption) ?_)); rotate_left; focus (first | omega | (simp; done) | (simp; omega))))))); go_split_ands; clear hcc hff hbel))
    | (go_at_call 46; ((with_reducible refine (KH.out _).mono ?_); rintro e w4 ⟨rfl, hbel⟩; obtain ⟨hcc, hff⟩ := bcell hbel; have hsz := hbel.size; (try simp at hsz); have hF : (w4.cell? ⟨w1.heap.size, 0, none⟩ = some (.int .u8 tos) ∧ w4.cell? ⟨w1.heap.size, 1, none⟩ = some (.int .u16 idn) ∧ w4.cell? ⟨w1.heap.size, 2, none⟩ = some (.int .u8 flg) ∧ w4.cell? ⟨w1.heap.size, 3, none⟩ = some (.int .u16 ofs) ∧ w4.cell? ⟨w1.heap.size, 4, none⟩ = some (.int .u8 ttl) ∧ w4.cell? ⟨w1.heap.size, 5, none⟩ = some (.int .u8 pro) ∧ w4.cell? ⟨w1.heap.size, 6, none⟩ = some (.int .u32 src) ∧ w4.cell? ⟨w1.heap.size, 7, none⟩ = some (.int .u32 dst) ∧ w4.cell? ⟨w1.heap.size, 8, none⟩ = some (.string O) ∧ w1.heap.size < w4.heap.size) ∧ Below w.heap.size w w4 := (by ((repeat' apply And.intro) <;> first | (simp [go_sem, *]; done) | omega | (repeat' (first | with_reducible exact Below.refl _ _ | with_reducible assumption | ((with_reducible refine Below.drew ?_)) | ((with_reducible refine below_drewN ?_ _)) | ((with_reducible refine Below.alloc ?_ ?_ _); rotate_left; focus (first | omega | (simp; done) | (simp; omega))) | ((with_reducible refine Below.setCell ?_ ?_ _); rotate_left; focus (first | omega | (simp; done) | (simp; omega))) | ((with_reducible refine Below.trans ?_ (Below.mono (by with_reducible assumption) ?_)); rotate_left; focus (first | omega | (simp; done) | (simp; omega))))))); go_split_ands; clear hcc hff hbel))
    | (go_at_call 47; ((with_reducible refine (KO.out _).mono ?_); rintro e w5 ⟨rfl, hbel⟩; obtain ⟨hcc, hff⟩ := bcell hbel; have hsz := hbel.size; (try simp at hsz); have hF : (w5.cell? ⟨w1.heap.size, 0, none⟩ = some (.int .u8 tos) ∧ w5.cell? ⟨w1.heap.size, 1, none⟩ = some (.int .u16 idn) ∧ w5.cell? ⟨w1.heap.size, 2, none⟩ = some (.int .u8 flg) ∧ w5.cell? ⟨w1.heap.size, 3, none⟩ = some (.int .u16 ofs) ∧ w5.cell? ⟨w1.heap.size, 4, none⟩ = some (.int .u8 ttl) ∧ w5.cell? ⟨w1.heap.size, 5, none⟩ = some (.int .u8 pro) ∧ w5.cell? ⟨w1.heap.size, 6, none⟩ = some (.int .u32 src) ∧ w5.cell? ⟨w1.heap.size, 7, none⟩ = some (.int .u32 dst) ∧ w5.cell? ⟨w1.heap.size, 8, none⟩ = some (.string O) ∧ w1.heap.size < w5.heap.size) ∧ Below w.heap.size w w5 := (by ((repeat' apply And.intro) <;> first | (simp [go_sem, *]; done) | omega | (repeat' (first | with_reducible exact Below.refl _ _ | with_reducible assumption | ((with_reducible refine Below.drew ?_)) | ((with_reducible refine below_drewN ?_ _)) | ((with_reducible refine Below.alloc ?_ ?_ _); rotate_left; focus (first | omega | (simp; done) | (simp; omega))) | ((with_reducible refine Below.setCell ?_ ?_ _); rotate_left; focus (first | omega | (simp; done) | (simp; omega))) | ((with_reducible refine Below.trans ?_ (Below.mono (by with_reducible assumption) ?_)); rotate_left; focus (first | omega | (simp; done) | (simp; omega))))))); go_split_ands; clear hcc hff hbel))
    | (go_at_call 39; ((with_reducible refine (KE.out _).mono ?_); rintro e w6 ⟨rfl, hbel⟩; obtain ⟨hcc, hff⟩ := bcell hbel; have hsz := hbel.size; (try simp at hsz); have hF : Below w.heap.size w w6 := (by ((repeat' apply And.intro) <;> first | (simp [go_sem, *]; done) | omega | (repeat' (first | with_reducible exact Below.refl _ _ | with_reducible assumption | ((with_reducible refine Below.drew ?_)) | ((with_reducible refine below_drewN ?_ _)) | ((with_reducible refine Below.alloc ?_ ?_ _); rotate_left; focus (first | omega | (simp; done) | (simp; omega))) | ((with_reducible refine Below.setCell ?_ ?_ _); rotate_left; focus (first | omega | (simp; done) | (simp; omega))) | ((with_reducible refine Below.trans ?_ (Below.mono (by with_reducible assumption) ?_)); rotate_left; focus (first | omega | (simp; done) | (simp; omega))))))); go_split_ands; clear hcc hff hbel))
    | (go_at_call 36; ((with_reducible refine (KFO.out _).mono ?_); rintro e w9 ⟨rfl, hbel⟩; obtain ⟨hcc, hff⟩ := bcell hbel; have hsz := hbel.size; (try simp at hsz); have hF : Below w.heap.size w w9 := (by ((repeat' apply And.intro) <;> first | (simp [go_sem, *]; done) | omega | (repeat' (first | with_reducible exact Below.refl _ _ | with_reducible assumption | ((with_reducible refine Below.drew ?_)) | ((with_reducible refine below_drewN ?_ _)) | ((with_reducible refine Below.alloc ?_ ?_ _); rotate_left; focus (first | omega | (simp; done) | (simp; omega))) | ((with_reducible refine Below.setCell ?_ ?_ _); rotate_left; focus (first | omega | (simp; done) | (simp; omega))) | ((with_reducible refine Below.trans ?_ (Below.mono (by with_reducible assumption) ?_)); rotate_left; focus (first | omega | (simp; done) | (simp; omega))))))); go_split_ands; clear hcc hff hbel)))
  (go_ret; refine ⟨?_, ?_⟩; (focus (exact rfl)); ((repeat' (first | with_reducible exact Below.refl _ _ | with_reducible assumption | ((with_reducible refine Below.drew ?_)) | ((with_reducible refine below_drewN ?_ _)) | ((with_reducible refine Below.alloc ?_ ?_ _); rotate_left; focus (first | omega | (simp; done) | (simp; omega))) | ((with_reducible refine Below.setCell ?_ ?_ _); rotate_left; focus (first | omega | (simp; done) | (simp; omega))) | ((with_reducible refine Below.trans ?_ (Below.mono (by with_reducible assumption) ?_)); rotate_left; focus (first | omega | (simp; done) | (simp; omega))))); done))
theorem fl_pos {n : Int} (h : 0 < n) : 1 ≤ fl n := by unfold fl; rw [if_neg (by omega)]; omega
set_option maxHeartbeats 4000000 in
/-- What was read is written again as the same bytes. -/
theorem encs_forth (S : ByteArray) (hS : 20 ≤ S.size) (h : 69 ≤ byt S 0 ∧ byt S 0 ≤ 79 ∧ (byt S 0 - 64) * 4 ≤ nat S 2 2) (hl : nat S 2 2 = (S.size : Int)) (hs : nat S 10 2 = 65535 - sumb (zeroed (S.extract 0 (hlen S)))) :
    encs (byt S 1) (nat S 4 2) (flgs (nat S 6 2)) (offs (nat S 6 2)) (byt S 8) (byt S 9) (nat S 12 4) (nat S 16 4) (S.extract 20 (hlen S)) (S.extract (hlen S) S.size) = S := by
  have hL : ((hlen S : Nat) : Int) = (byt S 0 - 64) * 4 := by unfold hlen; omega
  have hL1 : 20 ≤ hlen S := by omega
  have hL2 : hlen S ≤ S.size := by omega
  have hF : (S.extract 20 (hlen S)).size = hlen S - 20 := ext_size _ _ _ hL2
  have hB : (S.extract (hlen S) S.size).size = S.size - hlen S := ext_size _ _ _ (Nat.le_refl _)
  have b0 := byt_bd S 0
  have b1 := byt_bd S 1
  have b2 := byt_bd S 2
  have b3 := byt_bd S 3
  have b4 := byt_bd S 4
  have b5 := byt_bd S 5
  have b6 := byt_bd S 6
  have b7 := byt_bd S 7
  have b8 := byt_bd S 8
  have b9 := byt_bd S 9
  have b10 := byt_bd S 10
  have b11 := byt_bd S 11
  have b12 := byt_bd S 12
  have b13 := byt_bd S 13
  have b14 := byt_bd S 14
  have b15 := byt_bd S 15
  have b16 := byt_bd S 16
  have b17 := byt_bd S 17
  have b18 := byt_bd S 18
  have b19 := byt_bd S 19
  have n2 := nat_two S 2
  have n4 := nat_two S 4
  have n6 := nat_two S 6
  have n10 := nat_two S 10
  have n12 := nat_four S 12
  have n16 := nat_four S 16
  simp only [Nat.reduceAdd] at n2 n4 n6 n10 n12 n16
  have hfo : flgs (nat S 6 2) * 8192 + offs (nat S 6 2) = nat S 6 2 := by unfold flgs offs; omega
  have hE : eh1 (byt S 1) (nat S 4 2) (flgs (nat S 6 2)) (offs (nat S 6 2)) (byt S 8) (byt S 9) (S.extract 20 (hlen S)) (S.extract (hlen S) S.size) = [byt S 0, byt S 1, byt S 2, byt S 3, byt S 4, byt S 5, byt S 6, byt S 7, byt S 8, byt S 9] := by
    unfold eh1
    rw [hF, hB, hfo]
    simp only [e10, by1, by2, List.cons_append, List.nil_append]
    have q0 : (64 + (20 + ((hlen S - 20 : Nat) : Int)) / 4) % 256 = byt S 0 := by omega
    have q1 : (20 + ((hlen S - 20 : Nat) : Int) + ((S.size - hlen S : Nat) : Int)) = nat S 2 2 := by omega
    rw [q0, q1]
    have r1 : byt S 1 % 256 = byt S 1 := by omega
    have r2 : nat S 2 2 / 256 % 256 = byt S 2 := by omega
    have r3 : nat S 2 2 % 256 = byt S 3 := by omega
    have r4 : nat S 4 2 / 256 % 256 = byt S 4 := by omega
    have r5 : nat S 4 2 % 256 = byt S 5 := by omega
    have r6 : nat S 6 2 / 256 % 256 = byt S 6 := by omega
    have r7 : nat S 6 2 % 256 = byt S 7 := by omega
    have r8 : byt S 8 % 256 = byt S 8 := by omega
    have r9 : byt S 9 % 256 = byt S 9 := by omega
    rw [r1, r2, r3, r4, r5, r6, r7, r8, r9]
  have hA : strOf [byt S 0, byt S 1, byt S 2, byt S 3, byt S 4, byt S 5, byt S 6, byt S 7, byt S 8, byt S 9] = S.extract 0 10 := by
    apply bytes_same
    · rw [strOf_size, ext_size _ _ _ (by omega)]; rfl
    · intro j hj
      rw [strOf_size] at hj
      rw [byt_strOf _ _ (by intro x hx; simp at hx; rcases hx with rfl | rfl | rfl | rfl | rfl | rfl | rfl | rfl | rfl | rfl <;> exact byt_bd S _), byt_ext _ _ _ _ (by omega) (by simpa using hj), Nat.zero_add]
      rcases j with _ | _ | _ | _ | _ | _ | _ | _ | _ | _ | j <;> first | rfl | (simp at hj; omega)
  have hR : rback (nat S 12 4) (nat S 16 4) (S.extract 20 (hlen S)) = S.extract 12 (hlen S) := by
    have hQ : by4 (nat S 12 4) ++ by4 (nat S 16 4) = [byt S 12, byt S 13, byt S 14, byt S 15, byt S 16, byt S 17, byt S 18, byt S 19] := by
      simp only [by4, List.cons_append, List.nil_append]
      have r1 : nat S 12 4 / 16777216 % 256 = byt S 12 := by omega
      have r2 : nat S 12 4 / 65536 % 256 = byt S 13 := by omega
      have r3 : nat S 12 4 / 256 % 256 = byt S 14 := by omega
      have r4 : nat S 12 4 % 256 = byt S 15 := by omega
      have r5 : nat S 16 4 / 16777216 % 256 = byt S 16 := by omega
      have r6 : nat S 16 4 / 65536 % 256 = byt S 17 := by omega
      have r7 : nat S 16 4 / 256 % 256 = byt S 18 := by omega
      have r8 : nat S 16 4 % 256 = byt S 19 := by omega
      rw [r1, r2, r3, r4, r5, r6, r7, r8]
    unfold rback
    rw [hQ]
    have hs8 : (strOf [byt S 12, byt S 13, byt S 14, byt S 15, byt S 16, byt S 17, byt S 18, byt S 19]).size = 8 := by rw [strOf_size]; rfl
    apply bytes_same
    · rw [app_size, hs8, hF, ext_size _ _ _ hL2]; omega
    · intro j hj
      rw [app_size, hs8, hF] at hj
      rw [byt_app, hs8, byt_ext S 12 _ _ hL2 (by omega)]
      by_cases h8 : j < 8
      · rw [if_pos h8, byt_strOf _ _ (by intro x hx; simp at hx; rcases hx with rfl | rfl | rfl | rfl | rfl | rfl | rfl | rfl <;> exact byt_bd S _)]
        rcases j with _ | _ | _ | _ | _ | _ | _ | _ | j <;> first | rfl | omega
      · rw [if_neg h8, byt_ext _ _ _ _ hL2 (by omega)]
        congr 1; omega
  have hsx := sum_ext S (hlen S) hL2 (by omega)
  rw [encs_eq, hE, hA, hR, ← hsx, ← hs]
  have hC : strOf (by2 (nat S 10 2)) = S.extract 10 12 := by
    have r1 : nat S 10 2 / 256 % 256 = byt S 10 := by omega
    have r2 : nat S 10 2 % 256 = byt S 11 := by omega
    unfold by2
    rw [r1, r2]
    apply bytes_same
    · rw [strOf_size, ext_size _ _ _ (by omega)]; rfl
    · intro j hj
      rw [strOf_size] at hj
      rw [byt_strOf _ _ (by intro x hx; simp at hx; rcases hx with rfl | rfl <;> exact byt_bd S _), byt_ext _ _ _ _ (by omega) (by simp at hj; omega)]
      rcases j with _ | _ | j <;> first | rfl | (simp at hj; omega)
  rw [hC]
  apply bytes_same
  · rw [app_size, app_size, app_size, ext_size _ _ _ (by omega), ext_size _ _ _ (by omega), ext_size _ _ _ hL2, hB]; omega
  · intro j hj
    rw [app_size, app_size, app_size, ext_size _ _ _ (by omega), ext_size _ _ _ (by omega), ext_size _ _ _ hL2, hB] at hj
    rw [byt_app, app_size, app_size, ext_size _ _ _ (by omega), ext_size _ _ _ (by omega), ext_size _ _ _ hL2]
    by_cases j1 : j < hlen S
    · rw [if_pos (by omega), byt_app, app_size, ext_size _ _ _ (by omega), ext_size _ _ _ (by omega)]
      by_cases j2 : j < 12
      · rw [if_pos (by omega), byt_app, ext_size _ _ _ (by omega)]
        by_cases j3 : j < 10
        · rw [if_pos (by omega), byt_ext _ _ _ _ (by omega) (by omega), Nat.zero_add]
        · rw [if_neg (by omega), byt_ext _ _ _ _ (by omega) (by omega)]; congr 1; omega
      · rw [if_neg (by omega), byt_ext _ _ _ _ hL2 (by omega)]; congr 1; omega
    · rw [if_neg (by omega), byt_ext _ _ _ _ (by omega) (by omega)]; congr 1; omega
theorem ipv4Decodes_law (S : ByteArray) (w0 : S.size ≤ maxLen) (w : World) : Calls Try.prog 12 #[.string S] w fun e w' => e = .returned (.bool true) ∧ Below w.heap.size w w' := by
  unfold maxLen at w0
  have hM : S.size ≤ 9223372036854775807 := by omega
  by_cases h20 : S.size < 20
  · exact ldec_bad S 3 (by omega) (fun z => dec_short S h20 z) (fun z => bad_short S h20 z) w
  have hS : 20 ≤ S.size := by omega
  by_cases hf : byt S 0 < 69 ∨ 79 < byt S 0 ∨ nat S 2 2 < (byt S 0 - 64) * 4
  · exact ldec_bad S 4 (by omega) (fun z => dec_form S hS hM hf z) (fun z => bad_form S hS hM hf z) w
  have hg : 69 ≤ byt S 0 ∧ byt S 0 ≤ 79 ∧ (byt S 0 - 64) * 4 ≤ nat S 2 2 := by omega
  by_cases h1 : (S.size : Int) < nat S 2 2
  · exact ldec_bad S 3 (by omega) (fun z => dec_less S hS hM hg h1 z) (fun z => bad_less S hS hM hg h1 z) w
  by_cases h2 : nat S 2 2 < (S.size : Int)
  · exact ldec_bad S 2 (by omega) (fun z => dec_more S hS hM hg h2 z) (fun z => bad_more S hS hM hg h2 z) w
  have hl : nat S 2 2 = (S.size : Int) := by omega
  by_cases hs : nat S 10 2 = 65535 - sumb (zeroed (S.extract 0 (hlen S)))
  · have hL : ((hlen S : Nat) : Int) = (byt S 0 - 64) * 4 := by unfold hlen; omega
    have hL2 : hlen S ≤ S.size := by omega
    have hF : (S.extract 20 (hlen S)).size = hlen S - 20 := ext_size _ _ _ hL2
    have hB : (S.extract (hlen S) S.size).size = S.size - hlen S := ext_size _ _ _ (Nat.le_refl _)
    have hff : fil (S.extract 20 (hlen S)) = S.extract 20 (hlen S) := fil_same _ (by rw [hF]; omega)
    have n2 := nat_bd S 2 2
    have n4 := nat_bd S 4 2
    have n6 := nat_bd S 6 2
    have n12 := nat_bd S 12 4
    have n16 := nat_bd S 16 4
    simp at n2 n4 n6 n12 n16
    have p1 : 0 ≤ flgs (nat S 6 2) ∧ flgs (nat S 6 2) ≤ 7 := by unfold flgs; omega
    have p2 : 0 ≤ offs (nat S 6 2) ∧ offs (nat S 6 2) ≤ 8191 := by unfold offs; omega
    have ke := fun z => enc_ok (byt S 1) (nat S 4 2) (flgs (nat S 6 2)) (offs (nat S 6 2)) (byt S 8) (byt S 9) (nat S 12 4) (nat S 16 4) (S.extract 20 (hlen S)) (S.extract (hlen S) S.size) ⟨byt_bd S 1, by omega, by omega, by omega, byt_bd S 8, byt_bd S 9, by omega, by omega⟩ (by omega) (by omega) (by rw [hF]; omega) (by rw [hff, hF, hB]; omega) z
    rw [hff, encs_forth S hS hg hl hs] at ke
    exact ldec_ok S _ _ _ _ _ _ _ _ _ _ (fun z => dec_ok S hS hM hg hl hs z) (fun z => bad_ok S hS hM hg hl hs z) (fun z => head_c S hS hM ⟨hg.1, hg.2.1, hL2⟩ z) (fun z => body_c S hS ⟨hg.1, hg.2.1, hL2⟩ z) ke w
  · exact ldec_bad S 7 (by omega) (fun z => dec_state S hS hM hg hl hs z) (fun z => bad_state S hS hM hg hl hs z) w
end Go.Proofs.Ytpjanaljmnfccaa
