import Derived.Test.YtohdcpkacdaanaaLink5
namespace Go.Proofs.Ytohdcpkacdaanaa
set_option linter.unusedVariables false
set_option linter.unusedSimpArgs false
set_option maxRecDepth 100000
open Go.RowKit Fg Reg

set_option maxHeartbeats 8000000 in
theorem linkApart_some (t : Int) (sb so len cap : Nat) (h1 : 1 ≤ t) (h2 : t ≤ 65536) (h0 : 0 < len) (hn : len ≤ 200) (w : World) (hc : CallsAt w sb so len) : Calls Try.prog 10 #[.int .i64 t, .slice (some ⟨sb, so, none⟩) len cap] w fun e w' => e = .returned (.bool true) ∧ Below w.heap.size w w' := by
  have HC := Lib.hid hc.2
  have hsb : sb < w.heap.size := hc.1
  clear hc
  go_enter Try.func10, Try.ntmps10
  go_wp2_with (go_at_call 35; (with_reducible refine (new_ok t (by omega) (by omega) _).mono ?_); rintro e w1 ⟨rfl, hL, hb⟩; have hT : TK w w1 w.heap.size 0 0 0 t 0 := ⟨hL, hb, Nat.le_refl _⟩; clear hL hb)
  go_loopw [7, 33] (fun s i wr => ∃ (k : Nat) (pk bt bs un : Int), k ≤ len ∧ i = .int .i64 k ∧ s = .int .u64 un ∧ TK w wr w.heap.size pk bt bs t un ∧ 0 ≤ pk ∧ pk ≤ k ∧ 0 ≤ bt ∧ bt ≤ 16384 * k ∧ bs = bt * t ∧ 0 ≤ bs ∧ bs ≤ un ∧ 0 ≤ un ∧ un ≤ 4611686018427387904 + 16384 * 65536) (fun _ i _ => len - (intOf i).toNat)
  case atStart => exact ⟨0, 0, 0, 0, 0, Nat.zero_le _, rfl, rfl, hT, by omega, by omega, by omega, by omega, by simp, by omega, by omega, by omega, by omega⟩
  case round =>
    obtain ⟨k, pk, bt, bs, un, hk, rfl, rfl, hW, p0, p1, b0, b1, hbs, s0, s1, u0, u1⟩ := hrel
    by_cases hlt : k < len
    · obtain ⟨now, i, n, a, b, c, d, hnow, hnn, c0, c1, c2, c3, c4, c5, c6⟩ := HC.out k hlt
      have hB := hW.2.1
      have hsz := hB.size
      have hxx := hW.lk.size
      rw [← hB.cell (p := ⟨sb, so + k * 7, none⟩) hsb] at c0
      rw [← hB.cell (p := ⟨sb, so + k * 7 + 1, none⟩) hsb] at c1
      rw [← hB.cell (p := ⟨sb, so + k * 7 + 2, none⟩) hsb] at c2
      rw [← hB.cell (p := ⟨sb, so + k * 7 + 3, none⟩) hsb] at c3
      rw [← hB.cell (p := ⟨sb, so + k * 7 + 4, none⟩) hsb] at c4
      rw [← hB.cell (p := ⟨sb, so + k * 7 + 5, none⟩) hsb] at c5
      rw [← hB.cell (p := ⟨sb, so + k * 7 + 6, none⟩) hsb] at c6
      have HB := Lib.hid hbs
      have HW := Lib.hid hW
      clear hB hbs hT
      have hT := hW.below (Below.alloc (Below.refl _ _) (Nat.le_refl _) (Obj.cells #[.int .u64 now, .int .u64 i, .int .i64 n, .int .u16 a, .int .u16 b, .int .u16 c, .int .u16 d] 68))
      clear hW
      by_cases hok : now ≤ 4611686018427387904 ∧ (1 ≤ n ∧ n ≤ 16384) ∧ un ≤ now
      · obtain ⟨hk1, hk2, hk3⟩ := hok
        have hm1 : 1 * 1 ≤ n * t := Int.mul_le_mul (by omega) (by omega) (by omega) (by omega)
        have hm2 : n * t ≤ 16384 * 65536 := Int.mul_le_mul hk2.2 h2 (by omega) (by omega)
        have hb9 : bt * t ≤ 3276800 * 65536 := Int.mul_le_mul (by omega) h2 (by omega) (by omega)
        have hb8 : bs < 4611686018427387904 := by have := HB.out; omega
        clear hb9
        have hm3 : (bt + n) * t = bt * t + n * t := Int.add_mul _ _ _
        generalize hnt : n * t = nt at hm1 hm2 hm3
        obtain ⟨U, hU⟩ : ∃ U, U = now + nt := ⟨_, rfl⟩
        have K1 := Lib.hid (fun z hT => send_ok' w.heap.size pk bt bs t un now i n a b c d z w hT hnow.1 hk1 hk2 hk3 ⟨h1, h2⟩ (by omega) (by omega) (by omega) (pk + 1) (bt + n) (bs + nt) U rfl rfl (by rw [hnt]) (by rw [hnt, hU]))
        have K2 := Lib.hid (fun z (hT : TK w z w.heap.size (pk + 1) (bt + n) (bs + nt) t U) => (show decide (U ≤ U - 1) = false by simp; omega) ▸ free_c (U - 1) w.heap.size (pk + 1) (bt + n) (bs + nt) t U z hT.1)
        have K3 := Lib.hid (fun z (hT : TK w z w.heap.size (pk + 1) (bt + n) (bs + nt) t U) => (show decide (U ≤ U) = true by simp) ▸ free_c U w.heap.size (pk + 1) (bt + n) (bs + nt) t U z hT.1)
        have hU1 : now < U := by omega
        have hU2 : U ≤ 4611686018427387904 + 16384 * 65536 := by omega
        have hU3 : bs + nt ≤ U := by omega
        have hU4 : bs + nt = (bt + n) * t := by rw [hm3, HB.out]
        have HU := Lib.hid (And.intro hU3 (And.intro hU4 hU))
        have HN := Lib.hid hnt
        clear hU hU3 hU4 hnt hm3
        have e1 : ¬ wr.heap.size = w.heap.size := by omega
        go_wp2_with (first
          | (go_at_call 37; (with_reducible refine (K1.out _ hT).mono ?_); clear hT; rintro e w2 ⟨rfl, hT, ho⟩; obtain ⟨hcc, hff⟩ := bone ho; have hsz2 := ho.size; (try simp at hsz2); have hF : w2.cell? ⟨wr.heap.size, 0, none⟩ = some (.int .u64 now) ∧ w2.cell? ⟨wr.heap.size, 1, none⟩ = some (.int .u64 i) ∧ w2.cell? ⟨wr.heap.size, 2, none⟩ = some (.int .i64 n) ∧ w2.cell? ⟨wr.heap.size, 3, none⟩ = some (.int .u16 a) ∧ w2.cell? ⟨wr.heap.size, 4, none⟩ = some (.int .u16 b) ∧ w2.cell? ⟨wr.heap.size, 5, none⟩ = some (.int .u16 c) ∧ w2.cell? ⟨wr.heap.size, 6, none⟩ = some (.int .u16 d) ∧ wr.heap.size < w2.heap.size := (by ((repeat' apply And.intro) <;> first | (simp [go_sem, *]; done) | omega | (repeat' (first | with_reducible exact Below.refl _ _ | with_reducible assumption | ((with_reducible refine Below.drew ?_)) | ((with_reducible refine below_drewN ?_ _)) | ((with_reducible refine Below.alloc ?_ ?_ _); rotate_left; focus (first | omega | (simp; done) | (simp; omega))) | ((with_reducible refine Below.setCell ?_ ?_ _); rotate_left; focus (first | omega | (simp; done) | (simp; omega))) | ((with_reducible refine Below.trans ?_ (Below.mono (by with_reducible assumption) ?_)); rotate_left; focus (first | omega | (simp; done) | (simp; omega))))))); go_split_ands; clear hcc hff ho)
          | (go_at_call 44; first | ((with_reducible refine (K2.out _ hT).mono ?_); rintro e w3 ⟨rfl, hb⟩; replace hT := hT.below hb; obtain ⟨hcc, hff⟩ := bcell hb; have hsz3 := hb.size; have hF : w3.cell? ⟨wr.heap.size, 0, none⟩ = some (.int .u64 now) ∧ w3.cell? ⟨wr.heap.size, 1, none⟩ = some (.int .u64 i) ∧ w3.cell? ⟨wr.heap.size, 2, none⟩ = some (.int .i64 n) ∧ w3.cell? ⟨wr.heap.size, 3, none⟩ = some (.int .u16 a) ∧ w3.cell? ⟨wr.heap.size, 4, none⟩ = some (.int .u16 b) ∧ w3.cell? ⟨wr.heap.size, 5, none⟩ = some (.int .u16 c) ∧ w3.cell? ⟨wr.heap.size, 6, none⟩ = some (.int .u16 d) ∧ wr.heap.size < w3.heap.size := (by ((repeat' apply And.intro) <;> first | (simp [go_sem, *]; done) | omega | (repeat' (first | with_reducible exact Below.refl _ _ | with_reducible assumption | ((with_reducible refine Below.drew ?_)) | ((with_reducible refine below_drewN ?_ _)) | ((with_reducible refine Below.alloc ?_ ?_ _); rotate_left; focus (first | omega | (simp; done) | (simp; omega))) | ((with_reducible refine Below.setCell ?_ ?_ _); rotate_left; focus (first | omega | (simp; done) | (simp; omega))) | ((with_reducible refine Below.trans ?_ (Below.mono (by with_reducible assumption) ?_)); rotate_left; focus (first | omega | (simp; done) | (simp; omega))))))); go_split_ands; clear hcc hff hb) | ((with_reducible refine (K3.out _ hT).mono ?_); rintro e w4 ⟨rfl, hb⟩; replace hT := hT.below hb; obtain ⟨hcc, hff⟩ := bcell hb; have hsz4 := hb.size; have hF : w4.cell? ⟨wr.heap.size, 0, none⟩ = some (.int .u64 now) ∧ w4.cell? ⟨wr.heap.size, 1, none⟩ = some (.int .u64 i) ∧ w4.cell? ⟨wr.heap.size, 2, none⟩ = some (.int .i64 n) ∧ w4.cell? ⟨wr.heap.size, 3, none⟩ = some (.int .u16 a) ∧ w4.cell? ⟨wr.heap.size, 4, none⟩ = some (.int .u16 b) ∧ w4.cell? ⟨wr.heap.size, 5, none⟩ = some (.int .u16 c) ∧ w4.cell? ⟨wr.heap.size, 6, none⟩ = some (.int .u16 d) ∧ wr.heap.size < w4.heap.size := (by ((repeat' apply And.intro) <;> first | (simp [go_sem, *]; done) | omega | (repeat' (first | with_reducible exact Below.refl _ _ | with_reducible assumption | ((with_reducible refine Below.drew ?_)) | ((with_reducible refine below_drewN ?_ _)) | ((with_reducible refine Below.alloc ?_ ?_ _); rotate_left; focus (first | omega | (simp; done) | (simp; omega))) | ((with_reducible refine Below.setCell ?_ ?_ _); rotate_left; focus (first | omega | (simp; done) | (simp; omega))) | ((with_reducible refine Below.trans ?_ (Below.mono (by with_reducible assumption) ?_)); rotate_left; focus (first | omega | (simp; done) | (simp; omega))))))); go_split_ands; clear hcc hff hb)))
        go_roundw
        case rel => exact ⟨k + 1, pk + 1, bt + n, bs + nt, U, by omega, by go_num, rfl, hT, by omega, by omega, by omega, by omega, HU.out.2.1, by omega, HU.out.1, by omega, by omega⟩
        case measure => simp [intOf]; omega
      · have K : ∃ E : Int, (E != 0) = true ∧ ∀ z, TK w z w.heap.size pk bt bs t un → Calls Try.prog 37 #[.pointer (some ⟨w.heap.size, 0, none⟩), .int .u64 now, .agg #[.int .u64 i, .int .i64 n, .int .u16 a, .int .u16 b, .int .u16 c, .int .u16 d]] z fun ee w' => ee = .returned (.tuple #[.int .u64 (0), .int .i64 (E)]) ∧ Below z.heap.size z w' := by
          by_cases g1 : 4611686018427387904 < now
          · exact ⟨27, rfl, fun z hT => send_clock _ _ _ _ _ _ _ _ _ _ _ _ _ _ hT.1 g1⟩
          · by_cases g2 : n < 1 ∨ 16384 < n
            · exact ⟨26, rfl, fun z hT => send_len _ _ _ _ _ _ _ _ _ _ _ _ _ _ hT.1 hnow.1 (by omega) g2⟩
            · exact ⟨24, rfl, fun z hT => send_busy _ _ _ _ _ _ _ _ _ _ _ _ _ _ hT.1 hnow.1 (by omega) (by omega) (by omega)⟩
        obtain ⟨E, hE, k1⟩ := K
        have K1 := Lib.hid k1
        clear k1 hok
        go_wp2_with (go_at_call 37; (with_reducible refine (K1.out _ hT).mono ?_); rintro e w2 ⟨rfl, hb⟩; replace hT := hT.below hb; clear hb)
        go_roundw
        case rel => exact ⟨k + 1, pk, bt, bs, un, by omega, by go_num, rfl, hT, by omega, by omega, by omega, by omega, HB.out, by omega, by omega, by omega, by omega⟩
        case measure => simp [intOf]; omega
    · obtain rfl : k = len := by omega
      have HB := Lib.hid hbs
      have hbt : 0 ≤ bt * t := by omega
      have e1 : (bs == bt * t) = true := by simp [hbs]
      have hbt2 : bt * t ≤ 18446744073709551615 := by omega
      clear hT hbs
      have hT := hW
      clear hW
      go_wp2_with (first
      | (go_at_call 40; (with_reducible refine (sent_c _ _ _ _ _ _ _ hT.lk).mono ?_); rintro e w5 ⟨rfl, hb⟩; replace hT := hT.below hb; clear hb)
      | (go_at_call 42; (with_reducible refine (busy_c _ _ _ _ _ _ _ hT.lk).mono ?_); rintro e w6 ⟨rfl, hb⟩; replace hT := hT.below hb; clear hb)
      | (go_at_call 43; (with_reducible refine (until_c _ _ _ _ _ _ _ hT.lk).mono ?_); rintro e w8 ⟨rfl, hb⟩; replace hT := hT.below hb; clear hb)
      | (go_at_call 34; (with_reducible refine (ten_c _).mono ?_); rintro e w7 ⟨rfl, hb⟩; replace hT := hT.below hb; clear hb))
      go_ret
      exact ⟨rfl, hT.2.1⟩

theorem linkApart_law (t : Int) (v : Value) (wt : (Lit.int .i64 t).wf = true) {w : World} (hs : Op.FlatSlice w 7 [.int .u64, .int .u64, .int .i64, .int .u16, .int .u16, .int .u16, .int .u16] v) : Calls Try.prog 10 #[.int .i64 t, v] w fun e w' => e = .returned (.bool true) ∧ Below w.heap.size w w' := by
  rcases calls_of hs with rfl | ⟨ad, cap, rfl⟩ | ⟨sb, so, len, cap, h0, rfl, hc⟩
  · by_cases ht : 1 ≤ t ∧ t ≤ 65536
    · exact linkApart_empty t _ (.inl rfl) ht.1 ht.2 w
    · exact linkApart_out t _ 0 (.inl ⟨rfl, rfl⟩) (by omega) w
  · by_cases ht : 1 ≤ t ∧ t ≤ 65536
    · exact linkApart_empty t _ (.inr ⟨_, _, rfl⟩) ht.1 ht.2 w
    · exact linkApart_out t _ 0 (.inr ⟨_, _, rfl⟩) (by omega) w
  · by_cases ht : len ≤ 200 ∧ 1 ≤ t ∧ t ≤ 65536
    · exact linkApart_some t sb so len cap ht.2.1 ht.2.2 h0 ht.1 w hc
    · exact linkApart_out t _ len (.inr ⟨_, _, rfl⟩) (by omega) w
end Go.Proofs.Ytohdcpkacdaanaa
