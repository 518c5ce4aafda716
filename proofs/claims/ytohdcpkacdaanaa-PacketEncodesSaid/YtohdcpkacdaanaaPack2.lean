import Derived.Test.YtohdcpkacdaanaaPack1
import Derived.Test.YtohdcpkacdaanaaMathA
namespace Go.Proofs.Ytohdcpkacdaanaa
set_option linter.unusedVariables false
set_option linter.unusedSimpArgs false
set_option maxRecDepth 100000
open Go.RowKit Fg Reg

theorem shrink {G : World → Prop} {w : World} (F : World → Prop) (hF : F w) (h : ∀ n, F n → G n) : G w := h w hF
theorem run_dec18 (W : World) (b o l c : Nat) (ns : List Int) (hl : ns.length = l) (h : ∀ j x, ns[j]? = some x → W.cell? ⟨b, o + j, none⟩ = some (.int .u8 x)) :
    (convert 93 9 (.slice (some ⟨b, o, none⟩) l c)).run Try.prog W = .ok (.string (strOf ns)) W := by
  subst hl
  rw [run_convert_bytes_string W 93 9 5 _ _ _ Try.underlying93 Try.underlying5 Try.underlying9]
  refine run_bytesToString W _ _ _ ns ?_
  have := run_loadCells_list (P := Try.prog) W ⟨b, o, none⟩ (ns.map (Value.int .u8)) (fun j v hj => by
    simp only [List.getElem?_map] at hj
    cases hx : ns[j]? with
    | none => rw [hx] at hj; cases hj
    | some x =>
      rw [hx] at hj
      have hj : Value.int .u8 x = v := by simpa using hj
      subst hj
      have := h j x hx
      show W.cell? (if j = 0 then _ else _) = _
      split
      · rename_i h0; rw [h0, Nat.add_zero] at this; exact this
      · exact this)
  simpa using this

/-- A packet's bytes. -/
def pkb (i n a b c d : Int) : List Int := [i / 72057594037927936, i / 281474976710656 % 256, i / 1099511627776 % 256, i / 4294967296 % 256, i / 16777216 % 256, i / 65536 % 256, i / 256 % 256, i % 256, n / 256, n % 256, a / 256, a % 256, b / 256, b % 256, c / 256, c % 256, d / 256, d % 256]
set_option maxHeartbeats 8000000 in
theorem enc_c (i n a b c d : Int) (hi : 0 ≤ i ∧ i ≤ 18446744073709551615) (hn : 1 ≤ n ∧ n ≤ 16384) (ha : 0 ≤ a ∧ a ≤ 65535) (hb : 0 ≤ b ∧ b ≤ 65535) (hc : 0 ≤ c ∧ c ≤ 65535) (hd : 0 ≤ d ∧ d ≤ 65535) (w : World) : Calls Try.prog 15 #[.agg #[.int .u64 i, .int .i64 n, .int .u16 a, .int .u16 b, .int .u16 c, .int .u16 d]] w fun ee w' => ee = .returned (.tuple #[.string (strOf (pkb i n a b c d)), .int .i64 0]) ∧ Below w.heap.size w w' := by
  have k1 := may_c i n a b c d 16384
  rw [show mayv n 16384 = 0 by unfold mayv; rw [if_neg (by omega), if_neg (by omega)]] at k1
  have K1 := Lib.hid k1
  have K2 := Lib.hid (cut_c i n a b c d (by omega) ha hb hc hd)
  clear k1
  have f0 := if_0 i n a b c d
  have f1 := if_1 i n a b c d
  have f2 := if_2 i n a b c d
  have f3 := if_3 i n a b c d
  have f4 := if_4 i n a b c d
  have f5 := if_5 i n a b c d
  go_enter Try.func15, Try.ntmps15
  go_wp2_with (first | (go_at_call 21; ((with_reducible refine (K1.out _).mono ?_); rintro e w1 ⟨rfl, hbel⟩; obtain ⟨hcc, hff⟩ := bcell hbel; have hsz := hbel.size; (try simp at hsz); have hF : (w1.cell? ⟨w.heap.size, 0, none⟩ = some (.int .u64 i) ∧ w1.cell? ⟨w.heap.size, 1, none⟩ = some (.int .i64 n) ∧ w1.cell? ⟨w.heap.size, 2, none⟩ = some (.int .u16 a) ∧ w1.cell? ⟨w.heap.size, 3, none⟩ = some (.int .u16 b) ∧ w1.cell? ⟨w.heap.size, 4, none⟩ = some (.int .u16 c) ∧ w1.cell? ⟨w.heap.size, 5, none⟩ = some (.int .u16 d) ∧ w.heap.size < w1.heap.size) ∧ Below w.heap.size w w1 := (by ((repeat' apply And.intro) <;> first | (simp [go_sem, *]; done) | omega | (repeat' (first | with_reducible exact Below.refl _ _ | with_reducible assumption | ((with_reducible refine Below.drew ?_)) | ((with_reducible refine below_drewN ?_ _)) | ((with_reducible refine Below.alloc ?_ ?_ _); rotate_left; focus (first | omega | (simp; done) | (simp; omega))) | ((with_reducible refine Below.setCell ?_ ?_ _); rotate_left; focus (first | omega | (simp; done) | (simp; omega))) | ((with_reducible refine Below.trans ?_ (Below.mono (by with_reducible assumption) ?_)); rotate_left; focus (first | omega | (simp; done) | (simp; omega))))))); go_split_ands; clear hcc hff hbel)) | (go_at_call 51; ((with_reducible refine (K2.out _).mono ?_); rintro e w2 ⟨rfl, hbel⟩; obtain ⟨hcc, hff⟩ := bcell hbel; have hsz := hbel.size; (try simp at hsz); have hF : (w2.cell? ⟨w1.heap.size, 0, none⟩ = some (.int .u8 0) ∧ w2.cell? ⟨w1.heap.size, 1, none⟩ = some (.int .u8 0) ∧ w2.cell? ⟨w1.heap.size, 2, none⟩ = some (.int .u8 0) ∧ w2.cell? ⟨w1.heap.size, 3, none⟩ = some (.int .u8 0) ∧ w2.cell? ⟨w1.heap.size, 4, none⟩ = some (.int .u8 0) ∧ w2.cell? ⟨w1.heap.size, 5, none⟩ = some (.int .u8 0) ∧ w2.cell? ⟨w1.heap.size, 6, none⟩ = some (.int .u8 0) ∧ w2.cell? ⟨w1.heap.size, 7, none⟩ = some (.int .u8 0) ∧ w2.cell? ⟨w1.heap.size, 8, none⟩ = some (.int .u8 0) ∧ w2.cell? ⟨w1.heap.size, 9, none⟩ = some (.int .u8 0) ∧ w2.cell? ⟨w1.heap.size, 10, none⟩ = some (.int .u8 0) ∧ w2.cell? ⟨w1.heap.size, 11, none⟩ = some (.int .u8 0) ∧ w2.cell? ⟨w1.heap.size, 12, none⟩ = some (.int .u8 0) ∧ w2.cell? ⟨w1.heap.size, 13, none⟩ = some (.int .u8 0) ∧ w2.cell? ⟨w1.heap.size, 14, none⟩ = some (.int .u8 0) ∧ w2.cell? ⟨w1.heap.size, 15, none⟩ = some (.int .u8 0) ∧ w2.cell? ⟨w1.heap.size, 16, none⟩ = some (.int .u8 0) ∧ w2.cell? ⟨w1.heap.size, 17, none⟩ = some (.int .u8 0) ∧ w2.frozen? ⟨w1.heap.size, 0, none⟩ = false ∧ w2.frozen? ⟨w1.heap.size, 1, none⟩ = false ∧ w2.frozen? ⟨w1.heap.size, 2, none⟩ = false ∧ w2.frozen? ⟨w1.heap.size, 3, none⟩ = false ∧ w2.frozen? ⟨w1.heap.size, 4, none⟩ = false ∧ w2.frozen? ⟨w1.heap.size, 5, none⟩ = false ∧ w2.frozen? ⟨w1.heap.size, 6, none⟩ = false ∧ w2.frozen? ⟨w1.heap.size, 7, none⟩ = false ∧ w2.frozen? ⟨w1.heap.size, 8, none⟩ = false ∧ w2.frozen? ⟨w1.heap.size, 9, none⟩ = false ∧ w2.frozen? ⟨w1.heap.size, 10, none⟩ = false ∧ w2.frozen? ⟨w1.heap.size, 11, none⟩ = false ∧ w2.frozen? ⟨w1.heap.size, 12, none⟩ = false ∧ w2.frozen? ⟨w1.heap.size, 13, none⟩ = false ∧ w2.frozen? ⟨w1.heap.size, 14, none⟩ = false ∧ w2.frozen? ⟨w1.heap.size, 15, none⟩ = false ∧ w2.frozen? ⟨w1.heap.size, 16, none⟩ = false ∧ w2.frozen? ⟨w1.heap.size, 17, none⟩ = false ∧ w1.heap.size < w2.heap.size) ∧ Below w.heap.size w w2 := (by ((repeat' apply And.intro) <;> first | (simp [go_sem, *]; done) | omega | (repeat' (first | with_reducible exact Below.refl _ _ | with_reducible assumption | ((with_reducible refine Below.drew ?_)) | ((with_reducible refine below_drewN ?_ _)) | ((with_reducible refine Below.alloc ?_ ?_ _); rotate_left; focus (first | omega | (simp; done) | (simp; omega))) | ((with_reducible refine Below.setCell ?_ ?_ _); rotate_left; focus (first | omega | (simp; done) | (simp; omega))) | ((with_reducible refine Below.trans ?_ (Below.mono (by with_reducible assumption) ?_)); rotate_left; focus (first | omega | (simp; done) | (simp; omega))))))); go_split_ands; clear hcc hff hbel)))
  clear K1 K2
  refine wp_loop_rounds 7 ?_
  rw [rounds_succ]
  go_wp2
  refine wp_loop_rounds 9 ?_
  rw [rounds_succ]
  go_wp2
  rw [rounds_succ]
  go_wp2
  rw [rounds_succ]
  go_wp2
  rw [rounds_succ]
  go_wp2
  rw [rounds_succ]
  go_wp2
  rw [rounds_succ]
  go_wp2
  rw [rounds_succ]
  go_wp2
  rw [rounds_succ]
  go_wp2
  rw [rounds_succ]
  go_wp2
  refine shrink (fun z => z.cell? ⟨w1.heap.size, 0, none⟩ = some (.int .u8 (i / 72057594037927936)) ∧ z.cell? ⟨w1.heap.size, 1, none⟩ = some (.int .u8 (i / 281474976710656 % 256)) ∧ z.cell? ⟨w1.heap.size, 2, none⟩ = some (.int .u8 (i / 1099511627776 % 256)) ∧ z.cell? ⟨w1.heap.size, 3, none⟩ = some (.int .u8 (i / 4294967296 % 256)) ∧ z.cell? ⟨w1.heap.size, 4, none⟩ = some (.int .u8 (i / 16777216 % 256)) ∧ z.cell? ⟨w1.heap.size, 5, none⟩ = some (.int .u8 (i / 65536 % 256)) ∧ z.cell? ⟨w1.heap.size, 6, none⟩ = some (.int .u8 (i / 256 % 256)) ∧ z.cell? ⟨w1.heap.size, 7, none⟩ = some (.int .u8 (i % 256)) ∧ z.cell? ⟨w1.heap.size, 8, none⟩ = some (.int .u8 (0)) ∧ z.cell? ⟨w1.heap.size, 9, none⟩ = some (.int .u8 (0)) ∧ z.cell? ⟨w1.heap.size, 10, none⟩ = some (.int .u8 (0)) ∧ z.cell? ⟨w1.heap.size, 11, none⟩ = some (.int .u8 (0)) ∧ z.cell? ⟨w1.heap.size, 12, none⟩ = some (.int .u8 (0)) ∧ z.cell? ⟨w1.heap.size, 13, none⟩ = some (.int .u8 (0)) ∧ z.cell? ⟨w1.heap.size, 14, none⟩ = some (.int .u8 (0)) ∧ z.cell? ⟨w1.heap.size, 15, none⟩ = some (.int .u8 (0)) ∧ z.cell? ⟨w1.heap.size, 16, none⟩ = some (.int .u8 (0)) ∧ z.cell? ⟨w1.heap.size, 17, none⟩ = some (.int .u8 (0)) ∧ z.frozen? ⟨w1.heap.size, 0, none⟩ = false ∧ z.frozen? ⟨w1.heap.size, 1, none⟩ = false ∧ z.frozen? ⟨w1.heap.size, 2, none⟩ = false ∧ z.frozen? ⟨w1.heap.size, 3, none⟩ = false ∧ z.frozen? ⟨w1.heap.size, 4, none⟩ = false ∧ z.frozen? ⟨w1.heap.size, 5, none⟩ = false ∧ z.frozen? ⟨w1.heap.size, 6, none⟩ = false ∧ z.frozen? ⟨w1.heap.size, 7, none⟩ = false ∧ z.frozen? ⟨w1.heap.size, 8, none⟩ = false ∧ z.frozen? ⟨w1.heap.size, 9, none⟩ = false ∧ z.frozen? ⟨w1.heap.size, 10, none⟩ = false ∧ z.frozen? ⟨w1.heap.size, 11, none⟩ = false ∧ z.frozen? ⟨w1.heap.size, 12, none⟩ = false ∧ z.frozen? ⟨w1.heap.size, 13, none⟩ = false ∧ z.frozen? ⟨w1.heap.size, 14, none⟩ = false ∧ z.frozen? ⟨w1.heap.size, 15, none⟩ = false ∧ z.frozen? ⟨w1.heap.size, 16, none⟩ = false ∧ z.frozen? ⟨w1.heap.size, 17, none⟩ = false ∧ w1.heap.size < z.heap.size ∧ Below w.heap.size w z) (by ((repeat' apply And.intro) <;> first | (simp [go_sem, *]; done) | omega | (repeat' (first | with_reducible exact Below.refl _ _ | with_reducible assumption | ((with_reducible refine Below.drew ?_)) | ((with_reducible refine below_drewN ?_ _)) | ((with_reducible refine Below.alloc ?_ ?_ _); rotate_left; focus (first | omega | (simp; done) | (simp; omega))) | ((with_reducible refine Below.setCell ?_ ?_ _); rotate_left; focus (first | omega | (simp; done) | (simp; omega))) | ((with_reducible refine Below.trans ?_ (Below.mono (by with_reducible assumption) ?_)); rotate_left; focus (first | omega | (simp; done) | (simp; omega))))))) (fun n0 hn0 => ?_)
  go_split_ands
  rw [rounds_succ]
  go_wp2
  refine wp_loop_rounds 3 ?_
  rw [rounds_succ]
  go_wp2
  rw [rounds_succ]
  go_wp2
  rw [rounds_succ]
  go_wp2
  refine shrink (fun z => z.cell? ⟨w1.heap.size, 0, none⟩ = some (.int .u8 (i / 72057594037927936)) ∧ z.cell? ⟨w1.heap.size, 1, none⟩ = some (.int .u8 (i / 281474976710656 % 256)) ∧ z.cell? ⟨w1.heap.size, 2, none⟩ = some (.int .u8 (i / 1099511627776 % 256)) ∧ z.cell? ⟨w1.heap.size, 3, none⟩ = some (.int .u8 (i / 4294967296 % 256)) ∧ z.cell? ⟨w1.heap.size, 4, none⟩ = some (.int .u8 (i / 16777216 % 256)) ∧ z.cell? ⟨w1.heap.size, 5, none⟩ = some (.int .u8 (i / 65536 % 256)) ∧ z.cell? ⟨w1.heap.size, 6, none⟩ = some (.int .u8 (i / 256 % 256)) ∧ z.cell? ⟨w1.heap.size, 7, none⟩ = some (.int .u8 (i % 256)) ∧ z.cell? ⟨w1.heap.size, 8, none⟩ = some (.int .u8 (n / 256)) ∧ z.cell? ⟨w1.heap.size, 9, none⟩ = some (.int .u8 (n % 256)) ∧ z.cell? ⟨w1.heap.size, 10, none⟩ = some (.int .u8 (0)) ∧ z.cell? ⟨w1.heap.size, 11, none⟩ = some (.int .u8 (0)) ∧ z.cell? ⟨w1.heap.size, 12, none⟩ = some (.int .u8 (0)) ∧ z.cell? ⟨w1.heap.size, 13, none⟩ = some (.int .u8 (0)) ∧ z.cell? ⟨w1.heap.size, 14, none⟩ = some (.int .u8 (0)) ∧ z.cell? ⟨w1.heap.size, 15, none⟩ = some (.int .u8 (0)) ∧ z.cell? ⟨w1.heap.size, 16, none⟩ = some (.int .u8 (0)) ∧ z.cell? ⟨w1.heap.size, 17, none⟩ = some (.int .u8 (0)) ∧ z.frozen? ⟨w1.heap.size, 0, none⟩ = false ∧ z.frozen? ⟨w1.heap.size, 1, none⟩ = false ∧ z.frozen? ⟨w1.heap.size, 2, none⟩ = false ∧ z.frozen? ⟨w1.heap.size, 3, none⟩ = false ∧ z.frozen? ⟨w1.heap.size, 4, none⟩ = false ∧ z.frozen? ⟨w1.heap.size, 5, none⟩ = false ∧ z.frozen? ⟨w1.heap.size, 6, none⟩ = false ∧ z.frozen? ⟨w1.heap.size, 7, none⟩ = false ∧ z.frozen? ⟨w1.heap.size, 8, none⟩ = false ∧ z.frozen? ⟨w1.heap.size, 9, none⟩ = false ∧ z.frozen? ⟨w1.heap.size, 10, none⟩ = false ∧ z.frozen? ⟨w1.heap.size, 11, none⟩ = false ∧ z.frozen? ⟨w1.heap.size, 12, none⟩ = false ∧ z.frozen? ⟨w1.heap.size, 13, none⟩ = false ∧ z.frozen? ⟨w1.heap.size, 14, none⟩ = false ∧ z.frozen? ⟨w1.heap.size, 15, none⟩ = false ∧ z.frozen? ⟨w1.heap.size, 16, none⟩ = false ∧ z.frozen? ⟨w1.heap.size, 17, none⟩ = false ∧ w1.heap.size < z.heap.size ∧ Below w.heap.size w z) (by ((repeat' apply And.intro) <;> first | (simp [go_sem, *]; done) | omega | (repeat' (first | with_reducible exact Below.refl _ _ | with_reducible assumption | ((with_reducible refine Below.drew ?_)) | ((with_reducible refine below_drewN ?_ _)) | ((with_reducible refine Below.alloc ?_ ?_ _); rotate_left; focus (first | omega | (simp; done) | (simp; omega))) | ((with_reducible refine Below.setCell ?_ ?_ _); rotate_left; focus (first | omega | (simp; done) | (simp; omega))) | ((with_reducible refine Below.trans ?_ (Below.mono (by with_reducible assumption) ?_)); rotate_left; focus (first | omega | (simp; done) | (simp; omega))))))) (fun n1 hn1 => ?_)
  go_split_ands
  rw [rounds_succ]
  go_wp2
  refine wp_loop_rounds 3 ?_
  rw [rounds_succ]
  go_wp2
  rw [rounds_succ]
  go_wp2
  rw [rounds_succ]
  go_wp2
  refine shrink (fun z => z.cell? ⟨w1.heap.size, 0, none⟩ = some (.int .u8 (i / 72057594037927936)) ∧ z.cell? ⟨w1.heap.size, 1, none⟩ = some (.int .u8 (i / 281474976710656 % 256)) ∧ z.cell? ⟨w1.heap.size, 2, none⟩ = some (.int .u8 (i / 1099511627776 % 256)) ∧ z.cell? ⟨w1.heap.size, 3, none⟩ = some (.int .u8 (i / 4294967296 % 256)) ∧ z.cell? ⟨w1.heap.size, 4, none⟩ = some (.int .u8 (i / 16777216 % 256)) ∧ z.cell? ⟨w1.heap.size, 5, none⟩ = some (.int .u8 (i / 65536 % 256)) ∧ z.cell? ⟨w1.heap.size, 6, none⟩ = some (.int .u8 (i / 256 % 256)) ∧ z.cell? ⟨w1.heap.size, 7, none⟩ = some (.int .u8 (i % 256)) ∧ z.cell? ⟨w1.heap.size, 8, none⟩ = some (.int .u8 (n / 256)) ∧ z.cell? ⟨w1.heap.size, 9, none⟩ = some (.int .u8 (n % 256)) ∧ z.cell? ⟨w1.heap.size, 10, none⟩ = some (.int .u8 (a / 256)) ∧ z.cell? ⟨w1.heap.size, 11, none⟩ = some (.int .u8 (a % 256)) ∧ z.cell? ⟨w1.heap.size, 12, none⟩ = some (.int .u8 (0)) ∧ z.cell? ⟨w1.heap.size, 13, none⟩ = some (.int .u8 (0)) ∧ z.cell? ⟨w1.heap.size, 14, none⟩ = some (.int .u8 (0)) ∧ z.cell? ⟨w1.heap.size, 15, none⟩ = some (.int .u8 (0)) ∧ z.cell? ⟨w1.heap.size, 16, none⟩ = some (.int .u8 (0)) ∧ z.cell? ⟨w1.heap.size, 17, none⟩ = some (.int .u8 (0)) ∧ z.frozen? ⟨w1.heap.size, 0, none⟩ = false ∧ z.frozen? ⟨w1.heap.size, 1, none⟩ = false ∧ z.frozen? ⟨w1.heap.size, 2, none⟩ = false ∧ z.frozen? ⟨w1.heap.size, 3, none⟩ = false ∧ z.frozen? ⟨w1.heap.size, 4, none⟩ = false ∧ z.frozen? ⟨w1.heap.size, 5, none⟩ = false ∧ z.frozen? ⟨w1.heap.size, 6, none⟩ = false ∧ z.frozen? ⟨w1.heap.size, 7, none⟩ = false ∧ z.frozen? ⟨w1.heap.size, 8, none⟩ = false ∧ z.frozen? ⟨w1.heap.size, 9, none⟩ = false ∧ z.frozen? ⟨w1.heap.size, 10, none⟩ = false ∧ z.frozen? ⟨w1.heap.size, 11, none⟩ = false ∧ z.frozen? ⟨w1.heap.size, 12, none⟩ = false ∧ z.frozen? ⟨w1.heap.size, 13, none⟩ = false ∧ z.frozen? ⟨w1.heap.size, 14, none⟩ = false ∧ z.frozen? ⟨w1.heap.size, 15, none⟩ = false ∧ z.frozen? ⟨w1.heap.size, 16, none⟩ = false ∧ z.frozen? ⟨w1.heap.size, 17, none⟩ = false ∧ w1.heap.size < z.heap.size ∧ Below w.heap.size w z) (by ((repeat' apply And.intro) <;> first | (simp [go_sem, *]; done) | omega | (repeat' (first | with_reducible exact Below.refl _ _ | with_reducible assumption | ((with_reducible refine Below.drew ?_)) | ((with_reducible refine below_drewN ?_ _)) | ((with_reducible refine Below.alloc ?_ ?_ _); rotate_left; focus (first | omega | (simp; done) | (simp; omega))) | ((with_reducible refine Below.setCell ?_ ?_ _); rotate_left; focus (first | omega | (simp; done) | (simp; omega))) | ((with_reducible refine Below.trans ?_ (Below.mono (by with_reducible assumption) ?_)); rotate_left; focus (first | omega | (simp; done) | (simp; omega))))))) (fun n2 hn2 => ?_)
  go_split_ands
  rw [rounds_succ]
  go_wp2
  refine wp_loop_rounds 3 ?_
  rw [rounds_succ]
  go_wp2
  rw [rounds_succ]
  go_wp2
  rw [rounds_succ]
  go_wp2
  refine shrink (fun z => z.cell? ⟨w1.heap.size, 0, none⟩ = some (.int .u8 (i / 72057594037927936)) ∧ z.cell? ⟨w1.heap.size, 1, none⟩ = some (.int .u8 (i / 281474976710656 % 256)) ∧ z.cell? ⟨w1.heap.size, 2, none⟩ = some (.int .u8 (i / 1099511627776 % 256)) ∧ z.cell? ⟨w1.heap.size, 3, none⟩ = some (.int .u8 (i / 4294967296 % 256)) ∧ z.cell? ⟨w1.heap.size, 4, none⟩ = some (.int .u8 (i / 16777216 % 256)) ∧ z.cell? ⟨w1.heap.size, 5, none⟩ = some (.int .u8 (i / 65536 % 256)) ∧ z.cell? ⟨w1.heap.size, 6, none⟩ = some (.int .u8 (i / 256 % 256)) ∧ z.cell? ⟨w1.heap.size, 7, none⟩ = some (.int .u8 (i % 256)) ∧ z.cell? ⟨w1.heap.size, 8, none⟩ = some (.int .u8 (n / 256)) ∧ z.cell? ⟨w1.heap.size, 9, none⟩ = some (.int .u8 (n % 256)) ∧ z.cell? ⟨w1.heap.size, 10, none⟩ = some (.int .u8 (a / 256)) ∧ z.cell? ⟨w1.heap.size, 11, none⟩ = some (.int .u8 (a % 256)) ∧ z.cell? ⟨w1.heap.size, 12, none⟩ = some (.int .u8 (b / 256)) ∧ z.cell? ⟨w1.heap.size, 13, none⟩ = some (.int .u8 (b % 256)) ∧ z.cell? ⟨w1.heap.size, 14, none⟩ = some (.int .u8 (0)) ∧ z.cell? ⟨w1.heap.size, 15, none⟩ = some (.int .u8 (0)) ∧ z.cell? ⟨w1.heap.size, 16, none⟩ = some (.int .u8 (0)) ∧ z.cell? ⟨w1.heap.size, 17, none⟩ = some (.int .u8 (0)) ∧ z.frozen? ⟨w1.heap.size, 0, none⟩ = false ∧ z.frozen? ⟨w1.heap.size, 1, none⟩ = false ∧ z.frozen? ⟨w1.heap.size, 2, none⟩ = false ∧ z.frozen? ⟨w1.heap.size, 3, none⟩ = false ∧ z.frozen? ⟨w1.heap.size, 4, none⟩ = false ∧ z.frozen? ⟨w1.heap.size, 5, none⟩ = false ∧ z.frozen? ⟨w1.heap.size, 6, none⟩ = false ∧ z.frozen? ⟨w1.heap.size, 7, none⟩ = false ∧ z.frozen? ⟨w1.heap.size, 8, none⟩ = false ∧ z.frozen? ⟨w1.heap.size, 9, none⟩ = false ∧ z.frozen? ⟨w1.heap.size, 10, none⟩ = false ∧ z.frozen? ⟨w1.heap.size, 11, none⟩ = false ∧ z.frozen? ⟨w1.heap.size, 12, none⟩ = false ∧ z.frozen? ⟨w1.heap.size, 13, none⟩ = false ∧ z.frozen? ⟨w1.heap.size, 14, none⟩ = false ∧ z.frozen? ⟨w1.heap.size, 15, none⟩ = false ∧ z.frozen? ⟨w1.heap.size, 16, none⟩ = false ∧ z.frozen? ⟨w1.heap.size, 17, none⟩ = false ∧ w1.heap.size < z.heap.size ∧ Below w.heap.size w z) (by ((repeat' apply And.intro) <;> first | (simp [go_sem, *]; done) | omega | (repeat' (first | with_reducible exact Below.refl _ _ | with_reducible assumption | ((with_reducible refine Below.drew ?_)) | ((with_reducible refine below_drewN ?_ _)) | ((with_reducible refine Below.alloc ?_ ?_ _); rotate_left; focus (first | omega | (simp; done) | (simp; omega))) | ((with_reducible refine Below.setCell ?_ ?_ _); rotate_left; focus (first | omega | (simp; done) | (simp; omega))) | ((with_reducible refine Below.trans ?_ (Below.mono (by with_reducible assumption) ?_)); rotate_left; focus (first | omega | (simp; done) | (simp; omega))))))) (fun n3 hn3 => ?_)
  go_split_ands
  rw [rounds_succ]
  go_wp2
  refine wp_loop_rounds 3 ?_
  rw [rounds_succ]
  go_wp2
  rw [rounds_succ]
  go_wp2
  rw [rounds_succ]
  go_wp2
  refine shrink (fun z => z.cell? ⟨w1.heap.size, 0, none⟩ = some (.int .u8 (i / 72057594037927936)) ∧ z.cell? ⟨w1.heap.size, 1, none⟩ = some (.int .u8 (i / 281474976710656 % 256)) ∧ z.cell? ⟨w1.heap.size, 2, none⟩ = some (.int .u8 (i / 1099511627776 % 256)) ∧ z.cell? ⟨w1.heap.size, 3, none⟩ = some (.int .u8 (i / 4294967296 % 256)) ∧ z.cell? ⟨w1.heap.size, 4, none⟩ = some (.int .u8 (i / 16777216 % 256)) ∧ z.cell? ⟨w1.heap.size, 5, none⟩ = some (.int .u8 (i / 65536 % 256)) ∧ z.cell? ⟨w1.heap.size, 6, none⟩ = some (.int .u8 (i / 256 % 256)) ∧ z.cell? ⟨w1.heap.size, 7, none⟩ = some (.int .u8 (i % 256)) ∧ z.cell? ⟨w1.heap.size, 8, none⟩ = some (.int .u8 (n / 256)) ∧ z.cell? ⟨w1.heap.size, 9, none⟩ = some (.int .u8 (n % 256)) ∧ z.cell? ⟨w1.heap.size, 10, none⟩ = some (.int .u8 (a / 256)) ∧ z.cell? ⟨w1.heap.size, 11, none⟩ = some (.int .u8 (a % 256)) ∧ z.cell? ⟨w1.heap.size, 12, none⟩ = some (.int .u8 (b / 256)) ∧ z.cell? ⟨w1.heap.size, 13, none⟩ = some (.int .u8 (b % 256)) ∧ z.cell? ⟨w1.heap.size, 14, none⟩ = some (.int .u8 (c / 256)) ∧ z.cell? ⟨w1.heap.size, 15, none⟩ = some (.int .u8 (c % 256)) ∧ z.cell? ⟨w1.heap.size, 16, none⟩ = some (.int .u8 (0)) ∧ z.cell? ⟨w1.heap.size, 17, none⟩ = some (.int .u8 (0)) ∧ z.frozen? ⟨w1.heap.size, 0, none⟩ = false ∧ z.frozen? ⟨w1.heap.size, 1, none⟩ = false ∧ z.frozen? ⟨w1.heap.size, 2, none⟩ = false ∧ z.frozen? ⟨w1.heap.size, 3, none⟩ = false ∧ z.frozen? ⟨w1.heap.size, 4, none⟩ = false ∧ z.frozen? ⟨w1.heap.size, 5, none⟩ = false ∧ z.frozen? ⟨w1.heap.size, 6, none⟩ = false ∧ z.frozen? ⟨w1.heap.size, 7, none⟩ = false ∧ z.frozen? ⟨w1.heap.size, 8, none⟩ = false ∧ z.frozen? ⟨w1.heap.size, 9, none⟩ = false ∧ z.frozen? ⟨w1.heap.size, 10, none⟩ = false ∧ z.frozen? ⟨w1.heap.size, 11, none⟩ = false ∧ z.frozen? ⟨w1.heap.size, 12, none⟩ = false ∧ z.frozen? ⟨w1.heap.size, 13, none⟩ = false ∧ z.frozen? ⟨w1.heap.size, 14, none⟩ = false ∧ z.frozen? ⟨w1.heap.size, 15, none⟩ = false ∧ z.frozen? ⟨w1.heap.size, 16, none⟩ = false ∧ z.frozen? ⟨w1.heap.size, 17, none⟩ = false ∧ w1.heap.size < z.heap.size ∧ Below w.heap.size w z) (by ((repeat' apply And.intro) <;> first | (simp [go_sem, *]; done) | omega | (repeat' (first | with_reducible exact Below.refl _ _ | with_reducible assumption | ((with_reducible refine Below.drew ?_)) | ((with_reducible refine below_drewN ?_ _)) | ((with_reducible refine Below.alloc ?_ ?_ _); rotate_left; focus (first | omega | (simp; done) | (simp; omega))) | ((with_reducible refine Below.setCell ?_ ?_ _); rotate_left; focus (first | omega | (simp; done) | (simp; omega))) | ((with_reducible refine Below.trans ?_ (Below.mono (by with_reducible assumption) ?_)); rotate_left; focus (first | omega | (simp; done) | (simp; omega))))))) (fun n4 hn4 => ?_)
  go_split_ands
  rw [rounds_succ]
  go_wp2
  refine wp_loop_rounds 3 ?_
  rw [rounds_succ]
  go_wp2
  rw [rounds_succ]
  go_wp2
  rw [rounds_succ]
  go_wp2
  refine shrink (fun z => z.cell? ⟨w1.heap.size, 0, none⟩ = some (.int .u8 (i / 72057594037927936)) ∧ z.cell? ⟨w1.heap.size, 1, none⟩ = some (.int .u8 (i / 281474976710656 % 256)) ∧ z.cell? ⟨w1.heap.size, 2, none⟩ = some (.int .u8 (i / 1099511627776 % 256)) ∧ z.cell? ⟨w1.heap.size, 3, none⟩ = some (.int .u8 (i / 4294967296 % 256)) ∧ z.cell? ⟨w1.heap.size, 4, none⟩ = some (.int .u8 (i / 16777216 % 256)) ∧ z.cell? ⟨w1.heap.size, 5, none⟩ = some (.int .u8 (i / 65536 % 256)) ∧ z.cell? ⟨w1.heap.size, 6, none⟩ = some (.int .u8 (i / 256 % 256)) ∧ z.cell? ⟨w1.heap.size, 7, none⟩ = some (.int .u8 (i % 256)) ∧ z.cell? ⟨w1.heap.size, 8, none⟩ = some (.int .u8 (n / 256)) ∧ z.cell? ⟨w1.heap.size, 9, none⟩ = some (.int .u8 (n % 256)) ∧ z.cell? ⟨w1.heap.size, 10, none⟩ = some (.int .u8 (a / 256)) ∧ z.cell? ⟨w1.heap.size, 11, none⟩ = some (.int .u8 (a % 256)) ∧ z.cell? ⟨w1.heap.size, 12, none⟩ = some (.int .u8 (b / 256)) ∧ z.cell? ⟨w1.heap.size, 13, none⟩ = some (.int .u8 (b % 256)) ∧ z.cell? ⟨w1.heap.size, 14, none⟩ = some (.int .u8 (c / 256)) ∧ z.cell? ⟨w1.heap.size, 15, none⟩ = some (.int .u8 (c % 256)) ∧ z.cell? ⟨w1.heap.size, 16, none⟩ = some (.int .u8 (d / 256)) ∧ z.cell? ⟨w1.heap.size, 17, none⟩ = some (.int .u8 (d % 256)) ∧ z.frozen? ⟨w1.heap.size, 0, none⟩ = false ∧ z.frozen? ⟨w1.heap.size, 1, none⟩ = false ∧ z.frozen? ⟨w1.heap.size, 2, none⟩ = false ∧ z.frozen? ⟨w1.heap.size, 3, none⟩ = false ∧ z.frozen? ⟨w1.heap.size, 4, none⟩ = false ∧ z.frozen? ⟨w1.heap.size, 5, none⟩ = false ∧ z.frozen? ⟨w1.heap.size, 6, none⟩ = false ∧ z.frozen? ⟨w1.heap.size, 7, none⟩ = false ∧ z.frozen? ⟨w1.heap.size, 8, none⟩ = false ∧ z.frozen? ⟨w1.heap.size, 9, none⟩ = false ∧ z.frozen? ⟨w1.heap.size, 10, none⟩ = false ∧ z.frozen? ⟨w1.heap.size, 11, none⟩ = false ∧ z.frozen? ⟨w1.heap.size, 12, none⟩ = false ∧ z.frozen? ⟨w1.heap.size, 13, none⟩ = false ∧ z.frozen? ⟨w1.heap.size, 14, none⟩ = false ∧ z.frozen? ⟨w1.heap.size, 15, none⟩ = false ∧ z.frozen? ⟨w1.heap.size, 16, none⟩ = false ∧ z.frozen? ⟨w1.heap.size, 17, none⟩ = false ∧ w1.heap.size < z.heap.size ∧ Below w.heap.size w z) (by ((repeat' apply And.intro) <;> first | (simp [go_sem, *]; done) | omega | (repeat' (first | with_reducible exact Below.refl _ _ | with_reducible assumption | ((with_reducible refine Below.drew ?_)) | ((with_reducible refine below_drewN ?_ _)) | ((with_reducible refine Below.alloc ?_ ?_ _); rotate_left; focus (first | omega | (simp; done) | (simp; omega))) | ((with_reducible refine Below.setCell ?_ ?_ _); rotate_left; focus (first | omega | (simp; done) | (simp; omega))) | ((with_reducible refine Below.trans ?_ (Below.mono (by with_reducible assumption) ?_)); rotate_left; focus (first | omega | (simp; done) | (simp; omega))))))) (fun n5 hn5 => ?_)
  go_split_ands
  have hcv := run_dec18 n5 w1.heap.size 0 18 18 [i / 72057594037927936, i / 281474976710656 % 256, i / 1099511627776 % 256, i / 4294967296 % 256, i / 16777216 % 256, i / 65536 % 256, i / 256 % 256, i % 256, n / 256, n % 256, a / 256, a % 256, b / 256, b % 256, c / 256, c % 256, d / 256, d % 256] rfl (fun j x hj => by match j, hj with | 0, hj => (simp at hj; subst hj; simpa using by assumption) | 1, hj => (simp at hj; subst hj; simpa using by assumption) | 2, hj => (simp at hj; subst hj; simpa using by assumption) | 3, hj => (simp at hj; subst hj; simpa using by assumption) | 4, hj => (simp at hj; subst hj; simpa using by assumption) | 5, hj => (simp at hj; subst hj; simpa using by assumption) | 6, hj => (simp at hj; subst hj; simpa using by assumption) | 7, hj => (simp at hj; subst hj; simpa using by assumption) | 8, hj => (simp at hj; subst hj; simpa using by assumption) | 9, hj => (simp at hj; subst hj; simpa using by assumption) | 10, hj => (simp at hj; subst hj; simpa using by assumption) | 11, hj => (simp at hj; subst hj; simpa using by assumption) | 12, hj => (simp at hj; subst hj; simpa using by assumption) | 13, hj => (simp at hj; subst hj; simpa using by assumption) | 14, hj => (simp at hj; subst hj; simpa using by assumption) | 15, hj => (simp at hj; subst hj; simpa using by assumption) | 16, hj => (simp at hj; subst hj; simpa using by assumption) | 17, hj => (simp at hj; subst hj; simpa using by assumption))
  rw [rounds_succ]
  go_wp2
  (go_ret2; refine ⟨?_, ?_⟩; (focus (exact rfl)); ((repeat' (first | with_reducible exact Below.refl _ _ | with_reducible assumption | ((with_reducible refine Below.drew ?_)) | ((with_reducible refine below_drewN ?_ _)) | ((with_reducible refine Below.alloc ?_ ?_ _); rotate_left; focus (first | omega | (simp; done) | (simp; omega))) | ((with_reducible refine Below.setCell ?_ ?_ _); rotate_left; focus (first | omega | (simp; done) | (simp; omega))) | ((with_reducible refine Below.trans ?_ (Below.mono (by with_reducible assumption) ?_)); rotate_left; focus (first | omega | (simp; done) | (simp; omega))))); done))
end Go.Proofs.Ytohdcpkacdaanaa
