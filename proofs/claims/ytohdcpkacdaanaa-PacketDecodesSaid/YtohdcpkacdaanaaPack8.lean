/- packet.Decode of any text. -/
import Derived.Test.YtohdcpkacdaanaaPack7
namespace Go.Proofs.Ytohdcpkacdaanaa
set_option linter.unusedVariables false
set_option linter.unusedSimpArgs false
set_option maxRecDepth 100000
open Go.RowKit Fg Reg
attribute [local irreducible] Reg.wE

theorem shrunk {G : World → Prop} {w : World} (F : World → Prop) (hF : F w) (h : ∀ n, F n → G n) : G w := h w hF
theorem dec_short (S : ByteArray) (hS : S.size < 18) (w : World) : Calls Try.prog 17 #[.string S] w fun ee w' => ee = .returned (.tuple #[.agg #[.int .u64 0, .int .i64 0, .int .u16 0, .int .u16 0, .int .u16 0, .int .u16 0], .int .i64 3]) ∧ Below w.heap.size w w' := by
  have d1 : decide (((S.size : Nat) : Int) < 18) = true := by simp; omega
  go_enter Try.func17, Try.ntmps17
  go_wp2
  refine bodyPost_ret (v := .tuple #[.agg #[.int .u64 0, .int .i64 0, .int .u16 0, .int .u16 0, .int .u16 0, .int .u16 0], .int .i64 3]) (by simp [results, Try.results17, go_sem, *]) rfl ⟨rfl, (by repeat' (first | with_reducible exact Below.refl _ _ | with_reducible assumption | ((with_reducible refine Below.drew ?_)) | ((with_reducible refine below_drewN ?_ _)) | ((with_reducible refine Below.alloc ?_ ?_ _); rotate_left; focus (first | omega | (simp; done) | (simp; omega))) | ((with_reducible refine Below.setCell ?_ ?_ _); rotate_left; focus (first | omega | (simp; done) | (simp; omega))) | ((with_reducible refine Below.trans ?_ (Below.mono (by with_reducible assumption) ?_)); rotate_left; focus (first | omega | (simp; done) | (simp; omega)))))⟩
theorem dec_long (S : ByteArray) (hS : 18 < S.size) (w : World) : Calls Try.prog 17 #[.string S] w fun ee w' => ee = .returned (.tuple #[.agg #[.int .u64 0, .int .i64 0, .int .u16 0, .int .u16 0, .int .u16 0, .int .u16 0], .int .i64 2]) ∧ Below w.heap.size w w' := by
  have d1 : decide (((S.size : Nat) : Int) < 18) = false := by simp; omega
  have d2 : decide (18 < ((S.size : Nat) : Int)) = true := by simp; omega
  go_enter Try.func17, Try.ntmps17
  go_wp2
  refine bodyPost_ret (v := .tuple #[.agg #[.int .u64 0, .int .i64 0, .int .u16 0, .int .u16 0, .int .u16 0, .int .u16 0], .int .i64 2]) (by simp [results, Try.results17, go_sem, *]) rfl ⟨rfl, (by repeat' (first | with_reducible exact Below.refl _ _ | with_reducible assumption | ((with_reducible refine Below.drew ?_)) | ((with_reducible refine below_drewN ?_ _)) | ((with_reducible refine Below.alloc ?_ ?_ _); rotate_left; focus (first | omega | (simp; done) | (simp; omega))) | ((with_reducible refine Below.setCell ?_ ?_ _); rotate_left; focus (first | omega | (simp; done) | (simp; omega))) | ((with_reducible refine Below.trans ?_ (Below.mono (by with_reducible assumption) ?_)); rotate_left; focus (first | omega | (simp; done) | (simp; omega)))))⟩
set_option maxHeartbeats 8000000 in
theorem dec_ok (S : ByteArray) (hS : S.size = 18) (hn : 1 ≤ horn S 8 2 ∧ horn S 8 2 ≤ 16384) (w : World) : Calls Try.prog 17 #[.string S] w fun ee w' => ee = .returned (.tuple #[.agg #[.int .u64 (horn S 0 8), .int .i64 (horn S 8 2), .int .u16 (horn S 10 2), .int .u16 (horn S 12 2), .int .u16 (horn S 14 2), .int .u16 (horn S 16 2)], .int .i64 0]) ∧ Below w.heap.size w w' := by
  have K2 := Lib.hid (cut_c 0 0 0 0 0 0 (by omega) (by omega) (by omega) (by omega) (by omega))
  have k1 := fun z => may_c (horn S 0 8) (horn S 8 2) (horn S 10 2) (horn S 12 2) (horn S 14 2) (horn S 16 2) 16384 z
  rw [show mayv (horn S 8 2) 16384 = 0 by unfold mayv; first | (rw [if_neg (by omega), if_neg (by omega)]; done) | rw [if_neg (by omega), if_pos (by omega)]] at k1
  have K1 := Lib.hid k1
  clear k1
  have d1 : decide (((S.size : Nat) : Int) < 18) = false := by simp; omega
  have d2 : decide (18 < ((S.size : Nat) : Int)) = false := by simp; omega
  go_enter Try.func17, Try.ntmps17
  go_wp2_with (go_at_call 51; ((with_reducible refine (K2.out _).mono ?_); rintro e w2 ⟨rfl, hbel⟩; obtain ⟨hcc, hff⟩ := bcell hbel; have hsz := hbel.size; (try simp at hsz); have hF : (w2.cell? ⟨w.heap.size, 0, none⟩ = some (.int .u64 0) ∧ w2.cell? ⟨w.heap.size, 1, none⟩ = some (.int .i64 0) ∧ w2.cell? ⟨w.heap.size, 2, none⟩ = some (.int .u16 0) ∧ w2.cell? ⟨w.heap.size, 3, none⟩ = some (.int .u16 0) ∧ w2.cell? ⟨w.heap.size, 4, none⟩ = some (.int .u16 0) ∧ w2.cell? ⟨w.heap.size, 5, none⟩ = some (.int .u16 0) ∧ w2.frozen? ⟨w.heap.size, 0, none⟩ = false ∧ w2.frozen? ⟨w.heap.size, 1, none⟩ = false ∧ w2.frozen? ⟨w.heap.size, 2, none⟩ = false ∧ w2.frozen? ⟨w.heap.size, 3, none⟩ = false ∧ w2.frozen? ⟨w.heap.size, 4, none⟩ = false ∧ w2.frozen? ⟨w.heap.size, 5, none⟩ = false ∧ w.heap.size < w2.heap.size) ∧ Below w.heap.size w w2 := (by ((repeat' apply And.intro) <;> first | (simp [go_sem, *]; done) | omega | (repeat' (first | with_reducible exact Below.refl _ _ | with_reducible assumption | ((with_reducible refine Below.drew ?_)) | ((with_reducible refine below_drewN ?_ _)) | ((with_reducible refine Below.alloc ?_ ?_ _); rotate_left; focus (first | omega | (simp; done) | (simp; omega))) | ((with_reducible refine Below.setCell ?_ ?_ _); rotate_left; focus (first | omega | (simp; done) | (simp; omega))) | ((with_reducible refine Below.trans ?_ (Below.mono (by with_reducible assumption) ?_)); rotate_left; focus (first | omega | (simp; done) | (simp; omega))))))); go_split_ands; clear hcc hff hbel))
  clear K2
  have hl0 : w.heap.size < w2.heap.size := by assumption
  refine shrunk (fun z => DS w z w2.heap.size (fun _ => 0)) ⟨⟨fun j hj => by rcases j with _ | _ | _ | _ | _ | _ | j <;> first | (exfalso; omega) | (constructor <;> simp [go_sem, szf]), fun j hj => by rcases j with _ | _ | _ | _ | _ | _ | _ | _ | _ | _ | _ | _ | j <;> first | (exfalso; omega) | (simp [go_sem]), by simp⟩, ⟨by simp [go_sem, *], by simp [go_sem, *], by simp [go_sem, *], by simp [go_sem, *], by simp [go_sem, *], by simp [go_sem, *], fun j hj => by rcases j with _ | _ | _ | _ | _ | _ | j <;> first | (exfalso; omega) | (simp [go_sem, *]), by simp; omega⟩, (by repeat' (first | with_reducible exact Below.refl _ _ | with_reducible assumption | ((with_reducible refine Below.drew ?_)) | ((with_reducible refine below_drewN ?_ _)) | ((with_reducible refine Below.alloc ?_ ?_ _); rotate_left; focus (first | omega | (simp; done) | (simp; omega))) | ((with_reducible refine Below.setCell ?_ ?_ _); rotate_left; focus (first | omega | (simp; done) | (simp; omega))) | ((with_reducible refine Below.trans ?_ (Below.mono (by with_reducible assumption) ?_)); rotate_left; focus (first | omega | (simp; done) | (simp; omega))))), hl0⟩ ?_
  intro w3 hD
  generalize w2.heap.size = lb at hD hl0 ⊢
  go_split_ands
  go_loopw [5, 22] (fun atv ii wr => ∃ k : Nat, k ≤ 6 ∧ ii = .int .i64 k ∧ atv = .int .i64 (off k : Nat) ∧ DS w wr lb (fun j => if j < k then horn S (off j) (szf j) else 0)) (fun _ ii _ => 6 - (intOf ii).toNat)
  case atStart => exact ⟨0, by omega, rfl, rfl, hD.congr fun j hj => by simp⟩
  case round =>
    clear hD
    obtain ⟨k, hk, rfl, rfl, hD⟩ := hrel
    by_cases hlt : k < 6
    · have hsz := (hD.bk.c k hlt).2
      have hbl := hD.bk.lt
      go_wp2
      go_loopw [5, 29] (fun atv ii wz => ∃ j q : Nat, j ≤ szf k ∧ ii = .int .i64 j ∧ q = off k + j ∧ atv = .int .i64 q ∧ DS w wz lb (seti (fun j => if j < k then horn S (off j) (szf j) else 0) k (horn S (off k) j))) (fun _ ii _ => szf k - (intOf ii).toNat)
      case atStart => exact ⟨0, off k, by omega, rfl, rfl, rfl, hD.congr fun j hj => by simp only [seti, horn]; by_cases h : j = k <;> simp [h]⟩
      case round =>
        clear hD hsz hbl
        obtain ⟨j, q, hj, rfl, hq, rfl, hD⟩ := hrel
        by_cases hjl : j < szf k
        · have hoj : q < 18 := by rw [hq]; unfold off szf at *; split at hjl <;> split <;> omega
          have hxb := byt_bd S q
          have hq18 : (q : Int) < 18 := by omega
          have hsx : ∀ (h : q < S.size), (S[q]'h).toNat = (S.data[q]?.getD 0).toNat := fun h => by rw [Array.getElem?_eq_getElem (show q < S.data.size from h)]; rfl
          have hv := horn_bd S (off k) j
          have hj8 : j < 8 := by unfold szf at hjl; split at hjl <;> omega
          have hp : (256 : Int) ^ j ≤ 72057594037927936 := by
            rcases j with _ | _ | _ | _ | _ | _ | _ | _ | j <;> first | (exfalso; omega) | decide
          have h0 : horn S (off k) (j + 1) = horn S (off k) j * 256 + byt S q := by rw [hq]; rfl
          have hor := or_byte hv.1 (by omega) hxb
          have hcv := (hD.bk.c k hlt).1
          have hfv := hD.bk.fz (k * 2) (by omega)
          have hbl := hD.bk.lt
          simp only [seti, if_true] at hcv
          have HH := Lib.hid h0
          have hw1 : IntKind.u64.wrap (horn S (off k) j * 256) = horn S (off k) j * 256 := by rw [wrap_u64]; omega
          unfold byt at hxb hor HH
          generalize (S.data[q]?.getD 0).toNat = x at hsx hxb hor HH
          have HQ := Lib.hid hq
          clear hq
          generalize hyv : horn S (off k) j = y at *
          clear hp h0
          have hDd := hD.drew
          go_wp2
          obtain ⟨Cl, hCl⟩ : ∃ Cl : List Value → World → Prop, Cl = ((fun ps wz2 => (match ps with | [] => wz2.cell? ⟨lb, k * 2, none⟩ = some (.int .u64 y) ∧ wz2.frozen? ⟨lb, k * 2, none⟩ = false ∧ lb < wz2.heap.size ∧ DS w wz2 lb (seti (fun j => if j < k then horn S (off j) (szf j) else 0) k y) | _ => DS w wz2 lb (seti (seti (fun j => if j < k then horn S (off j) (szf j) else 0) k y) k (y * 256 + x))))) := ⟨_, rfl⟩; have HCl := Lib.hid hCl; clear hCl; refine wp_region_eff [13] Cl (by kernel_rfl) (by kernel_rfl) (by rw [HCl.out]; (try simp only [List.nil_append, List.cons_append]); (try dsimp only); ((repeat' apply And.intro) <;> first | (simp [go_sem, *]; done) | omega | (repeat' (first | with_reducible exact Below.refl _ _ | with_reducible assumption | ((with_reducible refine Below.drew ?_)) | ((with_reducible refine below_drewN ?_ _)) | ((with_reducible refine Below.alloc ?_ ?_ _); rotate_left; focus (first | omega | (simp; done) | (simp; omega))) | ((with_reducible refine Below.setCell ?_ ?_ _); rotate_left; focus (first | omega | (simp; done) | (simp; omega))) | ((with_reducible refine Below.trans ?_ (Below.mono (by with_reducible assumption) ?_)); rotate_left; focus (first | omega | (simp; done) | (simp; omega))))))) ?_
          (repeat (first | (refine wE_skip (by rfl) ?_; simp only [Act.put, Nat.reduceAdd, List.setIfInBounds_toArray, List.set_cons_zero, List.set_cons_succ, List.nil_append, List.cons_append]) | (refine wE_open (by rfl) (by rfl) ?_; apply Exists.intro; refine ⟨fun vs wq hw => ?_, ?_⟩; (focus (rw [HCl.out] at hw; (try simp only [List.nil_append, List.cons_append] at hw); (try dsimp only at hw); go_split_ands; go_simp <;> first | with_reducible exact (rfl : Value.bool false = _) | with_reducible exact (rfl : Value.bool true = _) | ((try go_bits) <;> exact rfl))); simp only [Act.put, Nat.reduceAdd, List.setIfInBounds_toArray, List.set_cons_zero, List.set_cons_succ, List.nil_append, List.cons_append]) | (refine wE_seal (by rfl) (by rfl) (by kernel_rfl) ?_; apply Exists.intro; refine ⟨fun wq hw => ?_, ?_⟩; (focus (rw [HCl.out] at hw; (try simp only [List.nil_append, List.cons_append] at hw); (try dsimp only at hw); go_split_ands; go_simp <;> (try go_bits) <;> exact rfl)); simp only [Act.put, Nat.reduceAdd, List.setIfInBounds_toArray, List.set_cons_zero, List.set_cons_succ, List.nil_append, List.cons_append]) | (refine wE_seal (by rfl) (by rfl) (by kernel_rfl) ?_; apply Exists.intro; refine ⟨fun wq hw => ?_, ?_⟩; (focus (rw [HCl.out] at hw; (try simp only [List.nil_append, List.cons_append] at hw); (try dsimp only at hw); go_split_ands; go_simp; fail)); simp only [Act.put, Nat.reduceAdd, List.setIfInBounds_toArray, List.set_cons_zero, List.set_cons_succ, List.nil_append, List.cons_append]) | (refine wE_eff (by rfl) (by rfl) (fun wq hw => ?_) (fun u hu => ?_); (focus (rw [HCl.out] at hw; (try simp only [List.nil_append, List.cons_append] at hw); (try dsimp only at hw); go_split_ands; go_simp; rw [HCl.out]; (try simp only [List.nil_append, List.cons_append]); (try dsimp only); skip; ((repeat' apply And.intro) <;> first | (simp [go_sem, *]; done) | omega | (repeat' (first | with_reducible exact Below.refl _ _ | with_reducible assumption | ((with_reducible refine Below.drew ?_)) | ((with_reducible refine below_drewN ?_ _)) | ((with_reducible refine Below.alloc ?_ ?_ _); rotate_left; focus (first | omega | (simp; done) | (simp; omega))) | ((with_reducible refine Below.setCell ?_ ?_ _); rotate_left; focus (first | omega | (simp; done) | (simp; omega))) | ((with_reducible refine Below.trans ?_ (Below.mono (by with_reducible assumption) ?_)); rotate_left; focus (first | omega | (simp; done) | (simp; omega)))))))); clear hu; simp only [Act.put, Nat.reduceAdd, List.setIfInBounds_toArray, List.set_cons_zero, List.set_cons_succ, List.nil_append, List.cons_append])))
          refine wE_eff (by rfl) (by rfl) (fun wq hw => ?_) (fun u hu => ?_)
          · rw [HCl.out] at hw; (try simp only [List.nil_append, List.cons_append] at hw); (try dsimp only at hw)
            obtain ⟨a1, a2, a3, hDq⟩ := hw
            have hD2 := hDq.set hlt (y * 256 + x)
            go_simp
            rw [HCl.out]; (try simp only [List.nil_append, List.cons_append]); (try dsimp only)
            exact hD2
          clear hu
          simp only [Act.put, Nat.reduceAdd, List.setIfInBounds_toArray, List.set_cons_zero, List.set_cons_succ, List.nil_append, List.cons_append]
          refine wE_nil ?_; intro w' hw; rw [HCl.out] at hw; (try simp only [List.nil_append, List.cons_append] at hw); (try dsimp only at hw); clear HCl
          clear hD hDd
          go_wp2
          go_roundw
          case rel => exact ⟨j + 1, q + 1, by omega, by go_num, by have := HQ.out; omega, by go_num, hw.congr fun i hi => by rw [HH.out]; simp only [seti]; split <;> rfl⟩
          case measure => simp [intOf]; omega
        · obtain rfl : j = szf k := by omega
          have hqo : q = off (k + 1) := by rw [hq, off_succ]
          subst hqo
          clear hjl hq
          go_wp2
          go_roundw
          case rel => exact ⟨k + 1, by omega, by go_num, rfl, hD.congr fun i hi => by
            simp only [seti]
            by_cases h : i = k
            · subst h; simp
            · by_cases h2 : i < k
              · rw [if_neg h, if_pos h2, if_pos (by omega)]
              · rw [if_neg h, if_neg h2, if_neg (by omega)]⟩
          case measure => simp [intOf]; omega
    · obtain rfl : k = 6 := by omega
      have c0 := (hD.bk.c 0 (by omega)).1
      have c1 := (hD.bk.c 1 (by omega)).1
      have c2 := (hD.bk.c 2 (by omega)).1
      have c3 := (hD.bk.c 3 (by omega)).1
      have c4 := (hD.bk.c 4 (by omega)).1
      have c5 := (hD.bk.c 5 (by omega)).1
      simp [off, szf] at c0 c1 c2 c3 c4 c5
      have b0 := horn_bd S 0 8
      have b1 := horn_bd S 8 2
      have b2 := horn_bd S 10 2
      have b3 := horn_bd S 12 2
      have b4 := horn_bd S 14 2
      have b5 := horn_bd S 16 2
      simp at b0 b1 b2 b3 b4 b5
      obtain ⟨r0, r1, r2, r3, r4, r5, rf, rl⟩ := hD.rv
      have f0 := rf 0 (by omega)
      have f1 := rf 1 (by omega)
      have f2 := rf 2 (by omega)
      have f3 := rf 3 (by omega)
      have f4 := rf 4 (by omega)
      have f5 := rf 5 (by omega)
      have hlb := hD.bk.lt
      have hB := hD.bel
      clear hD rf hlt
      generalize e0 : horn S 0 8 = V0 at *
      generalize e1 : horn S 8 2 = V1 at *
      generalize e2 : horn S 10 2 = V2 at *
      generalize e3 : horn S 12 2 = V3 at *
      generalize e4 : horn S 14 2 = V4 at *
      generalize e5 : horn S 16 2 = V5 at *
      have EE := Lib.hid (And.intro e0 (And.intro e1 (And.intro e2 (And.intro e3 (And.intro e4 e5)))))
      clear e0 e1 e2 e3 e4 e5
      go_wp2
      refine wp_loop_rounds 5 ?_
      rw [rounds_succ]
      go_wp2
      rw [rounds_succ]
      go_wp2
      rw [rounds_succ]
      go_wp2
      rw [rounds_succ]
      go_wp2
      rw [rounds_succ]
      go_wp2_with (go_at_call 21; ((with_reducible refine (K1.out _).mono ?_); rintro e w4 ⟨rfl, hbel⟩; obtain ⟨hcc, hff⟩ := bcell hbel; have hsz := hbel.size; (try simp at hsz); have hF : (w4.cell? ⟨w.heap.size, 0, none⟩ = some (.int .u64 0) ∧ w4.cell? ⟨w.heap.size, 1, none⟩ = some (.int .i64 0) ∧ w4.cell? ⟨w.heap.size, 2, none⟩ = some (.int .u16 0) ∧ w4.cell? ⟨w.heap.size, 3, none⟩ = some (.int .u16 0) ∧ w4.cell? ⟨w.heap.size, 4, none⟩ = some (.int .u16 0) ∧ w4.cell? ⟨w.heap.size, 5, none⟩ = some (.int .u16 0) ∧ w4.frozen? ⟨w.heap.size, 0, none⟩ = false ∧ w4.frozen? ⟨w.heap.size, 1, none⟩ = false ∧ w4.frozen? ⟨w.heap.size, 2, none⟩ = false ∧ w4.frozen? ⟨w.heap.size, 3, none⟩ = false ∧ w4.frozen? ⟨w.heap.size, 4, none⟩ = false ∧ w4.frozen? ⟨w.heap.size, 5, none⟩ = false ∧ w.heap.size < w4.heap.size) ∧ (w4.cell? ⟨wr.heap.size, 0, none⟩ = some (.int .u64 V0) ∧ w4.cell? ⟨wr.heap.size, 1, none⟩ = some (.int .i64 V1) ∧ w4.cell? ⟨wr.heap.size, 2, none⟩ = some (.int .u16 V2) ∧ w4.cell? ⟨wr.heap.size, 3, none⟩ = some (.int .u16 V3) ∧ w4.cell? ⟨wr.heap.size, 4, none⟩ = some (.int .u16 V4) ∧ w4.cell? ⟨wr.heap.size, 5, none⟩ = some (.int .u16 V5) ∧ wr.heap.size < w4.heap.size) ∧ Below w.heap.size w w4 := (by ((repeat' apply And.intro) <;> first | (simp [go_sem, *]; done) | omega | (repeat' (first | with_reducible exact Below.refl _ _ | with_reducible assumption | ((with_reducible refine Below.drew ?_)) | ((with_reducible refine below_drewN ?_ _)) | ((with_reducible refine Below.alloc ?_ ?_ _); rotate_left; focus (first | omega | (simp; done) | (simp; omega))) | ((with_reducible refine Below.setCell ?_ ?_ _); rotate_left; focus (first | omega | (simp; done) | (simp; omega))) | ((with_reducible refine Below.trans ?_ (Below.mono (by with_reducible assumption) ?_)); rotate_left; focus (first | omega | (simp; done) | (simp; omega))))))); go_split_ands; clear hcc hff hbel))
      obtain ⟨e0, e1, e2, e3, e4, e5⟩ := EE.out
      refine bodyPost_ret (v := .tuple #[.agg #[.int .u64 V0, .int .i64 V1, .int .u16 V2, .int .u16 V3, .int .u16 V4, .int .u16 V5], .int .i64 0]) (by simp [results, Try.results17, go_sem, *]) rfl ⟨by rw [e0, e1, e2, e3, e4, e5], (by repeat' (first | with_reducible exact Below.refl _ _ | with_reducible assumption | ((with_reducible refine Below.drew ?_)) | ((with_reducible refine below_drewN ?_ _)) | ((with_reducible refine Below.alloc ?_ ?_ _); rotate_left; focus (first | omega | (simp; done) | (simp; omega))) | ((with_reducible refine Below.setCell ?_ ?_ _); rotate_left; focus (first | omega | (simp; done) | (simp; omega))) | ((with_reducible refine Below.trans ?_ (Below.mono (by with_reducible assumption) ?_)); rotate_left; focus (first | omega | (simp; done) | (simp; omega)))))⟩
set_option maxHeartbeats 8000000 in
theorem dec_bad (S : ByteArray) (hS : S.size = 18) (hn : horn S 8 2 < 1 ∨ 16384 < horn S 8 2) (w : World) : Calls Try.prog 17 #[.string S] w fun ee w' => ee = .returned (.tuple #[.agg #[.int .u64 0, .int .i64 0, .int .u16 0, .int .u16 0, .int .u16 0, .int .u16 0], .int .i64 26]) ∧ Below w.heap.size w w' := by
  have K2 := Lib.hid (cut_c 0 0 0 0 0 0 (by omega) (by omega) (by omega) (by omega) (by omega))
  have k1 := fun z => may_c (horn S 0 8) (horn S 8 2) (horn S 10 2) (horn S 12 2) (horn S 14 2) (horn S 16 2) 16384 z
  rw [show mayv (horn S 8 2) 16384 = 26 by unfold mayv; first | (rw [if_neg (by omega), if_neg (by omega)]; done) | rw [if_neg (by omega), if_pos (by omega)]] at k1
  have K1 := Lib.hid k1
  clear k1
  have d1 : decide (((S.size : Nat) : Int) < 18) = false := by simp; omega
  have d2 : decide (18 < ((S.size : Nat) : Int)) = false := by simp; omega
  go_enter Try.func17, Try.ntmps17
  go_wp2_with (go_at_call 51; ((with_reducible refine (K2.out _).mono ?_); rintro e w2 ⟨rfl, hbel⟩; obtain ⟨hcc, hff⟩ := bcell hbel; have hsz := hbel.size; (try simp at hsz); have hF : (w2.cell? ⟨w.heap.size, 0, none⟩ = some (.int .u64 0) ∧ w2.cell? ⟨w.heap.size, 1, none⟩ = some (.int .i64 0) ∧ w2.cell? ⟨w.heap.size, 2, none⟩ = some (.int .u16 0) ∧ w2.cell? ⟨w.heap.size, 3, none⟩ = some (.int .u16 0) ∧ w2.cell? ⟨w.heap.size, 4, none⟩ = some (.int .u16 0) ∧ w2.cell? ⟨w.heap.size, 5, none⟩ = some (.int .u16 0) ∧ w2.frozen? ⟨w.heap.size, 0, none⟩ = false ∧ w2.frozen? ⟨w.heap.size, 1, none⟩ = false ∧ w2.frozen? ⟨w.heap.size, 2, none⟩ = false ∧ w2.frozen? ⟨w.heap.size, 3, none⟩ = false ∧ w2.frozen? ⟨w.heap.size, 4, none⟩ = false ∧ w2.frozen? ⟨w.heap.size, 5, none⟩ = false ∧ w.heap.size < w2.heap.size) ∧ Below w.heap.size w w2 := (by ((repeat' apply And.intro) <;> first | (simp [go_sem, *]; done) | omega | (repeat' (first | with_reducible exact Below.refl _ _ | with_reducible assumption | ((with_reducible refine Below.drew ?_)) | ((with_reducible refine below_drewN ?_ _)) | ((with_reducible refine Below.alloc ?_ ?_ _); rotate_left; focus (first | omega | (simp; done) | (simp; omega))) | ((with_reducible refine Below.setCell ?_ ?_ _); rotate_left; focus (first | omega | (simp; done) | (simp; omega))) | ((with_reducible refine Below.trans ?_ (Below.mono (by with_reducible assumption) ?_)); rotate_left; focus (first | omega | (simp; done) | (simp; omega))))))); go_split_ands; clear hcc hff hbel))
  clear K2
  have hl0 : w.heap.size < w2.heap.size := by assumption
  refine shrunk (fun z => DS w z w2.heap.size (fun _ => 0)) ⟨⟨fun j hj => by rcases j with _ | _ | _ | _ | _ | _ | j <;> first | (exfalso; omega) | (constructor <;> simp [go_sem, szf]), fun j hj => by rcases j with _ | _ | _ | _ | _ | _ | _ | _ | _ | _ | _ | _ | j <;> first | (exfalso; omega) | (simp [go_sem]), by simp⟩, ⟨by simp [go_sem, *], by simp [go_sem, *], by simp [go_sem, *], by simp [go_sem, *], by simp [go_sem, *], by simp [go_sem, *], fun j hj => by rcases j with _ | _ | _ | _ | _ | _ | j <;> first | (exfalso; omega) | (simp [go_sem, *]), by simp; omega⟩, (by repeat' (first | with_reducible exact Below.refl _ _ | with_reducible assumption | ((with_reducible refine Below.drew ?_)) | ((with_reducible refine below_drewN ?_ _)) | ((with_reducible refine Below.alloc ?_ ?_ _); rotate_left; focus (first | omega | (simp; done) | (simp; omega))) | ((with_reducible refine Below.setCell ?_ ?_ _); rotate_left; focus (first | omega | (simp; done) | (simp; omega))) | ((with_reducible refine Below.trans ?_ (Below.mono (by with_reducible assumption) ?_)); rotate_left; focus (first | omega | (simp; done) | (simp; omega))))), hl0⟩ ?_
  intro w3 hD
  generalize w2.heap.size = lb at hD hl0 ⊢
  go_split_ands
  go_loopw [5, 22] (fun atv ii wr => ∃ k : Nat, k ≤ 6 ∧ ii = .int .i64 k ∧ atv = .int .i64 (off k : Nat) ∧ DS w wr lb (fun j => if j < k then horn S (off j) (szf j) else 0)) (fun _ ii _ => 6 - (intOf ii).toNat)
  case atStart => exact ⟨0, by omega, rfl, rfl, hD.congr fun j hj => by simp⟩
  case round =>
    clear hD
    obtain ⟨k, hk, rfl, rfl, hD⟩ := hrel
    by_cases hlt : k < 6
    · have hsz := (hD.bk.c k hlt).2
      have hbl := hD.bk.lt
      go_wp2
      go_loopw [5, 29] (fun atv ii wz => ∃ j q : Nat, j ≤ szf k ∧ ii = .int .i64 j ∧ q = off k + j ∧ atv = .int .i64 q ∧ DS w wz lb (seti (fun j => if j < k then horn S (off j) (szf j) else 0) k (horn S (off k) j))) (fun _ ii _ => szf k - (intOf ii).toNat)
      case atStart => exact ⟨0, off k, by omega, rfl, rfl, rfl, hD.congr fun j hj => by simp only [seti, horn]; by_cases h : j = k <;> simp [h]⟩
      case round =>
        clear hD hsz hbl
        obtain ⟨j, q, hj, rfl, hq, rfl, hD⟩ := hrel
        by_cases hjl : j < szf k
        · have hoj : q < 18 := by rw [hq]; unfold off szf at *; split at hjl <;> split <;> omega
          have hxb := byt_bd S q
          have hq18 : (q : Int) < 18 := by omega
          have hsx : ∀ (h : q < S.size), (S[q]'h).toNat = (S.data[q]?.getD 0).toNat := fun h => by rw [Array.getElem?_eq_getElem (show q < S.data.size from h)]; rfl
          have hv := horn_bd S (off k) j
          have hj8 : j < 8 := by unfold szf at hjl; split at hjl <;> omega
          have hp : (256 : Int) ^ j ≤ 72057594037927936 := by
            rcases j with _ | _ | _ | _ | _ | _ | _ | _ | j <;> first | (exfalso; omega) | decide
          have h0 : horn S (off k) (j + 1) = horn S (off k) j * 256 + byt S q := by rw [hq]; rfl
          have hor := or_byte hv.1 (by omega) hxb
          have hcv := (hD.bk.c k hlt).1
          have hfv := hD.bk.fz (k * 2) (by omega)
          have hbl := hD.bk.lt
          simp only [seti, if_true] at hcv
          have HH := Lib.hid h0
          have hw1 : IntKind.u64.wrap (horn S (off k) j * 256) = horn S (off k) j * 256 := by rw [wrap_u64]; omega
          unfold byt at hxb hor HH
          generalize (S.data[q]?.getD 0).toNat = x at hsx hxb hor HH
          have HQ := Lib.hid hq
          clear hq
          generalize hyv : horn S (off k) j = y at *
          clear hp h0
          have hDd := hD.drew
          go_wp2
          obtain ⟨Cl, hCl⟩ : ∃ Cl : List Value → World → Prop, Cl = ((fun ps wz2 => (match ps with | [] => wz2.cell? ⟨lb, k * 2, none⟩ = some (.int .u64 y) ∧ wz2.frozen? ⟨lb, k * 2, none⟩ = false ∧ lb < wz2.heap.size ∧ DS w wz2 lb (seti (fun j => if j < k then horn S (off j) (szf j) else 0) k y) | _ => DS w wz2 lb (seti (seti (fun j => if j < k then horn S (off j) (szf j) else 0) k y) k (y * 256 + x))))) := ⟨_, rfl⟩; have HCl := Lib.hid hCl; clear hCl; refine wp_region_eff [13] Cl (by kernel_rfl) (by kernel_rfl) (by rw [HCl.out]; (try simp only [List.nil_append, List.cons_append]); (try dsimp only); ((repeat' apply And.intro) <;> first | (simp [go_sem, *]; done) | omega | (repeat' (first | with_reducible exact Below.refl _ _ | with_reducible assumption | ((with_reducible refine Below.drew ?_)) | ((with_reducible refine below_drewN ?_ _)) | ((with_reducible refine Below.alloc ?_ ?_ _); rotate_left; focus (first | omega | (simp; done) | (simp; omega))) | ((with_reducible refine Below.setCell ?_ ?_ _); rotate_left; focus (first | omega | (simp; done) | (simp; omega))) | ((with_reducible refine Below.trans ?_ (Below.mono (by with_reducible assumption) ?_)); rotate_left; focus (first | omega | (simp; done) | (simp; omega))))))) ?_
          (repeat (first | (refine wE_skip (by rfl) ?_; simp only [Act.put, Nat.reduceAdd, List.setIfInBounds_toArray, List.set_cons_zero, List.set_cons_succ, List.nil_append, List.cons_append]) | (refine wE_open (by rfl) (by rfl) ?_; apply Exists.intro; refine ⟨fun vs wq hw => ?_, ?_⟩; (focus (rw [HCl.out] at hw; (try simp only [List.nil_append, List.cons_append] at hw); (try dsimp only at hw); go_split_ands; go_simp <;> first | with_reducible exact (rfl : Value.bool false = _) | with_reducible exact (rfl : Value.bool true = _) | ((try go_bits) <;> exact rfl))); simp only [Act.put, Nat.reduceAdd, List.setIfInBounds_toArray, List.set_cons_zero, List.set_cons_succ, List.nil_append, List.cons_append]) | (refine wE_seal (by rfl) (by rfl) (by kernel_rfl) ?_; apply Exists.intro; refine ⟨fun wq hw => ?_, ?_⟩; (focus (rw [HCl.out] at hw; (try simp only [List.nil_append, List.cons_append] at hw); (try dsimp only at hw); go_split_ands; go_simp <;> (try go_bits) <;> exact rfl)); simp only [Act.put, Nat.reduceAdd, List.setIfInBounds_toArray, List.set_cons_zero, List.set_cons_succ, List.nil_append, List.cons_append]) | (refine wE_seal (by rfl) (by rfl) (by kernel_rfl) ?_; apply Exists.intro; refine ⟨fun wq hw => ?_, ?_⟩; (focus (rw [HCl.out] at hw; (try simp only [List.nil_append, List.cons_append] at hw); (try dsimp only at hw); go_split_ands; go_simp; fail)); simp only [Act.put, Nat.reduceAdd, List.setIfInBounds_toArray, List.set_cons_zero, List.set_cons_succ, List.nil_append, List.cons_append]) | (refine wE_eff (by rfl) (by rfl) (fun wq hw => ?_) (fun u hu => ?_); (focus (rw [HCl.out] at hw; (try simp only [List.nil_append, List.cons_append] at hw); (try dsimp only at hw); go_split_ands; go_simp; rw [HCl.out]; (try simp only [List.nil_append, List.cons_append]); (try dsimp only); skip; ((repeat' apply And.intro) <;> first | (simp [go_sem, *]; done) | omega | (repeat' (first | with_reducible exact Below.refl _ _ | with_reducible assumption | ((with_reducible refine Below.drew ?_)) | ((with_reducible refine below_drewN ?_ _)) | ((with_reducible refine Below.alloc ?_ ?_ _); rotate_left; focus (first | omega | (simp; done) | (simp; omega))) | ((with_reducible refine Below.setCell ?_ ?_ _); rotate_left; focus (first | omega | (simp; done) | (simp; omega))) | ((with_reducible refine Below.trans ?_ (Below.mono (by with_reducible assumption) ?_)); rotate_left; focus (first | omega | (simp; done) | (simp; omega)))))))); clear hu; simp only [Act.put, Nat.reduceAdd, List.setIfInBounds_toArray, List.set_cons_zero, List.set_cons_succ, List.nil_append, List.cons_append])))
          refine wE_eff (by rfl) (by rfl) (fun wq hw => ?_) (fun u hu => ?_)
          · rw [HCl.out] at hw; (try simp only [List.nil_append, List.cons_append] at hw); (try dsimp only at hw)
            obtain ⟨a1, a2, a3, hDq⟩ := hw
            have hD2 := hDq.set hlt (y * 256 + x)
            go_simp
            rw [HCl.out]; (try simp only [List.nil_append, List.cons_append]); (try dsimp only)
            exact hD2
          clear hu
          simp only [Act.put, Nat.reduceAdd, List.setIfInBounds_toArray, List.set_cons_zero, List.set_cons_succ, List.nil_append, List.cons_append]
          refine wE_nil ?_; intro w' hw; rw [HCl.out] at hw; (try simp only [List.nil_append, List.cons_append] at hw); (try dsimp only at hw); clear HCl
          clear hD hDd
          go_wp2
          go_roundw
          case rel => exact ⟨j + 1, q + 1, by omega, by go_num, by have := HQ.out; omega, by go_num, hw.congr fun i hi => by rw [HH.out]; simp only [seti]; split <;> rfl⟩
          case measure => simp [intOf]; omega
        · obtain rfl : j = szf k := by omega
          have hqo : q = off (k + 1) := by rw [hq, off_succ]
          subst hqo
          clear hjl hq
          go_wp2
          go_roundw
          case rel => exact ⟨k + 1, by omega, by go_num, rfl, hD.congr fun i hi => by
            simp only [seti]
            by_cases h : i = k
            · subst h; simp
            · by_cases h2 : i < k
              · rw [if_neg h, if_pos h2, if_pos (by omega)]
              · rw [if_neg h, if_neg h2, if_neg (by omega)]⟩
          case measure => simp [intOf]; omega
    · obtain rfl : k = 6 := by omega
      have c0 := (hD.bk.c 0 (by omega)).1
      have c1 := (hD.bk.c 1 (by omega)).1
      have c2 := (hD.bk.c 2 (by omega)).1
      have c3 := (hD.bk.c 3 (by omega)).1
      have c4 := (hD.bk.c 4 (by omega)).1
      have c5 := (hD.bk.c 5 (by omega)).1
      simp [off, szf] at c0 c1 c2 c3 c4 c5
      have b0 := horn_bd S 0 8
      have b1 := horn_bd S 8 2
      have b2 := horn_bd S 10 2
      have b3 := horn_bd S 12 2
      have b4 := horn_bd S 14 2
      have b5 := horn_bd S 16 2
      simp at b0 b1 b2 b3 b4 b5
      obtain ⟨r0, r1, r2, r3, r4, r5, rf, rl⟩ := hD.rv
      have f0 := rf 0 (by omega)
      have f1 := rf 1 (by omega)
      have f2 := rf 2 (by omega)
      have f3 := rf 3 (by omega)
      have f4 := rf 4 (by omega)
      have f5 := rf 5 (by omega)
      have hlb := hD.bk.lt
      have hB := hD.bel
      clear hD rf hlt
      generalize e0 : horn S 0 8 = V0 at *
      generalize e1 : horn S 8 2 = V1 at *
      generalize e2 : horn S 10 2 = V2 at *
      generalize e3 : horn S 12 2 = V3 at *
      generalize e4 : horn S 14 2 = V4 at *
      generalize e5 : horn S 16 2 = V5 at *
      have EE := Lib.hid (And.intro e0 (And.intro e1 (And.intro e2 (And.intro e3 (And.intro e4 e5)))))
      clear e0 e1 e2 e3 e4 e5
      go_wp2
      refine wp_loop_rounds 5 ?_
      rw [rounds_succ]
      go_wp2
      rw [rounds_succ]
      go_wp2
      rw [rounds_succ]
      go_wp2
      rw [rounds_succ]
      go_wp2
      rw [rounds_succ]
      go_wp2_with (go_at_call 21; ((with_reducible refine (K1.out _).mono ?_); rintro e w4 ⟨rfl, hbel⟩; obtain ⟨hcc, hff⟩ := bcell hbel; have hsz := hbel.size; (try simp at hsz); have hF : (w4.cell? ⟨w.heap.size, 0, none⟩ = some (.int .u64 0) ∧ w4.cell? ⟨w.heap.size, 1, none⟩ = some (.int .i64 0) ∧ w4.cell? ⟨w.heap.size, 2, none⟩ = some (.int .u16 0) ∧ w4.cell? ⟨w.heap.size, 3, none⟩ = some (.int .u16 0) ∧ w4.cell? ⟨w.heap.size, 4, none⟩ = some (.int .u16 0) ∧ w4.cell? ⟨w.heap.size, 5, none⟩ = some (.int .u16 0) ∧ w4.frozen? ⟨w.heap.size, 0, none⟩ = false ∧ w4.frozen? ⟨w.heap.size, 1, none⟩ = false ∧ w4.frozen? ⟨w.heap.size, 2, none⟩ = false ∧ w4.frozen? ⟨w.heap.size, 3, none⟩ = false ∧ w4.frozen? ⟨w.heap.size, 4, none⟩ = false ∧ w4.frozen? ⟨w.heap.size, 5, none⟩ = false ∧ w.heap.size < w4.heap.size) ∧ (w4.cell? ⟨wr.heap.size, 0, none⟩ = some (.int .u64 V0) ∧ w4.cell? ⟨wr.heap.size, 1, none⟩ = some (.int .i64 V1) ∧ w4.cell? ⟨wr.heap.size, 2, none⟩ = some (.int .u16 V2) ∧ w4.cell? ⟨wr.heap.size, 3, none⟩ = some (.int .u16 V3) ∧ w4.cell? ⟨wr.heap.size, 4, none⟩ = some (.int .u16 V4) ∧ w4.cell? ⟨wr.heap.size, 5, none⟩ = some (.int .u16 V5) ∧ wr.heap.size < w4.heap.size) ∧ Below w.heap.size w w4 := (by ((repeat' apply And.intro) <;> first | (simp [go_sem, *]; done) | omega | (repeat' (first | with_reducible exact Below.refl _ _ | with_reducible assumption | ((with_reducible refine Below.drew ?_)) | ((with_reducible refine below_drewN ?_ _)) | ((with_reducible refine Below.alloc ?_ ?_ _); rotate_left; focus (first | omega | (simp; done) | (simp; omega))) | ((with_reducible refine Below.setCell ?_ ?_ _); rotate_left; focus (first | omega | (simp; done) | (simp; omega))) | ((with_reducible refine Below.trans ?_ (Below.mono (by with_reducible assumption) ?_)); rotate_left; focus (first | omega | (simp; done) | (simp; omega))))))); go_split_ands; clear hcc hff hbel))
      obtain ⟨e0, e1, e2, e3, e4, e5⟩ := EE.out
      refine bodyPost_ret (v := .tuple #[.agg #[.int .u64 0, .int .i64 0, .int .u16 0, .int .u16 0, .int .u16 0, .int .u16 0], .int .i64 26]) (by simp [results, Try.results17, go_sem, *]) rfl ⟨rfl, (by repeat' (first | with_reducible exact Below.refl _ _ | with_reducible assumption | ((with_reducible refine Below.drew ?_)) | ((with_reducible refine below_drewN ?_ _)) | ((with_reducible refine Below.alloc ?_ ?_ _); rotate_left; focus (first | omega | (simp; done) | (simp; omega))) | ((with_reducible refine Below.setCell ?_ ?_ _); rotate_left; focus (first | omega | (simp; done) | (simp; omega))) | ((with_reducible refine Below.trans ?_ (Below.mono (by with_reducible assumption) ?_)); rotate_left; focus (first | omega | (simp; done) | (simp; omega)))))⟩

end Go.Proofs.Ytohdcpkacdaanaa
