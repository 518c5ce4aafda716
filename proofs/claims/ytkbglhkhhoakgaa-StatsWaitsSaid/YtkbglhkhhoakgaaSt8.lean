/- StatsWaits: the loops. -/
import Derived.Test.YtkbglhkhhoakgaaSt7
namespace Go.Proofs.Ytkbglhkhhoakgaa
set_option linter.unusedVariables false
set_option linter.unusedSimpArgs false
set_option maxRecDepth 100000
open Go.RowKit Fg Reg
attribute [local irreducible] Reg.wN Reg.wE QS QC

set_option maxHeartbeats 8000000 in
theorem waits_in (cl : Int) (hc : iok cl) (xs ds : List Int) (n : Nat) (hn : n ≤ 100) (l1 : xs.length = n) (l2 : ds.length = n) (ha : ∀ k (h : k < xs.length), 0 ≤ xs[k] ∧ xs[k] ≤ 18446744073709551615)
    (hd : ∀ k (h : k < ds.length), 0 ≤ ds[k] ∧ ds[k] ≤ 18446744073709551615) (a1 a2 : Option Addr) (c1 c2 : Nat) (w : World) (h1 : RwV (fun x : Int => [Value.int .u64 x]) 1 w a1 xs) (h2 : RwV (fun x : Int => [Value.int .u64 x]) 1 w a2 ds) :
    Calls Try.prog 6 #[.slice a1 n c1, .slice a2 n c2, .int .i64 cl] w fun e w' => e = .returned (.bool true) ∧ Below w.heap.size w w' := by
  have K7 := Lib.hid fifteen_c
  have KN := Lib.hid (snew_c cl)
  have H1 := Lib.hid h1
  have H2 := Lib.hid h2
  have HA := Lib.hid ha
  have HD := Lib.hid hd
  have HC := Lib.hid hc
  clear h1 h2 ha hd hc
  have d1 : decide (100 < (n : Int)) = false := by simp; omega
  go_enter Try.func6, Try.ntmps6
  go_wp2_with (go_at_call 22; ((with_reducible refine (KN.out _).mono ?_); rintro e w1 ⟨rfl, hS⟩))
  clear KN
  go_loopw [29] (fun ii wr => ∃ (k : Nat) (wv : Option Value) (g : Nat → Value), k ≤ n ∧ ii = .int .i64 k ∧ S0 w wr (w.heap.size + 2) w.heap.size (w.heap.size + 1) cl wv none ∧ QS wr (w.heap.size + 2 + 1) (wrow wv) k g ∧ (∀ j, j < k → g j = .int .u64 (xs.getD j 0)) ∧ (∀ j, j < k → xs.getD j 0 ≤ ds.getD j 0) ∧ (0 < k → ∃ v, wv = some v)) (fun ii _ => n - (intOf ii).toNat)
  case atStart => exact ⟨0, none, fun _ => undef, Nat.zero_le _, rfl, hS, QS.nil _ _ _, fun j h => absurd h (by omega), fun j h => absurd h (by omega), fun h => absurd h (by omega)⟩
  case round =>
    clear hS
    obtain ⟨k, wv, g, hk, rfl, hS, hQ, hg, hle, hv⟩ := hrel
    have hB := hS.bel
    by_cases hlt : k < n
    · obtain ⟨b1, o1, rfl, hb1, hr1⟩ := (H1.out.below hB) k (by omega)
      obtain ⟨b2, o2, rfl, hb2, hr2⟩ := (H2.out.below hB) k (by omega)
      have e1 : wr.cell? ⟨b1, o1 + k, none⟩ = some (.int .u64 xs[k]) := by have := hr1 0 _ rfl; simpa using this
      have e2 : wr.cell? ⟨b2, o2 + k, none⟩ = some (.int .u64 ds[k]) := by have := hr2 0 _ rfl; simpa using this
      have x1 : xs.getD k 0 = xs[k] := by simp [List.getD, List.getElem?_eq_getElem (show k < xs.length by omega)]
      have x2 : ds.getD k 0 = ds[k] := by simp [List.getD, List.getElem?_eq_getElem (show k < ds.length by omega)]
      clear hr1 hr2
      rw [← x1] at e1
      rw [← x2] at e2
      clear x1 x2
      by_cases hda : ds.getD k 0 < xs.getD k 0
      · have e3 : decide (ds.getD k 0 < xs.getD k 0) = true := by simp only [decide_eq_true_eq]; exact hda
        have hszB := hB.size
        clear hS hQ hg hle hv
        generalize xs.getD k 0 = a at *
        generalize ds.getD k 0 = d at *
        go_wp2_with (go_at_call 21; ((with_reducible refine (K7.out _).mono ?_); rintro e w7 ⟨rfl, hbel⟩; obtain ⟨hcc, hff⟩ := bcell hbel; have hsz := hbel.size; (try simp at hsz); have hF : Below w.heap.size w w7 := (by ((repeat' apply And.intro) <;> first | (simp [go_sem, *]; done) | omega | (repeat' (first | with_reducible exact Below.refl _ _ | with_reducible assumption | ((with_reducible refine Below.drew ?_)) | ((with_reducible refine below_drewN ?_ _)) | ((with_reducible refine Below.alloc ?_ ?_ _); rotate_left; focus (first | omega | (simp; done) | (simp; omega))) | ((with_reducible refine Below.setCell ?_ ?_ _); rotate_left; focus (first | omega | (simp; done) | (simp; omega))) | ((with_reducible refine Below.trans ?_ (Below.mono (by with_reducible assumption) ?_)); rotate_left; focus (first | omega | (simp; done) | (simp; omega))))))); go_split_ands; clear hcc hff hbel))
        (go_ret; refine ⟨?_, ?_⟩; (focus (exact rfl)); ((repeat' (first | with_reducible exact Below.refl _ _ | with_reducible assumption | ((with_reducible refine Below.drew ?_)) | ((with_reducible refine below_drewN ?_ _)) | ((with_reducible refine Below.alloc ?_ ?_ _); rotate_left; focus (first | omega | (simp; done) | (simp; omega))) | ((with_reducible refine Below.setCell ?_ ?_ _); rotate_left; focus (first | omega | (simp; done) | (simp; omega))) | ((with_reducible refine Below.trans ?_ (Below.mono (by with_reducible assumption) ?_)); rotate_left; focus (first | omega | (simp; done) | (simp; omega))))); done))
      · have e3 : decide (ds.getD k 0 < xs.getD k 0) = false := by simp only [decide_eq_false_iff_not]; exact hda
        have KC := Lib.hid (came_c hS hQ (by omega) HC.out (xs.getD k 0))
        have HG := Lib.hid hg
        have HL := Lib.hid hle
        obtain ⟨a, hea⟩ : ∃ a, a = xs.getD k 0 := ⟨_, rfl⟩
        obtain ⟨d, hed⟩ : ∃ d, d = ds.getD k 0 := ⟨_, rfl⟩
        rw [← hea] at e1 e3 KC hda
        rw [← hed] at e2 e3 hda
        clear hS hQ hv hg hle
        have HEA := Lib.hid hea
        have HED := Lib.hid hed
        clear hea hed
        go_wp2_with (go_at_call 23; ((with_reducible refine KC.out.mono ?_); rintro e w3 ⟨rfl, v3, hS3, hQ3⟩))
        go_roundw
        case rel =>
          refine ⟨k + 1, some v3, _, by omega, by go_num, hS3, hQ3, fun j hj => ?_, fun j hj => ?_, fun _ => ⟨v3, rfl⟩⟩
          · (try dsimp only)
            split
            · rename_i hjk; rw [hjk, HEA.out]
            · exact HG.out j (by omega)
          · rcases Nat.lt_or_ge j k with h | h
            · exact HL.out j h
            · obtain rfl : j = k := by omega
              rw [← HEA.out, ← HED.out]; omega
        case measure => simp [intOf]; omega
    · obtain rfl : k = n := by omega
      have HG := Lib.hid hg
      have HL := Lib.hid hle
      have HV := Lib.hid hv
      clear hg hle hv hlt hk
      go_wp2_with fail
      go_loopw [8, 9, 49] (fun su lo ii wr => ∃ (i : Nat) (wv : Option Value) (row : Option R5) (g : Nat → Value) (B D E : Int), i ≤ k ∧ su = .int .u64 D ∧ lo = .int .u64 E ∧ ii = .int .i64 i ∧ (0 ≤ B ∧ B ≤ 18446744073709551615) ∧ (0 ≤ D ∧ D ≤ 18446744073709551615) ∧ (0 ≤ E ∧ E ≤ 18446744073709551615) ∧ S0 w wr (w.heap.size + 2) w.heap.size (w.heap.size + 1) cl wv row ∧ row.getD r50 = ⟨i, B, 0, D, E⟩ ∧ QS wr (w.heap.size + 2 + 1) (wrow wv) (k - i) g ∧ (∀ j, j + i < k → g j = .int .u64 (xs.getD (j + i) 0)) ∧ (0 < k → ∃ v, wv = some v)) (fun _ _ ii _ => k - (intOf ii).toNat)
      case atStart => exact ⟨0, wv, none, g, 0, 0, 0, Nat.zero_le _, rfl, rfl, rfl, ⟨by omega, by omega⟩, ⟨by omega, by omega⟩, ⟨by omega, by omega⟩, hS, rfl, hQ, fun j hj => HG.out j hj, HV.out⟩
      case round =>
        clear hS hQ hB HG HV
        obtain ⟨i, wv, row, g, B, D, E, hi, rfl, rfl, rfl, hbB, hbD, hbE, hS, hrow, hQ, hg, hv⟩ := hrel
        have hB := hS.bel
        by_cases hlt : i < k
        · obtain ⟨v, rfl⟩ := hv (by omega)
          obtain ⟨b1, o1, rfl, hb1, hr1⟩ := H1.out i (by omega)
          obtain ⟨b2, o2, rfl, hb2, hr2⟩ := H2.out i (by omega)
          have x1 : xs.getD i 0 = xs[i] := by simp [List.getD, List.getElem?_eq_getElem (show i < xs.length by omega)]
          have x2 : ds.getD i 0 = ds[i] := by simp [List.getD, List.getElem?_eq_getElem (show i < ds.length by omega)]
          have e1 : w.cell? ⟨b1, o1 + i, none⟩ = some (.int .u64 (xs.getD i 0)) := by rw [x1]; have := hr1 0 _ rfl; simpa using this
          have e2 : w.cell? ⟨b2, o2 + i, none⟩ = some (.int .u64 (ds.getD i 0)) := by rw [x2]; have := hr2 0 _ rfl; simpa using this
          have g0 := hg 0 (by omega)
          rw [Nat.zero_add] at g0
          have hA := HA.out i (by omega)
          have hD := HD.out i (by omega)
          rw [← x1] at hA
          rw [← x2] at hD
          have hle := HL.out i hlt
          clear hr1 hr2 x1 x2
          have HGS := Lib.hid (fun j (hj : j + (i + 1) < k) => (show g (j + 1) = .int .u64 (xs.getD (j + (i + 1)) 0) by rw [hg (j + 1) (by omega), show j + 1 + i = j + (i + 1) by omega]))
          clear hg hv
          generalize xs.getD i 0 = a at *
          generalize ds.getD i 0 = d at *
          have HC1 := Lib.hid (fun (z : World) (hb : Below w.heap.size w z) => (show z.cell? ⟨b1, o1 + i, none⟩ = some (.int .u64 a) by rw [← e1]; exact (bcell hb).1 _ _ hb1))
          have e2' : wr.cell? ⟨b2, o2 + i, none⟩ = some (.int .u64 d) := by rw [← e2]; exact (bcell hB).1 _ _ hb2
          clear e1 e2
          have kw := went_c (wv := none) hS hQ (by omega) (by omega) HC.out a d ((i : Int) + 1) g0 hA.1 hle hD.2 (by omega) (by omega) false
          simp only [Bool.false_eq_true, if_false] at kw
          rw [hrow] at kw
          obtain ⟨U, hU⟩ : ∃ U, IntKind.u64.wrap (D + d) = U := ⟨_, rfl⟩
          obtain ⟨D', hD'⟩ : ∃ D', IntKind.u64.wrap (D + (d - a)) = D' := ⟨_, rfl⟩
          obtain ⟨B', hB'⟩ : ∃ B', IntKind.u64.wrap (B + ((i : Int) + 1)) = B' := ⟨_, rfl⟩
          have hUD : IntKind.u64.wrap (U - a) = D' := by rw [← hU, ← hD', wrap_u64, wrap_u64, wrap_u64]; omega
          have wi : IntKind.i64.wrap ((i : Int) + 1) = (i : Int) + 1 := by rw [IntKind.wrap_i64]; omega
          have wda : IntKind.u64.wrap (d - a) = d - a := by rw [wrap_u64]; omega
          have hmx := run_mxx E (d - a)
          have hE' : 0 ≤ mxx E (d - a) ∧ mxx E (d - a) ≤ 18446744073709551615 := by unfold mxx; split <;> omega
          have hT : tog ⟨(i : Int), B, 0, D, E⟩ ⟨1, (i : Int) + 1, 0, d - a, d - a⟩ = ⟨((i + 1 : Nat) : Int), B', 0, D', mxx E (d - a)⟩ := by
            unfold tog
            simp only [R5.mk.injEq]
            refine ⟨by rw [wrap_u64]; omega, hB', by decide, hD', trivial⟩
          rw [hT] at kw
          clear hT
          have hbB' : 0 ≤ B' ∧ B' ≤ 18446744073709551615 := by rw [← hB', wrap_u64]; omega
          have hbD' : 0 ≤ D' ∧ D' ≤ 18446744073709551615 := by rw [← hD', wrap_u64]; omega
          clear hD' hB'
          generalize mxx E (d - a) = E' at *
          have KW := Lib.hid kw
          clear kw hS hQ hrow g0
          go_wp2_with (go_at_call 24; ((with_reducible refine KW.out.mono ?_); rintro e w4 ⟨rfl, v4, hS4, hQ4⟩; have e1 := HC1.out _ hS4.bel))
          go_roundw
          case rel =>
            refine ⟨i + 1, some v4, _, (fun j => g (j + 1)), B', D', E', by omega, rfl, rfl, by go_num, hbB', hbD', hE', hS4, rfl, ?_, fun j hj => ?_, fun _ => ⟨v4, rfl⟩⟩
            · rw [show k - (i + 1) = k - i - 1 by omega]; exact hQ4
            · exact HGS.out j hj
          case measure => simp [intOf]; omega
        · obtain rfl : i = k := by omega
          rw [Nat.sub_self] at hQ
          have kr := row_c hS HC.out
          rw [hrow] at kr
          unfold r5v at kr
          dsimp only at kr
          have KR := Lib.hid kr
          have kt := fun (z : World) (h : S0 w z (w.heap.size + 2) w.heap.size (w.heap.size + 1) cl wv row) => total_c h hrow ⟨⟨by dsimp only; omega, by dsimp only; omega⟩, hbB, ⟨by dsimp only; omega, by dsimp only; omega⟩, hbD, hbE⟩
          unfold r5v at kt
          dsimp only at kt
          have KT := Lib.hid kt
          have KQ := Lib.hid (fun (z : World) (h : S0 w z (w.heap.size + 2) w.heap.size (w.heap.size + 1) cl wv row) (hq : QS z (w.heap.size + 2 + 1) (wrow wv) 0 g) => (show Calls Try.prog 27 #[.pointer (some ⟨w.heap.size + 2, 0, none⟩), .int .i64 cl] z fun e z' => e = .returned (.int .i64 0) ∧ Below z.heap.size z z' from waiting_c h hq HC.out))
          have HE := Lib.hid (fun z => eqR5S (i : Int) B 0 D E z)
          have he := HE.out
          have wn : IntKind.u64.wrap (i : Int) = (i : Int) := by rw [wrap_u64]; omega
          clear kr kt hrow hg hv hlt hi
          go_wp2_with (go_at_call 25; ((with_reducible refine KR.out.mono ?_); rintro e w5 ⟨rfl, hb5⟩))
          have hA : Below w5.heap.size w5 (w5.alloc (.cells #[.int .u64 i, .int .u64 B, .int .u64 0, .int .u64 D, .int .u64 E] 49)) := Below.alloc (Below.refl _ _) (Nat.le_refl _) _
          have hN := ((hS.below hb5).below hA).below (Below.drew (Below.refl _ _))
          have hQn := ((hQ.below hb5).below hA).below (Below.drew (Below.refl _ _))
          clear hA hS hQ
          obtain ⟨Cl, hCl⟩ : ∃ Cl : List Value → World → Prop, Cl = ((fun ps wz => (wz.cell? ⟨w5.heap.size, 0, none⟩ = some (.int .u64 (i : Int)) ∧ wz.cell? ⟨w5.heap.size, 1, none⟩ = some (.int .u64 B) ∧ wz.cell? ⟨w5.heap.size, 2, none⟩ = some (.int .u64 0) ∧ wz.cell? ⟨w5.heap.size, 3, none⟩ = some (.int .u64 D) ∧ wz.cell? ⟨w5.heap.size, 4, none⟩ = some (.int .u64 E) ∧ w5.heap.size < wz.heap.size) ∧ S0 w wz (w.heap.size + 2) w.heap.size (w.heap.size + 1) cl wv row ∧ QS wz (w.heap.size + 2 + 1) (wrow wv) 0 g)) := ⟨_, rfl⟩; have HCl := Lib.hid hCl; clear hCl; refine wp_region_eff [] Cl (by kernel_rfl) (by kernel_rfl) (by rw [HCl.out]; (try simp only [List.nil_append, List.cons_append]); (try dsimp only); exact ⟨⟨by simp [go_sem], by simp [go_sem], by simp [go_sem], by simp [go_sem], by simp [go_sem], by simp⟩, hN, hQn⟩) ?_
          clear hN hQn
          (repeat (first | (refine wE_skip (by rfl) ?_; simp only [Act.put, Nat.reduceAdd, List.setIfInBounds_toArray, List.set_cons_zero, List.set_cons_succ, List.nil_append, List.cons_append]) | (refine wE_open (by rfl) (by rfl) ?_; apply Exists.intro; refine ⟨fun vs wq hw => ?_, ?_⟩; (focus (rw [HCl.out] at hw; (try simp only [List.nil_append, List.cons_append] at hw); (try dsimp only at hw); go_split_ands; go_simp <;> first | with_reducible exact (rfl : Value.bool false = _) | with_reducible exact (rfl : Value.bool true = _) | ((try go_bits) <;> exact rfl))); simp only [Act.put, Nat.reduceAdd, List.setIfInBounds_toArray, List.set_cons_zero, List.set_cons_succ, List.nil_append, List.cons_append]) | (refine wE_seal (by rfl) (by rfl) (by kernel_rfl) ?_; apply Exists.intro; refine ⟨fun wq hw => ?_, ?_⟩; (focus (rw [HCl.out] at hw; (try simp only [List.nil_append, List.cons_append] at hw); (try dsimp only at hw); go_split_ands; go_simp <;> (try go_bits) <;> exact rfl)); simp only [Act.put, Nat.reduceAdd, List.setIfInBounds_toArray, List.set_cons_zero, List.set_cons_succ, List.nil_append, List.cons_append]) | (refine wE_seal (by rfl) (by rfl) (by kernel_rfl) ?_; apply Exists.intro; refine ⟨fun wq hw => ?_, ?_⟩; (focus (rw [HCl.out] at hw; (try simp only [List.nil_append, List.cons_append] at hw); (try dsimp only at hw); go_split_ands; go_simp; (first | (go_at_call 26; ((with_reducible refine (KT.out _ (by with_reducible assumption)).mono ?_); rintro e w2 ⟨rfl, hbel⟩; refine ⟨rfl, ?_⟩; rw [HCl.out]; (try simp only [List.nil_append, List.cons_append]); (try dsimp only); (have hSS := S0.below (by with_reducible assumption) hbel); (have hQQ := QS.below (by with_reducible assumption) hbel); obtain ⟨hcc, hff⟩ := bcell hbel; have hsz := hbel.size; (try simp at hsz); exact ⟨(by ((repeat' apply And.intro) <;> first | (simp [go_sem, *]; done) | omega | (repeat' (first | with_reducible exact Below.refl _ _ | with_reducible assumption | ((with_reducible refine Below.drew ?_)) | ((with_reducible refine below_drewN ?_ _)) | ((with_reducible refine Below.alloc ?_ ?_ _); rotate_left; focus (first | omega | (simp; done) | (simp; omega))) | ((with_reducible refine Below.setCell ?_ ?_ _); rotate_left; focus (first | omega | (simp; done) | (simp; omega))) | ((with_reducible refine Below.trans ?_ (Below.mono (by with_reducible assumption) ?_)); rotate_left; focus (first | omega | (simp; done) | (simp; omega))))))), hSS, hQQ⟩)) | (go_at_call 27; ((with_reducible refine (KQ.out _ (by with_reducible assumption) (by with_reducible assumption)).mono ?_); rintro e w2 ⟨rfl, hbel⟩; refine ⟨rfl, ?_⟩; rw [HCl.out]; (try simp only [List.nil_append, List.cons_append]); (try dsimp only); (have hSS := S0.below (by with_reducible assumption) hbel); (have hQQ := QS.below (by with_reducible assumption) hbel); obtain ⟨hcc, hff⟩ := bcell hbel; have hsz := hbel.size; (try simp at hsz); exact ⟨(by ((repeat' apply And.intro) <;> first | (simp [go_sem, *]; done) | omega | (repeat' (first | with_reducible exact Below.refl _ _ | with_reducible assumption | ((with_reducible refine Below.drew ?_)) | ((with_reducible refine below_drewN ?_ _)) | ((with_reducible refine Below.alloc ?_ ?_ _); rotate_left; focus (first | omega | (simp; done) | (simp; omega))) | ((with_reducible refine Below.setCell ?_ ?_ _); rotate_left; focus (first | omega | (simp; done) | (simp; omega))) | ((with_reducible refine Below.trans ?_ (Below.mono (by with_reducible assumption) ?_)); rotate_left; focus (first | omega | (simp; done) | (simp; omega))))))), hSS, hQQ⟩)) | (go_at_call 21; ((with_reducible refine (K7.out _).mono ?_); rintro e w2 ⟨rfl, hbel⟩; refine ⟨rfl, ?_⟩; rw [HCl.out]; (try simp only [List.nil_append, List.cons_append]); (try dsimp only); (have hSS := S0.below (by with_reducible assumption) hbel); (have hQQ := QS.below (by with_reducible assumption) hbel); obtain ⟨hcc, hff⟩ := bcell hbel; have hsz := hbel.size; (try simp at hsz); exact ⟨(by ((repeat' apply And.intro) <;> first | (simp [go_sem, *]; done) | omega | (repeat' (first | with_reducible exact Below.refl _ _ | with_reducible assumption | ((with_reducible refine Below.drew ?_)) | ((with_reducible refine below_drewN ?_ _)) | ((with_reducible refine Below.alloc ?_ ?_ _); rotate_left; focus (first | omega | (simp; done) | (simp; omega))) | ((with_reducible refine Below.setCell ?_ ?_ _); rotate_left; focus (first | omega | (simp; done) | (simp; omega))) | ((with_reducible refine Below.trans ?_ (Below.mono (by with_reducible assumption) ?_)); rotate_left; focus (first | omega | (simp; done) | (simp; omega))))))), hSS, hQQ⟩))))); simp only [Act.put, Nat.reduceAdd, List.setIfInBounds_toArray, List.set_cons_zero, List.set_cons_succ, List.nil_append, List.cons_append]) | (refine wE_eff (by rfl) (by rfl) (fun wq hw => ?_) (fun u hu => ?_); (focus (rw [HCl.out] at hw; (try simp only [List.nil_append, List.cons_append] at hw); (try dsimp only at hw); go_split_ands; go_simp; rw [HCl.out]; (try simp only [List.nil_append, List.cons_append]); (try dsimp only); skip; ((repeat' apply And.intro) <;> first | (simp [go_sem, *]; done) | omega | (repeat' (first | with_reducible exact Below.refl _ _ | with_reducible assumption | ((with_reducible refine Below.drew ?_)) | ((with_reducible refine below_drewN ?_ _)) | ((with_reducible refine Below.alloc ?_ ?_ _); rotate_left; focus (first | omega | (simp; done) | (simp; omega))) | ((with_reducible refine Below.setCell ?_ ?_ _); rotate_left; focus (first | omega | (simp; done) | (simp; omega))) | ((with_reducible refine Below.trans ?_ (Below.mono (by with_reducible assumption) ?_)); rotate_left; focus (first | omega | (simp; done) | (simp; omega)))))))); clear hu; simp only [Act.put, Nat.reduceAdd, List.setIfInBounds_toArray, List.set_cons_zero, List.set_cons_succ, List.nil_append, List.cons_append])))
          refine wE_nil ?_; intro w' hw; rw [HCl.out] at hw; (try simp only [List.nil_append, List.cons_append] at hw); (try dsimp only at hw); clear HCl
          obtain ⟨_, hS9, hQ9⟩ := hw
          have hB9 := hS9.bel
          clear hS9 hQ9
          go_wp2
          (go_ret; refine ⟨?_, ?_⟩; (focus (exact rfl)); ((repeat' (first | with_reducible exact Below.refl _ _ | with_reducible assumption | ((with_reducible refine Below.drew ?_)) | ((with_reducible refine below_drewN ?_ _)) | ((with_reducible refine Below.alloc ?_ ?_ _); rotate_left; focus (first | omega | (simp; done) | (simp; omega))) | ((with_reducible refine Below.setCell ?_ ?_ _); rotate_left; focus (first | omega | (simp; done) | (simp; omega))) | ((with_reducible refine Below.trans ?_ (Below.mono (by with_reducible assumption) ?_)); rotate_left; focus (first | omega | (simp; done) | (simp; omega))))); done))
end Go.Proofs.Ytkbglhkhhoakgaa
