/- Joined texts. -/
import Derived.Test.YtffaahipgabkhaaGreatQ30
section
namespace Go.Proofs.YtffaahipgabkhaaGreat
set_option linter.unusedVariables false
set_option linter.unusedSimpArgs false
set_option maxRecDepth 100000
open Go.RowKit Fg Reg Go.Sort
attribute [local irreducible] Reg.wE Holds
section
attribute [local semireducible] Holds
theorem hu_swq {blk off : Nat} {z : World} {dd : Array Int} (h : Holds (Value.int .u64) (z) blk off (dd)) (i j : Nat) (hij : i < j) (hj : j < dd.size) (hl : blk < z.heap.size) :
    Holds (Value.int .u64) ((z.setCell ⟨blk, off + i, none⟩ (.int .u64 dd[j]!)).setCell ⟨blk, off + j, none⟩ (.int .u64 dd[i]!)) blk off ((swp dd i j)) := fun k hk => by
  have hk' : k < dd.size := by simpa [swp] using hk
  obtain ⟨g1, g2⟩ := h k hk'
  obtain ⟨a1, -⟩ := h j hj
  obtain ⟨b1, -⟩ := h i (by omega)
  unfold swp
  rcases Classical.em (k = j) with rfl | hkj
  · rw [getElem!_set_same _ _ _ (by simpa using hk')]
    constructor <;> simp [go_sem, g1, g2, b1, show ¬ off + k = off + i by omega]
  · rw [getElem!_set_other _ _ _ _ hkj]
    rcases Classical.em (k = i) with rfl | hki
    · rw [getElem!_set_same _ _ _ hk']
      constructor <;> simp [go_sem, g1, g2, a1, b1, show ¬ off + k = off + j by omega]
    · rw [getElem!_set_other _ _ _ _ hki]
      constructor <;> simp [go_sem, g1, g2, show ¬ off + k = off + i by omega, show ¬ off + k = off + j by omega]
end
theorem revLoop_go (i j : Nat) (d : Array Int) (h : i < j) : reverseLoop i j d = reverseLoop (i + 1) (j - 1) (swp d i j) := by
  rw [reverseLoop, if_pos h]
theorem revLoop_end (i j : Nat) (d : Array Int) (h : ¬ i < j) : reverseLoop i j d = d := by
  rw [reverseLoop, if_neg h]
set_option maxHeartbeats 2000000 in
theorem rev64_c (blk off cap a b : Nat) (d : Array Int) (w : World) (hH : Holds (Value.int .u64) (w) blk off (d)) (hl : blk < w.heap.size) (hab : a < b) (hb : b ≤ d.size) (hsz : d.size ≤ 100000) :
    Calls Tryz.prog 141 #[.slice (some ⟨blk, off, none⟩) d.size cap, .int .i64 a, .int .i64 b] w fun e w' => e = .returned (.tuple #[]) ∧ Holds (Value.int .u64) (w') blk off (reverseRange d a b) ∧ Only (fun k => k = blk) w w' := by
  have HH := Lib.hid hH
  clear hH
  have W0 : IntKind.i64.wrap ((b : Int) - 1) = ((b - 1 : Nat) : Int) := by rw [IntKind.wrap_i64]; omega
  go_enter Tryz.func141, Tryz.ntmps141
  go_wp2
  go_loopw [6, 7] (fun ii jj wr => ∃ (i j : Nat) (dd : Array Int), i ≤ j + 1 ∧ j < b ∧ ii = .int .i64 i ∧ jj = .int .i64 j ∧ dd.size = d.size ∧ reverseLoop i j dd = reverseRange d a b ∧ Holds (Value.int .u64) (wr) blk off (dd) ∧ Only (fun k => k = blk) w wr) (fun _ jj _ => (intOf jj).toNat)
  case atStart => exact ⟨a, b - 1, d, by omega, by omega, rfl, by first | rfl | (simp; omega), rfl, rfl, HH.out, Only.refl _ _⟩
  case round =>
    obtain ⟨i, j, de, hij0, hjb, rfl, rfl, hde, hinn, hhu, hob2⟩ := hrel
    have hlz : blk < wr.heap.size := Nat.lt_of_lt_of_le hl hob2.size
    by_cases hij : i < j
    · obtain ⟨m, rfl⟩ : ∃ m, j = m + 1 := ⟨j - 1, by omega⟩
      have HN := Lib.hid ((revLoop_go i (m + 1) de hij).symm.trans hinn)
      obtain ⟨e1, z1⟩ := hu_at hhu (m + 1) (by omega)
      obtain ⟨e0, z0⟩ := hu_at hhu i (by omega)
      have hsw := fun z (h : Holds (Value.int .u64) (z) blk off (de)) (hz : blk < z.heap.size) => hu_swq h i (m + 1) hij (by omega) hz
      have dj : decide ((i : Int) < (m : Int) + 1) = true := by simp only [decide_eq_true_eq]; omega
      have tj : ((m : Int) + 1).toNat = m + 1 := by omega
      have lj : (m : Int) + 1 < d.size := by omega
      have li : (i : Int) < d.size := by omega
      have ljp : (0 : Int) ≤ (m : Int) + 1 := by omega
      have wj : IntKind.i64.wrap ((m : Int) + 1 - 1) = (m : Int) := by rw [IntKind.wrap_i64]; omega
      have wi : IntKind.i64.wrap ((i : Int) + 1) = (i : Int) + 1 := by rw [IntKind.wrap_i64]; omega
      have hne : ¬ off + i = off + (m + 1) := by omega
      have HU1 := Lib.hid hhu
      have hnn : ¬ off + (m + 1) = off + i := by omega
      generalize de[m + 1]! = x at *
      generalize de[i]! = y at *
      have HW := Lib.hid hsw
      clear hsw hinn hhu
      go_wp2
      obtain ⟨Cl, hCl⟩ : ∃ Cl : List Value → World → Prop, Cl = ((fun ps wz => Only (fun k => k = blk) w wz ∧ (match ps with | [] => wz.cell? ⟨blk, off + (m + 1), none⟩ = some (.int .u64 x) ∧ wz.cell? ⟨blk, off + i, none⟩ = some (.int .u64 y) ∧ wz.frozen? ⟨blk, off + (m + 1), none⟩ = false ∧ wz.frozen? ⟨blk, off + i, none⟩ = false ∧ blk < wz.heap.size ∧ Holds (Value.int .u64) (wz) blk off (de) | [_] => ∃ z0 : World, wz = z0.setCell ⟨blk, off + i, none⟩ (.int .u64 x) ∧ Holds (Value.int .u64) (z0) blk off (de) ∧ blk < z0.heap.size ∧ z0.frozen? ⟨blk, off + (m + 1), none⟩ = false ∧ (z0.cell? ⟨blk, off + (m + 1), none⟩ = some (.int .u64 x)) | _ => Holds (Value.int .u64) (wz) blk off (swp de i (m + 1))))) := ⟨_, rfl⟩; have HCl := Lib.hid hCl; clear hCl; refine wp_region_eff [13, 15] Cl (by kernel_rfl) (by kernel_rfl) (by rw [HCl.out]; (try simp only [List.nil_append, List.cons_append]); (try dsimp only); exact ⟨hob2.drew, e1, e0, z1, z0, hlz, hu_below HU1.out hlz (Below.drew (Below.refl _ _))⟩) ?_
      (repeat (first | (refine wE_skip (by rfl) ?_; simp only [Act.put, Nat.reduceAdd, List.setIfInBounds_toArray, List.set_cons_zero, List.set_cons_succ, List.nil_append, List.cons_append]) | (refine wE_open (by rfl) (by rfl) ?_; apply Exists.intro; refine ⟨fun vs wq hw => ?_, ?_⟩; (focus (rw [HCl.out] at hw; (try simp only [List.nil_append, List.cons_append] at hw); (try dsimp only at hw); go_split_ands; go_simp <;> first | with_reducible exact (rfl : Value.bool false = _) | with_reducible exact (rfl : Value.bool true = _) | ((try go_bits) <;> exact rfl))); simp only [Act.put, Nat.reduceAdd, List.setIfInBounds_toArray, List.set_cons_zero, List.set_cons_succ, List.nil_append, List.cons_append]) | (refine wE_seal (by rfl) (by rfl) (by kernel_rfl) ?_; apply Exists.intro; refine ⟨fun wq hw => ?_, ?_⟩; (focus (rw [HCl.out] at hw; (try simp only [List.nil_append, List.cons_append] at hw); (try dsimp only at hw); go_split_ands; go_simp <;> (try go_bits) <;> exact rfl)); simp only [Act.put, Nat.reduceAdd, List.setIfInBounds_toArray, List.set_cons_zero, List.set_cons_succ, List.nil_append, List.cons_append]) | (refine wE_seal (by rfl) (by rfl) (by kernel_rfl) ?_; apply Exists.intro; refine ⟨fun wq hw => ?_, ?_⟩; (focus (rw [HCl.out] at hw; (try simp only [List.nil_append, List.cons_append] at hw); (try dsimp only at hw); go_split_ands; go_simp; fail)); simp only [Act.put, Nat.reduceAdd, List.setIfInBounds_toArray, List.set_cons_zero, List.set_cons_succ, List.nil_append, List.cons_append]) | (refine wE_eff (by rfl) (by rfl) (fun wq hw => ?_) (fun u hu => ?_); (focus (rw [HCl.out] at hw; (try simp only [List.nil_append, List.cons_append] at hw); (try dsimp only at hw); go_split_ands; go_simp; rw [HCl.out]; (try simp only [List.nil_append, List.cons_append]); (try dsimp only); fail; ((repeat' apply And.intro) <;> first | (simp [go_sem, *]; done) | omega | (repeat' (first | with_reducible exact Below.refl _ _ | with_reducible assumption | ((with_reducible refine Below.drew ?_)) | ((with_reducible refine below_drewN ?_ _)) | ((with_reducible refine Below.alloc ?_ ?_ _); rotate_left; focus (first | omega | (simp; done) | (simp; omega))) | ((with_reducible refine Below.setCell ?_ ?_ _); rotate_left; focus (first | omega | (simp; done) | (simp; omega))) | ((with_reducible refine Below.trans ?_ (Below.mono (by with_reducible assumption) ?_)); rotate_left; focus (first | omega | (simp; done) | (simp; omega)))))))); clear hu; simp only [Act.put, Nat.reduceAdd, List.setIfInBounds_toArray, List.set_cons_zero, List.set_cons_succ, List.nil_append, List.cons_append])))
      refine wE_eff (by rfl) (by rfl) (fun wq hw => ?_) (fun u hu => ?_)
      focus
        rw [HCl.out] at hw; (try simp only [List.nil_append, List.cons_append] at hw); (try dsimp only at hw)
        obtain ⟨hO, g1, g0, k1, k0, hlq, hh⟩ := hw
        go_simp
        rw [HCl.out]; (try simp only [List.nil_append, List.cons_append]); (try dsimp only)
        exact ⟨hO.setOne _ _ _, wq, rfl, hh, hlq, k1, g1⟩
      clear hu
      simp only [Act.put, Nat.reduceAdd, List.setIfInBounds_toArray, List.set_cons_zero, List.set_cons_succ, List.nil_append, List.cons_append]
      (repeat (first | (refine wE_skip (by rfl) ?_; simp only [Act.put, Nat.reduceAdd, List.setIfInBounds_toArray, List.set_cons_zero, List.set_cons_succ, List.nil_append, List.cons_append]) | (refine wE_open (by rfl) (by rfl) ?_; apply Exists.intro; refine ⟨fun vs wq hw => ?_, ?_⟩; (focus (rw [HCl.out] at hw; (try simp only [List.nil_append, List.cons_append] at hw); (try dsimp only at hw); go_split_ands; go_simp <;> first | with_reducible exact (rfl : Value.bool false = _) | with_reducible exact (rfl : Value.bool true = _) | ((try go_bits) <;> exact rfl))); simp only [Act.put, Nat.reduceAdd, List.setIfInBounds_toArray, List.set_cons_zero, List.set_cons_succ, List.nil_append, List.cons_append])))
      refine wE_eff (by rfl) (by rfl) (fun wq hw => ?_) (fun u hu => ?_)
      focus
        rw [HCl.out] at hw; (try simp only [List.nil_append, List.cons_append] at hw); (try dsimp only at hw)
        obtain ⟨hO, z0, rfl, hh, hlq, k0, g0⟩ := hw
        go_simp
        rw [HCl.out]; (try simp only [List.nil_append, List.cons_append]); (try dsimp only)
        exact ⟨hO.setOne _ _ _, HW.out z0 hh hlq⟩
      clear hu
      simp only [Act.put, Nat.reduceAdd, List.setIfInBounds_toArray, List.set_cons_zero, List.set_cons_succ, List.nil_append, List.cons_append]
      (repeat (first | (refine wE_skip (by rfl) ?_; simp only [Act.put, Nat.reduceAdd, List.setIfInBounds_toArray, List.set_cons_zero, List.set_cons_succ, List.nil_append, List.cons_append]) | (refine wE_open (by rfl) (by rfl) ?_; apply Exists.intro; refine ⟨fun vs wq hw => ?_, ?_⟩; (focus (rw [HCl.out] at hw; (try simp only [List.nil_append, List.cons_append] at hw); (try dsimp only at hw); go_split_ands; go_simp <;> first | with_reducible exact (rfl : Value.bool false = _) | with_reducible exact (rfl : Value.bool true = _) | ((try go_bits) <;> exact rfl))); simp only [Act.put, Nat.reduceAdd, List.setIfInBounds_toArray, List.set_cons_zero, List.set_cons_succ, List.nil_append, List.cons_append])))
      refine wE_nil ?_
      intro w9 hw
      rw [HCl.out] at hw; (try simp only [List.nil_append, List.cons_append] at hw); (try dsimp only at hw)
      clear HCl
      obtain ⟨hO9, hh9⟩ := hw
      go_wp2
      go_roundw
      case rel =>
        exact ⟨i + 1, m, swp de i (m + 1), by omega, by omega, by go_num, by go_num, by simp [swp, hde], HN.out, hh9, hO9⟩
      case measure => simp [intOf] <;> omega
    · rw [revLoop_end i j de hij] at hinn
      have dj : decide ((i : Int) < (j : Int)) = false := by simp only [decide_eq_false_iff_not]; omega
      go_wp2
      refine bodyPost_end (v := .tuple #[]) (by simp [results, Tryz.results141]) rfl ⟨rfl, ?_, hob2⟩
      rw [← hinn]; exact hhu
end Go.Proofs.YtffaahipgabkhaaGreat
end
section
namespace Go.Proofs.YtffaahipgabkhaaGreat
set_option linter.unusedVariables false
set_option linter.unusedSimpArgs false
set_option maxRecDepth 100000
open Go.RowKit Fg Reg Go.Sort
attribute [local irreducible] Reg.wE Holds
section
attribute [local semireducible] Holds
theorem hu_only {blk off : Nat} {S : Nat → Prop} {z z' : World} {dd : Array Int} (h : Holds (Value.int .u64) (z) blk off (dd)) (hl : blk < z.heap.size) (ho : Only S z z') (hS : ¬ S blk) : Holds (Value.int .u64) (z') blk off (dd) := fun j hj =>
  ⟨(ho.cell hl hS).trans (h j hj).1, (ho.frozen hl hS).trans (h j hj).2⟩
end
set_option maxHeartbeats 2000000 in
theorem or2_c (blk off cap a b s q : Nat) (d : Array Int) (w : World) (hH : Holds (Value.int .u64) (w) blk off (d)) (hl : blk < w.heap.size) (ha : a < d.size) (hb : b < d.size) (hsz : d.size ≤ 100000) (hs : s ≤ 1000000) (h0 : w.cell? ⟨q, 0, none⟩ = some (.int .i64 s)) (h1 : w.frozen? ⟨q, 0, none⟩ = false) (h2 : q < w.heap.size) :
    Calls Tryz.prog 152 #[.slice (some ⟨blk, off, none⟩) d.size cap, .int .i64 a, .int .i64 b, .pointer (some ⟨q, 0, none⟩)] w fun e w' => e = .returned (.tuple #[.int .i64 ((order2 ltInt d a b s).1 : Nat), .int .i64 ((order2 ltInt d a b s).2.1 : Nat)]) ∧ (w'.cell? ⟨q, 0, none⟩ = some (.int .i64 (((order2 ltInt d a b s).2.2 : Nat))) ∧ w'.frozen? ⟨q, 0, none⟩ = false ∧ q < w'.heap.size) ∧ Only (fun k => k = q) w w' := by
  obtain ⟨ea, za⟩ := hu_at hH a ha
  obtain ⟨eb, zb⟩ := hu_at hH b hb
  have la : (a : Int) < d.size := by omega
  have lb : (b : Int) < d.size := by omega
  have ws : IntKind.i64.wrap ((s : Int) + 1) = ((s + 1 : Nat) : Int) := by rw [IntKind.wrap_i64]; omega
  have kl := fun z => les_c d[b]! d[a]! z
  clear hH za zb
  unfold order2 ltInt
  cases hlt : decide (d[b]! < d[a]!) with
  | true =>
    simp only [if_true]
    rw [hlt] at kl
    generalize d[b]! = y at *
    generalize d[a]! = x at *
    have K1 := Lib.hid kl
    clear kl hlt
    go_enter Tryz.func152, Tryz.ntmps152
    go_wp2
    obtain ⟨Cl, hCl⟩ : ∃ Cl : List Value → World → Prop, Cl = ((fun ps wz => wz.cell? ⟨blk, off + a, none⟩ = some (.int .u64 x) ∧ wz.cell? ⟨blk, off + b, none⟩ = some (.int .u64 y) ∧ blk < wz.heap.size ∧ (wz.cell? ⟨q, 0, none⟩ = some (.int .i64 (s)) ∧ wz.frozen? ⟨q, 0, none⟩ = false ∧ q < wz.heap.size) ∧ w.heap.size ≤ wz.heap.size ∧ Below w.heap.size w wz)) := ⟨_, rfl⟩; have HCl := Lib.hid hCl; clear hCl; refine wp_region_eff [] Cl (by kernel_rfl) (by kernel_rfl) (by rw [HCl.out]; (try simp only [List.nil_append, List.cons_append]); (try dsimp only); ((repeat' apply And.intro) <;> first | (simp [go_sem, *]; done) | omega | (repeat' (first | with_reducible exact Below.refl _ _ | with_reducible assumption | ((with_reducible refine Below.drew ?_)) | ((with_reducible refine below_drewN ?_ _)) | ((with_reducible refine Below.alloc ?_ ?_ _); rotate_left; focus (first | omega | (simp; done) | (simp; omega))) | ((with_reducible refine Below.setCell ?_ ?_ _); rotate_left; focus (first | omega | (simp; done) | (simp; omega))) | ((with_reducible refine Below.trans ?_ (Below.mono (by with_reducible assumption) ?_)); rotate_left; focus (first | omega | (simp; done) | (simp; omega))))))) ?_
    (repeat (first | (refine wE_skip (by rfl) ?_; simp only [Act.put, Nat.reduceAdd, List.setIfInBounds_toArray, List.set_cons_zero, List.set_cons_succ, List.nil_append, List.cons_append]) | (refine wE_open (by rfl) (by rfl) ?_; apply Exists.intro; refine ⟨fun vs wq hw => ?_, ?_⟩; (focus (rw [HCl.out] at hw; (try simp only [List.nil_append, List.cons_append] at hw); (try dsimp only at hw); go_split_ands; go_simp <;> first | with_reducible exact (rfl : Value.bool false = _) | with_reducible exact (rfl : Value.bool true = _) | ((try go_bits) <;> exact rfl))); simp only [Act.put, Nat.reduceAdd, List.setIfInBounds_toArray, List.set_cons_zero, List.set_cons_succ, List.nil_append, List.cons_append]) | (refine wE_seal (by rfl) (by rfl) (by kernel_rfl) ?_; apply Exists.intro; refine ⟨fun wq hw => ?_, ?_⟩; (focus (rw [HCl.out] at hw; (try simp only [List.nil_append, List.cons_append] at hw); (try dsimp only at hw); go_split_ands; go_simp <;> (try go_bits) <;> exact rfl)); simp only [Act.put, Nat.reduceAdd, List.setIfInBounds_toArray, List.set_cons_zero, List.set_cons_succ, List.nil_append, List.cons_append]) | (refine wE_seal (by rfl) (by rfl) (by kernel_rfl) ?_; apply Exists.intro; refine ⟨fun wq hw => ?_, ?_⟩; (focus (rw [HCl.out] at hw; (try simp only [List.nil_append, List.cons_append] at hw); (try dsimp only at hw); go_split_ands; go_simp; (go_at_call 143; ((with_reducible refine (K1.out _).mono ?_); rintro e w' ⟨rfl, hbel⟩; obtain ⟨hcc, hff⟩ := bcell hbel; have hsz := hbel.size; (try simp at hsz); refine ⟨rfl, ?_⟩; rw [HCl.out]; (try simp only [List.nil_append, List.cons_append]); (try dsimp only); ((repeat' apply And.intro) <;> first | (simp [go_sem, *]; done) | omega | (repeat' (first | with_reducible exact Below.refl _ _ | with_reducible assumption | ((with_reducible refine Below.drew ?_)) | ((with_reducible refine below_drewN ?_ _)) | ((with_reducible refine Below.alloc ?_ ?_ _); rotate_left; focus (first | omega | (simp; done) | (simp; omega))) | ((with_reducible refine Below.setCell ?_ ?_ _); rotate_left; focus (first | omega | (simp; done) | (simp; omega))) | ((with_reducible refine Below.trans ?_ (Below.mono (by with_reducible assumption) ?_)); rotate_left; focus (first | omega | (simp; done) | (simp; omega)))))))))); simp only [Act.put, Nat.reduceAdd, List.setIfInBounds_toArray, List.set_cons_zero, List.set_cons_succ, List.nil_append, List.cons_append]) | (refine wE_eff (by rfl) (by rfl) (fun wq hw => ?_) (fun u hu => ?_); (focus (rw [HCl.out] at hw; (try simp only [List.nil_append, List.cons_append] at hw); (try dsimp only at hw); go_split_ands; go_simp; rw [HCl.out]; (try simp only [List.nil_append, List.cons_append]); (try dsimp only); skip; ((repeat' apply And.intro) <;> first | (simp [go_sem, *]; done) | omega | (repeat' (first | with_reducible exact Below.refl _ _ | with_reducible assumption | ((with_reducible refine Below.drew ?_)) | ((with_reducible refine below_drewN ?_ _)) | ((with_reducible refine Below.alloc ?_ ?_ _); rotate_left; focus (first | omega | (simp; done) | (simp; omega))) | ((with_reducible refine Below.setCell ?_ ?_ _); rotate_left; focus (first | omega | (simp; done) | (simp; omega))) | ((with_reducible refine Below.trans ?_ (Below.mono (by with_reducible assumption) ?_)); rotate_left; focus (first | omega | (simp; done) | (simp; omega)))))))); clear hu; simp only [Act.put, Nat.reduceAdd, List.setIfInBounds_toArray, List.set_cons_zero, List.set_cons_succ, List.nil_append, List.cons_append])))
    refine wE_nil ?_; intro w' hw; rw [HCl.out] at hw; (try simp only [List.nil_append, List.cons_append] at hw); (try dsimp only at hw); clear HCl
    go_split_ands
    have hB : Below w.heap.size w w' := by assumption
    have hO := (Only.of_below (S := fun k => k = q) hB).setOne 0 none (.int .i64 ((s + 1 : Nat) : Int))
    go_wp2
    refine bodyPost_ret (v := .tuple #[.int .i64 (b : Nat), .int .i64 (a : Nat)]) (by simp [results, Tryz.results152, go_sem, *]) rfl ⟨rfl, ⟨?_, ?_, ?_⟩, ?_⟩
    · simp [go_sem, *]
    · simp [go_sem, *]
    · simp [go_sem, *]
    · simpa using hO
  | false =>
    simp only [Bool.false_eq_true, if_false]
    rw [hlt] at kl
    generalize d[b]! = y at *
    generalize d[a]! = x at *
    have K1 := Lib.hid kl
    clear kl hlt
    go_enter Tryz.func152, Tryz.ntmps152
    go_wp2
    obtain ⟨Cl, hCl⟩ : ∃ Cl : List Value → World → Prop, Cl = ((fun ps wz => wz.cell? ⟨blk, off + a, none⟩ = some (.int .u64 x) ∧ wz.cell? ⟨blk, off + b, none⟩ = some (.int .u64 y) ∧ blk < wz.heap.size ∧ (wz.cell? ⟨q, 0, none⟩ = some (.int .i64 (s)) ∧ wz.frozen? ⟨q, 0, none⟩ = false ∧ q < wz.heap.size) ∧ w.heap.size ≤ wz.heap.size ∧ Below w.heap.size w wz)) := ⟨_, rfl⟩; have HCl := Lib.hid hCl; clear hCl; refine wp_region_eff [] Cl (by kernel_rfl) (by kernel_rfl) (by rw [HCl.out]; (try simp only [List.nil_append, List.cons_append]); (try dsimp only); ((repeat' apply And.intro) <;> first | (simp [go_sem, *]; done) | omega | (repeat' (first | with_reducible exact Below.refl _ _ | with_reducible assumption | ((with_reducible refine Below.drew ?_)) | ((with_reducible refine below_drewN ?_ _)) | ((with_reducible refine Below.alloc ?_ ?_ _); rotate_left; focus (first | omega | (simp; done) | (simp; omega))) | ((with_reducible refine Below.setCell ?_ ?_ _); rotate_left; focus (first | omega | (simp; done) | (simp; omega))) | ((with_reducible refine Below.trans ?_ (Below.mono (by with_reducible assumption) ?_)); rotate_left; focus (first | omega | (simp; done) | (simp; omega))))))) ?_
    (repeat (first | (refine wE_skip (by rfl) ?_; simp only [Act.put, Nat.reduceAdd, List.setIfInBounds_toArray, List.set_cons_zero, List.set_cons_succ, List.nil_append, List.cons_append]) | (refine wE_open (by rfl) (by rfl) ?_; apply Exists.intro; refine ⟨fun vs wq hw => ?_, ?_⟩; (focus (rw [HCl.out] at hw; (try simp only [List.nil_append, List.cons_append] at hw); (try dsimp only at hw); go_split_ands; go_simp <;> first | with_reducible exact (rfl : Value.bool false = _) | with_reducible exact (rfl : Value.bool true = _) | ((try go_bits) <;> exact rfl))); simp only [Act.put, Nat.reduceAdd, List.setIfInBounds_toArray, List.set_cons_zero, List.set_cons_succ, List.nil_append, List.cons_append]) | (refine wE_seal (by rfl) (by rfl) (by kernel_rfl) ?_; apply Exists.intro; refine ⟨fun wq hw => ?_, ?_⟩; (focus (rw [HCl.out] at hw; (try simp only [List.nil_append, List.cons_append] at hw); (try dsimp only at hw); go_split_ands; go_simp <;> (try go_bits) <;> exact rfl)); simp only [Act.put, Nat.reduceAdd, List.setIfInBounds_toArray, List.set_cons_zero, List.set_cons_succ, List.nil_append, List.cons_append]) | (refine wE_seal (by rfl) (by rfl) (by kernel_rfl) ?_; apply Exists.intro; refine ⟨fun wq hw => ?_, ?_⟩; (focus (rw [HCl.out] at hw; (try simp only [List.nil_append, List.cons_append] at hw); (try dsimp only at hw); go_split_ands; go_simp; (go_at_call 143; ((with_reducible refine (K1.out _).mono ?_); rintro e w' ⟨rfl, hbel⟩; obtain ⟨hcc, hff⟩ := bcell hbel; have hsz := hbel.size; (try simp at hsz); refine ⟨rfl, ?_⟩; rw [HCl.out]; (try simp only [List.nil_append, List.cons_append]); (try dsimp only); ((repeat' apply And.intro) <;> first | (simp [go_sem, *]; done) | omega | (repeat' (first | with_reducible exact Below.refl _ _ | with_reducible assumption | ((with_reducible refine Below.drew ?_)) | ((with_reducible refine below_drewN ?_ _)) | ((with_reducible refine Below.alloc ?_ ?_ _); rotate_left; focus (first | omega | (simp; done) | (simp; omega))) | ((with_reducible refine Below.setCell ?_ ?_ _); rotate_left; focus (first | omega | (simp; done) | (simp; omega))) | ((with_reducible refine Below.trans ?_ (Below.mono (by with_reducible assumption) ?_)); rotate_left; focus (first | omega | (simp; done) | (simp; omega)))))))))); simp only [Act.put, Nat.reduceAdd, List.setIfInBounds_toArray, List.set_cons_zero, List.set_cons_succ, List.nil_append, List.cons_append]) | (refine wE_eff (by rfl) (by rfl) (fun wq hw => ?_) (fun u hu => ?_); (focus (rw [HCl.out] at hw; (try simp only [List.nil_append, List.cons_append] at hw); (try dsimp only at hw); go_split_ands; go_simp; rw [HCl.out]; (try simp only [List.nil_append, List.cons_append]); (try dsimp only); skip; ((repeat' apply And.intro) <;> first | (simp [go_sem, *]; done) | omega | (repeat' (first | with_reducible exact Below.refl _ _ | with_reducible assumption | ((with_reducible refine Below.drew ?_)) | ((with_reducible refine below_drewN ?_ _)) | ((with_reducible refine Below.alloc ?_ ?_ _); rotate_left; focus (first | omega | (simp; done) | (simp; omega))) | ((with_reducible refine Below.setCell ?_ ?_ _); rotate_left; focus (first | omega | (simp; done) | (simp; omega))) | ((with_reducible refine Below.trans ?_ (Below.mono (by with_reducible assumption) ?_)); rotate_left; focus (first | omega | (simp; done) | (simp; omega)))))))); clear hu; simp only [Act.put, Nat.reduceAdd, List.setIfInBounds_toArray, List.set_cons_zero, List.set_cons_succ, List.nil_append, List.cons_append])))
    refine wE_nil ?_; intro w' hw; rw [HCl.out] at hw; (try simp only [List.nil_append, List.cons_append] at hw); (try dsimp only at hw); clear HCl
    go_split_ands
    have hB : Below w.heap.size w w' := by assumption
    go_wp2
    refine bodyPost_ret (v := .tuple #[.int .i64 (a : Nat), .int .i64 (b : Nat)]) (by simp [results, Tryz.results152, go_sem, *]) rfl ⟨rfl, ⟨by assumption, by assumption, by assumption⟩, Only.of_below hB⟩
end Go.Proofs.YtffaahipgabkhaaGreat
end
