/- Joined texts. -/
import Derived.Test.YtffaahipgabkhaaGreatJn0
import Derived.Test.YtffaahipgabkhaaGreatJn24
set_option linter.unusedVariables false
set_option linter.unusedSimpArgs false
set_option maxRecDepth 100000
set_option maxHeartbeats 16000000
section
namespace Go.Proofs.YtffaahipgabkhaaGreat
open Go.RowKit Fg Reg Go.Sort
attribute [local irreducible] Reg.wE Holds
section
attribute [local semireducible] Holds
theorem hu_only {blk off : Nat} {S : Nat → Prop} {z z' : World} {dd : Array Int} (h : Holds (Value.int .u64) (z) blk off (dd)) (hl : blk < z.heap.size) (ho : Only S z z') (hS : ¬ S blk) : Holds (Value.int .u64) (z') blk off (dd) := fun j hj =>
 ⟨(ho.cell hl hS).trans (h j hj).1, (ho.frozen hl hS).trans (h j hj).2⟩
end
theorem or2_c (blk off cap a b s q : Nat) (d : Array Int) (w : World) (hH : Holds (Value.int .u64) (w) blk off (d)) (hl : blk < w.heap.size) (ha : a < d.size) (hb : b < d.size) (hsz : d.size ≤ 100000) (hs : s ≤ 1000000) (h0 : w.cell? ⟨q, 0, none⟩ = some (.int .i64 s)) (h1 : w.frozen? ⟨q, 0, none⟩ = false) (h2 : q < w.heap.size) :
  Calls Tryz.prog 152 #[.slice (some ⟨blk, off, none⟩) d.size cap, .int .i64 a, .int .i64 b, .pointer (some ⟨q, 0, none⟩)] w fun e w' => e = .returned (.tuple #[.int .i64 ((order2 ltInt d a b s).1 : Nat), .int .i64 ((order2 ltInt d a b s).2.1 : Nat)]) ∧ (w'.cell? ⟨q, 0, none⟩ = some (.int .i64 (((order2 ltInt d a b s).2.2 : Nat))) ∧ w'.frozen? ⟨q, 0, none⟩ = false ∧ q < w'.heap.size) ∧ Only (fun k => k = q) w w' := by
 obtain ⟨ea, za⟩ := hu_at hH a ha
 obtain ⟨eb, zb⟩ := hu_at hH b hb
 have la : (a : Int) < d.size := by omega
 have lb : (b : Int) < d.size := by omega
 have ws : IntKind.i64.wrap ((s : Int) + 1) = ((s + 1 : Nat) : Int) := by rw [IntKind.wrap_i64]; omega
 have kl := fun z => les_c d[b]! d[a]! z
 clear hH za zb
 unfold order2 ltInt
 cases hlt : decide (d[b]! < d[a]!) with
 | true =>
  simp only [if_true]
  rw [hlt] at kl
  generalize d[b]! = y at *
  generalize d[a]! = x at *
  have K1 := Lib.hid kl
  clear kl hlt
  go_enter Tryz.func152, Tryz.ntmps152
  go_wp2
  obtain ⟨Cl, HCl⟩ := zH (α := List Value → World → Prop) ((fun ps wz => wz.cell? ⟨blk, off + a, none⟩ = some (.int .u64 x) ∧ wz.cell? ⟨blk, off + b, none⟩ = some (.int .u64 y) ∧ blk < wz.heap.size ∧ (wz.cell? ⟨q, 0, none⟩ = some (.int .i64 (s)) ∧ wz.frozen? ⟨q, 0, none⟩ = false ∧ q < wz.heap.size) ∧ w.heap.size ≤ wz.heap.size ∧ Below w.heap.size w wz)); refine wp_region_eff [] Cl (by kernel_rfl) (by kernel_rfl) (by simp only [HCl.out, zD, zE]; exact kpb) ?_
  (repeat ((first | (refine wE_skip (by rfl) ?_) | (refine wE_open (by rfl) (by rfl) ?_; apply Exists.intro; refine ⟨fun vs wq hw => ?_, ?_⟩; (focus (simp only [HCl.out, zD, zE] at hw; go_split_ands; go_simp <;> exact ebb))) | (refine wE_seal (by rfl) (by rfl) (by kernel_rfl) ?_; apply Exists.intro; refine ⟨fun wq hw => ?_, ?_⟩; (focus (simp only [HCl.out, zD, zE] at hw; go_split_ands; go_simp <;> (try go_bits) <;> exact rfl))) | (refine wE_seal (by rfl) (by rfl) (by kernel_rfl) ?_; apply Exists.intro; refine ⟨fun wq hw => ?_, ?_⟩; (focus (simp only [HCl.out, zD, zE] at hw; go_split_ands; go_simp; (go_at_call 143; ((with_reducible refine (K1.out _).mono ?_); rintro e w' ⟨rfl, hbel⟩; obtain ⟨hcc, hff⟩ := bcell hbel; have hsz := hbel.size; (try simp at hsz); refine ⟨rfl, ?_⟩; simp only [HCl.out, zD, zE]; exact kpb))))) | (refine wE_eff (by rfl) (by rfl) (fun wq hw => ?_) (fun u hu => ?_); (focus (simp only [HCl.out, zD, zE] at hw; go_split_ands; go_simp; simp only [HCl.out, zD, zE]; skip; exact kpb)); clear hu)); simp only [Act.put, Nat.reduceAdd, zA, zB, zC, zD, zE]))
  refine wE_nil ?_; intro w' hw; simp only [HCl.out, zD, zE] at hw; clear HCl
  go_split_ands
  have hB : Below w.heap.size w w' := by assumption
  have hO := (Only.of_below (S := fun k => k = q) hB).setOne 0 none (.int .i64 ((s + 1 : Nat) : Int))
  go_wp2
  refine bodyPost_ret (v := .tuple #[.int .i64 (b : Nat), .int .i64 (a : Nat)]) (by simp [results, Tryz.results152, go_sem, *]) rfl ⟨rfl, ⟨?_, ?_, ?_⟩, ?_⟩
  ·simp [go_sem, *]
  ·simp [go_sem, *]
  ·simp [go_sem, *]
  ·simpa using hO
 | false =>
  simp only [Bool.false_eq_true, if_false]
  rw [hlt] at kl
  generalize d[b]! = y at *
  generalize d[a]! = x at *
  have K1 := Lib.hid kl
  clear kl hlt
  go_enter Tryz.func152, Tryz.ntmps152
  go_wp2
  obtain ⟨Cl, HCl⟩ := zH (α := List Value → World → Prop) ((fun ps wz => wz.cell? ⟨blk, off + a, none⟩ = some (.int .u64 x) ∧ wz.cell? ⟨blk, off + b, none⟩ = some (.int .u64 y) ∧ blk < wz.heap.size ∧ (wz.cell? ⟨q, 0, none⟩ = some (.int .i64 (s)) ∧ wz.frozen? ⟨q, 0, none⟩ = false ∧ q < wz.heap.size) ∧ w.heap.size ≤ wz.heap.size ∧ Below w.heap.size w wz)); refine wp_region_eff [] Cl (by kernel_rfl) (by kernel_rfl) (by simp only [HCl.out, zD, zE]; exact kpb) ?_
  (repeat ((first | (refine wE_skip (by rfl) ?_) | (refine wE_open (by rfl) (by rfl) ?_; apply Exists.intro; refine ⟨fun vs wq hw => ?_, ?_⟩; (focus (simp only [HCl.out, zD, zE] at hw; go_split_ands; go_simp <;> exact ebb))) | (refine wE_seal (by rfl) (by rfl) (by kernel_rfl) ?_; apply Exists.intro; refine ⟨fun wq hw => ?_, ?_⟩; (focus (simp only [HCl.out, zD, zE] at hw; go_split_ands; go_simp <;> (try go_bits) <;> exact rfl))) | (refine wE_seal (by rfl) (by rfl) (by kernel_rfl) ?_; apply Exists.intro; refine ⟨fun wq hw => ?_, ?_⟩; (focus (simp only [HCl.out, zD, zE] at hw; go_split_ands; go_simp; (go_at_call 143; ((with_reducible refine (K1.out _).mono ?_); rintro e w' ⟨rfl, hbel⟩; obtain ⟨hcc, hff⟩ := bcell hbel; have hsz := hbel.size; (try simp at hsz); refine ⟨rfl, ?_⟩; simp only [HCl.out, zD, zE]; exact kpb))))) | (refine wE_eff (by rfl) (by rfl) (fun wq hw => ?_) (fun u hu => ?_); (focus (simp only [HCl.out, zD, zE] at hw; go_split_ands; go_simp; simp only [HCl.out, zD, zE]; skip; exact kpb)); clear hu)); simp only [Act.put, Nat.reduceAdd, zA, zB, zC, zD, zE]))
  refine wE_nil ?_; intro w' hw; simp only [HCl.out, zD, zE] at hw; clear HCl
  go_split_ands
  have hB : Below w.heap.size w w' := by assumption
  go_wp2
  refine bodyPost_ret (v := .tuple #[.int .i64 (a : Nat), .int .i64 (b : Nat)]) (by simp [results, Tryz.results152, go_sem, *]) rfl ⟨rfl, ⟨by assumption, by assumption, by assumption⟩, Only.of_below hB⟩
end Go.Proofs.YtffaahipgabkhaaGreat
end
section
namespace Go.Proofs.YtffaahipgabkhaaGreat
open Go.RowKit Fg Reg Go.Sort
attribute [local irreducible] Reg.wE Holds
theorem or2_rng (d : Array Int) (a b s : Nat) (ha : a < d.size) (hb : b < d.size) : (order2 ltInt d a b s).1 < d.size ∧ (order2 ltInt d a b s).2.1 < d.size ∧ (order2 ltInt d a b s).2.2 ≤ s + 1 := by
 unfold order2
 split <;> exact ⟨by assumption, by assumption, by dsimp only; omega⟩
theorem med_c (blk off cap a b c s q : Nat) (d : Array Int) (w : World) (hH : Holds (Value.int .u64) (w) blk off (d)) (hl : blk < w.heap.size) (hq : ¬ blk = q) (ha : a < d.size) (hb : b < d.size) (hc : c < d.size) (hsz : d.size ≤ 100000) (hs : s ≤ 100000) (h0 : w.cell? ⟨q, 0, none⟩ = some (.int .i64 s)) (h1 : w.frozen? ⟨q, 0, none⟩ = false) (h2 : q < w.heap.size) :
  Calls Tryz.prog 150 #[.slice (some ⟨blk, off, none⟩) d.size cap, .int .i64 a, .int .i64 b, .int .i64 c, .pointer (some ⟨q, 0, none⟩)] w fun e w' => e = .returned (.int .i64 ((median ltInt d a b c s).1 : Nat)) ∧ (w'.cell? ⟨q, 0, none⟩ = some (.int .i64 (((median ltInt d a b c s).2 : Nat))) ∧ w'.frozen? ⟨q, 0, none⟩ = false ∧ q < w'.heap.size) ∧ Only (fun k => k = q) w w' := by
 have K := Lib.hid (fun (a b s : Nat) (z : World) (hO : Only (fun k => k = q) w z) (ha : a < d.size) (hb : b < d.size) (hs : s ≤ 1000000) (h0 : z.cell? ⟨q, 0, none⟩ = some (.int .i64 s)) (h1 : z.frozen? ⟨q, 0, none⟩ = false) (h2 : q < z.heap.size) => or2_c blk off cap a b s q d z (hu_only hH hl hO hq) (Nat.lt_of_lt_of_le hl hO.size) ha hb hsz hs h0 h1 h2)
 clear hH
 obtain ⟨r1, r2, r3⟩ := or2_rng d a b s ha hb
 unfold median
 dsimp only
 generalize hx : order2 ltInt d a b s = x at *
 obtain ⟨x1, x2, x3⟩ := x
 dsimp only at r1 r2 r3 ⊢
 obtain ⟨t1, t2, t3⟩ := or2_rng d x2 c x3 r2 hc
 generalize hy : order2 ltInt d x2 c x3 = y at *
 obtain ⟨y1, y2, y3⟩ := y
 dsimp only at t1 t2 t3 ⊢
 obtain ⟨u1, u2, u3⟩ := or2_rng d x1 y1 y3 r1 t1
 generalize hz : order2 ltInt d x1 y1 y3 = z at *
 obtain ⟨z1, z2, z3⟩ := z
 dsimp only at u1 u2 u3 ⊢
 have k1 := K.out a b s w (Only.refl _ _) ha hb (by omega) h0 h1 h2
 rw [hx] at k1
 have k2 := fun z o h0 h1 h2 => K.out x2 c x3 z o r2 hc (by omega) h0 h1 h2
 rw [hy] at k2
 have k3 := fun z o h0 h1 h2 => K.out x1 y1 y3 z o r1 t1 (by omega) h0 h1 h2
 rw [hz] at k3
 have K1 := Lib.hid k1
 have K2 := Lib.hid k2
 have K3 := Lib.hid k3
 clear k1 k2 k3 K hx hy hz
 go_enter Tryz.func150, Tryz.ntmps150
 go_wp2_with (first
  | (go_at_call 152; (with_reducible refine K1.out.mono ?_); rintro e w1 ⟨rfl, ⟨g0, g1, g2⟩, o1⟩)
  | (go_at_call 152; (with_reducible refine (K2.out _ o1 g0 g1 g2).mono ?_); rintro e w2 ⟨rfl, ⟨p0, p1, p2⟩, oo2⟩; have o2 := o1.trans oo2; clear oo2)
  | (go_at_call 152; (with_reducible refine (K3.out _ o2 p0 p1 p2).mono ?_); rintro e w3 ⟨rfl, ⟨v0, v1, v2⟩, oo3⟩; have o3 := o2.trans oo3; clear oo3))
 go_ret
 exact ⟨rfl, ⟨v0, v1, v2⟩, o3⟩
end Go.Proofs.YtffaahipgabkhaaGreat
end
section
namespace Go.Proofs.YtffaahipgabkhaaGreat
open Go.RowKit Fg Reg Go.Sort
attribute [local irreducible] Reg.wE Holds
theorem med_rng (d : Array Int) (a b c s : Nat) (ha : a < d.size) (hb : b < d.size) (hc : c < d.size) : (median ltInt d a b c s).1 < d.size ∧ (median ltInt d a b c s).2 ≤ s + 3 := by
 obtain ⟨r1, r2, r3⟩ := or2_rng d a b s ha hb
 obtain ⟨t1, t2, t3⟩ := or2_rng d _ c (order2 ltInt d a b s).2.2 r2 hc
 obtain ⟨u1, u2, u3⟩ := or2_rng d _ _ (order2 ltInt d (order2 ltInt d a b s).2.1 c (order2 ltInt d a b s).2.2).2.2 r1 t1
 unfold median
 exact ⟨u2, by dsimp only at *; omega⟩
theorem mea_c (blk off cap a s q : Nat) (d : Array Int) (w : World) (hH : Holds (Value.int .u64) (w) blk off (d)) (hl : blk < w.heap.size) (hq : ¬ blk = q) (ha : 1 ≤ a) (hb : a + 1 < d.size) (hsz : d.size ≤ 100000) (hs : s ≤ 100000) (h0 : w.cell? ⟨q, 0, none⟩ = some (.int .i64 s)) (h1 : w.frozen? ⟨q, 0, none⟩ = false) (h2 : q < w.heap.size) :
  Calls Tryz.prog 149 #[.slice (some ⟨blk, off, none⟩) d.size cap, .int .i64 a, .pointer (some ⟨q, 0, none⟩)] w fun e w' => e = .returned (.int .i64 ((medianAdjacent ltInt d a s).1 : Nat)) ∧ (w'.cell? ⟨q, 0, none⟩ = some (.int .i64 (((medianAdjacent ltInt d a s).2 : Nat))) ∧ w'.frozen? ⟨q, 0, none⟩ = false ∧ q < w'.heap.size) ∧ Only (fun k => k = q) w w' := by
 obtain ⟨m, rfl⟩ : ∃ m, a = m + 1 := ⟨a - 1, by omega⟩
 have k := med_c blk off cap m (m + 1) (m + 2) s q d w hH hl hq (by omega) (by omega) (by omega) hsz hs h0 h1 h2
 unfold medianAdjacent
 rw [show m + 1 - 1 = m from rfl, show m + 1 + 1 = m + 2 from rfl]
 rw [show ((m + 1 : Nat) : Int) = (m : Int) + 1 from rfl, show ((m + 2 : Nat) : Int) = (m : Int) + 1 + 1 by omega] at k
 have K := Lib.hid k
 have w1 : IntKind.i64.wrap ((m : Int) + 1 - 1) = (m : Int) := by rw [IntKind.wrap_i64]; omega
 have w2 : IntKind.i64.wrap ((m : Int) + 1 + 1) = (m : Int) + 1 + 1 := by rw [IntKind.wrap_i64]; omega
 clear k hH
 generalize median ltInt d m (m + 1) (m + 2) s = r at *
 rw [show ((m + 1 : Nat) : Int) = (m : Int) + 1 from rfl]
 go_enter Tryz.func149, Tryz.ntmps149
 go_wp2_with (go_at_call 150; (with_reducible refine K.out.mono ?_); rintro e w3 ⟨rfl, ⟨v0, v1, v2⟩, o3⟩)
 go_ret
 exact ⟨rfl, ⟨v0, v1, v2⟩, o3⟩
end Go.Proofs.YtffaahipgabkhaaGreat
end
section
namespace Go.Proofs.YtffaahipgabkhaaGreat
open Go.RowKit Fg Reg Go.Sort
attribute [local irreducible] Reg.wE Holds
def hintn : Hint → Int
 | .unknown => 0
 | .increasing => 1
 | .decreasing => 2
theorem tdiv4 (l : Nat) : Int.tdiv (l : Int) 4 = ((l / 4 : Nat) : Int) := by
 rw [Int.tdiv_eq_ediv_of_nonneg (by omega)]; omega
theorem mea_rng (d : Array Int) (a s : Nat) (ha : 1 ≤ a) (hb : a + 1 < d.size) : (medianAdjacent ltInt d a s).1 < d.size ∧ (medianAdjacent ltInt d a s).2 ≤ s + 3 := by
 unfold medianAdjacent
 exact med_rng d (a - 1) a (a + 1) s (by omega) (by omega) hb
theorem bel_q {w z z' : World} (h : Below w.heap.size w z) (o : Only (fun k => k = w.heap.size) z z') : Below w.heap.size w z' :=
 o.below h h.size (fun k hk => by omega)
theorem chp_c (blk off cap a b : Nat) (d : Array Int) (w : World) (hH : Holds (Value.int .u64) (w) blk off (d)) (hl : blk < w.heap.size) (hab : a + 12 < b) (hb : b ≤ d.size) (hsz : d.size ≤ 100000) :
  Calls Tryz.prog 140 #[.slice (some ⟨blk, off, none⟩) d.size cap, .int .i64 a, .int .i64 b] w fun e w' => e = .returned (.tuple #[.int .i64 ((choosePivot ltInt d a b).1 : Nat), .int .i64 (hintn (choosePivot ltInt d a b).2)]) ∧ Below w.heap.size w w' := by
 have W0 : IntKind.i64.wrap ((b : Int) - a) = ((b - a : Nat) : Int) := by rw [IntKind.wrap_i64]; omega
 have W1 := tdiv4 (b - a)
 have hq : ¬ blk = w.heap.size := by omega
 have d8 : decide ((8 : Int) ≤ ((b - a : Nat) : Int)) = true := by simp; omega
 have hI : a + (b - a) / 4 * 1 + 1 < d.size ∧ 1 ≤ a + (b - a) / 4 * 1 := by omega
 have hJ : a + (b - a) / 4 * 2 + 1 < d.size ∧ 1 ≤ a + (b - a) / 4 * 2 := by omega
 have hK : a + (b - a) / 4 * 3 + 1 < d.size ∧ 1 ≤ a + (b - a) / 4 * 3 := by omega
 have eI : (a : Int) + ((b - a : Nat) : Int) / 4 = ((a + (b - a) / 4 * 1 : Nat) : Int) := by omega
 have eJ : (a : Int) + ((b - a : Nat) : Int) / 4 * 2 = ((a + (b - a) / 4 * 2 : Nat) : Int) := by omega
 have eK : (a : Int) + ((b - a : Nat) : Int) / 4 * 3 = ((a + (b - a) / 4 * 3 : Nat) : Int) := by omega
 have hHU : Holds (Value.int .u64) ((w.alloc (.cells #[.int .i64 0] 3))) blk off (d) := hu_below hH hl (Below.alloc (Below.refl _ _) (Nat.le_refl _) _)
 have hlz : blk < (w.alloc (.cells #[.int .i64 0] 3)).heap.size := by simp; omega
 have hbel : Below w.heap.size w (w.alloc (.cells #[.int .i64 0] 3)) := Below.alloc (Below.refl _ _) (Nat.le_refl _) _
 have v0 : (w.alloc (.cells #[.int .i64 0] 3)).cell? ⟨w.heap.size, 0, none⟩ = some (.int .i64 ((0 : Nat) : Int)) := by simp [go_sem]
 have v1 : (w.alloc (.cells #[.int .i64 0] 3)).frozen? ⟨w.heap.size, 0, none⟩ = false := by simp [go_sem]
 have v2 : w.heap.size < (w.alloc (.cells #[.int .i64 0] 3)).heap.size := by simp
 by_cases h50 : 50 ≤ b - a
 ·have d50 : decide ((50 : Int) ≤ ((b - a : Nat) : Int)) = true := by simp; omega
  have hcp : choosePivot ltInt d a b = ((median ltInt d (medianAdjacent ltInt d (a + (b - a) / 4 * 1) 0).1 (medianAdjacent ltInt d (a + (b - a) / 4 * 2) (medianAdjacent ltInt d (a + (b - a) / 4 * 1) 0).2).1 (medianAdjacent ltInt d (a + (b - a) / 4 * 3) (medianAdjacent ltInt d (a + (b - a) / 4 * 2) (medianAdjacent ltInt d (a + (b - a) / 4 * 1) 0).2).2).1 (medianAdjacent ltInt d (a + (b - a) / 4 * 3) (medianAdjacent ltInt d (a + (b - a) / 4 * 2) (medianAdjacent ltInt d (a + (b - a) / 4 * 1) 0).2).2).2).1, if (median ltInt d (medianAdjacent ltInt d (a + (b - a) / 4 * 1) 0).1 (medianAdjacent ltInt d (a + (b - a) / 4 * 2) (medianAdjacent ltInt d (a + (b - a) / 4 * 1) 0).2).1 (medianAdjacent ltInt d (a + (b - a) / 4 * 3) (medianAdjacent ltInt d (a + (b - a) / 4 * 2) (medianAdjacent ltInt d (a + (b - a) / 4 * 1) 0).2).2).1 (medianAdjacent ltInt d (a + (b - a) / 4 * 3) (medianAdjacent ltInt d (a + (b - a) / 4 * 2) (medianAdjacent ltInt d (a + (b - a) / 4 * 1) 0).2).2).2).2 = 0 then Hint.increasing else if (median ltInt d (medianAdjacent ltInt d (a + (b - a) / 4 * 1) 0).1 (medianAdjacent ltInt d (a + (b - a) / 4 * 2) (medianAdjacent ltInt d (a + (b - a) / 4 * 1) 0).2).1 (medianAdjacent ltInt d (a + (b - a) / 4 * 3) (medianAdjacent ltInt d (a + (b - a) / 4 * 2) (medianAdjacent ltInt d (a + (b - a) / 4 * 1) 0).2).2).1 (medianAdjacent ltInt d (a + (b - a) / 4 * 3) (medianAdjacent ltInt d (a + (b - a) / 4 * 2) (medianAdjacent ltInt d (a + (b - a) / 4 * 1) 0).2).2).2).2 = 12 then Hint.decreasing else Hint.unknown) := by
   unfold choosePivot
   dsimp only
   rw [if_pos (show b - a ≥ 8 by omega), if_pos (show b - a ≥ 50 from h50)]
  rw [hcp]
  clear hcp
  generalize a + (b - a) / 4 * 1 = I at *
  generalize a + (b - a) / 4 * 2 = J at *
  generalize a + (b - a) / 4 * 3 = K at *
  have g1 := mea_rng d I 0 hI.2 hI.1
  have K1 := Lib.hid (fun z h hz h0 h1 h2 => mea_c blk off cap I 0 w.heap.size d z h hz hq hI.2 hI.1 hsz (by omega) h0 h1 h2)
  generalize medianAdjacent ltInt d I 0 = r1 at *
  obtain ⟨R1, S1⟩ := r1
  dsimp only at *
  have g2 := mea_rng d J S1 hJ.2 hJ.1
  have K2 := Lib.hid (fun z h hz h0 h1 h2 => mea_c blk off cap J S1 w.heap.size d z h hz hq hJ.2 hJ.1 hsz (by omega) h0 h1 h2)
  generalize medianAdjacent ltInt d J S1 = r2 at *
  obtain ⟨R2, S2⟩ := r2
  dsimp only at *
  have g3 := mea_rng d K S2 hK.2 hK.1
  have K3 := Lib.hid (fun z h hz h0 h1 h2 => mea_c blk off cap K S2 w.heap.size d z h hz hq hK.2 hK.1 hsz (by omega) h0 h1 h2)
  generalize medianAdjacent ltInt d K S2 = r3 at *
  obtain ⟨R3, S3⟩ := r3
  dsimp only at *
  have KM := Lib.hid (fun z h hz h0 h1 h2 => med_c blk off cap R1 R2 R3 S3 w.heap.size d z h hz hq g1.1 g2.1 g3.1 hsz (by omega) h0 h1 h2)
  generalize median ltInt d R1 R2 R3 S3 = r4 at *
  obtain ⟨R4, S4⟩ := r4
  dsimp only at *
  clear hI hJ hK g1 g2 g3 hH h50
  go_enter Tryz.func140, Tryz.ntmps140
  by_cases hs0 : S4 = 0
  ·subst hs0
   go_wp2_with (first | (go_at_call 149; (with_reducible refine (K1.out _ hHU hlz v0 v1 v2).mono ?_); clear v0 v1 v2; rintro e w3 ⟨rfl, ⟨v0, v1, v2⟩, o3⟩; replace hHU := hu_only hHU hlz o3 hq; replace hlz := Nat.lt_of_lt_of_le hlz o3.size; replace hbel := bel_q hbel o3; clear o3) | (go_at_call 149; (with_reducible refine (K2.out _ hHU hlz v0 v1 v2).mono ?_); clear v0 v1 v2; rintro e w4 ⟨rfl, ⟨v0, v1, v2⟩, o3⟩; replace hHU := hu_only hHU hlz o3 hq; replace hlz := Nat.lt_of_lt_of_le hlz o3.size; replace hbel := bel_q hbel o3; clear o3) | (go_at_call 149; (with_reducible refine (K3.out _ hHU hlz v0 v1 v2).mono ?_); clear v0 v1 v2; rintro e w5 ⟨rfl, ⟨v0, v1, v2⟩, o3⟩; replace hHU := hu_only hHU hlz o3 hq; replace hlz := Nat.lt_of_lt_of_le hlz o3.size; replace hbel := bel_q hbel o3; clear o3) | (go_at_call 150; (with_reducible refine (KM.out _ hHU hlz v0 v1 v2).mono ?_); clear v0 v1 v2; rintro e w9 ⟨rfl, ⟨v0, v1, v2⟩, o3⟩; replace hbel := bel_q hbel o3; clear o3 hHU hlz))
   go_ret2
   exact ⟨rfl, hbel⟩
  ·by_cases hs1 : S4 = 12
   ·subst hs1
    rw [if_neg hs0, if_pos rfl]
    go_wp2_with (first | (go_at_call 149; (with_reducible refine (K1.out _ hHU hlz v0 v1 v2).mono ?_); clear v0 v1 v2; rintro e w3 ⟨rfl, ⟨v0, v1, v2⟩, o3⟩; replace hHU := hu_only hHU hlz o3 hq; replace hlz := Nat.lt_of_lt_of_le hlz o3.size; replace hbel := bel_q hbel o3; clear o3) | (go_at_call 149; (with_reducible refine (K2.out _ hHU hlz v0 v1 v2).mono ?_); clear v0 v1 v2; rintro e w4 ⟨rfl, ⟨v0, v1, v2⟩, o3⟩; replace hHU := hu_only hHU hlz o3 hq; replace hlz := Nat.lt_of_lt_of_le hlz o3.size; replace hbel := bel_q hbel o3; clear o3) | (go_at_call 149; (with_reducible refine (K3.out _ hHU hlz v0 v1 v2).mono ?_); clear v0 v1 v2; rintro e w5 ⟨rfl, ⟨v0, v1, v2⟩, o3⟩; replace hHU := hu_only hHU hlz o3 hq; replace hlz := Nat.lt_of_lt_of_le hlz o3.size; replace hbel := bel_q hbel o3; clear o3) | (go_at_call 150; (with_reducible refine (KM.out _ hHU hlz v0 v1 v2).mono ?_); clear v0 v1 v2; rintro e w9 ⟨rfl, ⟨v0, v1, v2⟩, o3⟩; replace hbel := bel_q hbel o3; clear o3 hHU hlz))
    go_ret2
    exact ⟨rfl, hbel⟩
   ·have t0 : decide ((S4 : Int) = 0) = false := by simp; omega
    have t1 : decide ((S4 : Int) = 12) = false := by simp; omega
    have t2 : ((S4 : Int) == 0) = false := by simp; omega
    have t3 : ((S4 : Int) == 12) = false := by simp; omega
    rw [if_neg hs0, if_neg hs1]
    go_wp2_with (first | (go_at_call 149; (with_reducible refine (K1.out _ hHU hlz v0 v1 v2).mono ?_); clear v0 v1 v2; rintro e w3 ⟨rfl, ⟨v0, v1, v2⟩, o3⟩; replace hHU := hu_only hHU hlz o3 hq; replace hlz := Nat.lt_of_lt_of_le hlz o3.size; replace hbel := bel_q hbel o3; clear o3) | (go_at_call 149; (with_reducible refine (K2.out _ hHU hlz v0 v1 v2).mono ?_); clear v0 v1 v2; rintro e w4 ⟨rfl, ⟨v0, v1, v2⟩, o3⟩; replace hHU := hu_only hHU hlz o3 hq; replace hlz := Nat.lt_of_lt_of_le hlz o3.size; replace hbel := bel_q hbel o3; clear o3) | (go_at_call 149; (with_reducible refine (K3.out _ hHU hlz v0 v1 v2).mono ?_); clear v0 v1 v2; rintro e w5 ⟨rfl, ⟨v0, v1, v2⟩, o3⟩; replace hHU := hu_only hHU hlz o3 hq; replace hlz := Nat.lt_of_lt_of_le hlz o3.size; replace hbel := bel_q hbel o3; clear o3) | (go_at_call 150; (with_reducible refine (KM.out _ hHU hlz v0 v1 v2).mono ?_); clear v0 v1 v2; rintro e w9 ⟨rfl, ⟨v0, v1, v2⟩, o3⟩; replace hbel := bel_q hbel o3; clear o3 hHU hlz))
    go_ret2
    exact ⟨rfl, hbel⟩
 ·have d50 : decide ((50 : Int) ≤ ((b - a : Nat) : Int)) = false := by simp; omega
  have hcp : choosePivot ltInt d a b = ((median ltInt d (a + (b - a) / 4 * 1) (a + (b - a) / 4 * 2) (a + (b - a) / 4 * 3) 0).1, if (median ltInt d (a + (b - a) / 4 * 1) (a + (b - a) / 4 * 2) (a + (b - a) / 4 * 3) 0).2 = 0 then Hint.increasing else if (median ltInt d (a + (b - a) / 4 * 1) (a + (b - a) / 4 * 2) (a + (b - a) / 4 * 3) 0).2 = 12 then Hint.decreasing else Hint.unknown) := by
   unfold choosePivot
   dsimp only
   rw [if_pos (show b - a ≥ 8 by omega), if_neg (show ¬ b - a ≥ 50 from h50)]
  rw [hcp]
  clear hcp
  generalize a + (b - a) / 4 * 1 = I at *
  generalize a + (b - a) / 4 * 2 = J at *
  generalize a + (b - a) / 4 * 3 = K at *
  have KM := Lib.hid (fun z h hz h0 h1 h2 => med_c blk off cap I J K 0 w.heap.size d z h hz hq (by omega) (by omega) (by omega) hsz (by omega) h0 h1 h2)
  generalize median ltInt d I J K 0 = r4 at *
  obtain ⟨R4, S4⟩ := r4
  dsimp only at *
  clear hI hJ hK hH h50
  go_enter Tryz.func140, Tryz.ntmps140
  by_cases hs0 : S4 = 0
  ·subst hs0
   go_wp2_with (first | (go_at_call 150; (with_reducible refine (KM.out _ hHU hlz v0 v1 v2).mono ?_); clear v0 v1 v2; rintro e w9 ⟨rfl, ⟨v0, v1, v2⟩, o3⟩; replace hbel := bel_q hbel o3; clear o3 hHU hlz))
   go_ret2
   exact ⟨rfl, hbel⟩
  ·by_cases hs1 : S4 = 12
   ·subst hs1
    rw [if_neg hs0, if_pos rfl]
    go_wp2_with (first | (go_at_call 150; (with_reducible refine (KM.out _ hHU hlz v0 v1 v2).mono ?_); clear v0 v1 v2; rintro e w9 ⟨rfl, ⟨v0, v1, v2⟩, o3⟩; replace hbel := bel_q hbel o3; clear o3 hHU hlz))
    go_ret2
    exact ⟨rfl, hbel⟩
   ·have t0 : decide ((S4 : Int) = 0) = false := by simp; omega
    have t1 : decide ((S4 : Int) = 12) = false := by simp; omega
    have t2 : ((S4 : Int) == 0) = false := by simp; omega
    have t3 : ((S4 : Int) == 12) = false := by simp; omega
    rw [if_neg hs0, if_neg hs1]
    go_wp2_with (first | (go_at_call 150; (with_reducible refine (KM.out _ hHU hlz v0 v1 v2).mono ?_); clear v0 v1 v2; rintro e w9 ⟨rfl, ⟨v0, v1, v2⟩, o3⟩; replace hbel := bel_q hbel o3; clear o3 hHU hlz))
    go_ret2
    exact ⟨rfl, hbel⟩
end Go.Proofs.YtffaahipgabkhaaGreat
end
section
namespace Go.Proofs.YtffaahipgabkhaaGreat
open Go.RowKit Fg Reg Go.Sort
attribute [local irreducible] Reg.wE Holds
section
attribute [local semireducible] Holds
theorem hu_swx {blk off : Nat} {z : World} {dd : Array Int} (h : Holds (Value.int .u64) (z) blk off (dd)) (i j : Nat) (hi : i < dd.size) (hj : j < dd.size) (hl : blk < z.heap.size) :
  Holds (Value.int .u64) ((z.setCell ⟨blk, off + i, none⟩ (.int .u64 dd[j]!)).setCell ⟨blk, off + j, none⟩ (.int .u64 dd[i]!)) blk off ((swp dd i j)) := fun k hk => by
 have hk' : k < dd.size := by simpa [swp] using hk
 obtain ⟨g1, g2⟩ := h k hk'
 obtain ⟨a1, -⟩ := h j hj
 obtain ⟨b1, -⟩ := h i hi
 unfold swp
 rcases Classical.em (k = j) with rfl | hkj
 ·rw [getElem!_set_same _ _ _ (by simpa using hk')]
  by_cases hki : k = i
  ·subst hki
   constructor <;> simp [go_sem, g1, g2, b1]
  ·constructor <;> simp [go_sem, g1, g2, b1, show ¬ off + k = off + i by omega]
 ·rw [getElem!_set_other _ _ _ _ hkj]
  rcases Classical.em (k = i) with rfl | hki
  ·rw [getElem!_set_same _ _ _ hk']
   constructor <;> simp [go_sem, g1, g2, a1, b1, show ¬ off + k = off + j by omega]
  ·rw [getElem!_set_other _ _ _ _ hki]
   constructor <;> simp [go_sem, g1, g2, show ¬ off + k = off + i by omega, show ¬ off + k = off + j by omega]
end
theorem swp_size (d : Array Int) (i j : Nat) : (swp d i j).size = d.size := by simp [swp]
theorem sif_end (hi first r : Nat) (d : Array Int) (h : 2 * r + 1 ≥ hi) : siftDown ltInt hi first r d = d := by
 rw [siftDown, dif_pos h]
theorem sif_stop1 (hi first r : Nat) (d : Array Int) (h : ¬ 2 * r + 1 ≥ hi) (hc : (decide (2 * r + 1 + 1 < hi) && ltInt d[first + (2 * r + 1)]! d[first + (2 * r + 1) + 1]!) = false) (hl : ltInt d[first + r]! d[first + (2 * r + 1)]! = false) : siftDown ltInt hi first r d = d := by
 rw [siftDown, dif_neg h, if_neg (by rw [hc]; simp), if_pos (by rw [hl]; rfl)]
theorem sif_go1 (hi first r : Nat) (d : Array Int) (h : ¬ 2 * r + 1 ≥ hi) (hc : (decide (2 * r + 1 + 1 < hi) && ltInt d[first + (2 * r + 1)]! d[first + (2 * r + 1) + 1]!) = false) (hl : ltInt d[first + r]! d[first + (2 * r + 1)]! = true) : siftDown ltInt hi first r d = siftDown ltInt hi first (2 * r + 1) (swp d (first + r) (first + (2 * r + 1))) := by
 rw [siftDown, dif_neg h, if_neg (by rw [hc]; simp), if_neg (by rw [hl]; simp)]
theorem sif_stop2 (hi first r : Nat) (d : Array Int) (h : ¬ 2 * r + 1 ≥ hi) (hc : (decide (2 * r + 1 + 1 < hi) && ltInt d[first + (2 * r + 1)]! d[first + (2 * r + 1) + 1]!) = true) (hl : ltInt d[first + r]! d[first + (2 * r + 2)]! = false) : siftDown ltInt hi first r d = d := by
 rw [siftDown, dif_neg h, if_pos (by rw [hc]), if_pos (by rw [hl]; rfl)]
theorem sif_go2 (hi first r : Nat) (d : Array Int) (h : ¬ 2 * r + 1 ≥ hi) (h2 : 2 * r + 2 < hi) (hc : (decide (2 * r + 1 + 1 < hi) && ltInt d[first + (2 * r + 1)]! d[first + (2 * r + 1) + 1]!) = true) (hl : ltInt d[first + r]! d[first + (2 * r + 2)]! = true) : siftDown ltInt hi first r d = siftDown ltInt hi first (2 * r + 2) (swp d (first + r) (first + (2 * r + 2))) := by
 rw [siftDown, dif_neg h, if_pos (by rw [hc]), if_neg (by rw [hl]; simp), dif_pos h2]
end Go.Proofs.YtffaahipgabkhaaGreat
end
