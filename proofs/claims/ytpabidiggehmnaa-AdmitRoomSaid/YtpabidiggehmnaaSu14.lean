/- medianOrdered, medianAdjacentOrdered at uint64. -/
import Derived.Test.YtpabidiggehmnaaSu13
namespace Go.Proofs.Ytpabidiggehmnaa
set_option linter.unusedVariables false
set_option linter.unusedSimpArgs false
set_option maxRecDepth 100000
open Go.RowKit Fg Reg Go.Sort
attribute [local irreducible] Reg.wE Holds

theorem or2_rng (d : Array Int) (a b s : Nat) (ha : a < d.size) (hb : b < d.size) : (order2 ltInt d a b s).1 < d.size ∧ (order2 ltInt d a b s).2.1 < d.size ∧ (order2 ltInt d a b s).2.2 ≤ s + 1 := by
  unfold order2
  split <;> exact ⟨by assumption, by assumption, by dsimp only; omega⟩
set_option maxHeartbeats 2000000 in
theorem med_c (blk off cap a b c s q : Nat) (d : Array Int) (w : World) (hH : Holds (Value.int .u64) (w) blk off (d)) (hl : blk < w.heap.size) (hq : ¬ blk = q) (ha : a < d.size) (hb : b < d.size) (hc : c < d.size) (hsz : d.size ≤ 100000) (hs : s ≤ 100000) (h0 : w.cell? ⟨q, 0, none⟩ = some (.int .i64 s)) (h1 : w.frozen? ⟨q, 0, none⟩ = false) (h2 : q < w.heap.size) :
    Calls Try.prog 85 #[.slice (some ⟨blk, off, none⟩) d.size cap, .int .i64 a, .int .i64 b, .int .i64 c, .pointer (some ⟨q, 0, none⟩)] w fun e w' => e = .returned (.int .i64 ((median ltInt d a b c s).1 : Nat)) ∧ (w'.cell? ⟨q, 0, none⟩ = some (.int .i64 (((median ltInt d a b c s).2 : Nat))) ∧ w'.frozen? ⟨q, 0, none⟩ = false ∧ q < w'.heap.size) ∧ Only (fun k => k = q) w w' := by
  have K := Lib.hid (fun (a b s : Nat) (z : World) (hO : Only (fun k => k = q) w z) (ha : a < d.size) (hb : b < d.size) (hs : s ≤ 1000000) (h0 : z.cell? ⟨q, 0, none⟩ = some (.int .i64 s)) (h1 : z.frozen? ⟨q, 0, none⟩ = false) (h2 : q < z.heap.size) => or2_c blk off cap a b s q d z (hu_only hH hl hO hq) (Nat.lt_of_lt_of_le hl hO.size) ha hb hsz hs h0 h1 h2)
  clear hH
  obtain ⟨r1, r2, r3⟩ := or2_rng d a b s ha hb
  unfold median
  dsimp only
  generalize hx : order2 ltInt d a b s = x at *
  obtain ⟨x1, x2, x3⟩ := x
  dsimp only at r1 r2 r3 ⊢
  obtain ⟨t1, t2, t3⟩ := or2_rng d x2 c x3 r2 hc
  generalize hy : order2 ltInt d x2 c x3 = y at *
  obtain ⟨y1, y2, y3⟩ := y
  dsimp only at t1 t2 t3 ⊢
  obtain ⟨u1, u2, u3⟩ := or2_rng d x1 y1 y3 r1 t1
  generalize hz : order2 ltInt d x1 y1 y3 = z at *
  obtain ⟨z1, z2, z3⟩ := z
  dsimp only at u1 u2 u3 ⊢
  have k1 := K.out a b s w (Only.refl _ _) ha hb (by omega) h0 h1 h2
  rw [hx] at k1
  have k2 := fun z o h0 h1 h2 => K.out x2 c x3 z o r2 hc (by omega) h0 h1 h2
  rw [hy] at k2
  have k3 := fun z o h0 h1 h2 => K.out x1 y1 y3 z o r1 t1 (by omega) h0 h1 h2
  rw [hz] at k3
  have K1 := Lib.hid k1
  have K2 := Lib.hid k2
  have K3 := Lib.hid k3
  clear k1 k2 k3 K hx hy hz
  go_enter Try.func85, Try.ntmps85
  go_wp2_with (first
    | (go_at_call 87; (with_reducible refine K1.out.mono ?_); rintro e w1 ⟨rfl, ⟨g0, g1, g2⟩, o1⟩)
    | (go_at_call 87; (with_reducible refine (K2.out _ o1 g0 g1 g2).mono ?_); rintro e w2 ⟨rfl, ⟨p0, p1, p2⟩, oo2⟩; have o2 := o1.trans oo2; clear oo2)
    | (go_at_call 87; (with_reducible refine (K3.out _ o2 p0 p1 p2).mono ?_); rintro e w3 ⟨rfl, ⟨v0, v1, v2⟩, oo3⟩; have o3 := o2.trans oo3; clear oo3))
  go_ret
  exact ⟨rfl, ⟨v0, v1, v2⟩, o3⟩
end Go.Proofs.Ytpabidiggehmnaa
