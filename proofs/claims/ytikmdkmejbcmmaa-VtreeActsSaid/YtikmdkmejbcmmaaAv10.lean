/- The tree's own methods that only read. -/
import Derived.Test.YtikmdkmejbcmmaaAv9
namespace Go.Proofs.Ytikmdkmejbcmmaa
set_option linter.unusedVariables false
set_option linter.unusedSimpArgs false
set_option maxRecDepth 100000
open Go.RowKit Fg Reg
attribute [local irreducible] Reg.wE

structure TR (w : World) (a : Nat) (t : Tr) : Prop where
  r0 : w.cell? ⟨a, 0, none⟩ = some (pt t)
  r1 : w.cell? ⟨a, 1, none⟩ = some (.int .i64 (tl t).length)
  f0 : w.frozen? ⟨a, 0, none⟩ = false
  f1 : w.frozen? ⟨a, 1, none⟩ = false
  lt : a < w.heap.size
  nt : NT w t
  nd : (fp t).Nodup
  bl : bal t
  ss : SS (tl t)
  ha : a ∉ fp t
theorem TR.only {S : Nat → Prop} {w w' : World} {a : Nat} {t : Tr} (h : TR w a t) (ho : Only S w w') (hs : ∀ k, k = a ∨ k ∈ fp t → ¬ S k) : TR w' a t := by
  obtain ⟨r0, r1, f0, f1, lt, nt, nd, bl, ss, ha⟩ := h
  have ha0 := hs a (.inl rfl)
  exact ⟨(ho.cell lt ha0).trans r0, (ho.cell lt ha0).trans r1, (ho.frozen lt ha0).trans f0, (ho.frozen lt ha0).trans f1, Nat.lt_of_lt_of_le lt ho.size, NT.only ho nt fun k hk => hs k (.inr hk), nd, bl, ss, ha⟩
theorem TR.below {w w' : World} {a : Nat} {t : Tr} (h : TR w a t) (hb : Below w.heap.size w w') : TR w' a t := h.only (Only.of_below (S := fun _ => False) hb) fun _ _ h => h
theorem new_c (w : World) : Calls Try.prog 13 #[] w fun e w' => ∃ a, w.heap.size ≤ a ∧ e = .returned (.pointer (some ⟨a, 0, none⟩)) ∧ TR w' a .nil ∧ Below w.heap.size w w' := by
  go_enter Try.func13, Try.ntmps13
  go_wp2
  go_ret
  refine ⟨w.heap.size, Nat.le_refl _, rfl, ⟨by simp [go_sem, pt], by simp [go_sem, tl], by simp [go_sem], by simp [go_sem], by simp, by unfold NT; trivial, by simp [fp], trivial, by simp [SS, tl], by simp [fp]⟩, (Below.refl _ _).alloc (Nat.le_refl _) _⟩
theorem len_c (a : Nat) (t : Tr) (w : World) (h : TR w a t) : Calls Try.prog 28 #[.pointer (some ⟨a, 0, none⟩)] w fun e w' => e = .returned (.int .i64 (tl t).length) ∧ w = w' := by
  obtain ⟨r0, r1, f0, f1, lt, nt, nd, bl, ss, ha⟩ := h
  generalize (tl t).length = n at *
  clear r0 f0 f1 nt nd bl ss ha
  go_enter Try.func28, Try.ntmps28
  go_wp2
  go_ret
  exact ⟨rfl, rfl⟩
theorem len_n (w : World) : Calls Try.prog 28 #[.pointer none] w fun e w' => e = .returned (.int .i64 0) ∧ w = w' := by
  go_enter Try.func28, Try.ntmps28
  go_wp2
  go_ret
  exact ⟨rfl, rfl⟩
theorem height_c (a : Nat) (t : Tr) (w : World) (h : TR w a t) : Calls Try.prog 29 #[.pointer (some ⟨a, 0, none⟩)] w fun e w' => e = .returned (.int .i64 (hgt t)) ∧ w = w' := by
  obtain ⟨r0, r1, f0, f1, lt, nt, nd, bl, ss, ha⟩ := h
  have kh := hei_c t w nt
  obtain ⟨u, hu⟩ := pt_ptr t
  rw [hu] at r0 kh
  generalize hgt t = n at *
  have KH := Lib.hid kh
  clear r1 f0 f1 nt nd bl ss ha kh hu
  go_enter Try.func29, Try.ntmps29
  go_wp2_with (go_at_call 68; (with_reducible refine KH.out.mono ?_); rintro _ w1 ⟨rfl, rfl⟩)
  go_ret
  exact ⟨rfl, rfl⟩
theorem height_n (w : World) : Calls Try.prog 29 #[.pointer none] w fun e w' => e = .returned (.int .i64 0) ∧ w = w' := by
  go_enter Try.func29, Try.ntmps29
  go_wp2
  go_ret
  exact ⟨rfl, rfl⟩
theorem least_c (a : Nat) (t : Tr) (w : World) (h : TR w a t) (hn : isN t = false) : Calls Try.prog 27 #[.pointer (some ⟨a, 0, none⟩)] w fun e w' => e = .returned (.tuple #[.agg #[.int .u64 ((lst t)).ka, .int .i64 ((lst t)).ki, .int .u64 ((lst t)).va, .int .i64 ((lst t)).vi], .bool true]) ∧ Below w.heap.size w w' := by
  obtain ⟨r0, r1, f0, f1, lt, nt, nd, bl, ss, ha⟩ := h
  have kl := fun z hz => lea_c t z hz hn
  obtain ⟨b, hb⟩ := pt_some hn
  generalize lst t = x at *
  rw [hb] at r0
  simp only [hb] at kl
  have KL := Lib.hid kl
  have HT := Lib.hid nt
  clear r1 f0 f1 nt nd bl ss ha kl hb hn
  go_enter Try.func27, Try.ntmps27
  go_wp2_with (go_at_call 67; (with_reducible refine (KL.out _ (NT.below (by first | exact (Below.refl _ _).alloc (Nat.le_refl _) _ | exact ((Below.refl _ _).alloc (Nat.le_refl _) _).drew) HT.out)).mono ?_); rintro _ w1 ⟨rfl, hb1⟩; have hsz := hb1.size; (try simp at hsz); have d0 := hb1.cell (p := ⟨w.heap.size, 0, none⟩) (by simp); have d1 := hb1.cell (p := ⟨w.heap.size, 1, none⟩) (by simp); have d2 := hb1.cell (p := ⟨w.heap.size, 2, none⟩) (by simp); have d3 := hb1.cell (p := ⟨w.heap.size, 3, none⟩) (by simp); have e0 := hb1.frozen (p := ⟨w.heap.size, 0, none⟩) (by simp); have e1 := hb1.frozen (p := ⟨w.heap.size, 1, none⟩) (by simp); have e2 := hb1.frozen (p := ⟨w.heap.size, 2, none⟩) (by simp); have e3 := hb1.frozen (p := ⟨w.heap.size, 3, none⟩) (by simp); simp [go_sem] at d0 d1 d2 d3 e0 e1 e2 e3; have HB1 := Lib.hid hb1; clear hb1)
  refine bodyPost_ret (v := (.tuple #[.agg #[.int .u64 (x).ka, .int .i64 (x).ki, .int .u64 (x).va, .int .i64 (x).vi], .bool true])) (by simp [results, Try.results27, go_sem, *]) rfl ⟨rfl, ?_⟩
  have hB : Below w.heap.size w w1 := by first | exact ((Below.refl w.heap.size w).alloc (Nat.le_refl _) _).trans (HB1.out.mono (by simp)) | exact ((Below.refl w.heap.size w).alloc (Nat.le_refl _) _).drew.trans (HB1.out.mono (by simp))
  (repeat' (first | assumption | exact Below.refl _ _ | refine Below.setCell ?_ (by simp) _ | refine Below.alloc ?_ (by simp) _ | refine Below.drew ?_))
theorem least_e (a : Nat) (w : World) (h : TR w a .nil) : Calls Try.prog 27 #[.pointer (some ⟨a, 0, none⟩)] w fun e w' => e = .returned (.tuple #[.agg #[.int .u64 0, .int .i64 0, .int .u64 0, .int .i64 0], .bool false]) ∧ Below w.heap.size w w' := by
  obtain ⟨r0, r1, f0, f1, lt, nt, nd, bl, ss, ha⟩ := h
  dsimp only [pt] at r0
  clear r1 f0 f1 nt nd bl ss ha
  go_enter Try.func27, Try.ntmps27
  go_wp2
  refine bodyPost_ret (v := (.tuple #[.agg #[.int .u64 0, .int .i64 0, .int .u64 0, .int .i64 0], .bool false])) (by simp [results, Try.results27, go_sem, *]) rfl ⟨rfl, ?_⟩
  (repeat' (first | assumption | exact Below.refl _ _ | refine Below.setCell ?_ (by simp) _ | refine Below.alloc ?_ (by simp) _ | refine Below.drew ?_))
theorem least_n (w : World) : Calls Try.prog 27 #[.pointer none] w fun e w' => e = .returned (.tuple #[.agg #[.int .u64 0, .int .i64 0, .int .u64 0, .int .i64 0], .bool false]) ∧ Below w.heap.size w w' := by
  go_enter Try.func27, Try.ntmps27
  go_wp2
  refine bodyPost_ret (v := (.tuple #[.agg #[.int .u64 0, .int .i64 0, .int .u64 0, .int .i64 0], .bool false])) (by simp [results, Try.results27, go_sem, *]) rfl ⟨rfl, ?_⟩
  (repeat' (first | assumption | exact Below.refl _ _ | refine Below.setCell ?_ (by simp) _ | refine Below.alloc ?_ (by simp) _ | refine Below.drew ?_))
end Go.Proofs.Ytikmdkmejbcmmaa
