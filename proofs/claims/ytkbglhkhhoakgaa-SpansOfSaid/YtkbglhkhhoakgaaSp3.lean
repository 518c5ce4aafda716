/- The law's own example; spans do not meet. -/
import Derived.Test.YtkbglhkhhoakgaaSp2
namespace Go.Proofs.Ytkbglhkhhoakgaa
set_option linter.unusedVariables false
set_option linter.unusedSimpArgs false
set_option maxRecDepth 100000
open Go.RowKit Fg Reg
attribute [local irreducible] Reg.wE

theorem eqSp (a b c d : Int) (o : Bool) (w : World) : (Op.equalIn 10000 67 (.agg #[.int .u64 a, .int .u64 b, .int .i64 c, .int .i64 d, .bool o]) (.agg #[.int .u64 a, .int .u64 b, .int .i64 c, .int .i64 d, .bool o])).run Try.prog w = .ok true w := by
  have hz : ∀ w, (sizeOf 45).run Try.prog w = .ok 1 w := fun w => by kernel_rfl
  have ha : ∀ w, (isAgg 45).run Try.prog w = .ok false w := fun w => by kernel_rfl
  have hz1 : ∀ w, (sizeOf 3).run Try.prog w = .ok 1 w := fun w => by kernel_rfl
  have ha1 : ∀ w, (isAgg 3).run Try.prog w = .ok false w := fun w => by kernel_rfl
  have hz2 : ∀ w, (sizeOf 4).run Try.prog w = .ok 1 w := fun w => by kernel_rfl
  have ha2 : ∀ w, (isAgg 4).run Try.prog w = .ok false w := fun w => by kernel_rfl
  have u1 := Try.underlying45
  have u2 := Try.underlying3
  have u3 := Try.underlying4
  have hS : Try.prog.underlying 67 = some (.struct (Try.prog.fieldsOf 67)) := by kernel_rfl
  have hp : Try.prog.stoodInHeld 67 = false := by kernel_rfl
  rw [show (10000 : Nat) = 9999 + 1 from rfl, run_equalIn_agg w 9999 67 _ _ hS hp]
  simp only [Program.fieldsOf, Try.underlying67]
  go_simp
theorem heap_alloc_at {w : World} {o : Obj} {b : Nat} (h : b = w.heap.size) : (w.alloc o).heap[b]? = some o := by subst h; exact heap_alloc_last w o
theorem two_of (a a2 : Option Addr) (c c2 : Nat) (z : World) (hE : EvsV z a es5) (hZ : IntsV z a2 [3]) :
    Calls Try.prog 30 #[.slice a 5 c, .slice a2 1 c2] z fun e w' => (∃ g cap, e = .returned (.slice (some ⟨g, 0, none⟩) 2 cap) ∧ z.heap.size ≤ g ∧ (w'.cell? ⟨g, 0, none⟩ = some (.int .u64 5) ∧ w'.cell? ⟨g, 1, none⟩ = some (.int .u64 5) ∧ w'.cell? ⟨g, 2, none⟩ = some (.int .i64 0) ∧ w'.cell? ⟨g, 3, none⟩ = some (.int .i64 1) ∧ w'.cell? ⟨g, 4, none⟩ = some (.bool false) ∧ w'.cell? ⟨g, 5, none⟩ = some (.int .u64 9) ∧ w'.cell? ⟨g, 6, none⟩ = some (.int .u64 0) ∧ w'.cell? ⟨g, 7, none⟩ = some (.int .i64 2) ∧ w'.cell? ⟨g, 8, none⟩ = some (.int .i64 0) ∧ w'.cell? ⟨g, 9, none⟩ = some (.bool true)) ∧ g < w'.heap.size) ∧ EvsV w' a es5 ∧ Below z.heap.size z w' :=
  (ofv_c [3] es5 a a2 c c2 (by decide) (by decide) z hE hZ).mono fun e w' ⟨⟨ao, cap, he, hS⟩, hb⟩ => by
    have e1 : (srun [3] es5 es5.length).rows = [⟨5, 5, 0, 1, false⟩, ⟨9, 0, 2, 0, true⟩] := es5_3
    rw [e1] at he hS
    obtain ⟨g, rfl, h0, h1, h2⟩ := hS 0 (by simp)
    obtain ⟨g', hg, _, _, h3⟩ := hS 1 (by simp)
    cases hg
    exact ⟨⟨g, cap, he, h0, ⟨h2 0 _ rfl, h2 1 _ rfl, h2 2 _ rfl, h2 3 _ rfl, h2 4 _ rfl, h3 0 _ rfl, h3 1 _ rfl, h3 2 _ rfl, h3 3 _ rfl, h3 4 _ rfl⟩, h1⟩, hE.below hb, hb⟩
theorem two_b3 (a a2 : Option Addr) (c c2 : Nat) (z : World) (hE : EvsV z a es5) (hZ : IntsV z a2 [3]) :
    Calls Try.prog 34 #[.slice a 5 c, .slice a2 1 c2] z fun e w' => e = .returned (.bool true) ∧ EvsV w' a es5 ∧ Below z.heap.size z w' :=
  (bl_c [3] es5 a a2 c c2 (by decide) (by decide) z hE hZ).mono fun e w' ⟨he, hb⟩ => ⟨he, hE.below hb, hb⟩
theorem two_b4 (a a2 : Option Addr) (c c2 : Nat) (z : World) (hE : EvsV z a es5) (hZ : IntsV z a2 [4]) :
    Calls Try.prog 34 #[.slice a 5 c, .slice a2 1 c2] z fun e w' => e = .returned (.bool false) ∧ EvsV w' a es5 ∧ Below z.heap.size z w' :=
  (bl_c [4] es5 a a2 c c2 (by decide) (by decide) z hE hZ).mono fun e w' ⟨he, hb⟩ => ⟨he, hE.below hb, hb⟩
theorem two_b (n : Int) (a a2 : Option Addr) (c c2 : Nat) (z : World) (hE : EvsV z a es5) (hZ : IntsV z a2 [n]) (hn : n = 3 ∨ n = 4) :
    Calls Try.prog 34 #[.slice a 5 c, .slice a2 1 c2] z fun e w' => e = .returned (.bool (decide (n = 3))) ∧ EvsV w' a es5 ∧ Below z.heap.size z w' := by
  rcases hn with rfl | rfl
  · exact two_b3 a a2 c c2 z hE hZ
  · exact two_b4 a a2 c c2 z hE hZ
theorem ints_block1 {w : World} {b : Nat} {n : Int} {t : TypeId} {fr : Nat × Nat} (hb : w.heap[b]? = some (.cells #[.int .i64 n] t fr)) : IntsV w (some ⟨b, 0, none⟩) [n] := ints_block [n] hb rfl
theorem ev_all {z : World} {a : Option Addr} {es : List Ev} (h : EvsV z a es) (o : Obj) : EvsV (z.alloc o) a es := h.below (Below.alloc (Below.refl _ _) (Nat.le_refl _) o)
set_option maxHeartbeats 4000000 in
theorem two_c (w : World) : Calls Try.prog 29 #[] w fun ee w' => ee = .returned (.bool true) ∧ Below w.heap.size w w' := by
  have K1 := Lib.hid tw1_c
  have K2 := Lib.hid tw2_c
  have KO := Lib.hid two_of
  have KB := Lib.hid two_b
  have E1 := eqSp 5 5 0 1 false
  have E2 := eqSp 9 0 2 0 true
  go_enter Try.func29, Try.ntmps29
  go_wp2_with (first
    | (go_at_call 60; ((with_reducible refine (K1.out _ _).mono ?_); rintro e w1 ⟨rfl, hbel⟩; obtain ⟨hcc, hff⟩ := bcell hbel; have hsz := hbel.size; (try simp at hsz); have hF : Below w.heap.size w w1 := (by ((repeat' apply And.intro) <;> first | (simp [go_sem, *]; done) | omega | (repeat' (first | with_reducible exact Below.refl _ _ | with_reducible assumption | ((with_reducible refine Below.drew ?_)) | ((with_reducible refine below_drewN ?_ _)) | ((with_reducible refine Below.alloc ?_ ?_ _); rotate_left; focus (first | omega | (simp; done) | (simp; omega))) | ((with_reducible refine Below.setCell ?_ ?_ _); rotate_left; focus (first | omega | (simp; done) | (simp; omega))) | ((with_reducible refine Below.trans ?_ (Below.mono (by with_reducible assumption) ?_)); rotate_left; focus (first | omega | (simp; done) | (simp; omega))))))); go_split_ands; clear hcc hff hbel))
    | (go_at_call 61; ((with_reducible refine (K2.out _ _).mono ?_); rintro e w1 ⟨rfl, hbel⟩; obtain ⟨hcc, hff⟩ := bcell hbel; have hsz := hbel.size; (try simp at hsz); have hF : Below w.heap.size w w1 := (by ((repeat' apply And.intro) <;> first | (simp [go_sem, *]; done) | omega | (repeat' (first | with_reducible exact Below.refl _ _ | with_reducible assumption | ((with_reducible refine Below.drew ?_)) | ((with_reducible refine below_drewN ?_ _)) | ((with_reducible refine Below.alloc ?_ ?_ _); rotate_left; focus (first | omega | (simp; done) | (simp; omega))) | ((with_reducible refine Below.setCell ?_ ?_ _); rotate_left; focus (first | omega | (simp; done) | (simp; omega))) | ((with_reducible refine Below.trans ?_ (Below.mono (by with_reducible assumption) ?_)); rotate_left; focus (first | omega | (simp; done) | (simp; omega))))))); go_split_ands; clear hcc hff hbel))
    | (go_at_call 30; (with_reducible refine (KO.out _ _ _ _ _ (ev_all (evs_block es5 (heap_alloc_last w1 _) (by (simp [es5, Ev.cells]; done))) _) (ints_block [3] (heap_alloc_at (by (simp; done))) (by (simp; done)))).mono ?_); rintro e w2 ⟨⟨g, cap, rfl, h0, hC, hg⟩, hE, hbel⟩; (have hsz2 := hbel.size); (try simp at hsz2 h0); have hF : Below w.heap.size w w2 := (by ((repeat' apply And.intro) <;> first | (simp [go_sem, *]; done) | omega | (repeat' (first | with_reducible exact Below.refl _ _ | with_reducible assumption | ((with_reducible refine Below.drew ?_)) | ((with_reducible refine below_drewN ?_ _)) | ((with_reducible refine Below.alloc ?_ ?_ _); rotate_left; focus (first | omega | (simp; done) | (simp; omega))) | ((with_reducible refine Below.setCell ?_ ?_ _); rotate_left; focus (first | omega | (simp; done) | (simp; omega))) | ((with_reducible refine Below.trans ?_ (Below.mono (by with_reducible assumption) ?_)); rotate_left; focus (first | omega | (simp; done) | (simp; omega))))))); go_split_ands; clear hbel)
    | (go_at_call 34; (with_reducible refine (KB.out _ _ _ _ _ _ (ev_all hE _) (ints_block1 (heap_alloc_at (by simp))) (by decide)).mono ?_); clear hE; rintro e w3 ⟨rfl, hE, hbel⟩; (have hsz3 := hbel.size); (try simp at hsz3); have hF : Below w.heap.size w w3 := (by ((repeat' apply And.intro) <;> first | (simp [go_sem, *]; done) | omega | (repeat' (first | with_reducible exact Below.refl _ _ | with_reducible assumption | ((with_reducible refine Below.drew ?_)) | ((with_reducible refine below_drewN ?_ _)) | ((with_reducible refine Below.alloc ?_ ?_ _); rotate_left; focus (first | omega | (simp; done) | (simp; omega))) | ((with_reducible refine Below.setCell ?_ ?_ _); rotate_left; focus (first | omega | (simp; done) | (simp; omega))) | ((with_reducible refine Below.trans ?_ (Below.mono (by with_reducible assumption) ?_)); rotate_left; focus (first | omega | (simp; done) | (simp; omega))))))); go_split_ands; clear hbel))
  (go_ret; refine ⟨?_, ?_⟩; (focus (exact rfl)); ((repeat' (first | with_reducible exact Below.refl _ _ | with_reducible assumption | ((with_reducible refine Below.drew ?_)) | ((with_reducible refine below_drewN ?_ _)) | ((with_reducible refine Below.alloc ?_ ?_ _); rotate_left; focus (first | omega | (simp; done) | (simp; omega))) | ((with_reducible refine Below.setCell ?_ ?_ _); rotate_left; focus (first | omega | (simp; done) | (simp; omega))) | ((with_reducible refine Below.trans ?_ (Below.mono (by with_reducible assumption) ?_)); rotate_left; focus (first | omega | (simp; done) | (simp; omega))))); done))
end Go.Proofs.Ytkbglhkhhoakgaa
