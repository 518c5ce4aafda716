/- The law's own example; spans do not meet. -/
import Derived.Test.YtdahjhokcjfioaaLp2
namespace Go.Proofs.Ytdahjhokcjfioaa
set_option linter.unusedVariables false
set_option linter.unusedSimpArgs false
set_option maxRecDepth 100000
open Go.RowKit Fg Reg
attribute [local irreducible] Reg.wE

theorem eqSp (a b c d : Int) (o : Bool) (w : World) : (Op.equalIn 10000 222 (.agg #[.int .u64 a, .int .u64 b, .int .i64 c, .int .i64 d, .bool o]) (.agg #[.int .u64 a, .int .u64 b, .int .i64 c, .int .i64 d, .bool o])).run Try.prog w = .ok true w := by
  have hz : ∀ w, (sizeOf 28).run Try.prog w = .ok 1 w := fun w => by kernel_rfl
  have ha : ∀ w, (isAgg 28).run Try.prog w = .ok false w := fun w => by kernel_rfl
  have hz1 : ∀ w, (sizeOf 3).run Try.prog w = .ok 1 w := fun w => by kernel_rfl
  have ha1 : ∀ w, (isAgg 3).run Try.prog w = .ok false w := fun w => by kernel_rfl
  have hz2 : ∀ w, (sizeOf 4).run Try.prog w = .ok 1 w := fun w => by kernel_rfl
  have ha2 : ∀ w, (isAgg 4).run Try.prog w = .ok false w := fun w => by kernel_rfl
  have u1 := Try.underlying28
  have u2 := Try.underlying3
  have u3 := Try.underlying4
  have hS : Try.prog.underlying 222 = some (.struct (Try.prog.fieldsOf 222)) := by kernel_rfl
  have hp : Try.prog.stoodInHeld 222 = false := by kernel_rfl
  rw [show (10000 : Nat) = 9999 + 1 from rfl, run_equalIn_agg w 9999 222 _ _ hS hp]
  simp only [Program.fieldsOf, Try.underlying222]
  go_simp
theorem heap_alloc_at {w : World} {o : Obj} {b : Nat} (h : b = w.heap.size) : (w.alloc o).heap[b]? = some o := by subst h; exact heap_alloc_last w o
theorem two_of (a a2 : Option Addr) (c c2 : Nat) (z : World) (hE : EvsV z a es5) (hZ : IntsV z a2 [3]) :
    Calls Try.prog 119 #[.slice a 5 c, .slice a2 1 c2] z fun e w' => (∃ g cap, e = .returned (.slice (some ⟨g, 0, none⟩) 2 cap) ∧ z.heap.size ≤ g ∧ (w'.cell? ⟨g, 0, none⟩ = some (.int .u64 5) ∧ w'.cell? ⟨g, 1, none⟩ = some (.int .u64 5) ∧ w'.cell? ⟨g, 2, none⟩ = some (.int .i64 0) ∧ w'.cell? ⟨g, 3, none⟩ = some (.int .i64 1) ∧ w'.cell? ⟨g, 4, none⟩ = some (.bool false) ∧ w'.cell? ⟨g, 5, none⟩ = some (.int .u64 9) ∧ w'.cell? ⟨g, 6, none⟩ = some (.int .u64 0) ∧ w'.cell? ⟨g, 7, none⟩ = some (.int .i64 2) ∧ w'.cell? ⟨g, 8, none⟩ = some (.int .i64 0) ∧ w'.cell? ⟨g, 9, none⟩ = some (.bool true)) ∧ g < w'.heap.size) ∧ EvsV w' a es5 ∧ Below z.heap.size z w' :=
  (ofv_c [3] es5 a a2 c c2 (by decide) (by decide) z hE hZ).mono fun e w' ⟨⟨ao, cap, he, hS⟩, hb⟩ => by
    have e1 : (spsrun [3] es5 es5.length).rows = [⟨5, 5, 0, 1, false⟩, ⟨9, 0, 2, 0, true⟩] := es5_3
    rw [e1] at he hS
    obtain ⟨g, rfl, h0, h1, h2⟩ := hS 0 (by simp)
    obtain ⟨g', hg, _, _, h3⟩ := hS 1 (by simp)
    cases hg
    exact ⟨⟨g, cap, he, h0, ⟨h2 0 _ rfl, h2 1 _ rfl, h2 2 _ rfl, h2 3 _ rfl, h2 4 _ rfl, h3 0 _ rfl, h3 1 _ rfl, h3 2 _ rfl, h3 3 _ rfl, h3 4 _ rfl⟩, h1⟩, hE.below hb, hb⟩
theorem ints_block1 {w : World} {b : Nat} {n : Int} {t : TypeId} {fr : Nat × Nat} (hb : w.heap[b]? = some (.cells #[.int .i64 n] t fr)) : IntsV w (some ⟨b, 0, none⟩) [n] := ints_block [n] hb rfl
theorem ev_all {z : World} {a : Option Addr} {es : List Ev} (h : EvsV z a es) (o : Obj) : EvsV (z.alloc o) a es := h.below (Below.alloc (Below.refl _ _) (Nat.le_refl _) o)
end Go.Proofs.Ytdahjhokcjfioaa
