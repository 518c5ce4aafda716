/- least. -/
import Derived.Test.YtikmdkmejbcmmaaAv7
namespace Go.Proofs.Ytikmdkmejbcmmaa
set_option linter.unusedVariables false
set_option linter.unusedSimpArgs false
set_option maxRecDepth 100000
open Go.RowKit Fg Reg
attribute [local irreducible] Reg.wE

set_option maxHeartbeats 4000000 in
theorem lea_c (t : Tr) (w : World) (hT : NT w t) (hn : isN t = false) : Calls Try.prog 67 #[pt t] w fun e w' => e = .returned (.agg #[.int .u64 ((lst t)).ka, .int .i64 ((lst t)).ki, .int .u64 ((lst t)).va, .int .i64 ((lst t)).vi]) ∧ Below w.heap.size w w' := by
  obtain ⟨X, hX⟩ : ∃ X, lst t = X := ⟨_, rfl⟩
  rw [hX]
  have HX := Lib.hid hX
  have HT := Lib.hid hT
  obtain ⟨u0, hu0⟩ := pt_ptr t
  rw [hu0]
  have HU0 := Lib.hid hu0
  obtain ⟨N, hN⟩ : ∃ N, hgt t = N := ⟨_, rfl⟩
  have HN := Lib.hid hN
  have HI := Lib.hid hn
  clear hX hT hu0 hN hn
  go_enter Try.func67, Try.ntmps67
  go_wp2
  go_loopg [0] N (fun k p wr => ∃ (t' : Tr), p = pt t' ∧ isN t' = false ∧ NT w t' ∧ lst t' = X ∧ hgt t' ≤ k ∧ Below w.heap.size w wr ∧ (wr.cell? ⟨w.heap.size, 0, none⟩ = some (.int .u64 ((⟨0, 0, 0, 0⟩ : It)).ka) ∧ wr.cell? ⟨w.heap.size, 1, none⟩ = some (.int .i64 ((⟨0, 0, 0, 0⟩ : It)).ki) ∧ wr.cell? ⟨w.heap.size, 2, none⟩ = some (.int .u64 ((⟨0, 0, 0, 0⟩ : It)).va) ∧ wr.cell? ⟨w.heap.size, 3, none⟩ = some (.int .i64 ((⟨0, 0, 0, 0⟩ : It)).vi) ∧ w.heap.size < wr.heap.size) ∧ (wr.frozen? ⟨w.heap.size, 0, none⟩ = false ∧ wr.frozen? ⟨w.heap.size, 1, none⟩ = false ∧ wr.frozen? ⟨w.heap.size, 2, none⟩ = false ∧ wr.frozen? ⟨w.heap.size, 3, none⟩ = false))
  case atStart => exact ⟨t, HU0.out.symm, HI.out, HT.out, HX.out, Nat.le_of_eq HN.out, (Below.refl _ _).alloc (Nat.le_refl _) _, ⟨by simp [go_sem], by simp [go_sem], by simp [go_sem], by simp [go_sem], by simp [go_sem]⟩, ⟨by simp [go_sem], by simp [go_sem], by simp [go_sem], by simp [go_sem]⟩⟩
  case round =>
    obtain ⟨t', rfl, hi, hT, hL, hg, hB, ⟨d0, d1, d2, d3, hs⟩, ⟨f0, f1, f2, f3⟩⟩ := hrel
    cases t' with
    | nil => simp [isN] at hi
    | node b x l r =>
      have hNC := hT.1
      have hTl := hT.2.1
      have hc : ∀ {o : Nat} {v : Value}, w.cell? ⟨b, o, none⟩ = some v → wr.cell? ⟨b, o, none⟩ = some v := fun h => (hB.cell hNC.lt).trans h
      have c0 := hc hNC.c0
      have c1 := hc hNC.c1
      have c2 := hc hNC.c2
      have c3 := hc hNC.c3
      have c4 := hc hNC.c4
      cases l with
      | nil =>
        have ex : x = X := by rw [← hL]; rfl
        subst ex
        have HB := Lib.hid hB
        clear hT hNC hTl hc hL hg hB HX HT HU0 HN HI hi
        dsimp only [pt] at *
        go_wp2
        refine bodyPost_ret (v := .agg #[.int .u64 (x).ka, .int .i64 (x).ki, .int .u64 (x).va, .int .i64 (x).vi]) (by simp [results, Try.results67, go_sem, *]) rfl ⟨rfl, ?_⟩
        first | exact HB.out | exact (((HB.out.setCell (Nat.le_refl _) _).setCell (Nat.le_refl _) _).setCell (Nat.le_refl _) _).setCell (Nat.le_refl _) _
      | node b2 x2 l2 r2 =>
        have HL := Lib.hid (show lst (.node b2 x2 l2 r2) = X by rw [← hL]; rfl)
        have hg2 : hgt (.node b2 x2 l2 r2) < gk := by rw [hgt_node (l := .node b2 x2 l2 r2)] at hg; omega
        have HB := Lib.hid hB
        have HTH := Lib.hid (And.intro (And.intro d0 (And.intro d1 (And.intro d2 (And.intro d3 hs)))) (And.intro f0 (And.intro f1 (And.intro f2 f3))))
        have HTL := Lib.hid hTl
        clear hT hNC hTl hc hL hg hB HX HT HU0 HN HI hi
        dsimp only [pt] at *
        go_wp2
        go_roundg (hgt (.node b2 x2 l2 r2))
        case rel => exact ⟨.node b2 x2 l2 r2, rfl, rfl, HTL.out, HL.out, Nat.le_refl _, HB.out, HTH.out.1, HTH.out.2⟩
        case measure => exact hg2
end Go.Proofs.Ytikmdkmejbcmmaa
