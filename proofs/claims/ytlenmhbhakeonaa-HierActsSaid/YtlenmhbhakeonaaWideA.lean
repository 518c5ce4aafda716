import Derived.Test.YtlenmhbhakeonaaBaseA
import Derived.Test.YtlenmhbhakeonaaMathA
namespace Go.Proofs.Ytlenmhbhakeonaa
set_option linter.unusedVariables false
set_option linter.unusedSimpArgs false
set_option maxRecDepth 100000
open Go.RowKit Fg

def cmp (x y : Int) : Int := if x = y then 0 else if x < y then -1 else 1

end Go.Proofs.Ytlenmhbhakeonaa

namespace Go.Proofs.Ytlenmhbhakeonaa
set_option linter.unusedVariables false
set_option linter.unusedSimpArgs false
set_option maxRecDepth 100000
open Go.RowKit Fg Reg

end Go.Proofs.Ytlenmhbhakeonaa

namespace Go.Proofs.Ytlenmhbhakeonaa
set_option linter.unusedVariables false
set_option linter.unusedSimpArgs false
set_option maxRecDepth 100000
open Go.RowKit Fg Reg

theorem bring1 {r c : Int} (k : Nat) (hr : In r) (hc : In c) : bits .or .u64 (IntKind.u64.wrap (r * 2)) (bits .and .u64 (c / 2 ^ (63 - k)) 1) = IntKind.u64.wrap (r * 2) + c / 2 ^ (63 - k) % 2 := by
  have h : In (c / 2 ^ (63 - k)) := in_ediv hc (Int.pow_pos (by decide))
  rw [and_one h]
  refine or_one (in_wrap _) ?_ (by omega)
  rw [wrap_u64]; omega
theorem bring2 {r c : Int} (k : Nat) (hr : 0 ≤ r ∧ r * 2 ≤ 18446744073709551615) (hc : In c) : bits .or .u64 (r * 2) (bits .and .u64 (c / 2 ^ (63 - k)) 1) = r * 2 + c / 2 ^ (63 - k) % 2 := by
  have h : In (c / 2 ^ (63 - k)) := in_ediv hc (Int.pow_pos (by decide))
  rw [and_one h]
  exact or_one (by unfold In; omega) (by omega) (by omega)
theorem bring3 {q : Int} (hq : 0 ≤ q ∧ q ≤ 9223372036854775807) : bits .or .u64 (q * 2) 1 = q * 2 + 1 :=
  or_one (by unfold In; omega) (by omega) (by omega)

end Go.Proofs.Ytlenmhbhakeonaa

namespace Go.Proofs.Ytlenmhbhakeonaa
set_option linter.unusedVariables false
set_option linter.unusedSimpArgs false
set_option maxRecDepth 100000
open Go.RowKit Fg Reg

/-- The cells of an array of 39 bytes that has been filled from the end on. -/
def Filled (w : World) (b k : Nat) (ds : List Int) : Prop :=
  (∀ j, j < 39 → ∃ x, w.cell? ⟨b, j, none⟩ = some (.int .u8 x)) ∧ (∀ j, j < 39 → w.frozen? ⟨b, j, none⟩ = false) ∧ ∀ j x, ds[j]? = some x → w.cell? ⟨b, 39 - k + j, none⟩ = some (.int .u8 x)
theorem Filled.below {w w' : World} {b k : Nat} {ds : List Int} (h : Filled w b k ds) (hb : Below w.heap.size w w') (hlt : b < w.heap.size) : Filled w' b k ds :=
  ⟨fun j hj => let ⟨x, hx⟩ := h.1 j hj; ⟨x, (hb.cell (p := ⟨b, j, none⟩) hlt).trans hx⟩, fun j hj => (hb.frozen (p := ⟨b, j, none⟩) hlt).trans (h.2.1 j hj), fun j x hj => (hb.cell (p := ⟨b, _, none⟩) hlt).trans (h.2.2 j x hj)⟩

theorem Filled.put {w : World} {b k : Nat} {ds : List Int} (h : Filled w b k ds) (hk : k < 39) (x : Int) : Filled (w.setCell ⟨b, 39 - k - 1, none⟩ (.int .u8 x)) b (k + 1) (x :: ds) := by
  obtain ⟨h1, h2, h3⟩ := h
  refine ⟨fun j hj => ?_, fun j hj => by rw [World.frozen?_setCell]; exact h2 j hj, fun j y hj => ?_⟩
  · obtain ⟨y, hy⟩ := h1 j hj
    by_cases e : 39 - k - 1 = j
    · subst e; exact ⟨x, World.cell?_setCell_same w _ _ hy⟩
    · exact ⟨y, (World.cell?_setCell_other w _ _ _ (fun h => e (congrArg Addr.off h))).trans hy⟩
  · cases j with
    | zero =>
      have hx : x = y := by simpa using hj
      subst hx
      obtain ⟨z, hz⟩ := h1 (39 - k - 1) (by omega)
      have : (⟨b, 39 - (k + 1) + 0, none⟩ : Addr) = ⟨b, 39 - k - 1, none⟩ := by rw [show 39 - (k + 1) + 0 = 39 - k - 1 by omega]
      rw [this]
      exact World.cell?_setCell_same w _ _ hz
    | succ j =>
      have hj' : ds[j]? = some y := by simpa using hj
      have := h3 j y hj'
      rw [show 39 - (k + 1) + (j + 1) = 39 - k + j by omega]
      refine (World.cell?_setCell_other w _ _ _ (fun h => ?_)).trans this
      have : 39 - k - 1 = 39 - k + j := congrArg Addr.off h
      omega
theorem Filled.far {w : World} {b k : Nat} {ds : List Int} (h : Filled w b k ds) (p : Addr) (hp : p.block ≠ b) (v : Value) : Filled (w.setCell p v) b k ds :=
  ⟨fun j hj => let ⟨x, hx⟩ := h.1 j hj; ⟨x, (World.cell?_setCell_other w _ _ _ (fun e => hp (by rw [e]))).trans hx⟩, fun j hj => by rw [World.frozen?_setCell]; exact h.2.1 j hj, fun j x hj => (World.cell?_setCell_other w _ _ _ (fun e => hp (by rw [e]))).trans (h.2.2 j x hj)⟩
theorem Filled.alloc {w : World} {b k : Nat} {ds : List Int} (h : Filled w b k ds) (hlt : b < w.heap.size) (o : Obj) : Filled (w.alloc o) b k ds :=
  h.below ((Below.refl _ _).alloc (Nat.le_refl _) o) hlt

theorem rep_get {n j : Nat} (h : j < n) (v : Value) : (List.replicate n v).toArray[j]? = some v := by simp [h]
end Go.Proofs.Ytlenmhbhakeonaa
