import Derived.Test.YtjicnbdlffpbbaaChecked
import Derived.Test.YtjicnbdlffpbbaaMath
import Derived.WalkKit
import Derived.BigQuiet
import Derived.OpenShut
import Derived.Deep.RegionHeld3
import Derived.Deep.RegionWith
import Derived.Deep.DeepCutAuto
import Derived.WalkSpells
import Derived.WalkSmall
import Derived.Lib.Hide
import Derived.Test.YtjicnbdlffpbbaaRegion
namespace Go.Proofs.Ytjicnbdlffpbbaa
set_option linter.unusedVariables false
set_option linter.unusedSimpArgs false
set_option maxRecDepth 100000
open Go.RowKit Fg

theorem bcell {W w1 : World} (hb : Below W.heap.size W w1) : (∀ b o, b < W.heap.size → w1.cell? ⟨b, o, none⟩ = W.cell? ⟨b, o, none⟩) ∧ (∀ b o, b < W.heap.size → w1.frozen? ⟨b, o, none⟩ = W.frozen? ⟨b, o, none⟩) :=
  ⟨fun b o h => hb.cell (p := ⟨b, o, none⟩) h, fun b o h => hb.frozen (p := ⟨b, o, none⟩) h⟩
theorem ret_int {k : IntKind} {a b : Int} (h : a = b) : Ending.returned (.int k a) = .returned (.int k b) := by rw [h]
theorem ret_num {a b c d : Int} (h : a = c) (h' : b = d) : Ending.returned (.agg #[.int .u64 a, .int .u64 b]) = .returned (.agg #[.int .u64 c, .int .u64 d]) := by rw [h, h']
theorem and_mask {x : Int} (h : In x) : bits .and .u64 x 4294967295 = x % 4294967296 := by
  unfold In at h
  have := bits_mask .u64 64 (by decide) (fun n h0 h1 => by rw [wrap_u64]; omega) 32 (by decide) x h.1 (by omega)
  simpa using this
theorem and_one {x : Int} (h : In x) : bits .and .u64 x 1 = x % 2 := by
  unfold In at h
  have := bits_mask .u64 64 (by decide) (fun n h0 h1 => by rw [wrap_u64]; omega) 1 (by decide) x h.1 (by omega)
  simpa using this
theorem or_one {x y : Int} (h : In x) (h2 : x % 2 = 0) (hy : y = 0 ∨ y = 1) : bits .or .u64 x y = x + y := by
  unfold In at h
  exact bits_join .u64 64 (by decide) (fun n h0 h1 => by rw [wrap_u64]; omega) 1 x y h.1 (by omega) (by omega) (by omega) (by omega) (by omega)

end Go.Proofs.Ytjicnbdlffpbbaa
