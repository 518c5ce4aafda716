/- Joined texts. -/
import Derived.Test.YtmmahgfijiocfaaBs0
import Derived.Test.YtmmahgfijiocfaaBs1
import Derived.Test.YtmmahgfijiocfaaBs2
import Derived.Test.YtmmahgfijiocfaaBs3
import Derived.Test.YtmmahgfijiocfaaBs4
import Derived.Test.YtmmahgfijiocfaaBs8
import Derived.Test.YtmmahgfijiocfaaBs9
import Derived.Test.YtmmahgfijiocfaaAl1
import Derived.Test.YtmmahgfijiocfaaAl4
import Derived.Shelf.SlIterI.Stops
import Derived.RangeFuncCalls
import Derived.RangeFuncLeaves
import Derived.RangeFuncBox
import Derived.Maps.AppendAt
import Derived.Shelf.Abstract
import Derived.WalkKit
import Derived.OwnWalkIn
import Derived.TacticsInMore
import Derived.LoopNIn
import Derived.LoopIn
import Derived.Maps.Keyed
import Derived.Maps.Own
import Derived.Maps.OwnOps
import Derived.DeepKeys5
import Derived.StillTail
import Derived.Deep.Quiet
import Derived.Deep.QuietTactic
import Derived.Test.YtmmahgfijiocfaaChecked
import Derived.BigQuiet
import Derived.OpenShut
import Derived.Deep.RegionHeld3
import Derived.Deep.RegionWith
import Derived.Deep.DeepCutAuto
import Derived.WalkSpells
import Derived.WalkSmall
import Derived.Lib.Hide
import Derived.RowKit
import Derived.IntWalk
import Derived.Maps.RangeRun
import Derived.Deep.MidRow
import Derived.Deep.WholeRow
import Derived.Laws.CopyRow
import Derived.Deep.OwnRows
import Derived.ArgAppend
import Derived.Sort.OwnSortedInts
import Derived.Shelf.SlIterI.Nil
import Derived.Shelf.SortM.Plain
import Derived.Shelf.SortM.SortNone
import Derived.Ground.GgzProg
import Derived.Ground.SlgmProg
import Derived.Laws.AppendOwn
import Derived.Laws.AppendOwnNone
set_option linter.unusedVariables false
set_option linter.unusedSimpArgs false
set_option maxRecDepth 100000
set_option maxHeartbeats 16000000
section
namespace Go.Proofs.Ytmmahgfijiocfaa
open Go.RowKit Fg Reg Go.Maps Go.Shelf
attribute [local irreducible] Reg.wE VR
attribute [local go_sem] Oper.semAt_some
theorem int_partsI : (Try.prog.info? 3).map (fun i => (i.zero, i.size, i.bytes)) = some (some (.int .i64 0), 1, 8) := by kernel_rfl
set_option maxRecDepth 100000 in
theorem appK_c {H : Type} (Bm b nn nb : Nat) (D0 : DataW H) {R : Value → Option (DataW H × List MemPlace)} (sa : Option Addr) (sn sc : Nat) (ss0 : List Int) (w : World) (hBm : Bm < w.heap.size) (hm : w.cell? ⟨Bm, 0, none⟩ = some (.map (some b))) (hown : w.ownsMap Try.prog 3 R b nn D0)
  (hsn : ss0.length = sn) (hrow0 : w.ownsRow nb 3 1 (.slice sa sn sc) ss0.length (ss0.map (Value.int .i64))) (hnb : nb ≤ w.heap.size) (hmax : ss0.length + Maps.size D0 ≤ 1000000) :
  Calls Try.prog 40 #[.slice sa sn sc, .func (.func 67) #[] #[.pointer (some ⟨Bm, 0, none⟩)]] w fun e w' => ∃ (v : Value) (ss : List Int), e = .returned v ∧ ss.Perm (intKeys D0) ∧ w'.ownsRow nb 3 1 v (sn + ss.length) ((ss0 ++ ss).map (Value.int .i64)) ∧ Below nb w w' := by
 obtain ⟨i0, hi, hz0, hz1, hz2⟩ := info_parts int_partsI
 refine (callsIn_wide (n := 5)).1 ?_
 refine callsIn_of_wp_marks Try.func40 rfl trivial ?_ rfl
 simp only [Try.ntmps40, List.size_toArray, List.length_cons, List.length_nil, Nat.reduceAdd, Nat.reduceSub, Array.replicate_succ, Array.replicate_zero, List.push_toArray, List.append_toArray, List.nil_append, List.cons_append]
 gi_wp2
 have bO := Boxed.new w 31 (.slice sa sn sc)
 have hb0 : Below w.heap.size w (w.alloc (.cells #[.slice sa sn sc] 31)) := (Below.refl _ w).alloc (Nat.le_refl _) _
 refine wpIn_rangeFunc_ownG rfl (by omega) (gf := 67) (lb := #[.pointer (some ⟨Bm, 0, none⟩)]) rfl trivial (enters_of Try.func67 (by kernel_rfl) rfl)
  (AnyZI.keys_stops (ρ := keysK_ren) { keysK with } Fence.wide _ trivial rfl (by omega) Bm b nn D0 w hBm hm hown) walksK_t walksK_b hb0 (fun _ => rfl)
  (fun pre W => (∃ v, Boxed W w.heap.size 31 v ∧ W.ownsRow nb 3 1 v (sn + pre.length) ((ss0 ++ pre).map (Value.int .i64)) ∧ True) ∧ Below nb w W)
  (fun _ _ _ => False)
  (OwnFrom.and (Own.from (holdsRow_own nb w.heap.size 31 3 1 (fun pre : List Int => sn + pre.length) (fun pre : List Int => (ss0 ++ pre).map (Value.int .i64)) (fun _ _ => True)) _) (ownFrom_below hnb (by simp; omega)))
  (fun _ _ _ _ _ hs _ _ => hs)
  ⟨⟨_, bO, (by have h := hrow0.alloc (.cells #[.slice sa sn sc] 31); rw [hsn] at h; simpa using h), trivial⟩, (Below.refl _ w).alloc hnb _⟩
  (fun x => { tmps := #[.slice sa sn sc, .func (.func 67) #[] #[.pointer (some ⟨Bm, 0, none⟩)], .pointer (some ⟨w.heap.size, 0, none⟩), undef, .slice none 0 0, encZ x, .func (.func 67) #[] #[.pointer (some ⟨Bm, 0, none⟩)], encZ x, undef, undef, undef, undef, undef], defers := [] }) ?assign ?body ?done ?stop
 case assign =>
  intro l x W K hK
  gi_wp2
  exact hK
 case body =>
  rintro l pre x W ⟨⟨v, hv, hrow, -⟩, hB⟩ hlt
  have hc := hv.cell
  have hB1 := hB.size
  gi_wp2_with (gi_at_builtin; refine wpListIn_append_own _ rfl _ _ 31 rfl nb 3 i0 (.int .i64 0) 1 8 Try.underlying31 hi hz0 hz1 hz2 rfl (by decide) _ _ _ rfl (hrow.alloc _) ⟨W.heap.size, 0, none⟩ 1 1 [encZ x] rfl rfl (cell_one_new _ _ _) (by simp [Value.oneCell', encZ]) (by unfold maxLen; omega) (by omega) (by simp; omega) ?_; intro v' w1 hown' hgrow _; obtain ⟨g', cap', rfl⟩ := ownsRow_succ hown'; obtain ⟨hv1, hv2, hr2, hk2, hb2⟩ := hv.appended (by decide) hrow (by omega) (by omega) hown' hgrow; have hc1 := hv1.cell; have hf1 := hv1.frozen)
  refine ⟨hk2.from _, hk2.walks, ⟨_, hv2, ?_, trivial⟩, hB.trans hb2⟩
  rw [← List.append_assoc, List.map_append, List.length_append, List.length_singleton, ← Nat.add_assoc]
  exact hr2
 case done =>
  rintro D ys W hD ⟨hp, -⟩ ⟨⟨v, hv, hrow, -⟩, hB⟩ hK
  have hc := hv.cell
  gi_wp2
  refine ⟨by simp, .inl ⟨_, _, rfl, run_takeDeferred hK, ?_⟩⟩
  exact ⟨_, results_tmp rfl _ _ _, v, ys, rfl, hp, ownsRow_putObj hrow _ hK rfl, hB.trans (belowK_b (w := w) hnb W D _ _ (by simp at hD; omega) hK rfl rfl)⟩
 case stop =>
  rintro D c pre W _ _ h _
  exact h.elim
end Go.Proofs.Ytmmahgfijiocfaa
end
