/- TraceBytes returns true for every input, and leaves its arguments as they were. The condition: the library's tables read as its own text lays them (the card ties that to the text). -/
import Derived.Test.YtdiniaokkdcihaaDoorRows
import Derived.Test.YtdiniaokkdcihaaDoorCards
import Derived.Test.YtdiniaokkdcihaaDoorTie
import Derived.Test.YtdiniaokkdcihaaDoorTb
import Derived.SevenTiedAt
import Derived.Lay
import Derived.Test.YtdiniaokkdcihaaDoorTx45
import Derived.ProofKit
import Derived.OpenShut
import Derived.Test.YtdiniaokkdcihaaDoorOpenA
namespace Go.Proofs.YtdiniaokkdcihaaDoor.traceBytes
set_option linter.unusedVariables false
set_option linter.unusedSimpArgs false
set_option maxRecDepth 100000
open Go.ChangeShapes Go.WideShapes Go.ChangeAt Go.RowKit
theorem own : ownKnob Tryd.prog.godebug = none := by kernel_rfl

set_option maxRecDepth 100000 in
theorem lifted (os : Os) (started : os.Started) (H : Type) (enc : TypeId × Value → H) :
    ReturnsInHanded {} Tryd.checked os 3 .any (fun w args => (Rows.traceBytesSpec.pre enc Tryd.prog Tryd.f3 [] false w args ∧ laidMetH Tryd.prog Rows.traceBytesRow.laid w) ∧ sizedMet enc Tryd.prog Tryd.f3 (OpenSpec.ofChange Rows.traceBytesSpec) false w args) (Rows.traceBytesSpec.post enc Tryd.prog Tryd.f3 false true false false) := by
  refine returnsInHanded_of_change_and (C := Tryd.checked) (X := fun w _ => laidMetH Tryd.prog Rows.traceBytesRow.laid w) (fun _ _ _ hh h => h.of_heap hh) own started (by kernel_rfl) Tryd.func3
    (ChangeSpec.witness_shaped (enc := enc) (C := Tryd.checked) (os := os) (X := fun w _ => laidMetH Tryd.prog Rows.traceBytesRow.laid w) false (World.laidAll Tryd.prog os Rows.traceBytesRow.laid) #[.slice none 0 0, .slice none 0 0, .agg #[.int .u64 0, .int .u64 0]] 8 (World.laidAll_os _ _ _)
      (World.shaped_of_ZipB (by kernel_rfl) (by kernel_rfl)) (by kernel_rfl) (by kernel_rfl) (by kernel_rfl)
      (by rw [MakeChecks.laidMetH_plain _ _ _ (by kernel_rfl)]; exact laidMet_laidAll _ (by kernel_rfl) (by kernel_rfl))) ?_
  intro W base args ds gs before hval0 hW hcnd _ hL _
  have hval : ∀ (j : Nat) t v, Tryd.f3.params[j]? = some t → args[j]? = some v → Value.okWide Tryd.prog W .any base t v := hval0
  have hW' := hW
  obtain ⟨p, q, hA0, hV, rfl, hfz, hnd⟩ := hW
  have hA : DataW.TrodAll enc Tryd.prog W 0 (fun _ => true) true Tryd.f3.params.toList args.toList ds p := hA0
  rw [Tryd.params3] at hA hval
  obtain ⟨v0, vs0, d0, ds0, p0, q0, hargs, rfl, rfl, h0, r0⟩ := trodAll_cons hA
  obtain ⟨v1, vs1, d1, ds1, p1, q1, rfl, rfl, rfl, h1, r1⟩ := trodAll_cons r0
  obtain ⟨v2, vs2, d2, ds2, p2, q2, rfl, rfl, rfl, h2, r2⟩ := trodAll_cons r1
  obtain ⟨rfl, rfl, rfl⟩ := trodAll_nil r2
  obtain rfl : args = #[v0, v1, v2] := by cases args; simp_all
  obtain ⟨rfl, rfl⟩ := trodVars_none hV
  have s0 := Op.open_flat_slice (ks := [.int .i64, .bool, .bool, .int .u64, .int .u64, .int .i64, .int .u64, .int .i64, .int .u16, .int .u16, .int .u16, .int .u16]) (f := 8) Tryd.underlying22 (by kernel_rfl) (by simp) (hval 0 22 v0 rfl rfl) h0
  rw [show Tryd.prog.cellsOf 38 = 12 by kernel_rfl] at s0
  have s1 := Op.open_flat_slice (ks := [.int .i64]) (f := 8) Tryd.underlying23 (by kernel_rfl) (by simp) (hval 1 23 v1 rfl rfl) h1
  rw [show Tryd.prog.cellsOf 3 = 1 by kernel_rfl] at s1
  obtain ⟨cs2, rfl, hf2⟩ := Op.open_flat (ks := [.int .u64, .int .u64]) (f := 8) (by kernel_rfl) (by kernel_rfl) (hval 2 25 v2 rfl rfl) h2
  obtain ⟨_, _, rfl, ⟨a2_0, rfl, w2_0⟩, _, _, rfl, ⟨a2_1, rfl, w2_1⟩, rfl⟩ := hf2
  clear hA0 hval0
  simp only [List.append_nil] at hW'
  have hT := tb_laid hL (by kernel_rfl) (by simp [Rows.traceBytesRow])
  refine (traceBytes_law v0 v1 a2_0 a2_1 s0 s1 w2_0 w2_1 hT).mono fun e W' ⟨he, hb⟩ => ?_
  subst he
  exact ⟨_, rfl, Op.post_law hW' rfl rfl Tryd.underlying4 rfl (by kernel_rfl) (by kernel_rfl) (by kernel_rfl) (of_decide_eq_true (by kernel_rfl)) hb⟩

theorem over : Rows.traceBytesRow.holds Tryd.pinned (OpenSpec.ofChange Rows.traceBytesSpec) :=
  OpenClaim.holds_of_wide 3 Tryd.f3 rfl rfl rfl rfl rfl rfl rfl ⟨rfl, rfl, rfl, rfl, rfl⟩ rfl rfl rfl rfl rfl (by kernel_rfl) Tryd.func3 (by kernel_rfl)
    (of_decide_eq_true (by kernel_rfl)) (by unfold Func.isWrapper; first | (rw [if_pos (by decide +kernel)]; kernel_rfl) | (rw [if_neg (by decide +kernel)]; exact ⟨rfl, rfl⟩))
    (fun os started H enc _ => lifted os started H enc)

theorem card_holds : Claim7.holds Tryd.pinned (.plain (OpenSpec.ofChange Rows.traceBytesSpec)) Rows.traceBytesCard :=
  Claim7.holds_tied_plain_at .later [] Rows.traceBytesCard.laidKinds true Rows.traceBytesCard.stood.harness false
    over (fun _ h => by cases h) (by kernel_rfl) (fun _ h => by cases h) traceBytes_row_tie rfl ⟨rfl, rfl⟩ (by kernel_rfl) rfl
    (fun f fn hf hfn => by
      obtain rfl : f = 3 := Option.some.inj ((show Tryd.prog.funcNamed "floodgate/floodgatelaw30.TraceBytes" = some 3 by kernel_rfl).symm.trans hf) |>.symm
      obtain rfl : fn = Tryd.f3 := (Option.some.inj (Tryd.func3.symm.trans hfn)).symm
      exact ⟨by kernel_rfl, fun j t ht => by
        have hm : t ∈ Tryd.f3.params.toList := by simpa using Array.mem_of_getElem? ht
        have hall : (Tryd.f3.params.toList.all fun u => !Tryd.prog.wantsStandIn u) = true := by kernel_rfl
        exact (show Tryd.prog.wantsStandIn t = false by simpa using List.all_eq_true.1 hall t hm)⟩)
    (by kernel_rfl)
theorem proved : Rows.TraceBytesCardSaid := card_holds
#print axioms proved
end Go.Proofs.YtdiniaokkdcihaaDoor.traceBytes
