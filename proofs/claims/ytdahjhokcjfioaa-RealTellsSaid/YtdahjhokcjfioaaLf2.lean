/- real.ticked, Took, Passed. -/
import Derived.Test.YtdahjhokcjfioaaLf1
namespace Go.Proofs.Ytdahjhokcjfioaa
set_option linter.unusedVariables false
set_option linter.unusedSimpArgs false
set_option maxRecDepth 100000
open Go.RowKit Fg Reg
attribute [local irreducible] Reg.wE World.there

def tE (R : Rn) (p head : Int) : Int := if 0 < head then R.rch (p * 65536) else 9223372036854775808
def tD (D : Rn) (p head : Int) : Int := if 0 < head then D.rch (uw (p + head) * 65536) else 9223372036854775808
theorem ticked_c (h : Bool) (D R : Rn) (hD : D.ok) (hR : R.ok) (p e d head : Int) (hp : In p) (hh2 : head ≤ 9223372036854775807) (w : World) : Calls Try.prog 95 #[.agg #[.bool (h), .int .u64 (D.x1), .int .u64 (hi D.y1), .int .u64 (lo D.y1), .int .u64 (D.m1), .int .u64 (D.x2), .int .u64 (hi D.y2), .int .u64 (lo D.y2), .int .u64 (D.m2), .bool (D.b), .int .u64 (R.x1), .int .u64 (hi R.y1), .int .u64 (lo R.y1), .int .u64 (R.m1), .int .u64 (R.x2), .int .u64 (hi R.y2), .int .u64 (lo R.y2), .int .u64 (R.m2), .bool (R.b), .int .u64 (p), .int .u64 (e), .int .u64 (d)], .int .i64 head] w fun ee w' => ee = .returned (.agg #[.bool (h), .int .u64 (D.x1), .int .u64 (hi D.y1), .int .u64 (lo D.y1), .int .u64 (D.m1), .int .u64 (D.x2), .int .u64 (hi D.y2), .int .u64 (lo D.y2), .int .u64 (D.m2), .bool (D.b), .int .u64 (R.x1), .int .u64 (hi R.y1), .int .u64 (lo R.y1), .int .u64 (R.m1), .int .u64 (R.x2), .int .u64 (hi R.y2), .int .u64 (lo R.y2), .int .u64 (R.m2), .bool (R.b), .int .u64 (p), .int .u64 ((tE R p head)), .int .u64 ((tD D p head))]) ∧ Below w.heap.size w w' := by
  unfold tE tD
  by_cases hh : 0 < head
  · rw [if_pos hh, if_pos hh]
    exact ticked_yes h D R hD hR p e d head hp hh hh2 w
  · rw [if_neg hh, if_neg hh]
    exact ticked_no h D R p e d head (by omega) w
set_option maxHeartbeats 2000000 in
theorem passed_c (h : Bool) (D R : Rn) (hD : D.ok) (hR : R.ok) (p e d head : Int) (hp : In p) (hh2 : head ≤ 9223372036854775807) (w : World) : Calls Try.prog 31 #[.agg #[.bool (h), .int .u64 (D.x1), .int .u64 (hi D.y1), .int .u64 (lo D.y1), .int .u64 (D.m1), .int .u64 (D.x2), .int .u64 (hi D.y2), .int .u64 (lo D.y2), .int .u64 (D.m2), .bool (D.b), .int .u64 (R.x1), .int .u64 (hi R.y1), .int .u64 (lo R.y1), .int .u64 (R.m1), .int .u64 (R.x2), .int .u64 (hi R.y2), .int .u64 (lo R.y2), .int .u64 (R.m2), .bool (R.b), .int .u64 (p), .int .u64 (e), .int .u64 (d)], .int .i64 head] w fun ee w' => ee = .returned (.agg #[.bool (h), .int .u64 (D.x1), .int .u64 (hi D.y1), .int .u64 (lo D.y1), .int .u64 (D.m1), .int .u64 (D.x2), .int .u64 (hi D.y2), .int .u64 (lo D.y2), .int .u64 (D.m2), .bool (D.b), .int .u64 (R.x1), .int .u64 (hi R.y1), .int .u64 (lo R.y1), .int .u64 (R.m1), .int .u64 (R.x2), .int .u64 (hi R.y2), .int .u64 (lo R.y2), .int .u64 (R.m2), .bool (R.b), .int .u64 (p), .int .u64 ((tE R p head)), .int .u64 ((tD D p head))]) ∧ Below w.heap.size w w' := by
  have LI := Lib.hid rlt_info
  have kt := fun z => ticked_c h D R hD hR p e d head hp hh2 z
  generalize tE R p head = E at *
  generalize tD D p head = F at *
  have KT := Lib.hid kt
  clear kt hp hh2 hD hR
  go_enter Try.func31, Try.ntmps31
  go_wp2_with (first | (refine wpList_load_mid rfl 56 _ rfl w.heap.size 0 rfl (#[.bool (h), .int .u64 (D.x1), .int .u64 (hi D.y1), .int .u64 (lo D.y1), .int .u64 (D.m1), .int .u64 (D.x2), .int .u64 (hi D.y2), .int .u64 (lo D.y2), .int .u64 (D.m2), .bool (D.b), .int .u64 (R.x1), .int .u64 (hi R.y1), .int .u64 (lo R.y1), .int .u64 (R.m1), .int .u64 (R.x2), .int .u64 (hi R.y2), .int .u64 (lo R.y2), .int .u64 (R.m2), .bool (R.b), .int .u64 (p), .int .u64 (e), .int .u64 (d)]).toList _ (range_alloc2 w _ _ _) Try.underlying56 rfl LI.out ?_) | (go_at_call 95; (with_reducible refine (KT.out _).mono ?_); rintro ee w3 ⟨rfl, hb3⟩; have HTH := Lib.hid (there_only (there_new2 w _ _ _) (Only.of_below (S := fun _ => False) hb3) (by simp) (fun h => h)); have HB := Lib.hid ((((Below.refl w.heap.size w).alloc (Nat.le_refl _) _).alloc (by simp) _).trans (hb3.mono (by simp; omega))); clear hb3) | (refine wpList_store_mid rfl 56 _ _ rfl (w.heap.size + 1) 0 #[.bool (h), .int .u64 (D.x1), .int .u64 (hi D.y1), .int .u64 (lo D.y1), .int .u64 (D.m1), .int .u64 (D.x2), .int .u64 (hi D.y2), .int .u64 (lo D.y2), .int .u64 (D.m2), .bool (D.b), .int .u64 (R.x1), .int .u64 (hi R.y1), .int .u64 (lo R.y1), .int .u64 (R.m1), .int .u64 (R.x2), .int .u64 (hi R.y2), .int .u64 (lo R.y2), .int .u64 (R.m2), .bool (R.b), .int .u64 (p), .int .u64 (E), .int .u64 (F)] rfl rfl HTH.out LI.out (lfa_one h D R (p) (E) (F)) ?_))
  refine bodyPost_ret (v := .agg #[.bool (h), .int .u64 (D.x1), .int .u64 (hi D.y1), .int .u64 (lo D.y1), .int .u64 (D.m1), .int .u64 (D.x2), .int .u64 (hi D.y2), .int .u64 (lo D.y2), .int .u64 (D.m2), .bool (D.b), .int .u64 (R.x1), .int .u64 (hi R.y1), .int .u64 (lo R.y1), .int .u64 (R.m1), .int .u64 (R.x2), .int .u64 (hi R.y2), .int .u64 (lo R.y2), .int .u64 (R.m2), .bool (R.b), .int .u64 (p), .int .u64 (E), .int .u64 (F)]) (results_row Try.results31 _ (w.heap.size + 1) rfl _ _ (World.rangeAt_setCells_same _ _ _ _ HTH.out) Try.underlying56 rfl rlt_info) rfl ⟨rfl, below_setCells (by omega) _ _ _ HB.out⟩
def tP (p sent : Int) : Int := uw (p + (if sent < 0 then 0 else sent))
theorem mxl_c (a : Int) (w : World) : (Builtin.max_ #[3, 3] 3 #[.int .i64 a, .int .i64 0]).run Try.prog w = .ok (.int .i64 (if a < 0 then 0 else a)) w := by
  simp [Builtin.max_, Builtin.max2]
set_option maxHeartbeats 2000000 in
theorem took20_c (h : Bool) (D R : Rn) (hD : D.ok) (hR : R.ok) (p e d sent head : Int) (hp : In p) (hs : sent ≤ 9223372036854775807) (hh2 : head ≤ 9223372036854775807) (w : World) : Calls Try.prog 29 #[.agg #[.bool (h), .int .u64 (D.x1), .int .u64 (hi D.y1), .int .u64 (lo D.y1), .int .u64 (D.m1), .int .u64 (D.x2), .int .u64 (hi D.y2), .int .u64 (lo D.y2), .int .u64 (D.m2), .bool (D.b), .int .u64 (R.x1), .int .u64 (hi R.y1), .int .u64 (lo R.y1), .int .u64 (R.m1), .int .u64 (R.x2), .int .u64 (hi R.y2), .int .u64 (lo R.y2), .int .u64 (R.m2), .bool (R.b), .int .u64 (p), .int .u64 (e), .int .u64 (d)], .int .i64 sent, .int .i64 head] w fun ee w' => ee = .returned (.agg #[.bool (h), .int .u64 (D.x1), .int .u64 (hi D.y1), .int .u64 (lo D.y1), .int .u64 (D.m1), .int .u64 (D.x2), .int .u64 (hi D.y2), .int .u64 (lo D.y2), .int .u64 (D.m2), .bool (D.b), .int .u64 (R.x1), .int .u64 (hi R.y1), .int .u64 (lo R.y1), .int .u64 (R.m1), .int .u64 (R.x2), .int .u64 (hi R.y2), .int .u64 (lo R.y2), .int .u64 (R.m2), .bool (R.b), .int .u64 ((tP p sent)), .int .u64 ((tE R (tP p sent) head)), .int .u64 ((tD D (tP p sent) head))]) ∧ Below w.heap.size w w' := by
  have LI := Lib.hid rlt_info
  have hpq : In (tP p sent) := by unfold tP uw In; omega
  have kt := fun z => ticked_c h D R hD hR (tP p sent) e d head hpq hh2 z
  have hmx := mxl_c sent
  have hM : 0 ≤ (if sent < 0 then 0 else sent) ∧ (if sent < 0 then 0 else sent) ≤ 9223372036854775807 := by split <;> omega
  have wq : IntKind.u64.wrap (p + (if sent < 0 then 0 else sent)) = tP p sent := by rw [wrap_u64]; rfl
  have wm : IntKind.u64.wrap (if sent < 0 then 0 else sent) = (if sent < 0 then 0 else sent) := by rw [wrap_u64]; split <;> omega
  generalize (if sent < 0 then 0 else sent) = M at *
  generalize tE R (tP p sent) head = E at *
  generalize tD D (tP p sent) head = F at *
  generalize tP p sent = Q at *
  have KT := Lib.hid kt
  clear kt hp hh2 hD hR hs hpq hM
  go_enter Try.func29, Try.ntmps29
  go_wp2_with (first | (refine wpList_load_mid rfl 56 _ rfl w.heap.size 0 rfl (#[.bool (h), .int .u64 (D.x1), .int .u64 (hi D.y1), .int .u64 (lo D.y1), .int .u64 (D.m1), .int .u64 (D.x2), .int .u64 (hi D.y2), .int .u64 (lo D.y2), .int .u64 (D.m2), .bool (D.b), .int .u64 (R.x1), .int .u64 (hi R.y1), .int .u64 (lo R.y1), .int .u64 (R.m1), .int .u64 (R.x2), .int .u64 (hi R.y2), .int .u64 (lo R.y2), .int .u64 (R.m2), .bool (R.b), .int .u64 (Q), .int .u64 (e), .int .u64 (d)]).toList _ (range_alloc2 w _ _ _) Try.underlying56 rfl LI.out ?_) | (go_at_call 95; (with_reducible refine (KT.out _).mono ?_); rintro ee w3 ⟨rfl, hb3⟩; have HTH := Lib.hid (there_only (there_new2 w _ _ _) (Only.of_below (S := fun _ => False) hb3) (by simp) (fun h => h)); have HB := Lib.hid ((((Below.refl w.heap.size w).alloc (Nat.le_refl _) _).alloc (by simp) _).trans (hb3.mono (by simp; omega))); clear hb3) | (refine wpList_store_mid rfl 56 _ _ rfl (w.heap.size + 1) 0 #[.bool (h), .int .u64 (D.x1), .int .u64 (hi D.y1), .int .u64 (lo D.y1), .int .u64 (D.m1), .int .u64 (D.x2), .int .u64 (hi D.y2), .int .u64 (lo D.y2), .int .u64 (D.m2), .bool (D.b), .int .u64 (R.x1), .int .u64 (hi R.y1), .int .u64 (lo R.y1), .int .u64 (R.m1), .int .u64 (R.x2), .int .u64 (hi R.y2), .int .u64 (lo R.y2), .int .u64 (R.m2), .bool (R.b), .int .u64 (Q), .int .u64 (E), .int .u64 (F)] rfl rfl HTH.out LI.out (lfa_one h D R (Q) (E) (F)) ?_))
  refine bodyPost_ret (v := .agg #[.bool (h), .int .u64 (D.x1), .int .u64 (hi D.y1), .int .u64 (lo D.y1), .int .u64 (D.m1), .int .u64 (D.x2), .int .u64 (hi D.y2), .int .u64 (lo D.y2), .int .u64 (D.m2), .bool (D.b), .int .u64 (R.x1), .int .u64 (hi R.y1), .int .u64 (lo R.y1), .int .u64 (R.m1), .int .u64 (R.x2), .int .u64 (hi R.y2), .int .u64 (lo R.y2), .int .u64 (R.m2), .bool (R.b), .int .u64 (Q), .int .u64 (E), .int .u64 (F)]) (results_row Try.results29 _ (w.heap.size + 1) rfl _ _ (World.rangeAt_setCells_same _ _ _ _ HTH.out) Try.underlying56 rfl rlt_info) rfl ⟨rfl, below_setCells (by omega) _ _ _ HB.out⟩
end Go.Proofs.Ytdahjhokcjfioaa
