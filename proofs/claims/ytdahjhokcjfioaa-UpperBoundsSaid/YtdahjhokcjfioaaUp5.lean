import Derived.Test.YtdahjhokcjfioaaUp3
import Derived.Test.YtdahjhokcjfioaaUp4
namespace Go.Proofs.Ytdahjhokcjfioaa
set_option linter.unusedVariables false
set_option linter.unusedSimpArgs false
set_option maxRecDepth 100000
open Go.RowKit Fg Reg

theorem rn_eta (r : Rn) : r = ⟨r.b, r.x1, r.y1, r.m1, r.x2, r.y2, r.m2⟩ := rfl
/-- What Took makes of a limit. -/
def tkf (h : Bool) (r : Rn) (t n : Int) : Int := if h = true then r.rch (n * 65536) else t
theorem took_c (h : Bool) (r : Rn) (ho : r.ok) (t n : Int) (hn : In n) (w : World) : Calls Try.prog 44 #[.agg #[.bool (h), .int .u64 (r.x1), .int .u64 (hi r.y1), .int .u64 (lo r.y1), .int .u64 (r.m1), .int .u64 (r.x2), .int .u64 (hi r.y2), .int .u64 (lo r.y2), .int .u64 (r.m2), .bool (r.b), .int .u64 (t)], .int .u64 n] w fun ee w' => ee = .returned (.agg #[.bool (h), .int .u64 (r.x1), .int .u64 (hi r.y1), .int .u64 (lo r.y1), .int .u64 (r.m1), .int .u64 (r.x2), .int .u64 (hi r.y2), .int .u64 (lo r.y2), .int .u64 (r.m2), .bool (r.b), .int .u64 ((tkf h r t n))]) ∧ Below w.heap.size w w' := by
  cases h
  · exact took_no r t n w
  · exact took_yes r ho t n hn w
/-- The run that a wake makes. -/
def wkr (h : Bool) (r s : Rn) : Rn := if h = true then r.meet s else s
theorem wkr_ok {h : Bool} {r s : Rn} (a : r.ok) (b : s.ok) : (wkr h r s).ok := by
  unfold wkr; split
  · exact a.meet b
  · exact b
theorem wake_c (h : Bool) (r : Rn) (ho : r.ok) (t c1 cd c2 now n : Int) (h1 : In c1) (h2 : In cd) (h3 : In c2) (hX : 0 ≤ now) (hX1 : now ≤ 9223372036854775808) (hn : In n) (w : World) :
    Calls Try.prog 43 #[.agg #[.bool (h), .int .u64 (r.x1), .int .u64 (hi r.y1), .int .u64 (lo r.y1), .int .u64 (r.m1), .int .u64 (r.x2), .int .u64 (hi r.y2), .int .u64 (lo r.y2), .int .u64 (r.m2), .bool (r.b), .int .u64 (t)], .agg #[.int .u64 (c1), .int .u64 (cd), .int .u64 (c2)], .int .u64 now, .int .u64 n] w
      fun ee w' => ee = .returned (if kind c1 cd c2 < 2 then .agg #[.bool (false), .int .u64 (0), .int .u64 (0), .int .u64 (0), .int .u64 (0), .int .u64 (0), .int .u64 (0), .int .u64 (0), .int .u64 (0), .bool (false), .int .u64 (0)] else .agg #[.bool (true), .int .u64 ((wkr h r (srun true c1 cd c2 now (n * 65536))).x1), .int .u64 (hi (wkr h r (srun true c1 cd c2 now (n * 65536))).y1), .int .u64 (lo (wkr h r (srun true c1 cd c2 now (n * 65536))).y1), .int .u64 ((wkr h r (srun true c1 cd c2 now (n * 65536))).m1), .int .u64 ((wkr h r (srun true c1 cd c2 now (n * 65536))).x2), .int .u64 (hi (wkr h r (srun true c1 cd c2 now (n * 65536))).y2), .int .u64 (lo (wkr h r (srun true c1 cd c2 now (n * 65536))).y2), .int .u64 ((wkr h r (srun true c1 cd c2 now (n * 65536))).m2), .bool ((wkr h r (srun true c1 cd c2 now (n * 65536))).b), .int .u64 (((wkr h r (srun true c1 cd c2 now (n * 65536))).rch (n * 65536)))]) ∧ Below w.heap.size w w' := by
  have hn' : 0 ≤ n ∧ n ≤ 18446744073709551615 := hn
  have k2 := fun w => start_R h1 h2 h3 hX hX1 (show 0 ≤ n * 65536 by omega) (show n * 65536 < 1000000000000000000000000000000 by omega) w
  have so := (srun_sm (late := true) h1 h2 h3 hX hX1 (show 0 ≤ n * 65536 by omega) (show n * 65536 < 1000000000000000000000000000000 by omega)).ok
  have hr := kind_range c1 cd c2
  have k3 := fun w => meet_R ho so w
  have k4 := fun w => took_yes (wkr h r (srun true c1 cd c2 now (n * 65536))) (wkr_ok ho so) 0 n hn w
  have k1 := uni_c n hn
  generalize srun true c1 cd c2 now (n * 65536) = s at *
  generalize hm : wkr h r s = m at *
  have k3' : h = true → ∀ w, Calls Try.prog 92 #[.agg #[.int .u64 (r.x1), .int .u64 (hi r.y1), .int .u64 (lo r.y1), .int .u64 (r.m1), .int .u64 (r.x2), .int .u64 (hi r.y2), .int .u64 (lo r.y2), .int .u64 (r.m2), .bool r.b], .agg #[.int .u64 (s.x1), .int .u64 (hi s.y1), .int .u64 (lo s.y1), .int .u64 (s.m1), .int .u64 (s.x2), .int .u64 (hi s.y2), .int .u64 (lo s.y2), .int .u64 (s.m2), .bool s.b]] w fun ee w' => ee = .returned (.agg #[.int .u64 (m.x1), .int .u64 (hi m.y1), .int .u64 (lo m.y1), .int .u64 (m.m1), .int .u64 (m.x2), .int .u64 (hi m.y2), .int .u64 (lo m.y2), .int .u64 (m.m2), .bool m.b]) ∧ Below w.heap.size w w' := fun hh w => by
    have := k3 w
    rw [show r.meet s = m by rw [← hm]; unfold wkr; rw [if_pos hh]] at this
    exact this
  refine wake_core h r.x1 r.y1 r.m1 r.x2 r.y2 r.m2 t r.b c1 cd c2 now n (kind c1 cd c2) s.x1 (hi s.y1) (lo s.y1) s.m1 s.x2 (hi s.y2) (lo s.y2) s.m2 (m.rch (n * 65536)) s.b m.x1 (hi m.y1) (lo m.y1) m.m1 m.x2 (hi m.y2) (lo m.y2) m.m2 m.b ?_ (kof_c c1 cd c2 h1 h2 h3) k1 k2 k3' k4 w
  by_cases g0 : kind c1 cd c2 = 0
  · exact .inl g0
  · by_cases g1 : kind c1 cd c2 = 1
    · exact .inr (.inl g1)
    · cases h with
      | true => exact .inr (.inr (.inl ⟨by omega, rfl⟩))
      | false =>
        have : m = s := by rw [← hm]; rfl
        subst this
        exact .inr (.inr (.inr ⟨by omega, rfl, rfl, rfl, rfl, rfl, rfl, rfl, rfl, rfl, rfl⟩))
end Go.Proofs.Ytdahjhokcjfioaa
