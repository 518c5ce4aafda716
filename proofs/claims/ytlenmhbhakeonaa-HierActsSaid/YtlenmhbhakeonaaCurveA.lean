import Derived.Test.YtlenmhbhakeonaaMathA
import Derived.Test.YtlenmhbhakeonaaRatioA
import Derived.Test.YtlenmhbhakeonaaRefA
/- Service curves of two pieces, as numbers. Nothing of the program is imported here. -/
namespace Go.Proofs.Ytlenmhbhakeonaa
set_option linter.unusedVariables false
set_option linter.unusedSimpArgs false
set_option maxRecDepth 100000
namespace Fg
def kind (m1 d m2 : Int) : Int :=
  if 4294967295 < m1 ∨ 4294967295 < m2 ∨ 1048576 < d then 0
  else if m1 = 0 ∧ d = 0 ∧ m2 = 0 then 1
  else if m1 = m2 ∧ d = 0 then 2
  else if m2 < m1 ∧ 0 < d then 3
  else if m1 = 0 ∧ 0 < m2 ∧ 0 < d then 4 else 0
/-- A curve that may be. -/
structure Okc (m1 d m2 : Int) : Prop where
  n1 : 0 ≤ m1
  n2 : 0 ≤ d
  n3 : 0 ≤ m2
  b1 : m1 ≤ 4294967295
  b2 : d ≤ 1048576
  b3 : m2 ≤ 4294967295
theorem okc {m1 d m2 : Int} (h1 : In m1) (h2 : In d) (h3 : In m2) (h : ¬ kind m1 d m2 = 0) : Okc m1 d m2 := by
  unfold kind at h
  split at h
  · exact absurd rfl h
  · unfold In at *
    constructor <;> omega
theorem kind_range (m1 d m2 : Int) : 0 ≤ kind m1 d m2 ∧ kind m1 d m2 ≤ 4 := by
  unfold kind; repeat' split
  all_goals omega
theorem kind_of3 {m1 d m2 : Int} (h : kind m1 d m2 = 3) : m2 < m1 := by
  unfold kind at h; revert h; repeat' split
  all_goals omega
theorem kind_of4 {m1 d m2 : Int} (h : kind m1 d m2 = 4) : m1 = 0 := by
  unfold kind at h; revert h; repeat' split
  all_goals omega
theorem kind_of12 {m1 d m2 : Int} (h : kind m1 d m2 = 1 ∨ kind m1 d m2 = 2) : m1 = m2 ∧ d = 0 := by
  unfold kind at h; revert h; repeat' split
  all_goals omega

/-- The service in t ticks of a curve that may be. -/
def sv (m1 d m2 t : Int) : Int := if t ≤ d then m1 * t else m1 * d + m2 * (t - d)
/-- .. of any curve. -/
def srv (m1 d m2 t : Int) : Int := if kind m1 d m2 = 0 then 0 else sv m1 d m2 t
theorem srv_ok {m1 d m2 : Int} (h : ¬ kind m1 d m2 = 0) (t : Int) : srv m1 d m2 t = sv m1 d m2 t := if_neg h
theorem srv_no {m1 d m2 : Int} (h : kind m1 d m2 = 0) (t : Int) : srv m1 d m2 t = 0 := if_pos h

theorem mul_bd {m t a b : Int} (h0 : 0 ≤ m) (h1 : m ≤ a) (g0 : 0 ≤ t) (g1 : t ≤ b) (ha : 0 ≤ a) : 0 ≤ m * t ∧ m * t ≤ a * b :=
  ⟨Int.mul_nonneg h0 g0, Int.mul_le_mul h1 g1 g0 ha⟩
theorem sv_nn {m1 d m2 t : Int} (h : Okc m1 d m2) (ht : 0 ≤ t) : 0 ≤ sv m1 d m2 t := by
  unfold sv
  split
  · exact Int.mul_nonneg h.n1 ht
  · have h1 := Int.mul_nonneg h.n1 h.n2
    have h2 := Int.mul_nonneg h.n3 (show 0 ≤ t - d by omega)
    omega
/-- It stays far below 2^128. -/
theorem sv_lt {m1 d m2 t : Int} (h : Okc m1 d m2) (ht : In t) : sv m1 d m2 t ≤ 79228162532711081662980096000 := by
  unfold sv
  unfold In at ht
  split
  · have := (mul_bd h.n1 h.b1 ht.1 (show t ≤ 1048576 by have := h.b2; omega) (by omega)).2
    omega
  · have h1 := (mul_bd h.n1 h.b1 h.n2 h.b2 (by omega)).2
    have h2 := (mul_bd h.n3 h.b3 (show 0 ≤ t - d by omega) (show t - d ≤ 18446744073709551615 by have := h.n2; omega) (by omega)).2
    omega
theorem sv_wd {m1 d m2 t : Int} (h : Okc m1 d m2) (ht : In t) : Wd (sv m1 d m2 t) := by
  have h1 := sv_nn h (show 0 ≤ t from ht.1)
  have h2 := sv_lt h ht
  unfold Wd; omega
theorem srv_wd {m1 d m2 t : Int} (h1 : In m1) (h2 : In d) (h3 : In m2) (ht : In t) : Wd (srv m1 d m2 t) := by
  by_cases h : kind m1 d m2 = 0
  · rw [srv_no h]; unfold Wd; omega
  · rw [srv_ok h]; exact sv_wd (okc h1 h2 h3 h) ht
theorem sv_mono {m1 d m2 t t' : Int} (h : Okc m1 d m2) (ht : t ≤ t') : sv m1 d m2 t ≤ sv m1 d m2 t' := by
  unfold sv
  split
  · split
    · exact Int.mul_le_mul_of_nonneg_left ht h.n1
    · have h1 := Int.mul_le_mul_of_nonneg_left (show t ≤ d by assumption) h.n1
      have h2 := Int.mul_nonneg h.n3 (show 0 ≤ t' - d by omega)
      omega
  · rw [if_neg (by omega)]
    have := Int.mul_le_mul_of_nonneg_left (show t - d ≤ t' - d by omega) h.n3
    omega
theorem srv_mono {m1 d m2 t t' : Int} (h1 : In m1) (h2 : In d) (h3 : In m2) (ht : t ≤ t') : srv m1 d m2 t ≤ srv m1 d m2 t' := by
  by_cases h : kind m1 d m2 = 0
  · rw [srv_no h, srv_no h]; omega
  · rw [srv_ok h, srv_ok h]; exact sv_mono (okc h1 h2 h3 h) ht

theorem sv_bend {m1 d m2 t f : Int} (h : Okc m1 d m2) (ht : 0 ≤ t) (hf : 0 ≤ f) :
    (m2 ≤ m1 → sv m1 d m2 (f + t) - sv m1 d m2 f ≤ sv m1 d m2 t) ∧ (m1 ≤ m2 → sv m1 d m2 t ≤ sv m1 d m2 (f + t) - sv m1 d m2 f) := by
  have n2 := h.n2
  have key : ∀ a b c e : Int, 0 ≤ (a - b) * (c - e) → 0 ≤ a * c - a * e - b * c + b * e := by
    intro a b c e h; rw [Int.sub_mul, Int.mul_sub, Int.mul_sub] at h; omega
  unfold sv
  constructor
  · intro hm
    have k := fun x e (hx : 0 ≤ x - e) => key m1 m2 x e (Int.mul_nonneg (by omega) hx)
    by_cases c1 : f + t ≤ d
    · rw [if_pos c1, if_pos (by omega), if_pos (by omega), Int.mul_add]; omega
    · by_cases c2 : f ≤ d
      · by_cases c3 : t ≤ d
        · rw [if_neg c1, if_pos c2, if_pos c3]
          have := k (f + t) d (by omega)
          simp only [Int.mul_add, Int.mul_sub] at *; omega
        · rw [if_neg c1, if_pos c2, if_neg c3]
          have := k f 0 (by omega)
          simp only [Int.mul_add, Int.mul_sub, Int.mul_zero] at *; omega
      · by_cases c3 : t ≤ d
        · rw [if_neg c1, if_neg c2, if_pos c3]
          have := k t 0 (by omega)
          simp only [Int.mul_add, Int.mul_sub, Int.mul_zero] at *; omega
        · rw [if_neg c1, if_neg c2, if_neg c3]
          have := k d 0 (by omega)
          simp only [Int.mul_add, Int.mul_sub, Int.mul_zero] at *; omega
  · intro hm
    have k := fun x e (hx : 0 ≤ x - e) => key m2 m1 x e (Int.mul_nonneg (by omega) hx)
    by_cases c1 : f + t ≤ d
    · rw [if_pos c1, if_pos (by omega), if_pos (by omega), Int.mul_add]; omega
    · by_cases c2 : f ≤ d
      · by_cases c3 : t ≤ d
        · rw [if_neg c1, if_pos c2, if_pos c3]
          have := k (f + t) d (by omega)
          simp only [Int.mul_add, Int.mul_sub] at *; omega
        · rw [if_neg c1, if_pos c2, if_neg c3]
          have := k f 0 (by omega)
          simp only [Int.mul_add, Int.mul_sub, Int.mul_zero] at *; omega
      · by_cases c3 : t ≤ d
        · rw [if_neg c1, if_neg c2, if_pos c3]
          have := k t 0 (by omega)
          simp only [Int.mul_add, Int.mul_sub, Int.mul_zero] at *; omega
        · rw [if_neg c1, if_neg c2, if_neg c3]
          have := k d 0 (by omega)
          simp only [Int.mul_add, Int.mul_sub, Int.mul_zero] at *; omega

/-- The quotient, rounded up. -/
def clg (n d : Int) : Int := if n % d = 0 then n / d else n / d + 1
theorem clg_spec {n d : Int} (hd : 0 < d) : n ≤ d * clg n d ∧ d * (clg n d - 1) < n := by
  have e := Int.mul_ediv_add_emod n d
  have r0 := Int.emod_nonneg n (show d ≠ 0 by omega)
  have r1 := Int.emod_lt_of_pos n hd
  unfold clg
  split
  · rw [Int.mul_sub]; omega
  · rw [Int.mul_sub, Int.mul_add]; omega
theorem clg_nn {n d : Int} (hn : 0 ≤ n) (hd : 0 < d) : 0 ≤ clg n d := by
  have := Int.ediv_nonneg hn (show 0 ≤ d by omega)
  unfold clg; split <;> omega
theorem clg_pos {n d : Int} (hn : 0 < n) (hd : 0 < d) : 1 ≤ clg n d := by
  have h := (clg_spec (n := n) hd).1
  have h0 := clg_nn (n := n) (by omega) hd
  rcases Int.lt_or_le 0 (clg n d) with h1 | h1
  · omega
  · have : clg n d = 0 := by omega
    rw [this, Int.mul_zero] at h; omega

/-- In how many ticks, behind some others, a slope gives so much. -/
def ov (W m b : Int) : Int := if W = 0 then b else if m = 0 then 9223372036854775808 else if clg W m + b < 9223372036854775808 then b + clg W m else 9223372036854775808
/-- In how many ticks the service is at least so much. -/
def tk (m1 d m2 W : Int) : Int := if kind m1 d m2 = 0 then 9223372036854775808 else if W ≤ m1 * d then ov W m1 0 else ov (W - m1 * d) m2 d
theorem ov_in {W m b : Int} (hW : 0 ≤ W) (hm : 0 ≤ m) (hb : 0 ≤ b ∧ b ≤ 9223372036854775808) : 0 ≤ ov W m b ∧ ov W m b ≤ 9223372036854775808 := by
  unfold ov
  split
  · omega
  · split
    · omega
    · have := clg_nn hW (show 0 < m by omega)
      split <;> omega
theorem tk_in {m1 d m2 W : Int} (h1 : In m1) (h2 : In d) (h3 : In m2) (hW : Wd W) : 0 ≤ tk m1 d m2 W ∧ tk m1 d m2 W ≤ 9223372036854775808 := by
  unfold tk
  split
  · omega
  · have h := okc h1 h2 h3 (by assumption)
    have := h.b2
    have := h.n2
    split
    · exact ov_in hW.1 h.n1 (by omega)
    · exact ov_in (by omega) h.n3 (by omega)
/-- IN FEWER IT IS LESS, IN SO MANY IT IS NOT. -/
theorem tk_spec {m1 d m2 W : Int} (h1 : In m1) (h2 : In d) (h3 : In m2) (hW : Wd W) (hn : tk m1 d m2 W < 9223372036854775808) :
    W ≤ srv m1 d m2 (tk m1 d m2 W) ∧ (0 < tk m1 d m2 W → srv m1 d m2 (tk m1 d m2 W - 1) < W) := by
  by_cases hk : kind m1 d m2 = 0
  · unfold tk at hn; rw [if_pos hk] at hn; omega
  · have h := okc h1 h2 h3 hk
    rw [srv_ok hk, srv_ok hk]
    have e : tk m1 d m2 W = if W ≤ m1 * d then ov W m1 0 else ov (W - m1 * d) m2 d := if_neg hk
    rw [e] at hn ⊢
    have n1 := h.n1
    have n2 := h.n2
    have n3 := h.n3
    by_cases c1 : W ≤ m1 * d
    · rw [if_pos c1] at hn ⊢
      unfold ov at hn ⊢
      by_cases c0 : W = 0
      · rw [if_pos c0] at hn ⊢
        refine ⟨?_, fun h => by omega⟩
        rw [c0]; exact sv_nn h (by omega)
      · rw [if_neg c0] at hn ⊢
        by_cases c2 : m1 = 0
        · rw [if_pos c2] at hn; omega
        · rw [if_neg c2] at hn ⊢
          by_cases c3 : clg W m1 + 0 < 9223372036854775808
          · rw [if_pos c3] at hn ⊢
            have s := clg_spec (n := W) (show 0 < m1 by omega)
            have s0 := clg_nn hW.1 (show 0 < m1 by omega)
            have hd : clg W m1 ≤ d := by
              rcases Int.lt_or_le d (clg W m1) with h' | h'
              · have := Int.mul_le_mul_of_nonneg_left (show d ≤ clg W m1 - 1 by omega) n1
                omega
              · exact h'
            rw [Int.zero_add]
            unfold sv
            rw [if_pos hd, if_pos (by omega)]
            exact ⟨s.1, fun _ => s.2⟩
          · rw [if_neg c3] at hn; omega
    · rw [if_neg c1] at hn ⊢
      unfold ov at hn ⊢
      rw [if_neg (show ¬ W - m1 * d = 0 by omega)] at hn ⊢
      by_cases c2 : m2 = 0
      · rw [if_pos c2] at hn; omega
      · rw [if_neg c2] at hn ⊢
        by_cases c3 : clg (W - m1 * d) m2 + d < 9223372036854775808
        · rw [if_pos c3] at hn ⊢
          have s := clg_spec (n := W - m1 * d) (show 0 < m2 by omega)
          have s0 := clg_pos (n := W - m1 * d) (by omega) (show 0 < m2 by omega)
          unfold sv
          rw [if_neg (by omega), show d + clg (W - m1 * d) m2 - d = clg (W - m1 * d) m2 by omega]
          refine ⟨by omega, fun _ => ?_⟩
          by_cases c4 : d + clg (W - m1 * d) m2 - 1 ≤ d
          · have : clg (W - m1 * d) m2 = 1 := by omega
            rw [if_pos c4, this, show d + 1 - 1 = d by omega]; omega
          · rw [if_neg c4, show d + clg (W - m1 * d) m2 - 1 - d = clg (W - m1 * d) m2 - 1 by omega]; omega
        · rw [if_neg c3] at hn; omega
end Fg
end Go.Proofs.Ytlenmhbhakeonaa

namespace Go.Proofs.Ytlenmhbhakeonaa
set_option linter.unusedVariables false
set_option linter.unusedSimpArgs false
set_option maxRecDepth 100000
open Go.RowKit Fg Reg

theorem cl_clg (n d : Int) : cl n d = clg n d := rfl

set_option maxHeartbeats 1000000 in
theorem kof_c (m1 d m2 : Int) (h1 : In m1) (h2 : In d) (h3 : In m2) (w : World) : Calls Try.prog 119 #[.agg #[.int .u64 (m1), .int .u64 (d), .int .u64 (m2)]] w fun ee w' => ee = .returned (.int .i64 (kind m1 d m2)) ∧ Below w.heap.size w w' := by
  have b1 : 0 ≤ m1 := h1.1
  have b2 : 0 ≤ d := h2.1
  have b3 : 0 ≤ m2 := h3.1
  go_enter Try.func119, Try.ntmps119
  go_wp2
  all_goals
    go_ret
    refine ⟨ret_int ?_, (by repeat' (first | with_reducible exact Below.refl _ _ | with_reducible assumption | ((with_reducible refine Below.drew ?_)) | ((with_reducible refine below_drewN ?_ _)) | ((with_reducible refine Below.alloc ?_ ?_ _); rotate_left; focus (first | omega | (simp; done) | (simp; omega))) | ((with_reducible refine Below.setCell ?_ ?_ _); rotate_left; focus (first | omega | (simp; done) | (simp; omega))) | ((with_reducible refine Below.trans ?_ (Below.mono (by with_reducible assumption) ?_)); rotate_left; focus (first | omega | (simp; done) | (simp; omega)))))⟩
    unfold kind
    (repeat' split) <;> first | rfl | omega | (simp_all; done)

end Go.Proofs.Ytlenmhbhakeonaa

namespace Go.Proofs.Ytlenmhbhakeonaa
set_option linter.unusedVariables false
set_option linter.unusedSimpArgs false
set_option maxRecDepth 100000
open Go.RowKit Fg Reg

theorem clg_wd {W m : Int} (hW : Wd W) (hm1 : 1 ≤ m) : Wd (clg W m) := by
  have h1 := cl_between W m
  rw [cl_clg] at h1
  have h2 := wd_quo hW (show 0 < m by omega)
  have h3 := Int.ediv_le_self m hW.1
  unfold Wd at *
  rcases h1 with h1 | h1
  · omega
  · refine ⟨by omega, ?_⟩
    rw [h1]
    rcases Int.lt_or_le m 2 with hm2 | hm2
    · have : m = 1 := by omega
      subst this
      have : clg W 1 = W := by unfold clg; rw [if_pos (by omega)]; omega
      omega
    · have h4 : W / m * m ≤ W := Int.ediv_mul_le W (by omega)
      have h5 : W / m * 2 ≤ W / m * m := Int.mul_le_mul_of_nonneg_left hm2 (Int.ediv_nonneg hW.1 (by omega))
      omega
end Go.Proofs.Ytlenmhbhakeonaa

namespace Go.Proofs.Ytlenmhbhakeonaa
set_option linter.unusedVariables false
set_option linter.unusedSimpArgs false
set_option maxRecDepth 100000
open Go.RowKit Fg Reg

set_option maxHeartbeats 1000000 in
theorem rkof_c (m1 d m2 : Int) (h1 : In m1) (h2 : In d) (h3 : In m2) (w : World) : Calls Try.prog 93 #[.agg #[.int .u64 (m1), .int .u64 (d), .int .u64 (m2)]] w fun ee w' => ee = .returned (.int .i64 (kind m1 d m2)) ∧ Below w.heap.size w w' := by
  have b1 : 0 ≤ m1 := h1.1
  have b2 : 0 ≤ d := h2.1
  have b3 : 0 ≤ m2 := h3.1
  go_enter Try.func93, Try.ntmps93
  go_wp2
  all_goals
    go_ret
    refine ⟨ret_int ?_, (by repeat' (first | with_reducible exact Below.refl _ _ | with_reducible assumption | ((with_reducible refine Below.drew ?_)) | ((with_reducible refine below_drewN ?_ _)) | ((with_reducible refine Below.alloc ?_ ?_ _); rotate_left; focus (first | omega | (simp; done) | (simp; omega))) | ((with_reducible refine Below.setCell ?_ ?_ _); rotate_left; focus (first | omega | (simp; done) | (simp; omega))) | ((with_reducible refine Below.trans ?_ (Below.mono (by with_reducible assumption) ?_)); rotate_left; focus (first | omega | (simp; done) | (simp; omega)))))⟩
    unfold kind
    (repeat' split) <;> first | rfl | omega | (simp_all; done)

end Go.Proofs.Ytlenmhbhakeonaa
