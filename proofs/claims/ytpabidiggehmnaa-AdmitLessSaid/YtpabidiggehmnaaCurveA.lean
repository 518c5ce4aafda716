import Derived.Test.YtpabidiggehmnaaMathA
import Derived.Test.YtpabidiggehmnaaRatioA
import Derived.Test.YtpabidiggehmnaaRefA
/- Service curves of two pieces, as numbers. Nothing of the program is imported here. -/
namespace Go.Proofs.Ytpabidiggehmnaa
set_option linter.unusedVariables false
set_option linter.unusedSimpArgs false
set_option maxRecDepth 100000
namespace Fg
def kind (m1 d m2 : Int) : Int :=
  if 4294967295 < m1 ∨ 4294967295 < m2 ∨ 1048576 < d then 0
  else if m1 = 0 ∧ d = 0 ∧ m2 = 0 then 1
  else if m1 = m2 ∧ d = 0 then 2
  else if m2 < m1 ∧ 0 < d then 3
  else if m1 = 0 ∧ 0 < m2 ∧ 0 < d then 4 else 0
/-- A curve that may be. -/
structure Okc (m1 d m2 : Int) : Prop where
  n1 : 0 ≤ m1
  n2 : 0 ≤ d
  n3 : 0 ≤ m2
  b1 : m1 ≤ 4294967295
  b2 : d ≤ 1048576
  b3 : m2 ≤ 4294967295
theorem okc {m1 d m2 : Int} (h1 : In m1) (h2 : In d) (h3 : In m2) (h : ¬ kind m1 d m2 = 0) : Okc m1 d m2 := by
  unfold kind at h
  split at h
  · exact absurd rfl h
  · unfold In at *
    constructor <;> omega
theorem kind_range (m1 d m2 : Int) : 0 ≤ kind m1 d m2 ∧ kind m1 d m2 ≤ 4 := by
  unfold kind; repeat' split
  all_goals omega
theorem kind_of3 {m1 d m2 : Int} (h : kind m1 d m2 = 3) : m2 < m1 := by
  unfold kind at h; revert h; repeat' split
  all_goals omega
theorem kind_of4 {m1 d m2 : Int} (h : kind m1 d m2 = 4) : m1 = 0 := by
  unfold kind at h; revert h; repeat' split
  all_goals omega
theorem kind_of12 {m1 d m2 : Int} (h : kind m1 d m2 = 1 ∨ kind m1 d m2 = 2) : m1 = m2 ∧ d = 0 := by
  unfold kind at h; revert h; repeat' split
  all_goals omega

/-- The service in t ticks of a curve that may be. -/
def sv (m1 d m2 t : Int) : Int := if t ≤ d then m1 * t else m1 * d + m2 * (t - d)
/-- .. of any curve. -/
def srv (m1 d m2 t : Int) : Int := if kind m1 d m2 = 0 then 0 else sv m1 d m2 t
theorem srv_ok {m1 d m2 : Int} (h : ¬ kind m1 d m2 = 0) (t : Int) : srv m1 d m2 t = sv m1 d m2 t := if_neg h
theorem srv_no {m1 d m2 : Int} (h : kind m1 d m2 = 0) (t : Int) : srv m1 d m2 t = 0 := if_pos h

theorem mul_bd {m t a b : Int} (h0 : 0 ≤ m) (h1 : m ≤ a) (g0 : 0 ≤ t) (g1 : t ≤ b) (ha : 0 ≤ a) : 0 ≤ m * t ∧ m * t ≤ a * b :=
  ⟨Int.mul_nonneg h0 g0, Int.mul_le_mul h1 g1 g0 ha⟩
theorem sv_nn {m1 d m2 t : Int} (h : Okc m1 d m2) (ht : 0 ≤ t) : 0 ≤ sv m1 d m2 t := by
  unfold sv
  split
  · exact Int.mul_nonneg h.n1 ht
  · have h1 := Int.mul_nonneg h.n1 h.n2
    have h2 := Int.mul_nonneg h.n3 (show 0 ≤ t - d by omega)
    omega
/-- It stays far below 2^128. -/
theorem sv_lt {m1 d m2 t : Int} (h : Okc m1 d m2) (ht : In t) : sv m1 d m2 t ≤ 79228162532711081662980096000 := by
  unfold sv
  unfold In at ht
  split
  · have := (mul_bd h.n1 h.b1 ht.1 (show t ≤ 1048576 by have := h.b2; omega) (by omega)).2
    omega
  · have h1 := (mul_bd h.n1 h.b1 h.n2 h.b2 (by omega)).2
    have h2 := (mul_bd h.n3 h.b3 (show 0 ≤ t - d by omega) (show t - d ≤ 18446744073709551615 by have := h.n2; omega) (by omega)).2
    omega
theorem sv_wd {m1 d m2 t : Int} (h : Okc m1 d m2) (ht : In t) : Wd (sv m1 d m2 t) := by
  have h1 := sv_nn h (show 0 ≤ t from ht.1)
  have h2 := sv_lt h ht
  unfold Wd; omega
theorem srv_wd {m1 d m2 t : Int} (h1 : In m1) (h2 : In d) (h3 : In m2) (ht : In t) : Wd (srv m1 d m2 t) := by
  by_cases h : kind m1 d m2 = 0
  · rw [srv_no h]; unfold Wd; omega
  · rw [srv_ok h]; exact sv_wd (okc h1 h2 h3 h) ht
theorem sv_mono {m1 d m2 t t' : Int} (h : Okc m1 d m2) (ht : t ≤ t') : sv m1 d m2 t ≤ sv m1 d m2 t' := by
  unfold sv
  split
  · split
    · exact Int.mul_le_mul_of_nonneg_left ht h.n1
    · have h1 := Int.mul_le_mul_of_nonneg_left (show t ≤ d by assumption) h.n1
      have h2 := Int.mul_nonneg h.n3 (show 0 ≤ t' - d by omega)
      omega
  · rw [if_neg (by omega)]
    have := Int.mul_le_mul_of_nonneg_left (show t - d ≤ t' - d by omega) h.n3
    omega
theorem srv_mono {m1 d m2 t t' : Int} (h1 : In m1) (h2 : In d) (h3 : In m2) (ht : t ≤ t') : srv m1 d m2 t ≤ srv m1 d m2 t' := by
  by_cases h : kind m1 d m2 = 0
  · rw [srv_no h, srv_no h]; omega
  · rw [srv_ok h, srv_ok h]; exact sv_mono (okc h1 h2 h3 h) ht

theorem sv_bend {m1 d m2 t f : Int} (h : Okc m1 d m2) (ht : 0 ≤ t) (hf : 0 ≤ f) :
    (m2 ≤ m1 → sv m1 d m2 (f + t) - sv m1 d m2 f ≤ sv m1 d m2 t) ∧ (m1 ≤ m2 → sv m1 d m2 t ≤ sv m1 d m2 (f + t) - sv m1 d m2 f) := by
  have n2 := h.n2
  have key : ∀ a b c e : Int, 0 ≤ (a - b) * (c - e) → 0 ≤ a * c - a * e - b * c + b * e := by
    intro a b c e h; rw [Int.sub_mul, Int.mul_sub, Int.mul_sub] at h; omega
  unfold sv
  constructor
  · intro hm
    have k := fun x e (hx : 0 ≤ x - e) => key m1 m2 x e (Int.mul_nonneg (by omega) hx)
    by_cases c1 : f + t ≤ d
    · rw [if_pos c1, if_pos (by omega), if_pos (by omega), Int.mul_add]; omega
    · by_cases c2 : f ≤ d
      · by_cases c3 : t ≤ d
        · rw [if_neg c1, if_pos c2, if_pos c3]
          have := k (f + t) d (by omega)
          simp only [Int.mul_add, Int.mul_sub] at *; omega
        · rw [if_neg c1, if_pos c2, if_neg c3]
          have := k f 0 (by omega)
          simp only [Int.mul_add, Int.mul_sub, Int.mul_zero] at *; omega
      · by_cases c3 : t ≤ d
        · rw [if_neg c1, if_neg c2, if_pos c3]
          have := k t 0 (by omega)
          simp only [Int.mul_add, Int.mul_sub, Int.mul_zero] at *; omega
        · rw [if_neg c1, if_neg c2, if_neg c3]
          have := k d 0 (by omega)
          simp only [Int.mul_add, Int.mul_sub, Int.mul_zero] at *; omega
  · intro hm
    have k := fun x e (hx : 0 ≤ x - e) => key m2 m1 x e (Int.mul_nonneg (by omega) hx)
    by_cases c1 : f + t ≤ d
    · rw [if_pos c1, if_pos (by omega), if_pos (by omega), Int.mul_add]; omega
    · by_cases c2 : f ≤ d
      · by_cases c3 : t ≤ d
        · rw [if_neg c1, if_pos c2, if_pos c3]
          have := k (f + t) d (by omega)
          simp only [Int.mul_add, Int.mul_sub] at *; omega
        · rw [if_neg c1, if_pos c2, if_neg c3]
          have := k f 0 (by omega)
          simp only [Int.mul_add, Int.mul_sub, Int.mul_zero] at *; omega
      · by_cases c3 : t ≤ d
        · rw [if_neg c1, if_neg c2, if_pos c3]
          have := k t 0 (by omega)
          simp only [Int.mul_add, Int.mul_sub, Int.mul_zero] at *; omega
        · rw [if_neg c1, if_neg c2, if_neg c3]
          have := k d 0 (by omega)
          simp only [Int.mul_add, Int.mul_sub, Int.mul_zero] at *; omega

/-- The quotient, rounded up. -/
def clg (n d : Int) : Int := if n % d = 0 then n / d else n / d + 1
theorem clg_spec {n d : Int} (hd : 0 < d) : n ≤ d * clg n d ∧ d * (clg n d - 1) < n := by
  have e := Int.mul_ediv_add_emod n d
  have r0 := Int.emod_nonneg n (show d ≠ 0 by omega)
  have r1 := Int.emod_lt_of_pos n hd
  unfold clg
  split
  · rw [Int.mul_sub]; omega
  · rw [Int.mul_sub, Int.mul_add]; omega
theorem clg_nn {n d : Int} (hn : 0 ≤ n) (hd : 0 < d) : 0 ≤ clg n d := by
  have := Int.ediv_nonneg hn (show 0 ≤ d by omega)
  unfold clg; split <;> omega
theorem clg_pos {n d : Int} (hn : 0 < n) (hd : 0 < d) : 1 ≤ clg n d := by
  have h := (clg_spec (n := n) hd).1
  have h0 := clg_nn (n := n) (by omega) hd
  rcases Int.lt_or_le 0 (clg n d) with h1 | h1
  · omega
  · have : clg n d = 0 := by omega
    rw [this, Int.mul_zero] at h; omega

/-- In how many ticks, behind some others, a slope gives so much. -/
def ov (W m b : Int) : Int := if W = 0 then b else if m = 0 then 9223372036854775808 else if clg W m + b < 9223372036854775808 then b + clg W m else 9223372036854775808
/-- In how many ticks the service is at least so much. -/
def tk (m1 d m2 W : Int) : Int := if kind m1 d m2 = 0 then 9223372036854775808 else if W ≤ m1 * d then ov W m1 0 else ov (W - m1 * d) m2 d
theorem ov_in {W m b : Int} (hW : 0 ≤ W) (hm : 0 ≤ m) (hb : 0 ≤ b ∧ b ≤ 9223372036854775808) : 0 ≤ ov W m b ∧ ov W m b ≤ 9223372036854775808 := by
  unfold ov
  split
  · omega
  · split
    · omega
    · have := clg_nn hW (show 0 < m by omega)
      split <;> omega
theorem tk_in {m1 d m2 W : Int} (h1 : In m1) (h2 : In d) (h3 : In m2) (hW : Wd W) : 0 ≤ tk m1 d m2 W ∧ tk m1 d m2 W ≤ 9223372036854775808 := by
  unfold tk
  split
  · omega
  · have h := okc h1 h2 h3 (by assumption)
    have := h.b2
    have := h.n2
    split
    · exact ov_in hW.1 h.n1 (by omega)
    · exact ov_in (by omega) h.n3 (by omega)
/-- IN FEWER IT IS LESS, IN SO MANY IT IS NOT. -/
theorem tk_spec {m1 d m2 W : Int} (h1 : In m1) (h2 : In d) (h3 : In m2) (hW : Wd W) (hn : tk m1 d m2 W < 9223372036854775808) :
    W ≤ srv m1 d m2 (tk m1 d m2 W) ∧ (0 < tk m1 d m2 W → srv m1 d m2 (tk m1 d m2 W - 1) < W) := by
  by_cases hk : kind m1 d m2 = 0
  · unfold tk at hn; rw [if_pos hk] at hn; omega
  · have h := okc h1 h2 h3 hk
    rw [srv_ok hk, srv_ok hk]
    have e : tk m1 d m2 W = if W ≤ m1 * d then ov W m1 0 else ov (W - m1 * d) m2 d := if_neg hk
    rw [e] at hn ⊢
    have n1 := h.n1
    have n2 := h.n2
    have n3 := h.n3
    by_cases c1 : W ≤ m1 * d
    · rw [if_pos c1] at hn ⊢
      unfold ov at hn ⊢
      by_cases c0 : W = 0
      · rw [if_pos c0] at hn ⊢
        refine ⟨?_, fun h => by omega⟩
        rw [c0]; exact sv_nn h (by omega)
      · rw [if_neg c0] at hn ⊢
        by_cases c2 : m1 = 0
        · rw [if_pos c2] at hn; omega
        · rw [if_neg c2] at hn ⊢
          by_cases c3 : clg W m1 + 0 < 9223372036854775808
          · rw [if_pos c3] at hn ⊢
            have s := clg_spec (n := W) (show 0 < m1 by omega)
            have s0 := clg_nn hW.1 (show 0 < m1 by omega)
            have hd : clg W m1 ≤ d := by
              rcases Int.lt_or_le d (clg W m1) with h' | h'
              · have := Int.mul_le_mul_of_nonneg_left (show d ≤ clg W m1 - 1 by omega) n1
                omega
              · exact h'
            rw [Int.zero_add]
            unfold sv
            rw [if_pos hd, if_pos (by omega)]
            exact ⟨s.1, fun _ => s.2⟩
          · rw [if_neg c3] at hn; omega
    · rw [if_neg c1] at hn ⊢
      unfold ov at hn ⊢
      rw [if_neg (show ¬ W - m1 * d = 0 by omega)] at hn ⊢
      by_cases c2 : m2 = 0
      · rw [if_pos c2] at hn; omega
      · rw [if_neg c2] at hn ⊢
        by_cases c3 : clg (W - m1 * d) m2 + d < 9223372036854775808
        · rw [if_pos c3] at hn ⊢
          have s := clg_spec (n := W - m1 * d) (show 0 < m2 by omega)
          have s0 := clg_pos (n := W - m1 * d) (by omega) (show 0 < m2 by omega)
          unfold sv
          rw [if_neg (by omega), show d + clg (W - m1 * d) m2 - d = clg (W - m1 * d) m2 by omega]
          refine ⟨by omega, fun _ => ?_⟩
          by_cases c4 : d + clg (W - m1 * d) m2 - 1 ≤ d
          · have : clg (W - m1 * d) m2 = 1 := by omega
            rw [if_pos c4, this, show d + 1 - 1 = d by omega]; omega
          · rw [if_neg c4, show d + clg (W - m1 * d) m2 - 1 - d = clg (W - m1 * d) m2 - 1 by omega]; omega
        · rw [if_neg c3] at hn; omega
end Fg
end Go.Proofs.Ytpabidiggehmnaa

namespace Go.Proofs.Ytpabidiggehmnaa
set_option linter.unusedVariables false
set_option linter.unusedSimpArgs false
set_option maxRecDepth 100000
open Go.RowKit Fg Reg

theorem cl_clg (n d : Int) : cl n d = clg n d := rfl

set_option maxHeartbeats 1000000 in
theorem kof_c (m1 d m2 : Int) (h1 : In m1) (h2 : In d) (h3 : In m2) (w : World) : Calls Try.prog 42 #[.agg #[.int .u64 (m1), .int .u64 (d), .int .u64 (m2)]] w fun ee w' => ee = .returned (.int .i64 (kind m1 d m2)) ∧ Below w.heap.size w w' := by
  have b1 : 0 ≤ m1 := h1.1
  have b2 : 0 ≤ d := h2.1
  have b3 : 0 ≤ m2 := h3.1
  go_enter Try.func42, Try.ntmps42
  go_wp2
  all_goals
    go_ret
    refine ⟨ret_int ?_, (by repeat' (first | with_reducible exact Below.refl _ _ | with_reducible assumption | ((with_reducible refine Below.drew ?_)) | ((with_reducible refine below_drewN ?_ _)) | ((with_reducible refine Below.alloc ?_ ?_ _); rotate_left; focus (first | omega | (simp; done) | (simp; omega))) | ((with_reducible refine Below.setCell ?_ ?_ _); rotate_left; focus (first | omega | (simp; done) | (simp; omega))) | ((with_reducible refine Below.trans ?_ (Below.mono (by with_reducible assumption) ?_)); rotate_left; focus (first | omega | (simp; done) | (simp; omega)))))⟩
    unfold kind
    (repeat' split) <;> first | rfl | omega | (simp_all; done)

theorem krt_yes (m1 d m2 : Int) (h1 : In m1) (h2 : In d) (h3 : In m2) (h : ¬ kind m1 d m2 = 0) (w : World) : Calls Try.prog 38 #[.agg #[.int .u64 (m1), .int .u64 (d), .int .u64 (m2)]] w fun ee w' => ee = .returned (.bool true) ∧ Below w.heap.size w w' := by
  have K := Lib.hid (kof_c m1 d m2 h1 h2 h3)
  have h0 : (kind m1 d m2 == 0) = false := by simpa using h
  have h0' : (kind m1 d m2 != 0) = true := by simpa using h
  clear h
  generalize kind m1 d m2 = k at *
  go_enter Try.func38, Try.ntmps38
  go_wp2_with (go_at_call 42; ((with_reducible refine (K.out _).mono ?_); rintro e w1 ⟨rfl, hbel⟩; obtain ⟨hcc, hff⟩ := bcell hbel; have hsz := hbel.size; (try simp at hsz); have hF : Below w.heap.size w w1 := (by ((repeat' apply And.intro) <;> first | (simp [go_sem, *]; done) | omega | (repeat' (first | with_reducible exact Below.refl _ _ | with_reducible assumption | ((with_reducible refine Below.drew ?_)) | ((with_reducible refine below_drewN ?_ _)) | ((with_reducible refine Below.alloc ?_ ?_ _); rotate_left; focus (first | omega | (simp; done) | (simp; omega))) | ((with_reducible refine Below.setCell ?_ ?_ _); rotate_left; focus (first | omega | (simp; done) | (simp; omega))) | ((with_reducible refine Below.trans ?_ (Below.mono (by with_reducible assumption) ?_)); rotate_left; focus (first | omega | (simp; done) | (simp; omega))))))); go_split_ands; clear hcc hff hbel))
  (go_ret; refine ⟨?_, ?_⟩; (focus (exact rfl)); ((repeat' (first | with_reducible exact Below.refl _ _ | with_reducible assumption | ((with_reducible refine Below.drew ?_)) | ((with_reducible refine below_drewN ?_ _)) | ((with_reducible refine Below.alloc ?_ ?_ _); rotate_left; focus (first | omega | (simp; done) | (simp; omega))) | ((with_reducible refine Below.setCell ?_ ?_ _); rotate_left; focus (first | omega | (simp; done) | (simp; omega))) | ((with_reducible refine Below.trans ?_ (Below.mono (by with_reducible assumption) ?_)); rotate_left; focus (first | omega | (simp; done) | (simp; omega))))); done))
theorem krt_no (m1 d m2 : Int) (h1 : In m1) (h2 : In d) (h3 : In m2) (h : kind m1 d m2 = 0) (w : World) : Calls Try.prog 38 #[.agg #[.int .u64 (m1), .int .u64 (d), .int .u64 (m2)]] w fun ee w' => ee = .returned (.bool false) ∧ Below w.heap.size w w' := by
  have k := kof_c m1 d m2 h1 h2 h3
  rw [h] at k
  have K := Lib.hid k
  clear k h
  go_enter Try.func38, Try.ntmps38
  go_wp2_with (go_at_call 42; ((with_reducible refine (K.out _).mono ?_); rintro e w1 ⟨rfl, hbel⟩; obtain ⟨hcc, hff⟩ := bcell hbel; have hsz := hbel.size; (try simp at hsz); have hF : Below w.heap.size w w1 := (by ((repeat' apply And.intro) <;> first | (simp [go_sem, *]; done) | omega | (repeat' (first | with_reducible exact Below.refl _ _ | with_reducible assumption | ((with_reducible refine Below.drew ?_)) | ((with_reducible refine below_drewN ?_ _)) | ((with_reducible refine Below.alloc ?_ ?_ _); rotate_left; focus (first | omega | (simp; done) | (simp; omega))) | ((with_reducible refine Below.setCell ?_ ?_ _); rotate_left; focus (first | omega | (simp; done) | (simp; omega))) | ((with_reducible refine Below.trans ?_ (Below.mono (by with_reducible assumption) ?_)); rotate_left; focus (first | omega | (simp; done) | (simp; omega))))))); go_split_ands; clear hcc hff hbel))
  (go_ret; refine ⟨?_, ?_⟩; (focus (exact rfl)); ((repeat' (first | with_reducible exact Below.refl _ _ | with_reducible assumption | ((with_reducible refine Below.drew ?_)) | ((with_reducible refine below_drewN ?_ _)) | ((with_reducible refine Below.alloc ?_ ?_ _); rotate_left; focus (first | omega | (simp; done) | (simp; omega))) | ((with_reducible refine Below.setCell ?_ ?_ _); rotate_left; focus (first | omega | (simp; done) | (simp; omega))) | ((with_reducible refine Below.trans ?_ (Below.mono (by with_reducible assumption) ?_)); rotate_left; focus (first | omega | (simp; done) | (simp; omega))))); done))

theorem ksc_no (t : Int) (h : t < 1) (w : World) : Calls Try.prog 54 #[.int .i64 t] w fun ee w' => ee = .returned (.int .u64 0) ∧ Below w.heap.size w w' := by
  go_enter Try.func54, Try.ntmps54
  go_wp2
  (go_ret; refine ⟨?_, ?_⟩; (focus (exact rfl)); ((repeat' (first | with_reducible exact Below.refl _ _ | with_reducible assumption | ((with_reducible refine Below.drew ?_)) | ((with_reducible refine below_drewN ?_ _)) | ((with_reducible refine Below.alloc ?_ ?_ _); rotate_left; focus (first | omega | (simp; done) | (simp; omega))) | ((with_reducible refine Below.setCell ?_ ?_ _); rotate_left; focus (first | omega | (simp; done) | (simp; omega))) | ((with_reducible refine Below.trans ?_ (Below.mono (by with_reducible assumption) ?_)); rotate_left; focus (first | omega | (simp; done) | (simp; omega))))); done))
theorem ksc_ok (t : Int) (h : 1 ≤ t) (h' : t ≤ 9223372036854775807) (w : World) : Calls Try.prog 54 #[.int .i64 t] w fun ee w' => ee = .returned (.int .u64 (65536 / t)) ∧ Below w.heap.size w w' := by
  have hw : IntKind.u64.wrap t = t := by rw [wrap_u64]; omega
  go_enter Try.func54, Try.ntmps54
  go_wp2
  (go_ret; refine ⟨?_, ?_⟩; (focus (exact rfl)); ((repeat' (first | with_reducible exact Below.refl _ _ | with_reducible assumption | ((with_reducible refine Below.drew ?_)) | ((with_reducible refine below_drewN ?_ _)) | ((with_reducible refine Below.alloc ?_ ?_ _); rotate_left; focus (first | omega | (simp; done) | (simp; omega))) | ((with_reducible refine Below.setCell ?_ ?_ _); rotate_left; focus (first | omega | (simp; done) | (simp; omega))) | ((with_reducible refine Below.trans ?_ (Below.mono (by with_reducible assumption) ?_)); rotate_left; focus (first | omega | (simp; done) | (simp; omega))))); done))

theorem ksv_no (m1 d m2 t : Int) (h1 : In m1) (h2 : In d) (h3 : In m2) (h : kind m1 d m2 = 0) (w : World) : Calls Try.prog 34 #[.agg #[.int .u64 (m1), .int .u64 (d), .int .u64 (m2)], .int .u64 t] w fun ee w' => ee = .returned (.agg #[.int .u64 0, .int .u64 0]) ∧ Below w.heap.size w w' := by
  have K := Lib.hid (krt_no m1 d m2 h1 h2 h3 h)
  clear h
  go_enter Try.func34, Try.ntmps34
  go_wp2_with (go_at_call 38; ((with_reducible refine (K.out _).mono ?_); rintro e w1 ⟨rfl, hbel⟩; obtain ⟨hcc, hff⟩ := bcell hbel; have hsz := hbel.size; (try simp at hsz); have hF : (w1.cell? ⟨w.heap.size, 0, none⟩ = some (.int .u64 m1) ∧ w1.cell? ⟨w.heap.size, 1, none⟩ = some (.int .u64 d) ∧ w1.cell? ⟨w.heap.size, 2, none⟩ = some (.int .u64 m2) ∧ w.heap.size < w1.heap.size) ∧ (w1.cell? ⟨w.heap.size + 1, 0, none⟩ = some (.int .u64 (0)) ∧ w1.cell? ⟨w.heap.size + 1, 1, none⟩ = some (.int .u64 (0)) ∧ w1.frozen? ⟨w.heap.size + 1, 0, none⟩ = false ∧ w1.frozen? ⟨w.heap.size + 1, 1, none⟩ = false ∧ w.heap.size + 1 < w1.heap.size) ∧ Below w.heap.size w w1 := (by ((repeat' apply And.intro) <;> first | (simp [go_sem, *]; done) | omega | (repeat' (first | with_reducible exact Below.refl _ _ | with_reducible assumption | ((with_reducible refine Below.drew ?_)) | ((with_reducible refine below_drewN ?_ _)) | ((with_reducible refine Below.alloc ?_ ?_ _); rotate_left; focus (first | omega | (simp; done) | (simp; omega))) | ((with_reducible refine Below.setCell ?_ ?_ _); rotate_left; focus (first | omega | (simp; done) | (simp; omega))) | ((with_reducible refine Below.trans ?_ (Below.mono (by with_reducible assumption) ?_)); rotate_left; focus (first | omega | (simp; done) | (simp; omega))))))); go_split_ands; clear hcc hff hbel))
  refine bodyPost_ret (v := .agg #[.int .u64 0, .int .u64 0]) (by simp [results, Try.results34, go_sem, *]) rfl ⟨rfl, (by repeat' (first | with_reducible exact Below.refl _ _ | with_reducible assumption | ((with_reducible refine Below.drew ?_)) | ((with_reducible refine below_drewN ?_ _)) | ((with_reducible refine Below.alloc ?_ ?_ _); rotate_left; focus (first | omega | (simp; done) | (simp; omega))) | ((with_reducible refine Below.setCell ?_ ?_ _); rotate_left; focus (first | omega | (simp; done) | (simp; omega))) | ((with_reducible refine Below.trans ?_ (Below.mono (by with_reducible assumption) ?_)); rotate_left; focus (first | omega | (simp; done) | (simp; omega)))))⟩
set_option maxHeartbeats 2000000 in
set_option maxRecDepth 100000 in
theorem ksv_lo (m1 d m2 t x y : Int) (h1 : In m1) (h2 : In d) (h3 : In m2) (ht : In t) (hle : t ≤ d) (h : ¬ kind m1 d m2 = 0)
    (k2 : ∀ w, Calls Try.prog 22 #[.int .u64 m1, .int .u64 t] w fun ee w' => ee = .returned (.agg #[.int .u64 x, .int .u64 y]) ∧ Below w.heap.size w w')
    (k3 : ∀ w, Calls Try.prog 22 #[.int .u64 m2, .int .u64 0] w fun ee w' => ee = .returned (.agg #[.int .u64 0, .int .u64 0]) ∧ Below w.heap.size w w')
    (k4 : ∀ w, Calls Try.prog 46 #[.agg #[.int .u64 x, .int .u64 y], .agg #[.int .u64 0, .int .u64 0]] w fun ee w' => ee = .returned (.tuple #[.agg #[.int .u64 x, .int .u64 y], .bool false]) ∧ Below w.heap.size w w')
    (w : World) : Calls Try.prog 34 #[.agg #[.int .u64 (m1), .int .u64 (d), .int .u64 (m2)], .int .u64 t] w fun ee w' => ee = .returned (.agg #[.int .u64 x, .int .u64 y]) ∧ Below w.heap.size w w' := by
  have ht' : 0 ≤ t ∧ t ≤ 18446744073709551615 := ht
  have hmin : (if d < t then d else t) = t := if_neg (by omega)
  have K := Lib.hid (krt_yes m1 d m2 h1 h2 h3 h)
  have K2 := Lib.hid k2
  have K3 := Lib.hid k3
  have K4 := Lib.hid k4
  clear h k2 k3 k4
  go_enter Try.func34, Try.ntmps34
  go_wp2_with (go_at_call 38; ((with_reducible refine (K.out _).mono ?_); rintro e w1 ⟨rfl, hbel⟩; obtain ⟨hcc, hff⟩ := bcell hbel; have hsz := hbel.size; (try simp at hsz); have hF : (w1.cell? ⟨w.heap.size, 0, none⟩ = some (.int .u64 m1) ∧ w1.cell? ⟨w.heap.size, 1, none⟩ = some (.int .u64 d) ∧ w1.cell? ⟨w.heap.size, 2, none⟩ = some (.int .u64 m2) ∧ w.heap.size < w1.heap.size) ∧ (w1.cell? ⟨w.heap.size + 1, 0, none⟩ = some (.int .u64 (0)) ∧ w1.cell? ⟨w.heap.size + 1, 1, none⟩ = some (.int .u64 (0)) ∧ w1.frozen? ⟨w.heap.size + 1, 0, none⟩ = false ∧ w1.frozen? ⟨w.heap.size + 1, 1, none⟩ = false ∧ w.heap.size + 1 < w1.heap.size) ∧ Below w.heap.size w w1 := (by ((repeat' apply And.intro) <;> first | (simp [go_sem, *]; done) | omega | (repeat' (first | with_reducible exact Below.refl _ _ | with_reducible assumption | ((with_reducible refine Below.drew ?_)) | ((with_reducible refine below_drewN ?_ _)) | ((with_reducible refine Below.alloc ?_ ?_ _); rotate_left; focus (first | omega | (simp; done) | (simp; omega))) | ((with_reducible refine Below.setCell ?_ ?_ _); rotate_left; focus (first | omega | (simp; done) | (simp; omega))) | ((with_reducible refine Below.trans ?_ (Below.mono (by with_reducible assumption) ?_)); rotate_left; focus (first | omega | (simp; done) | (simp; omega))))))); go_split_ands; clear hcc hff hbel))
  obtain ⟨Cl, hCl⟩ : ∃ Cl : List Value → World → Prop, Cl = (((fun ps w' => ((w'.cell? ⟨w.heap.size, 0, none⟩ = some (.int .u64 m1) ∧ w'.cell? ⟨w.heap.size, 1, none⟩ = some (.int .u64 d) ∧ w'.cell? ⟨w.heap.size, 2, none⟩ = some (.int .u64 m2) ∧ w.heap.size < w'.heap.size) ∧ (w'.cell? ⟨w.heap.size + 1, 0, none⟩ = some (.int .u64 (0)) ∧ w'.cell? ⟨w.heap.size + 1, 1, none⟩ = some (.int .u64 (0)) ∧ w'.frozen? ⟨w.heap.size + 1, 0, none⟩ = false ∧ w'.frozen? ⟨w.heap.size + 1, 1, none⟩ = false ∧ w.heap.size + 1 < w'.heap.size) ∧ Below w.heap.size w w') ∧ (match ps with | [] => True | [pz] => ∃ b, pz = Value.pointer (some ⟨b, 0, none⟩) ∧ w.heap.size + 1 < b ∧ (w'.cell? ⟨b, 0, none⟩ = some (.int .u64 (0)) ∧ w'.cell? ⟨b, 1, none⟩ = some (.int .u64 (0)) ∧ w'.frozen? ⟨b, 0, none⟩ = false ∧ w'.frozen? ⟨b, 1, none⟩ = false ∧ b < w'.heap.size) | (pz :: _ :: _) => ∃ b, pz = Value.pointer (some ⟨b, 0, none⟩) ∧ w.heap.size + 1 < b ∧ (w'.cell? ⟨b, 0, none⟩ = some (.int .u64 (x)) ∧ w'.cell? ⟨b, 1, none⟩ = some (.int .u64 (y)) ∧ w'.frozen? ⟨b, 0, none⟩ = false ∧ w'.frozen? ⟨b, 1, none⟩ = false ∧ b < w'.heap.size))))) := ⟨_, rfl⟩; have HCl := Lib.hid hCl; clear hCl; refine wp_region_eff [14, 15] Cl (by kernel_rfl) (by kernel_rfl) (by rw [HCl.out]; (try simp only [List.nil_append, List.cons_append]); (try dsimp only); ((repeat' apply And.intro) <;> first | (simp [go_sem, *]; done) | omega | (repeat' (first | with_reducible exact Below.refl _ _ | with_reducible assumption | ((with_reducible refine Below.drew ?_)) | ((with_reducible refine below_drewN ?_ _)) | ((with_reducible refine Below.alloc ?_ ?_ _); rotate_left; focus (first | omega | (simp; done) | (simp; omega))) | ((with_reducible refine Below.setCell ?_ ?_ _); rotate_left; focus (first | omega | (simp; done) | (simp; omega))) | ((with_reducible refine Below.trans ?_ (Below.mono (by with_reducible assumption) ?_)); rotate_left; focus (first | omega | (simp; done) | (simp; omega))))))) ?_
  (repeat (first | (refine wE_skip (by rfl) ?_; simp only [Act.put, Nat.reduceAdd, List.setIfInBounds_toArray, List.set_cons_zero, List.set_cons_succ, List.nil_append, List.cons_append]) | (refine wE_open (by rfl) (by rfl) ?_; apply Exists.intro; refine ⟨fun vs wq hw => ?_, ?_⟩; (focus (rw [HCl.out] at hw; (try simp only [List.nil_append, List.cons_append] at hw); (try dsimp only at hw); go_split_ands; go_simp <;> first | with_reducible exact (rfl : Value.bool false = _) | with_reducible exact (rfl : Value.bool true = _) | ((try go_bits) <;> exact rfl))); simp only [Act.put, Nat.reduceAdd, List.setIfInBounds_toArray, List.set_cons_zero, List.set_cons_succ, List.nil_append, List.cons_append]) | (refine wE_open (by rfl) (by rfl) ?_; apply Exists.intro; refine ⟨fun vs wq hw => ?_, ?_⟩; (focus (rw [HCl.out] at hw; (try simp only [List.nil_append, List.cons_append] at hw); (try dsimp only at hw); obtain ⟨hw1, hw2⟩ := hw; go_split_ands; go_simp; (first | (go_at_call 22; first | ((with_reducible refine (K2.out _).mono ?_); rintro e w' ⟨rfl, hbel⟩; obtain ⟨hcc, hff⟩ := bcell hbel; have hsz := hbel.size; (try simp at hsz); refine ⟨rfl, ?_⟩; rw [HCl.out]; (try simp only [List.nil_append, List.cons_append]); (try dsimp only); refine ⟨(by ((repeat' apply And.intro) <;> first | (simp [go_sem, *]; done) | omega | (repeat' (first | with_reducible exact Below.refl _ _ | with_reducible assumption | ((with_reducible refine Below.drew ?_)) | ((with_reducible refine below_drewN ?_ _)) | ((with_reducible refine Below.alloc ?_ ?_ _); rotate_left; focus (first | omega | (simp; done) | (simp; omega))) | ((with_reducible refine Below.setCell ?_ ?_ _); rotate_left; focus (first | omega | (simp; done) | (simp; omega))) | ((with_reducible refine Below.trans ?_ (Below.mono (by with_reducible assumption) ?_)); rotate_left; focus (first | omega | (simp; done) | (simp; omega))))))), ?_⟩; (rcases vs with _ | ⟨p1, _ | ⟨p2, vs⟩⟩ <;> first | exact trivial | (obtain ⟨bq, hbe, hlb, hz⟩ := hw2; exact ⟨bq, hbe, hlb, (by ((repeat' apply And.intro) <;> first | (simp [go_sem, *]; done) | omega | (repeat' (first | with_reducible exact Below.refl _ _ | with_reducible assumption | ((with_reducible refine Below.drew ?_)) | ((with_reducible refine below_drewN ?_ _)) | ((with_reducible refine Below.alloc ?_ ?_ _); rotate_left; focus (first | omega | (simp; done) | (simp; omega))) | ((with_reducible refine Below.setCell ?_ ?_ _); rotate_left; focus (first | omega | (simp; done) | (simp; omega))) | ((with_reducible refine Below.trans ?_ (Below.mono (by with_reducible assumption) ?_)); rotate_left; focus (first | omega | (simp; done) | (simp; omega)))))))⟩))) | ((with_reducible refine (K3.out _).mono ?_); rintro e w' ⟨rfl, hbel⟩; obtain ⟨hcc, hff⟩ := bcell hbel; have hsz := hbel.size; (try simp at hsz); refine ⟨rfl, ?_⟩; rw [HCl.out]; (try simp only [List.nil_append, List.cons_append]); (try dsimp only); refine ⟨(by ((repeat' apply And.intro) <;> first | (simp [go_sem, *]; done) | omega | (repeat' (first | with_reducible exact Below.refl _ _ | with_reducible assumption | ((with_reducible refine Below.drew ?_)) | ((with_reducible refine below_drewN ?_ _)) | ((with_reducible refine Below.alloc ?_ ?_ _); rotate_left; focus (first | omega | (simp; done) | (simp; omega))) | ((with_reducible refine Below.setCell ?_ ?_ _); rotate_left; focus (first | omega | (simp; done) | (simp; omega))) | ((with_reducible refine Below.trans ?_ (Below.mono (by with_reducible assumption) ?_)); rotate_left; focus (first | omega | (simp; done) | (simp; omega))))))), ?_⟩; (rcases vs with _ | ⟨p1, _ | ⟨p2, vs⟩⟩ <;> first | exact trivial | (obtain ⟨bq, hbe, hlb, hz⟩ := hw2; exact ⟨bq, hbe, hlb, (by ((repeat' apply And.intro) <;> first | (simp [go_sem, *]; done) | omega | (repeat' (first | with_reducible exact Below.refl _ _ | with_reducible assumption | ((with_reducible refine Below.drew ?_)) | ((with_reducible refine below_drewN ?_ _)) | ((with_reducible refine Below.alloc ?_ ?_ _); rotate_left; focus (first | omega | (simp; done) | (simp; omega))) | ((with_reducible refine Below.setCell ?_ ?_ _); rotate_left; focus (first | omega | (simp; done) | (simp; omega))) | ((with_reducible refine Below.trans ?_ (Below.mono (by with_reducible assumption) ?_)); rotate_left; focus (first | omega | (simp; done) | (simp; omega)))))))⟩)))) | (go_at_call 46; ((with_reducible refine (K4.out _).mono ?_); rintro e w' ⟨rfl, hbel⟩; obtain ⟨hcc, hff⟩ := bcell hbel; have hsz := hbel.size; (try simp at hsz); refine ⟨rfl, ?_⟩; rw [HCl.out]; (try simp only [List.nil_append, List.cons_append]); (try dsimp only); refine ⟨(by ((repeat' apply And.intro) <;> first | (simp [go_sem, *]; done) | omega | (repeat' (first | with_reducible exact Below.refl _ _ | with_reducible assumption | ((with_reducible refine Below.drew ?_)) | ((with_reducible refine below_drewN ?_ _)) | ((with_reducible refine Below.alloc ?_ ?_ _); rotate_left; focus (first | omega | (simp; done) | (simp; omega))) | ((with_reducible refine Below.setCell ?_ ?_ _); rotate_left; focus (first | omega | (simp; done) | (simp; omega))) | ((with_reducible refine Below.trans ?_ (Below.mono (by with_reducible assumption) ?_)); rotate_left; focus (first | omega | (simp; done) | (simp; omega))))))), ?_⟩; (rcases vs with _ | ⟨p1, _ | ⟨p2, vs⟩⟩ <;> first | exact trivial | (obtain ⟨bq, hbe, hlb, hz⟩ := hw2; exact ⟨bq, hbe, hlb, (by ((repeat' apply And.intro) <;> first | (simp [go_sem, *]; done) | omega | (repeat' (first | with_reducible exact Below.refl _ _ | with_reducible assumption | ((with_reducible refine Below.drew ?_)) | ((with_reducible refine below_drewN ?_ _)) | ((with_reducible refine Below.alloc ?_ ?_ _); rotate_left; focus (first | omega | (simp; done) | (simp; omega))) | ((with_reducible refine Below.setCell ?_ ?_ _); rotate_left; focus (first | omega | (simp; done) | (simp; omega))) | ((with_reducible refine Below.trans ?_ (Below.mono (by with_reducible assumption) ?_)); rotate_left; focus (first | omega | (simp; done) | (simp; omega)))))))⟩))))))); simp only [Act.put, Nat.reduceAdd, List.setIfInBounds_toArray, List.set_cons_zero, List.set_cons_succ, List.nil_append, List.cons_append])))
  refine wE_eff (by rfl) (by rfl) (fun wq hw => ?_) (fun u hu => ?_); (focus (rw [HCl.out] at hw; (try simp only [List.nil_append, List.cons_append] at hw); (try dsimp only at hw); go_split_ands; go_simp; rw [HCl.out]; (try simp only [List.nil_append, List.cons_append]); (try dsimp only); refine ⟨?_, wq.heap.size, rfl, ?_⟩ <;> ((repeat' apply And.intro) <;> first | (simp [go_sem, *]; done) | omega | (repeat' (first | with_reducible exact Below.refl _ _ | with_reducible assumption | ((with_reducible refine Below.drew ?_)) | ((with_reducible refine below_drewN ?_ _)) | ((with_reducible refine Below.alloc ?_ ?_ _); rotate_left; focus (first | omega | (simp; done) | (simp; omega))) | ((with_reducible refine Below.setCell ?_ ?_ _); rotate_left; focus (first | omega | (simp; done) | (simp; omega))) | ((with_reducible refine Below.trans ?_ (Below.mono (by with_reducible assumption) ?_)); rotate_left; focus (first | omega | (simp; done) | (simp; omega)))))))); obtain ⟨wz, hz⟩ := hu; rw [HCl.out] at hz; (try simp only [List.nil_append, List.cons_append] at hz); (try dsimp only at hz); obtain ⟨hz0, bN, rfl, hz2, hz1⟩ := hz; clear hz1 hz2 hz0 wz; simp only [Act.put, Nat.reduceAdd, List.setIfInBounds_toArray, List.set_cons_zero, List.set_cons_succ, List.nil_append, List.cons_append]
  refine wE_eff (by rfl) (by rfl) (fun wq hw => ?_) (fun u hu => ?_); (focus (rw [HCl.out] at hw; (try simp only [List.nil_append, List.cons_append] at hw); (try dsimp only at hw); obtain ⟨hw1, bq, hbe, hlb, hw2⟩ := hw; obtain rfl : bN = bq := (by simpa using hbe); clear hbe; go_split_ands; go_simp; rw [HCl.out]; (try simp only [List.nil_append, List.cons_append]); (try dsimp only); refine ⟨?_, bN, rfl, ?_⟩ <;> ((repeat' apply And.intro) <;> first | (simp [go_sem, *]; done) | omega | (repeat' (first | with_reducible exact Below.refl _ _ | with_reducible assumption | ((with_reducible refine Below.drew ?_)) | ((with_reducible refine below_drewN ?_ _)) | ((with_reducible refine Below.alloc ?_ ?_ _); rotate_left; focus (first | omega | (simp; done) | (simp; omega))) | ((with_reducible refine Below.setCell ?_ ?_ _); rotate_left; focus (first | omega | (simp; done) | (simp; omega))) | ((with_reducible refine Below.trans ?_ (Below.mono (by with_reducible assumption) ?_)); rotate_left; focus (first | omega | (simp; done) | (simp; omega)))))))); clear hu; simp only [Act.put, Nat.reduceAdd, List.setIfInBounds_toArray, List.set_cons_zero, List.set_cons_succ, List.nil_append, List.cons_append]
  repeat (first | (refine wE_skip (by rfl) ?_; simp only [Act.put, Nat.reduceAdd, List.setIfInBounds_toArray, List.set_cons_zero, List.set_cons_succ, List.nil_append, List.cons_append]) | (refine wE_open (by rfl) (by rfl) ?_; apply Exists.intro; refine ⟨fun vs wq hw => ?_, ?_⟩; (focus (rw [HCl.out] at hw; (try simp only [List.nil_append, List.cons_append] at hw); (try dsimp only at hw); go_split_ands; go_simp <;> first | with_reducible exact (rfl : Value.bool false = _) | with_reducible exact (rfl : Value.bool true = _) | ((try go_bits) <;> exact rfl))); simp only [Act.put, Nat.reduceAdd, List.setIfInBounds_toArray, List.set_cons_zero, List.set_cons_succ, List.nil_append, List.cons_append]))
  refine wE_nil ?_; intro w' hw; rw [HCl.out] at hw; (try simp only [List.nil_append, List.cons_append] at hw); (try dsimp only at hw); clear HCl; obtain ⟨hw1, bq, hbe, hlb, hw2⟩ := hw; obtain rfl : bN = bq := (by simpa using hbe); clear hbe; go_split_ands
  go_wp2
  refine bodyPost_ret (v := .agg #[.int .u64 x, .int .u64 y]) (by simp [results, Try.results34, go_sem, *]) rfl ⟨rfl, (by repeat' (first | with_reducible exact Below.refl _ _ | with_reducible assumption | ((with_reducible refine Below.drew ?_)) | ((with_reducible refine below_drewN ?_ _)) | ((with_reducible refine Below.alloc ?_ ?_ _); rotate_left; focus (first | omega | (simp; done) | (simp; omega))) | ((with_reducible refine Below.setCell ?_ ?_ _); rotate_left; focus (first | omega | (simp; done) | (simp; omega))) | ((with_reducible refine Below.trans ?_ (Below.mono (by with_reducible assumption) ?_)); rotate_left; focus (first | omega | (simp; done) | (simp; omega)))))⟩

set_option maxHeartbeats 2000000 in
set_option maxRecDepth 100000 in
theorem ksv_hi (m1 d m2 t x y p q u v : Int) (fl : Bool) (h1 : In m1) (h2 : In d) (h3 : In m2) (ht : In t) (hle : d < t) (h : ¬ kind m1 d m2 = 0)
    (k2 : ∀ w, Calls Try.prog 22 #[.int .u64 m1, .int .u64 d] w fun ee w' => ee = .returned (.agg #[.int .u64 p, .int .u64 q]) ∧ Below w.heap.size w w')
    (k3 : ∀ w, Calls Try.prog 22 #[.int .u64 m2, .int .u64 (t - d)] w fun ee w' => ee = .returned (.agg #[.int .u64 u, .int .u64 v]) ∧ Below w.heap.size w w')
    (k4 : ∀ w, Calls Try.prog 46 #[.agg #[.int .u64 p, .int .u64 q], .agg #[.int .u64 u, .int .u64 v]] w fun ee w' => ee = .returned (.tuple #[.agg #[.int .u64 x, .int .u64 y], .bool fl]) ∧ Below w.heap.size w w')
    (w : World) : Calls Try.prog 34 #[.agg #[.int .u64 (m1), .int .u64 (d), .int .u64 (m2)], .int .u64 t] w fun ee w' => ee = .returned (.agg #[.int .u64 x, .int .u64 y]) ∧ Below w.heap.size w w' := by
  have ht' : 0 ≤ t ∧ t ≤ 18446744073709551615 := ht
  have hd' : 0 ≤ d := h2.1
  have hmin : (if d < t then d else t) = d := if_pos (by omega)
  have K := Lib.hid (krt_yes m1 d m2 h1 h2 h3 h)
  have K2 := Lib.hid k2
  have K3 := Lib.hid k3
  have K4 := Lib.hid k4
  clear h k2 k3 k4
  go_enter Try.func34, Try.ntmps34
  go_wp2_with (go_at_call 38; ((with_reducible refine (K.out _).mono ?_); rintro e w1 ⟨rfl, hbel⟩; obtain ⟨hcc, hff⟩ := bcell hbel; have hsz := hbel.size; (try simp at hsz); have hF : (w1.cell? ⟨w.heap.size, 0, none⟩ = some (.int .u64 m1) ∧ w1.cell? ⟨w.heap.size, 1, none⟩ = some (.int .u64 d) ∧ w1.cell? ⟨w.heap.size, 2, none⟩ = some (.int .u64 m2) ∧ w.heap.size < w1.heap.size) ∧ (w1.cell? ⟨w.heap.size + 1, 0, none⟩ = some (.int .u64 (0)) ∧ w1.cell? ⟨w.heap.size + 1, 1, none⟩ = some (.int .u64 (0)) ∧ w1.frozen? ⟨w.heap.size + 1, 0, none⟩ = false ∧ w1.frozen? ⟨w.heap.size + 1, 1, none⟩ = false ∧ w.heap.size + 1 < w1.heap.size) ∧ Below w.heap.size w w1 := (by ((repeat' apply And.intro) <;> first | (simp [go_sem, *]; done) | omega | (repeat' (first | with_reducible exact Below.refl _ _ | with_reducible assumption | ((with_reducible refine Below.drew ?_)) | ((with_reducible refine below_drewN ?_ _)) | ((with_reducible refine Below.alloc ?_ ?_ _); rotate_left; focus (first | omega | (simp; done) | (simp; omega))) | ((with_reducible refine Below.setCell ?_ ?_ _); rotate_left; focus (first | omega | (simp; done) | (simp; omega))) | ((with_reducible refine Below.trans ?_ (Below.mono (by with_reducible assumption) ?_)); rotate_left; focus (first | omega | (simp; done) | (simp; omega))))))); go_split_ands; clear hcc hff hbel))
  obtain ⟨Cl, hCl⟩ : ∃ Cl : List Value → World → Prop, Cl = (((fun ps w' => ((w'.cell? ⟨w.heap.size, 0, none⟩ = some (.int .u64 m1) ∧ w'.cell? ⟨w.heap.size, 1, none⟩ = some (.int .u64 d) ∧ w'.cell? ⟨w.heap.size, 2, none⟩ = some (.int .u64 m2) ∧ w.heap.size < w'.heap.size) ∧ (w'.cell? ⟨w.heap.size + 1, 0, none⟩ = some (.int .u64 (0)) ∧ w'.cell? ⟨w.heap.size + 1, 1, none⟩ = some (.int .u64 (0)) ∧ w'.frozen? ⟨w.heap.size + 1, 0, none⟩ = false ∧ w'.frozen? ⟨w.heap.size + 1, 1, none⟩ = false ∧ w.heap.size + 1 < w'.heap.size) ∧ Below w.heap.size w w') ∧ (match ps with | [] => True | [pz] => ∃ b, pz = Value.pointer (some ⟨b, 0, none⟩) ∧ w.heap.size + 1 < b ∧ (w'.cell? ⟨b, 0, none⟩ = some (.int .u64 (0)) ∧ w'.cell? ⟨b, 1, none⟩ = some (.int .u64 (0)) ∧ w'.frozen? ⟨b, 0, none⟩ = false ∧ w'.frozen? ⟨b, 1, none⟩ = false ∧ b < w'.heap.size) | (pz :: _ :: _) => ∃ b, pz = Value.pointer (some ⟨b, 0, none⟩) ∧ w.heap.size + 1 < b ∧ (w'.cell? ⟨b, 0, none⟩ = some (.int .u64 (x)) ∧ w'.cell? ⟨b, 1, none⟩ = some (.int .u64 (y)) ∧ w'.frozen? ⟨b, 0, none⟩ = false ∧ w'.frozen? ⟨b, 1, none⟩ = false ∧ b < w'.heap.size))))) := ⟨_, rfl⟩; have HCl := Lib.hid hCl; clear hCl; refine wp_region_eff [14, 15] Cl (by kernel_rfl) (by kernel_rfl) (by rw [HCl.out]; (try simp only [List.nil_append, List.cons_append]); (try dsimp only); ((repeat' apply And.intro) <;> first | (simp [go_sem, *]; done) | omega | (repeat' (first | with_reducible exact Below.refl _ _ | with_reducible assumption | ((with_reducible refine Below.drew ?_)) | ((with_reducible refine below_drewN ?_ _)) | ((with_reducible refine Below.alloc ?_ ?_ _); rotate_left; focus (first | omega | (simp; done) | (simp; omega))) | ((with_reducible refine Below.setCell ?_ ?_ _); rotate_left; focus (first | omega | (simp; done) | (simp; omega))) | ((with_reducible refine Below.trans ?_ (Below.mono (by with_reducible assumption) ?_)); rotate_left; focus (first | omega | (simp; done) | (simp; omega))))))) ?_
  (repeat (first | (refine wE_skip (by rfl) ?_; simp only [Act.put, Nat.reduceAdd, List.setIfInBounds_toArray, List.set_cons_zero, List.set_cons_succ, List.nil_append, List.cons_append]) | (refine wE_open (by rfl) (by rfl) ?_; apply Exists.intro; refine ⟨fun vs wq hw => ?_, ?_⟩; (focus (rw [HCl.out] at hw; (try simp only [List.nil_append, List.cons_append] at hw); (try dsimp only at hw); go_split_ands; go_simp <;> first | with_reducible exact (rfl : Value.bool false = _) | with_reducible exact (rfl : Value.bool true = _) | ((try go_bits) <;> exact rfl))); simp only [Act.put, Nat.reduceAdd, List.setIfInBounds_toArray, List.set_cons_zero, List.set_cons_succ, List.nil_append, List.cons_append]) | (refine wE_open (by rfl) (by rfl) ?_; apply Exists.intro; refine ⟨fun vs wq hw => ?_, ?_⟩; (focus (rw [HCl.out] at hw; (try simp only [List.nil_append, List.cons_append] at hw); (try dsimp only at hw); obtain ⟨hw1, hw2⟩ := hw; go_split_ands; go_simp; (first | (go_at_call 22; first | ((with_reducible refine (K2.out _).mono ?_); rintro e w' ⟨rfl, hbel⟩; obtain ⟨hcc, hff⟩ := bcell hbel; have hsz := hbel.size; (try simp at hsz); refine ⟨rfl, ?_⟩; rw [HCl.out]; (try simp only [List.nil_append, List.cons_append]); (try dsimp only); refine ⟨(by ((repeat' apply And.intro) <;> first | (simp [go_sem, *]; done) | omega | (repeat' (first | with_reducible exact Below.refl _ _ | with_reducible assumption | ((with_reducible refine Below.drew ?_)) | ((with_reducible refine below_drewN ?_ _)) | ((with_reducible refine Below.alloc ?_ ?_ _); rotate_left; focus (first | omega | (simp; done) | (simp; omega))) | ((with_reducible refine Below.setCell ?_ ?_ _); rotate_left; focus (first | omega | (simp; done) | (simp; omega))) | ((with_reducible refine Below.trans ?_ (Below.mono (by with_reducible assumption) ?_)); rotate_left; focus (first | omega | (simp; done) | (simp; omega))))))), ?_⟩; (rcases vs with _ | ⟨p1, _ | ⟨p2, vs⟩⟩ <;> first | exact trivial | (obtain ⟨bq, hbe, hlb, hz⟩ := hw2; exact ⟨bq, hbe, hlb, (by ((repeat' apply And.intro) <;> first | (simp [go_sem, *]; done) | omega | (repeat' (first | with_reducible exact Below.refl _ _ | with_reducible assumption | ((with_reducible refine Below.drew ?_)) | ((with_reducible refine below_drewN ?_ _)) | ((with_reducible refine Below.alloc ?_ ?_ _); rotate_left; focus (first | omega | (simp; done) | (simp; omega))) | ((with_reducible refine Below.setCell ?_ ?_ _); rotate_left; focus (first | omega | (simp; done) | (simp; omega))) | ((with_reducible refine Below.trans ?_ (Below.mono (by with_reducible assumption) ?_)); rotate_left; focus (first | omega | (simp; done) | (simp; omega)))))))⟩))) | ((with_reducible refine (K3.out _).mono ?_); rintro e w' ⟨rfl, hbel⟩; obtain ⟨hcc, hff⟩ := bcell hbel; have hsz := hbel.size; (try simp at hsz); refine ⟨rfl, ?_⟩; rw [HCl.out]; (try simp only [List.nil_append, List.cons_append]); (try dsimp only); refine ⟨(by ((repeat' apply And.intro) <;> first | (simp [go_sem, *]; done) | omega | (repeat' (first | with_reducible exact Below.refl _ _ | with_reducible assumption | ((with_reducible refine Below.drew ?_)) | ((with_reducible refine below_drewN ?_ _)) | ((with_reducible refine Below.alloc ?_ ?_ _); rotate_left; focus (first | omega | (simp; done) | (simp; omega))) | ((with_reducible refine Below.setCell ?_ ?_ _); rotate_left; focus (first | omega | (simp; done) | (simp; omega))) | ((with_reducible refine Below.trans ?_ (Below.mono (by with_reducible assumption) ?_)); rotate_left; focus (first | omega | (simp; done) | (simp; omega))))))), ?_⟩; (rcases vs with _ | ⟨p1, _ | ⟨p2, vs⟩⟩ <;> first | exact trivial | (obtain ⟨bq, hbe, hlb, hz⟩ := hw2; exact ⟨bq, hbe, hlb, (by ((repeat' apply And.intro) <;> first | (simp [go_sem, *]; done) | omega | (repeat' (first | with_reducible exact Below.refl _ _ | with_reducible assumption | ((with_reducible refine Below.drew ?_)) | ((with_reducible refine below_drewN ?_ _)) | ((with_reducible refine Below.alloc ?_ ?_ _); rotate_left; focus (first | omega | (simp; done) | (simp; omega))) | ((with_reducible refine Below.setCell ?_ ?_ _); rotate_left; focus (first | omega | (simp; done) | (simp; omega))) | ((with_reducible refine Below.trans ?_ (Below.mono (by with_reducible assumption) ?_)); rotate_left; focus (first | omega | (simp; done) | (simp; omega)))))))⟩)))) | (go_at_call 46; ((with_reducible refine (K4.out _).mono ?_); rintro e w' ⟨rfl, hbel⟩; obtain ⟨hcc, hff⟩ := bcell hbel; have hsz := hbel.size; (try simp at hsz); refine ⟨rfl, ?_⟩; rw [HCl.out]; (try simp only [List.nil_append, List.cons_append]); (try dsimp only); refine ⟨(by ((repeat' apply And.intro) <;> first | (simp [go_sem, *]; done) | omega | (repeat' (first | with_reducible exact Below.refl _ _ | with_reducible assumption | ((with_reducible refine Below.drew ?_)) | ((with_reducible refine below_drewN ?_ _)) | ((with_reducible refine Below.alloc ?_ ?_ _); rotate_left; focus (first | omega | (simp; done) | (simp; omega))) | ((with_reducible refine Below.setCell ?_ ?_ _); rotate_left; focus (first | omega | (simp; done) | (simp; omega))) | ((with_reducible refine Below.trans ?_ (Below.mono (by with_reducible assumption) ?_)); rotate_left; focus (first | omega | (simp; done) | (simp; omega))))))), ?_⟩; (rcases vs with _ | ⟨p1, _ | ⟨p2, vs⟩⟩ <;> first | exact trivial | (obtain ⟨bq, hbe, hlb, hz⟩ := hw2; exact ⟨bq, hbe, hlb, (by ((repeat' apply And.intro) <;> first | (simp [go_sem, *]; done) | omega | (repeat' (first | with_reducible exact Below.refl _ _ | with_reducible assumption | ((with_reducible refine Below.drew ?_)) | ((with_reducible refine below_drewN ?_ _)) | ((with_reducible refine Below.alloc ?_ ?_ _); rotate_left; focus (first | omega | (simp; done) | (simp; omega))) | ((with_reducible refine Below.setCell ?_ ?_ _); rotate_left; focus (first | omega | (simp; done) | (simp; omega))) | ((with_reducible refine Below.trans ?_ (Below.mono (by with_reducible assumption) ?_)); rotate_left; focus (first | omega | (simp; done) | (simp; omega)))))))⟩))))))); simp only [Act.put, Nat.reduceAdd, List.setIfInBounds_toArray, List.set_cons_zero, List.set_cons_succ, List.nil_append, List.cons_append])))
  refine wE_eff (by rfl) (by rfl) (fun wq hw => ?_) (fun u hu => ?_); (focus (rw [HCl.out] at hw; (try simp only [List.nil_append, List.cons_append] at hw); (try dsimp only at hw); go_split_ands; go_simp; rw [HCl.out]; (try simp only [List.nil_append, List.cons_append]); (try dsimp only); refine ⟨?_, wq.heap.size, rfl, ?_⟩ <;> ((repeat' apply And.intro) <;> first | (simp [go_sem, *]; done) | omega | (repeat' (first | with_reducible exact Below.refl _ _ | with_reducible assumption | ((with_reducible refine Below.drew ?_)) | ((with_reducible refine below_drewN ?_ _)) | ((with_reducible refine Below.alloc ?_ ?_ _); rotate_left; focus (first | omega | (simp; done) | (simp; omega))) | ((with_reducible refine Below.setCell ?_ ?_ _); rotate_left; focus (first | omega | (simp; done) | (simp; omega))) | ((with_reducible refine Below.trans ?_ (Below.mono (by with_reducible assumption) ?_)); rotate_left; focus (first | omega | (simp; done) | (simp; omega)))))))); obtain ⟨wz, hz⟩ := hu; rw [HCl.out] at hz; (try simp only [List.nil_append, List.cons_append] at hz); (try dsimp only at hz); obtain ⟨hz0, bN, rfl, hz2, hz1⟩ := hz; clear hz1 hz2 hz0 wz; simp only [Act.put, Nat.reduceAdd, List.setIfInBounds_toArray, List.set_cons_zero, List.set_cons_succ, List.nil_append, List.cons_append]
  refine wE_eff (by rfl) (by rfl) (fun wq hw => ?_) (fun u hu => ?_); (focus (rw [HCl.out] at hw; (try simp only [List.nil_append, List.cons_append] at hw); (try dsimp only at hw); obtain ⟨hw1, bq, hbe, hlb, hw2⟩ := hw; obtain rfl : bN = bq := (by simpa using hbe); clear hbe; go_split_ands; go_simp; rw [HCl.out]; (try simp only [List.nil_append, List.cons_append]); (try dsimp only); refine ⟨?_, bN, rfl, ?_⟩ <;> ((repeat' apply And.intro) <;> first | (simp [go_sem, *]; done) | omega | (repeat' (first | with_reducible exact Below.refl _ _ | with_reducible assumption | ((with_reducible refine Below.drew ?_)) | ((with_reducible refine below_drewN ?_ _)) | ((with_reducible refine Below.alloc ?_ ?_ _); rotate_left; focus (first | omega | (simp; done) | (simp; omega))) | ((with_reducible refine Below.setCell ?_ ?_ _); rotate_left; focus (first | omega | (simp; done) | (simp; omega))) | ((with_reducible refine Below.trans ?_ (Below.mono (by with_reducible assumption) ?_)); rotate_left; focus (first | omega | (simp; done) | (simp; omega)))))))); clear hu; simp only [Act.put, Nat.reduceAdd, List.setIfInBounds_toArray, List.set_cons_zero, List.set_cons_succ, List.nil_append, List.cons_append]
  repeat (first | (refine wE_skip (by rfl) ?_; simp only [Act.put, Nat.reduceAdd, List.setIfInBounds_toArray, List.set_cons_zero, List.set_cons_succ, List.nil_append, List.cons_append]) | (refine wE_open (by rfl) (by rfl) ?_; apply Exists.intro; refine ⟨fun vs wq hw => ?_, ?_⟩; (focus (rw [HCl.out] at hw; (try simp only [List.nil_append, List.cons_append] at hw); (try dsimp only at hw); go_split_ands; go_simp <;> first | with_reducible exact (rfl : Value.bool false = _) | with_reducible exact (rfl : Value.bool true = _) | ((try go_bits) <;> exact rfl))); simp only [Act.put, Nat.reduceAdd, List.setIfInBounds_toArray, List.set_cons_zero, List.set_cons_succ, List.nil_append, List.cons_append]))
  refine wE_nil ?_; intro w' hw; rw [HCl.out] at hw; (try simp only [List.nil_append, List.cons_append] at hw); (try dsimp only at hw); clear HCl; obtain ⟨hw1, bq, hbe, hlb, hw2⟩ := hw; obtain rfl : bN = bq := (by simpa using hbe); clear hbe; go_split_ands
  go_wp2
  refine bodyPost_ret (v := .agg #[.int .u64 x, .int .u64 y]) (by simp [results, Try.results34, go_sem, *]) rfl ⟨rfl, (by repeat' (first | with_reducible exact Below.refl _ _ | with_reducible assumption | ((with_reducible refine Below.drew ?_)) | ((with_reducible refine below_drewN ?_ _)) | ((with_reducible refine Below.alloc ?_ ?_ _); rotate_left; focus (first | omega | (simp; done) | (simp; omega))) | ((with_reducible refine Below.setCell ?_ ?_ _); rotate_left; focus (first | omega | (simp; done) | (simp; omega))) | ((with_reducible refine Below.trans ?_ (Below.mono (by with_reducible assumption) ?_)); rotate_left; focus (first | omega | (simp; done) | (simp; omega)))))⟩
end Go.Proofs.Ytpabidiggehmnaa

namespace Go.Proofs.Ytpabidiggehmnaa
set_option linter.unusedVariables false
set_option linter.unusedSimpArgs false
set_option maxRecDepth 100000
open Go.RowKit Fg Reg

theorem ksv_c (m1 d m2 t : Int) (h1 : In m1) (h2 : In d) (h3 : In m2) (ht : In t) (w : World) : Calls Try.prog 34 #[.agg #[.int .u64 (m1), .int .u64 (d), .int .u64 (m2)], .int .u64 t] w fun ee w' => ee = .returned (.agg #[.int .u64 (hi (srv m1 d m2 t)), .int .u64 (lo (srv m1 d m2 t))]) ∧ Below w.heap.size w w' := by
  by_cases h : kind m1 d m2 = 0
  · rw [srv_no h]
    exact ksv_no m1 d m2 t h1 h2 h3 h w
  · rw [srv_ok h]
    have hk := okc h1 h2 h3 h
    rcases Int.lt_or_le d t with hlt | hle
    · have e : sv m1 d m2 t = m1 * d + m2 * (t - d) := if_neg (by omega)
      have ht2 : In (t - d) := by unfold In at *; omega
      refine ksv_hi m1 d m2 t _ _ _ _ _ _ (decide (340282366920938463463374607431768211455 < sv m1 d m2 t)) h1 h2 h3 ht hlt h (mul_c m1 d h1 h2) (mul_c m2 (t - d) h3 ht2) (fun w => ?_) w
      have k := add_c (hi (m1 * d)) (lo (m1 * d)) (hi (m2 * (t - d))) (lo (m2 * (t - d))) (hi_in _) (lo_in _) (hi_in _) (lo_in _) w
      rw [val_wd (wd_mul h1 h2), val_wd (wd_mul h3 ht2), ← e] at k
      exact k
    · have e : sv m1 d m2 t = m1 * t := if_pos hle
      rw [e]
      have z : In 0 := by unfold In; omega
      refine ksv_lo m1 d m2 t _ _ h1 h2 h3 ht hle h (mul_c m1 t h1 ht) (fun w => ?_) (fun w => ?_) w
      · have k := mul_c m2 0 h3 z w
        rw [Int.mul_zero] at k
        exact k
      · have k := add_c (hi (m1 * t)) (lo (m1 * t)) 0 0 (hi_in _) (lo_in _) z z w
        have hw := wd_mul h1 ht
        rw [val_wd hw, val_zero, Int.add_zero] at k
        have e2 : decide (340282366920938463463374607431768211455 < m1 * t) = false := by unfold Wd at hw; simp; omega
        rwa [e2] at k

theorem clg_wd {W m : Int} (hW : Wd W) (hm1 : 1 ≤ m) : Wd (clg W m) := by
  have h1 := cl_between W m
  rw [cl_clg] at h1
  have h2 := wd_quo hW (show 0 < m by omega)
  have h3 := Int.ediv_le_self m hW.1
  unfold Wd at *
  rcases h1 with h1 | h1
  · omega
  · refine ⟨by omega, ?_⟩
    rw [h1]
    rcases Int.lt_or_le m 2 with hm2 | hm2
    · have : m = 1 := by omega
      subst this
      have : clg W 1 = W := by unfold clg; rw [if_pos (by omega)]; omega
      omega
    · have h4 : W / m * m ≤ W := Int.ediv_mul_le W (by omega)
      have h5 : W / m * 2 ≤ W / m * m := Int.mul_le_mul_of_nonneg_left hm2 (Int.ediv_nonneg hW.1 (by omega))
      omega
end Go.Proofs.Ytpabidiggehmnaa

namespace Go.Proofs.Ytpabidiggehmnaa
set_option linter.unusedVariables false
set_option linter.unusedSimpArgs false
set_option maxRecDepth 100000
open Go.RowKit Fg Reg

set_option maxHeartbeats 1000000 in
theorem rkof_c (m1 d m2 : Int) (h1 : In m1) (h2 : In d) (h3 : In m2) (w : World) : Calls Try.prog 39 #[.agg #[.int .u64 (m1), .int .u64 (d), .int .u64 (m2)]] w fun ee w' => ee = .returned (.int .i64 (kind m1 d m2)) ∧ Below w.heap.size w w' := by
  have b1 : 0 ≤ m1 := h1.1
  have b2 : 0 ≤ d := h2.1
  have b3 : 0 ≤ m2 := h3.1
  go_enter Try.func39, Try.ntmps39
  go_wp2
  all_goals
    go_ret
    refine ⟨ret_int ?_, (by repeat' (first | with_reducible exact Below.refl _ _ | with_reducible assumption | ((with_reducible refine Below.drew ?_)) | ((with_reducible refine below_drewN ?_ _)) | ((with_reducible refine Below.alloc ?_ ?_ _); rotate_left; focus (first | omega | (simp; done) | (simp; omega))) | ((with_reducible refine Below.setCell ?_ ?_ _); rotate_left; focus (first | omega | (simp; done) | (simp; omega))) | ((with_reducible refine Below.trans ?_ (Below.mono (by with_reducible assumption) ?_)); rotate_left; focus (first | omega | (simp; done) | (simp; omega)))))⟩
    unfold kind
    (repeat' split) <;> first | rfl | omega | (simp_all; done)

theorem rsv_no (m1 d m2 t : Int) (h1 : In m1) (h2 : In d) (h3 : In m2) (h : kind m1 d m2 = 0) (w : World) : Calls Try.prog 36 #[.agg #[.int .u64 (m1), .int .u64 (d), .int .u64 (m2)], .int .u64 t] w fun ee w' => ee = .returned (.agg #[.int .u64 (d0 0), .int .u64 (d1 0), .int .u64 (d2 0), .int .u64 (d3 0)]) ∧ Below w.heap.size w w' := by
  have k := rkof_c m1 d m2 h1 h2 h3
  rw [h] at k
  have K := Lib.hid k
  clear h k
  go_enter Try.func36, Try.ntmps36
  go_wp2_with (go_at_call 39; ((with_reducible refine (K.out _).mono ?_); rintro e w1 ⟨rfl, hbel⟩; obtain ⟨hcc, hff⟩ := bcell hbel; have hsz := hbel.size; (try simp at hsz); have hF : (w1.cell? ⟨w.heap.size, 0, none⟩ = some (.int .u64 m1) ∧ w1.cell? ⟨w.heap.size, 1, none⟩ = some (.int .u64 d) ∧ w1.cell? ⟨w.heap.size, 2, none⟩ = some (.int .u64 m2) ∧ w.heap.size < w1.heap.size) ∧ (w1.cell? ⟨w.heap.size + 1, 0, none⟩ = some (.int .u64 0) ∧ w1.cell? ⟨w.heap.size + 1, 1, none⟩ = some (.int .u64 0) ∧ w1.cell? ⟨w.heap.size + 1, 2, none⟩ = some (.int .u64 0) ∧ w1.cell? ⟨w.heap.size + 1, 3, none⟩ = some (.int .u64 0) ∧ w1.frozen? ⟨w.heap.size + 1, 0, none⟩ = false ∧ w1.frozen? ⟨w.heap.size + 1, 1, none⟩ = false ∧ w1.frozen? ⟨w.heap.size + 1, 2, none⟩ = false ∧ w1.frozen? ⟨w.heap.size + 1, 3, none⟩ = false ∧ w.heap.size + 1 < w1.heap.size) ∧ Below w.heap.size w w1 := (by ((repeat' apply And.intro) <;> first | (simp [go_sem, *]; done) | omega | (repeat' (first | with_reducible exact Below.refl _ _ | with_reducible assumption | ((with_reducible refine Below.drew ?_)) | ((with_reducible refine below_drewN ?_ _)) | ((with_reducible refine Below.alloc ?_ ?_ _); rotate_left; focus (first | omega | (simp; done) | (simp; omega))) | ((with_reducible refine Below.setCell ?_ ?_ _); rotate_left; focus (first | omega | (simp; done) | (simp; omega))) | ((with_reducible refine Below.trans ?_ (Below.mono (by with_reducible assumption) ?_)); rotate_left; focus (first | omega | (simp; done) | (simp; omega))))))); go_split_ands; clear hcc hff hbel))
  refine bodyPost_ret (v := .agg #[.int .u64 0, .int .u64 0, .int .u64 0, .int .u64 0]) (by simp [results, Try.results36, go_sem, *]) rfl ⟨rfl, (by repeat' (first | with_reducible exact Below.refl _ _ | with_reducible assumption | ((with_reducible refine Below.drew ?_)) | ((with_reducible refine below_drewN ?_ _)) | ((with_reducible refine Below.alloc ?_ ?_ _); rotate_left; focus (first | omega | (simp; done) | (simp; omega))) | ((with_reducible refine Below.setCell ?_ ?_ _); rotate_left; focus (first | omega | (simp; done) | (simp; omega))) | ((with_reducible refine Below.trans ?_ (Below.mono (by with_reducible assumption) ?_)); rotate_left; focus (first | omega | (simp; done) | (simp; omega)))))⟩
set_option maxHeartbeats 1000000 in
theorem rsv_lo (m1 d m2 t : Int) (h1 : In m1) (h2 : In d) (h3 : In m2) (ht : In t) (hle : t ≤ d) (h : ¬ kind m1 d m2 = 0) (w : World) : Calls Try.prog 36 #[.agg #[.int .u64 (m1), .int .u64 (d), .int .u64 (m2)], .int .u64 t] w fun ee w' => ee = .returned (.agg #[.int .u64 (d0 (m1 * t)), .int .u64 (d1 (m1 * t)), .int .u64 (d2 (m1 * t)), .int .u64 (d3 (m1 * t))]) ∧ Below w.heap.size w w' := by
  have K := Lib.hid (rkof_c m1 d m2 h1 h2 h3)
  have K2 := Lib.hid (refmul_c m1 t h1 ht)
  have h0 : (kind m1 d m2 == 0) = false := by simpa using h
  clear h
  generalize kind m1 d m2 = k at *
  obtain ⟨x, hx⟩ : ∃ x, x = m1 * t := ⟨_, rfl⟩
  rw [← hx] at K2 ⊢
  clear hx
  go_enter Try.func36, Try.ntmps36
  go_wp2_with (first | (go_at_call 39; ((with_reducible refine (K.out _).mono ?_); rintro e w1 ⟨rfl, hbel⟩; obtain ⟨hcc, hff⟩ := bcell hbel; have hsz := hbel.size; (try simp at hsz); have hF : (w1.cell? ⟨w.heap.size, 0, none⟩ = some (.int .u64 m1) ∧ w1.cell? ⟨w.heap.size, 1, none⟩ = some (.int .u64 d) ∧ w1.cell? ⟨w.heap.size, 2, none⟩ = some (.int .u64 m2) ∧ w.heap.size < w1.heap.size) ∧ (w1.cell? ⟨w.heap.size + 1, 0, none⟩ = some (.int .u64 0) ∧ w1.cell? ⟨w.heap.size + 1, 1, none⟩ = some (.int .u64 0) ∧ w1.cell? ⟨w.heap.size + 1, 2, none⟩ = some (.int .u64 0) ∧ w1.cell? ⟨w.heap.size + 1, 3, none⟩ = some (.int .u64 0) ∧ w1.frozen? ⟨w.heap.size + 1, 0, none⟩ = false ∧ w1.frozen? ⟨w.heap.size + 1, 1, none⟩ = false ∧ w1.frozen? ⟨w.heap.size + 1, 2, none⟩ = false ∧ w1.frozen? ⟨w.heap.size + 1, 3, none⟩ = false ∧ w.heap.size + 1 < w1.heap.size) ∧ Below w.heap.size w w1 := (by ((repeat' apply And.intro) <;> first | (simp [go_sem, *]; done) | omega | (repeat' (first | with_reducible exact Below.refl _ _ | with_reducible assumption | ((with_reducible refine Below.drew ?_)) | ((with_reducible refine below_drewN ?_ _)) | ((with_reducible refine Below.alloc ?_ ?_ _); rotate_left; focus (first | omega | (simp; done) | (simp; omega))) | ((with_reducible refine Below.setCell ?_ ?_ _); rotate_left; focus (first | omega | (simp; done) | (simp; omega))) | ((with_reducible refine Below.trans ?_ (Below.mono (by with_reducible assumption) ?_)); rotate_left; focus (first | omega | (simp; done) | (simp; omega))))))); go_split_ands; clear hcc hff hbel)) | (go_at_call 57; ((with_reducible refine (K2.out _).mono ?_); rintro e w2 ⟨rfl, hbel⟩; obtain ⟨hcc, hff⟩ := bcell hbel; have hsz := hbel.size; (try simp at hsz); have hF : (w2.cell? ⟨w.heap.size, 0, none⟩ = some (.int .u64 m1) ∧ w2.cell? ⟨w.heap.size, 1, none⟩ = some (.int .u64 d) ∧ w2.cell? ⟨w.heap.size, 2, none⟩ = some (.int .u64 m2) ∧ w.heap.size < w2.heap.size) ∧ (w2.cell? ⟨w.heap.size + 1, 0, none⟩ = some (.int .u64 0) ∧ w2.cell? ⟨w.heap.size + 1, 1, none⟩ = some (.int .u64 0) ∧ w2.cell? ⟨w.heap.size + 1, 2, none⟩ = some (.int .u64 0) ∧ w2.cell? ⟨w.heap.size + 1, 3, none⟩ = some (.int .u64 0) ∧ w2.frozen? ⟨w.heap.size + 1, 0, none⟩ = false ∧ w2.frozen? ⟨w.heap.size + 1, 1, none⟩ = false ∧ w2.frozen? ⟨w.heap.size + 1, 2, none⟩ = false ∧ w2.frozen? ⟨w.heap.size + 1, 3, none⟩ = false ∧ w.heap.size + 1 < w2.heap.size) ∧ Below w.heap.size w w2 := (by ((repeat' apply And.intro) <;> first | (simp [go_sem, *]; done) | omega | (repeat' (first | with_reducible exact Below.refl _ _ | with_reducible assumption | ((with_reducible refine Below.drew ?_)) | ((with_reducible refine below_drewN ?_ _)) | ((with_reducible refine Below.alloc ?_ ?_ _); rotate_left; focus (first | omega | (simp; done) | (simp; omega))) | ((with_reducible refine Below.setCell ?_ ?_ _); rotate_left; focus (first | omega | (simp; done) | (simp; omega))) | ((with_reducible refine Below.trans ?_ (Below.mono (by with_reducible assumption) ?_)); rotate_left; focus (first | omega | (simp; done) | (simp; omega))))))); go_split_ands; clear hcc hff hbel)))
  refine bodyPost_ret (v := .agg #[.int .u64 (d0 x), .int .u64 (d1 x), .int .u64 (d2 x), .int .u64 (d3 x)]) (by simp [results, Try.results36, go_sem, *]) rfl ⟨rfl, (by repeat' (first | with_reducible exact Below.refl _ _ | with_reducible assumption | ((with_reducible refine Below.drew ?_)) | ((with_reducible refine below_drewN ?_ _)) | ((with_reducible refine Below.alloc ?_ ?_ _); rotate_left; focus (first | omega | (simp; done) | (simp; omega))) | ((with_reducible refine Below.setCell ?_ ?_ _); rotate_left; focus (first | omega | (simp; done) | (simp; omega))) | ((with_reducible refine Below.trans ?_ (Below.mono (by with_reducible assumption) ?_)); rotate_left; focus (first | omega | (simp; done) | (simp; omega)))))⟩
set_option maxHeartbeats 2000000 in
set_option maxRecDepth 100000 in
theorem rsv_hi (m1 d m2 t x y z : Int) (h1 : In m1) (h2 : In d) (h3 : In m2) (ht : In t) (hle : d < t) (h : ¬ kind m1 d m2 = 0)
    (k2 : ∀ w, Calls Try.prog 57 #[.int .u64 m1, .int .u64 d] w fun ee w' => ee = .returned (.agg #[.int .u64 (d0 x), .int .u64 (d1 x), .int .u64 (d2 x), .int .u64 (d3 x)]) ∧ Below w.heap.size w w')
    (k3 : ∀ w, Calls Try.prog 57 #[.int .u64 m2, .int .u64 (t - d)] w fun ee w' => ee = .returned (.agg #[.int .u64 (d0 y), .int .u64 (d1 y), .int .u64 (d2 y), .int .u64 (d3 y)]) ∧ Below w.heap.size w w')
    (k4 : ∀ w, Calls Try.prog 35 #[.agg #[.int .u64 (d0 x), .int .u64 (d1 x), .int .u64 (d2 x), .int .u64 (d3 x)], .agg #[.int .u64 (d0 y), .int .u64 (d1 y), .int .u64 (d2 y), .int .u64 (d3 y)]] w fun ee w' => ee = .returned (.agg #[.int .u64 (d0 z), .int .u64 (d1 z), .int .u64 (d2 z), .int .u64 (d3 z)]) ∧ Below w.heap.size w w')
    (w : World) : Calls Try.prog 36 #[.agg #[.int .u64 (m1), .int .u64 (d), .int .u64 (m2)], .int .u64 t] w fun ee w' => ee = .returned (.agg #[.int .u64 (d0 z), .int .u64 (d1 z), .int .u64 (d2 z), .int .u64 (d3 z)]) ∧ Below w.heap.size w w' := by
  have ht' : 0 ≤ t ∧ t ≤ 18446744073709551615 := ht
  have hd' : 0 ≤ d := h2.1
  have K := Lib.hid (rkof_c m1 d m2 h1 h2 h3)
  have K2 := Lib.hid k2
  have K3 := Lib.hid k3
  have K4 := Lib.hid k4
  have h0 : (kind m1 d m2 == 0) = false := by simpa using h
  clear h k2 k3 k4
  generalize kind m1 d m2 = k at *
  go_enter Try.func36, Try.ntmps36
  go_wp2_with (go_at_call 39; ((with_reducible refine (K.out _).mono ?_); rintro e w1 ⟨rfl, hbel⟩; obtain ⟨hcc, hff⟩ := bcell hbel; have hsz := hbel.size; (try simp at hsz); have hF : (w1.cell? ⟨w.heap.size, 0, none⟩ = some (.int .u64 m1) ∧ w1.cell? ⟨w.heap.size, 1, none⟩ = some (.int .u64 d) ∧ w1.cell? ⟨w.heap.size, 2, none⟩ = some (.int .u64 m2) ∧ w.heap.size < w1.heap.size) ∧ (w1.cell? ⟨w.heap.size + 1, 0, none⟩ = some (.int .u64 0) ∧ w1.cell? ⟨w.heap.size + 1, 1, none⟩ = some (.int .u64 0) ∧ w1.cell? ⟨w.heap.size + 1, 2, none⟩ = some (.int .u64 0) ∧ w1.cell? ⟨w.heap.size + 1, 3, none⟩ = some (.int .u64 0) ∧ w1.frozen? ⟨w.heap.size + 1, 0, none⟩ = false ∧ w1.frozen? ⟨w.heap.size + 1, 1, none⟩ = false ∧ w1.frozen? ⟨w.heap.size + 1, 2, none⟩ = false ∧ w1.frozen? ⟨w.heap.size + 1, 3, none⟩ = false ∧ w.heap.size + 1 < w1.heap.size) ∧ Below w.heap.size w w1 := (by ((repeat' apply And.intro) <;> first | (simp [go_sem, *]; done) | omega | (repeat' (first | with_reducible exact Below.refl _ _ | with_reducible assumption | ((with_reducible refine Below.drew ?_)) | ((with_reducible refine below_drewN ?_ _)) | ((with_reducible refine Below.alloc ?_ ?_ _); rotate_left; focus (first | omega | (simp; done) | (simp; omega))) | ((with_reducible refine Below.setCell ?_ ?_ _); rotate_left; focus (first | omega | (simp; done) | (simp; omega))) | ((with_reducible refine Below.trans ?_ (Below.mono (by with_reducible assumption) ?_)); rotate_left; focus (first | omega | (simp; done) | (simp; omega))))))); go_split_ands; clear hcc hff hbel))
  obtain ⟨Cl, hCl⟩ : ∃ Cl : List Value → World → Prop, Cl = ((fun ps w' => (w'.cell? ⟨w.heap.size, 0, none⟩ = some (.int .u64 m1) ∧ w'.cell? ⟨w.heap.size, 1, none⟩ = some (.int .u64 d) ∧ w'.cell? ⟨w.heap.size, 2, none⟩ = some (.int .u64 m2) ∧ w.heap.size < w'.heap.size) ∧ (match ps with | [] => (w'.cell? ⟨w.heap.size + 1, 0, none⟩ = some (.int .u64 0) ∧ w'.cell? ⟨w.heap.size + 1, 1, none⟩ = some (.int .u64 0) ∧ w'.cell? ⟨w.heap.size + 1, 2, none⟩ = some (.int .u64 0) ∧ w'.cell? ⟨w.heap.size + 1, 3, none⟩ = some (.int .u64 0) ∧ w'.frozen? ⟨w.heap.size + 1, 0, none⟩ = false ∧ w'.frozen? ⟨w.heap.size + 1, 1, none⟩ = false ∧ w'.frozen? ⟨w.heap.size + 1, 2, none⟩ = false ∧ w'.frozen? ⟨w.heap.size + 1, 3, none⟩ = false ∧ w.heap.size + 1 < w'.heap.size) | _ => (w'.cell? ⟨w.heap.size + 1, 0, none⟩ = some (.int .u64 (d0 z)) ∧ w'.cell? ⟨w.heap.size + 1, 1, none⟩ = some (.int .u64 (d1 z)) ∧ w'.cell? ⟨w.heap.size + 1, 2, none⟩ = some (.int .u64 (d2 z)) ∧ w'.cell? ⟨w.heap.size + 1, 3, none⟩ = some (.int .u64 (d3 z)) ∧ w'.frozen? ⟨w.heap.size + 1, 0, none⟩ = false ∧ w'.frozen? ⟨w.heap.size + 1, 1, none⟩ = false ∧ w'.frozen? ⟨w.heap.size + 1, 2, none⟩ = false ∧ w'.frozen? ⟨w.heap.size + 1, 3, none⟩ = false ∧ w.heap.size + 1 < w'.heap.size)) ∧ Below w.heap.size w w')) := ⟨_, rfl⟩; have HCl := Lib.hid hCl; clear hCl; refine wp_region_eff [13] Cl (by kernel_rfl) (by kernel_rfl) (by rw [HCl.out]; (try simp only [List.nil_append, List.cons_append]); (try dsimp only); ((repeat' apply And.intro) <;> first | (simp [go_sem, *]; done) | omega | (repeat' (first | with_reducible exact Below.refl _ _ | with_reducible assumption | ((with_reducible refine Below.drew ?_)) | ((with_reducible refine below_drewN ?_ _)) | ((with_reducible refine Below.alloc ?_ ?_ _); rotate_left; focus (first | omega | (simp; done) | (simp; omega))) | ((with_reducible refine Below.setCell ?_ ?_ _); rotate_left; focus (first | omega | (simp; done) | (simp; omega))) | ((with_reducible refine Below.trans ?_ (Below.mono (by with_reducible assumption) ?_)); rotate_left; focus (first | omega | (simp; done) | (simp; omega))))))) ?_
  (repeat (first | (refine wE_skip (by rfl) ?_; simp only [Act.put, Nat.reduceAdd, List.setIfInBounds_toArray, List.set_cons_zero, List.set_cons_succ, List.nil_append, List.cons_append]) | (refine wE_open (by rfl) (by rfl) ?_; apply Exists.intro; refine ⟨fun vs wq hw => ?_, ?_⟩; (focus (rw [HCl.out] at hw; (try simp only [List.nil_append, List.cons_append] at hw); (try dsimp only at hw); go_split_ands; go_simp <;> first | with_reducible exact (rfl : Value.bool false = _) | with_reducible exact (rfl : Value.bool true = _) | ((try go_bits) <;> exact rfl))); simp only [Act.put, Nat.reduceAdd, List.setIfInBounds_toArray, List.set_cons_zero, List.set_cons_succ, List.nil_append, List.cons_append]) | (refine wE_seal (by rfl) (by rfl) (by kernel_rfl) ?_; apply Exists.intro; refine ⟨fun wq hw => ?_, ?_⟩; (focus (rw [HCl.out] at hw; (try simp only [List.nil_append, List.cons_append] at hw); (try dsimp only at hw); go_split_ands; go_simp <;> (try go_bits) <;> exact rfl)); simp only [Act.put, Nat.reduceAdd, List.setIfInBounds_toArray, List.set_cons_zero, List.set_cons_succ, List.nil_append, List.cons_append]) | (refine wE_seal (by rfl) (by rfl) (by kernel_rfl) ?_; apply Exists.intro; refine ⟨fun wq hw => ?_, ?_⟩; (focus (rw [HCl.out] at hw; (try simp only [List.nil_append, List.cons_append] at hw); (try dsimp only at hw); go_split_ands; go_simp; (first | (go_at_call 57; first | ((with_reducible refine (K2.out _).mono ?_); rintro e w' ⟨rfl, hbel⟩; obtain ⟨hcc, hff⟩ := bcell hbel; have hsz := hbel.size; (try simp at hsz); refine ⟨rfl, ?_⟩; rw [HCl.out]; (try simp only [List.nil_append, List.cons_append]); (try dsimp only); ((repeat' apply And.intro) <;> first | (simp [go_sem, *]; done) | omega | (repeat' (first | with_reducible exact Below.refl _ _ | with_reducible assumption | ((with_reducible refine Below.drew ?_)) | ((with_reducible refine below_drewN ?_ _)) | ((with_reducible refine Below.alloc ?_ ?_ _); rotate_left; focus (first | omega | (simp; done) | (simp; omega))) | ((with_reducible refine Below.setCell ?_ ?_ _); rotate_left; focus (first | omega | (simp; done) | (simp; omega))) | ((with_reducible refine Below.trans ?_ (Below.mono (by with_reducible assumption) ?_)); rotate_left; focus (first | omega | (simp; done) | (simp; omega))))))) | ((with_reducible refine (K3.out _).mono ?_); rintro e w' ⟨rfl, hbel⟩; obtain ⟨hcc, hff⟩ := bcell hbel; have hsz := hbel.size; (try simp at hsz); refine ⟨rfl, ?_⟩; rw [HCl.out]; (try simp only [List.nil_append, List.cons_append]); (try dsimp only); ((repeat' apply And.intro) <;> first | (simp [go_sem, *]; done) | omega | (repeat' (first | with_reducible exact Below.refl _ _ | with_reducible assumption | ((with_reducible refine Below.drew ?_)) | ((with_reducible refine below_drewN ?_ _)) | ((with_reducible refine Below.alloc ?_ ?_ _); rotate_left; focus (first | omega | (simp; done) | (simp; omega))) | ((with_reducible refine Below.setCell ?_ ?_ _); rotate_left; focus (first | omega | (simp; done) | (simp; omega))) | ((with_reducible refine Below.trans ?_ (Below.mono (by with_reducible assumption) ?_)); rotate_left; focus (first | omega | (simp; done) | (simp; omega)))))))) | (go_at_call 35; ((with_reducible refine (K4.out _).mono ?_); rintro e w' ⟨rfl, hbel⟩; obtain ⟨hcc, hff⟩ := bcell hbel; have hsz := hbel.size; (try simp at hsz); refine ⟨rfl, ?_⟩; rw [HCl.out]; (try simp only [List.nil_append, List.cons_append]); (try dsimp only); ((repeat' apply And.intro) <;> first | (simp [go_sem, *]; done) | omega | (repeat' (first | with_reducible exact Below.refl _ _ | with_reducible assumption | ((with_reducible refine Below.drew ?_)) | ((with_reducible refine below_drewN ?_ _)) | ((with_reducible refine Below.alloc ?_ ?_ _); rotate_left; focus (first | omega | (simp; done) | (simp; omega))) | ((with_reducible refine Below.setCell ?_ ?_ _); rotate_left; focus (first | omega | (simp; done) | (simp; omega))) | ((with_reducible refine Below.trans ?_ (Below.mono (by with_reducible assumption) ?_)); rotate_left; focus (first | omega | (simp; done) | (simp; omega))))))))))); simp only [Act.put, Nat.reduceAdd, List.setIfInBounds_toArray, List.set_cons_zero, List.set_cons_succ, List.nil_append, List.cons_append]) | (refine wE_eff (by rfl) (by rfl) (fun wq hw => ?_) (fun u hu => ?_); (focus (rw [HCl.out] at hw; (try simp only [List.nil_append, List.cons_append] at hw); (try dsimp only at hw); go_split_ands; go_simp; rw [HCl.out]; (try simp only [List.nil_append, List.cons_append]); (try dsimp only); skip; ((repeat' apply And.intro) <;> first | (simp [go_sem, *]; done) | omega | (repeat' (first | with_reducible exact Below.refl _ _ | with_reducible assumption | ((with_reducible refine Below.drew ?_)) | ((with_reducible refine below_drewN ?_ _)) | ((with_reducible refine Below.alloc ?_ ?_ _); rotate_left; focus (first | omega | (simp; done) | (simp; omega))) | ((with_reducible refine Below.setCell ?_ ?_ _); rotate_left; focus (first | omega | (simp; done) | (simp; omega))) | ((with_reducible refine Below.trans ?_ (Below.mono (by with_reducible assumption) ?_)); rotate_left; focus (first | omega | (simp; done) | (simp; omega)))))))); clear hu; simp only [Act.put, Nat.reduceAdd, List.setIfInBounds_toArray, List.set_cons_zero, List.set_cons_succ, List.nil_append, List.cons_append])))
  refine wE_nil ?_; intro w' hw; rw [HCl.out] at hw; (try simp only [List.nil_append, List.cons_append] at hw); (try dsimp only at hw); clear HCl
  go_split_ands
  go_wp2
  refine bodyPost_ret (v := .agg #[.int .u64 (d0 z), .int .u64 (d1 z), .int .u64 (d2 z), .int .u64 (d3 z)]) (by simp [results, Try.results36, go_sem, *]) rfl ⟨rfl, (by repeat' (first | with_reducible exact Below.refl _ _ | with_reducible assumption | ((with_reducible refine Below.drew ?_)) | ((with_reducible refine below_drewN ?_ _)) | ((with_reducible refine Below.alloc ?_ ?_ _); rotate_left; focus (first | omega | (simp; done) | (simp; omega))) | ((with_reducible refine Below.setCell ?_ ?_ _); rotate_left; focus (first | omega | (simp; done) | (simp; omega))) | ((with_reducible refine Below.trans ?_ (Below.mono (by with_reducible assumption) ?_)); rotate_left; focus (first | omega | (simp; done) | (simp; omega)))))⟩
theorem rsv_c (m1 d m2 t : Int) (h1 : In m1) (h2 : In d) (h3 : In m2) (ht : In t) (w : World) : Calls Try.prog 36 #[.agg #[.int .u64 (m1), .int .u64 (d), .int .u64 (m2)], .int .u64 t] w fun ee w' => ee = .returned (.agg #[.int .u64 (d0 (srv m1 d m2 t)), .int .u64 (d1 (srv m1 d m2 t)), .int .u64 (d2 (srv m1 d m2 t)), .int .u64 (d3 (srv m1 d m2 t))]) ∧ Below w.heap.size w w' := by
  by_cases h : kind m1 d m2 = 0
  · rw [srv_no h]; exact rsv_no m1 d m2 t h1 h2 h3 h w
  · rw [srv_ok h]
    rcases Int.lt_or_le d t with hlt | hle
    · have e : sv m1 d m2 t = m1 * d + m2 * (t - d) := if_neg (by omega)
      have ht2 : In (t - d) := by unfold In at *; omega
      rw [e]
      exact rsv_hi m1 d m2 t _ _ _ h1 h2 h3 ht hlt h (refmul_c m1 d h1 h2) (refmul_c m2 (t - d) h3 ht2) (refplus_d _ _ (wd_mul h1 h2) (wd_mul h3 ht2)) w
    · rw [show sv m1 d m2 t = m1 * t from if_pos hle]
      exact rsv_lo m1 d m2 t h1 h2 h3 ht hle h w

end Go.Proofs.Ytpabidiggehmnaa
