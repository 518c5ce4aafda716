/- What came to a class: bytes, levels (mathematics). -/
import Derived.Test.YtdahjhokcjfioaaCf5
namespace Go.Proofs.Ytdahjhokcjfioaa
set_option linter.unusedVariables false
set_option linter.unusedSimpArgs false
set_option maxRecDepth 100000
open Go.RowKit Fg Reg

/-- What check and Burst know of a prefix. -/
structure JJ (s1 s2 : Int × Int × Int) : Prop where
  t : s2.2.1 = s1.1
  t0 : 0 ≤ s1.1
  l0 : 0 ≤ s2.1
  l1 : s2.1 ≤ s1.2.2 * 65536
  m0 : 0 ≤ s2.2.2
  m1 : s2.2.2 ≤ s1.2.2 * 65536
  b0 : 0 ≤ s1.2.2
def okk (s1 : Int × Int × Int) : Prop := s1.2.1 = 0 ∧ s1.2.2 ≤ 1099511627776
theorem okk_back {c : Int} {s1 : Int × Int × Int} {e : Ev} (hw : e.wf3) (h : okk (ckst c s1 e)) : okk s1 := by
  have hb := (cb_bd e hw).1
  unfold okk ckst at h
  unfold okk
  by_cases hc : cp c e = true
  · rw [if_pos hc] at h
    obtain ⟨h1, h2⟩ := h
    unfold cerr at h1
    unfold cbyt at h2
    dsimp only at h1 h2
    constructor
    · split at h1
      · omega
      · exact h1
    · split at h2 <;> omega
  · rw [if_neg hc] at h; exact h
theorem okk_new {c : Int} {s1 : Int × Int × Int} {e : Ev} (hw : e.wf3) (hc : cp c e = true) (h : okk (ckst c s1 e)) : s1.1 ≤ e.tm ∧ s1.2.2 + cb e ≤ 1099511627776 ∧ ckst c s1 e = (e.tm, 0, s1.2.2 + cb e) := by
  have hb := (cb_bd e hw).1
  have h0 := okk_back hw h
  unfold okk ckst at h
  rw [if_pos hc] at h
  obtain ⟨h1, h2⟩ := h
  have e1 : cbyt s1.2.2 e = s1.2.2 + cb e := by unfold cbyt; rw [if_pos h0.2]
  dsimp only at h1 h2
  rw [e1] at h2
  have e2 : s1.1 ≤ e.tm := by
    unfold cerr at h1
    split at h1
    · omega
    · omega
  refine ⟨e2, h2, ?_⟩
  unfold ckst
  rw [if_pos hc, e1, h1]
theorem jj_step {s c : Int} {s1 s2 : Int × Int × Int} {e : Ev} (hs : 0 ≤ s) (hw : e.wf3) (h : JJ s1 s2) (hk : okk (ckst c s1 e)) : JJ (ckst c s1 e) (bust s c s2 e) := by
  have hb := (cb_bd e hw).1
  by_cases hc : cp c e = true
  · obtain ⟨h1, h2, h3⟩ := okk_new hw hc hk
    rw [h3]
    have ht := hw.tm0
    obtain ⟨t, t0, l0, l1, m0, m1, b0⟩ := h
    unfold bust
    rw [if_pos hc]
    have hX : 0 ≤ s * (e.tm - s2.2.1) := Int.mul_nonneg hs (by omega)
    have hbl : 0 ≤ blv s s2.1 s2.2.1 e ∧ blv s s2.1 s2.2.1 e ≤ (s1.2.2 + cb e) * 65536 := by
      unfold blv
      generalize s * (e.tm - s2.2.1) = X at hX
      split <;> omega
    constructor <;> dsimp only
    · exact ht
    · exact hbl.1
    · exact hbl.2
    · unfold bmx; split <;> omega
    · unfold bmx; split <;> omega
    · omega
  · have e1 : ckst c s1 e = s1 := by unfold ckst; rw [if_neg hc]
    have e2 : bust s c s2 e = s2 := by unfold bust; rw [if_neg hc]
    rw [e1, e2]; exact h
theorem okk_down {c : Int} {es : List Ev} (hwf : ∀ k (h : k < es.length), es[k].wf3) : ∀ d k, k + d ≤ es.length → okk (ckr c (es.take (k + d))) → okk (ckr c (es.take k))
  | 0, k, _, h => h
  | d + 1, k, hk, h => by
    have := ckr_succ c es (k + d) (by omega)
    rw [show k + (d + 1) = k + d + 1 by omega, this] at h
    exact okk_down hwf d k (by omega) (okk_back (hwf _ (by omega)) h)
theorem okk_all {c : Int} {es : List Ev} (hwf : ∀ k (h : k < es.length), es[k].wf3) (h : okk (ckr c es)) (k : Nat) (hk : k ≤ es.length) : okk (ckr c (es.take k)) :=
  okk_down hwf (es.length - k) k (by omega) (by rw [show k + (es.length - k) = es.length by omega, List.take_length]; exact h)
theorem chk_okk {c : Int} {es : List Ev} (h : chkE c es = 0) : okk (ckr c es) := by
  unfold chkE at h
  unfold okk
  split at h
  · split at h
    · omega
    · exact ⟨by assumption, by omega⟩
  · contradiction
theorem jj_all {s c : Int} {es : List Ev} (hs : 0 ≤ s) (hwf : ∀ k (h : k < es.length), es[k].wf3) (h : okk (ckr c es)) : ∀ k, k ≤ es.length → JJ (ckr c (es.take k)) (bur s c (es.take k))
  | 0, _ => by
    rw [List.take_zero]
    exact ⟨rfl, Int.le_refl 0, Int.le_refl 0, Int.le_refl 0, Int.le_refl 0, Int.le_refl 0, Int.le_refl 0⟩
  | k + 1, hk => by
    have ih := jj_all hs hwf h k (by omega)
    have h1 := okk_all hwf h (k + 1) hk
    rw [ckr_succ c es k (by omega)] at h1
    rw [ckr_succ c es k (by omega), bur_succ s c es k (by omega)]
    exact jj_step hs (hwf k (by omega)) ih h1
theorem burst_pre {s c : Int} {es : List Ev} (hs : 0 ≤ s) (hwf : ∀ k (h : k < es.length), es[k].wf3) (h : okk (ckr c es)) (k : Nat) (hk : k < es.length) (hc : cp c es[k] = true) :
    (0 ≤ (bur s c (es.take k)).1 ∧ (bur s c (es.take k)).1 + cb es[k] * 65536 ≤ 9223372036854775807) ∧ 0 ≤ (bur s c (es.take k)).2.1 ∧ (bur s c (es.take k)).2.1 ≤ es[k].tm := by
  have j := jj_all hs hwf h k (by omega)
  have h1 := okk_all hwf h (k + 1) (by omega)
  rw [ckr_succ c es k (by omega)] at h1
  obtain ⟨h1, h2, h3⟩ := okk_new (hwf k hk) hc h1
  obtain ⟨t, t0, l0, l1, m0, m1, b0⟩ := j
  exact ⟨⟨l0, by omega⟩, by omega, by omega⟩
theorem burst_most {s c : Int} {es : List Ev} (hs : 0 ≤ s) (hwf : ∀ k (h : k < es.length), es[k].wf3) (h : okk (ckr c es)) : 0 ≤ (bur s c es).2.2 ∧ (bur s c es).2.2 ≤ 9223372036854775807 := by
  have j := jj_all hs hwf h es.length (Nat.le_refl _)
  rw [List.take_length] at j
  have := h.2
  obtain ⟨t, t0, l0, l1, m0, m1, b0⟩ := j
  exact ⟨m0, by omega⟩
/-- Burst of any events, of any slope. -/
def burV (s c : Int) (es : List Ev) : Int := if s < 1 ∨ 4294967295 < s then 0 else if chkE c es = 0 then cl (bur s c es).2.2 65536 else 0
def burF (s c : Int) (es : List Ev) : Int := if s < 1 ∨ 4294967295 < s then 1 else chkE c es
theorem burst_c (s c : Int) (es : List Ev) (ae : Option Addr) (ce : Nat) (hn : es.length ≤ 1000) (hwf : ∀ k (h : k < es.length), es[k].wf3) (w : World) (hE : EvsV w ae es) :
    Calls Try.prog 71 #[.int .u64 s, .slice ae es.length ce, .int .i64 c] w fun ee w' => ee = .returned (.tuple #[.int .u64 (burV s c es), .int .i64 (burF s c es)]) ∧ Below w.heap.size w w' := by
  unfold burV burF
  by_cases h : s < 1 ∨ 4294967295 < s
  · rw [if_pos h, if_pos h]
    exact burst_arg s c ae _ ce h w
  · rw [if_neg h, if_neg h]
    by_cases hE0 : chkE c es = 0
    · have hk := chk_okk hE0
      rw [if_pos hE0, hE0]
      exact burst_ok s c es ae ce (by omega) (by omega) hn hwf hE0 (burst_pre (by omega) hwf hk) (burst_most (by omega) hwf hk) w hE
    · rw [if_neg hE0]
      exact burst_bad s c es ae ce (by omega) (by omega) hn hwf hE0 w hE
end Go.Proofs.Ytdahjhokcjfioaa
