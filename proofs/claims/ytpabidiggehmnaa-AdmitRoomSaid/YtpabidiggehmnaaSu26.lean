/- pdqsortOrdered at uint64: what a round of the pure one is, by variables. -/
import Derived.Test.YtpabidiggehmnaaSu25
import Derived.Sort.Walk13
import Derived.Sort.AssemblyPlain
namespace Go.Proofs.Ytpabidiggehmnaa
set_option linter.unusedVariables false
set_option linter.unusedSimpArgs false
set_option maxRecDepth 100000
open Go.RowKit Fg Reg Go.Sort
attribute [local irreducible] Reg.wE Holds

theorem plain64 : Plain13 := ⟨swo_ltInt, insertionSort_holds, partialInsertionSort_holds, partition_holds _, partitionEqual_holds _, pdq_sorts _⟩

theorem rdv {d : Array Int} {a b limit : Nat} {wb wp : Bool} (h12 : ¬ b - a ≤ 12) (hl0 : limit ≠ 0) (hab : a < b) (hb : b ≤ d.size) (hB : Go.Sort.Below ltInt a b d) :
    ∃ (d1 : Array Int) (lm cv : Nat) (ch : Hint) (d2 : Array Int) (pv : Nat) (ht : Hint) (dp : Array Int) (pf : Bool),
    (wb = false → d1 = breakPatterns d a b ∧ lm = limit - 1) ∧ (wb = true → d1 = d ∧ lm = limit) ∧ choosePivot ltInt d1 a b = (cv, ch) ∧
    (ch = .decreasing → d2 = reverseRange d1 a b ∧ pv = (b - 1) - (cv - a) ∧ ht = .increasing) ∧ (ch ≠ .decreasing → d2 = d1 ∧ pv = cv ∧ ht = ch) ∧
    ((wb && wp && decide (ht = .increasing)) = true → partialInsertionSort ltInt d2 a b = (dp, pf)) ∧ ((wb && wp && decide (ht = .increasing)) = false → dp = d2 ∧ pf = false) ∧ lm ≤ limit ∧
    d1.size = d.size ∧ a ≤ cv ∧ cv < b ∧ d2.size = d.size ∧ a ≤ pv ∧ pv < b ∧ dp.size = d.size ∧ Go.Sort.Below ltInt a b dp ∧
    (pf = true → pdq ltInt d a b limit wb wp = dp) ∧
    (pf = false → (decide (a > 0) && !ltInt dp[a - 1]! dp[pv]!) = true → ∀ mid d4, partitionEqual ltInt dp a b pv = (mid, d4) → a < mid → mid ≤ b → pdq ltInt d a b limit wb wp = pdq ltInt d4 mid b lm wb wp) ∧
    (pf = false → (decide (a > 0) && !ltInt dp[a - 1]! dp[pv]!) = false → ∀ mid ap d4, partition ltInt dp a b pv = (mid, ap, d4) → a ≤ mid → mid < b → mid - a < b - mid → pdq ltInt d a b limit wb wp = pdq ltInt (pdq ltInt d4 a mid lm true true) (mid + 1) b lm (decide (mid - a ≥ (b - a) / 8)) ap) ∧
    (pf = false → (decide (a > 0) && !ltInt dp[a - 1]! dp[pv]!) = false → ∀ mid ap d4, partition ltInt dp a b pv = (mid, ap, d4) → a ≤ mid → mid < b → ¬ mid - a < b - mid → pdq ltInt d a b limit wb wp = pdq ltInt (pdq ltInt d4 (mid + 1) b lm true true) a mid lm (decide (b - mid ≥ (b - a) / 8)) ap) := by
  obtain ⟨s1, B1, hc1, s2, B2, hpv, s3, B3⟩ := rd_facts (limit := limit) (wb := wb) (wp := wp) plain64.swo plain64.par reverseRange_holds hab hb hB
  refine ⟨(rd ltInt d a b limit wb wp).d1, (rd ltInt d a b limit wb wp).lim, (rd ltInt d a b limit wb wp).c.1, (rd ltInt d a b limit wb wp).c.2, (rd ltInt d a b limit wb wp).d2, (rd ltInt d a b limit wb wp).pivot, (rd ltInt d a b limit wb wp).hint, (rd ltInt d a b limit wb wp).pi.1, (rd ltInt d a b limit wb wp).pi.2,
    ?_, ?_, rd_c.symm, fun h => rd_dec h, fun h => rd_not h, fun h => (rd_pi_yes h).symm, fun h => ?_, rd_lim_le, s1, hc1.1, hc1.2, s2, hpv.1, hpv.2, s3, B3, fun h => pdq_done h12 hl0 h, ?_, ?_, ?_⟩
  · rintro rfl; exact rd_false
  · rintro rfl; exact rd_true
  · have e := rd_pi_no h
    exact ⟨congrArg Prod.fst e, congrArg Prod.snd e⟩
  · intro h1 h2 mid d4 hx g1 g2
    have e := pdq_eq h12 hl0 h1 h2 (by rw [hx]; exact ⟨g1, g2⟩)
    rw [hx] at e; exact e
  · intro h1 h2 mid ap d4 hx g1 g2 g3
    have e := pdq_left h12 hl0 h1 h2 (by rw [hx]; exact ⟨g1, g2⟩) (by rw [hx]; exact g3)
    rw [hx] at e; exact e
  · intro h1 h2 mid ap d4 hx g1 g2 g3
    have e := pdq_right h12 hl0 h1 h2 (by rw [hx]; exact ⟨g1, g2⟩) (by rw [hx]; exact g3)
    rw [hx] at e; exact e
theorem hintn_two {h : Hint} (e : hintn h = 2) : h = .decreasing := by cases h <;> simp [hintn] at e ⊢
theorem insOuter_nil (lt : Int → Int → Bool) (a : Nat) (d : Array Int) : insertionSort lt d a a = d := by
  unfold insertionSort
  rw [insOuter, if_neg (by omega)]
set_option maxHeartbeats 2000000 in
/-- Of any range, also one that is empty. -/
theorem insn_c (blk off cap n a b : Nat) (d : Array Int) (w : World) (hH : Holds (Value.int .u64) (w) blk off (d)) (hl : blk < w.heap.size) (hab : a ≤ b) (hb : b ≤ d.size) (hn : d.size = n) (hsz : n ≤ 100000) :
    Calls Try.prog 69 #[.slice (some ⟨blk, off, none⟩) n cap, .int .i64 a, .int .i64 b] w fun e w' => e = .returned (.tuple #[]) ∧ Holds (Value.int .u64) (w') blk off (insertionSort ltInt d a b) ∧ Only (fun k => k = blk) w w' := by
  subst hn
  by_cases h : a < b
  · exact ins64_c blk off cap a b d w hH hl h hb hsz
  · obtain rfl : a = b := by omega
    rw [insOuter_nil]
    have HH := Lib.hid hH
    clear hH
    have W0 : IntKind.i64.wrap ((a : Int) + 1) = (a : Int) + 1 := by rw [IntKind.wrap_i64]; omega
    have d0 : decide ((a : Int) + 1 < a) = false := decide_eq_false (by omega)
    go_enter Try.func69, Try.ntmps69
    go_wp2
    refine wp_loop_rounds 1 ?_
    rw [rounds_succ]
    go_wp2
    refine bodyPost_end (v := .tuple #[]) (by simp [results, Try.results69]) rfl ⟨rfl, ?_⟩
    exact ⟨HH.out, Only.refl _ _⟩
theorem sort_size {a b : Nat} {d : Array Int} (hab : a ≤ b) (hb : b ≤ d.size) : (insertionSort ltInt d a b).size = d.size := (plain64.ins plain64.swo d a b hab hb).1.1
end Go.Proofs.Ytpabidiggehmnaa
