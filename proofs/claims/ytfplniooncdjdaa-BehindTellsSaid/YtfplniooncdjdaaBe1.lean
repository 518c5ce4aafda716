import Derived.Test.YtfplniooncdjdaaFair5
import Derived.Test.YtfplniooncdjdaaBound1
namespace Go.Proofs.Ytfplniooncdjdaa
set_option linter.unusedVariables false
set_option linter.unusedSimpArgs false
set_option maxRecDepth 100000
open Go.RowKit Fg Reg

/-- Is it among the first k? -/
def has (zs : List Int) (x : Int) : Bool := zs.any (· == x)
theorem has_succ (zs : List Int) (x : Int) (k : Nat) (h : k < zs.length) : has (zs.take (k + 1)) x = (has (zs.take k) x || zs[k] == x) := by
  unfold has; rw [take_snoc' zs k h, List.any_append]; simp
theorem has_of {zs : List Int} {x : Int} {k : Nat} (h : k < zs.length) (he : zs[k] = x) : has zs x = true := by
  unfold has; rw [List.any_eq_true]; exact ⟨zs[k], List.getElem_mem h, by simp [he]⟩
theorem idx_e (ao : Option Addr) (c : Nat) (x : Int) (w : World) : Calls Try.prog 88 #[.slice ao 0 c, .int .u64 x] w fun ee w' => ee = .returned (.int .i64 (-1)) ∧ w = w' := by
  go_enter Try.func88, Try.ntmps88
  go_wp2_with fail
  refine wp_loop_rounds 1 ?_
  rw [rounds_succ]
  go_wp2
  go_ret
  exact ⟨rfl, rfl⟩
theorem idx_c (zs : List Int) (b o c : Nat) (x : Int) (hn : zs.length ≤ 4611686018427387904) (w : World) (hc : ∀ k (h : k < zs.length), w.cell? ⟨b, o + k, none⟩ = some (.int .u64 zs[k])) :
    Calls Try.prog 88 #[.slice (some ⟨b, o, none⟩) zs.length c, .int .u64 x] w fun ee w' => (∃ i, ee = .returned (.int .i64 i) ∧ decide (0 ≤ i) = has zs x) ∧ w = w' := by
  go_enter Try.func88, Try.ntmps88
  go_wp2_with fail
  go_loop [8] (fun i => ∃ k : Nat, k ≤ zs.length ∧ i = .int .i64 k ∧ has (zs.take k) x = false) (fun i => zs.length - (intOf i).toNat)
  case atStart => exact ⟨0, Nat.zero_le _, rfl, rfl⟩
  case round =>
    obtain ⟨k, hk, rfl, hno⟩ := hrel
    by_cases hlt : k < zs.length
    · have hcell := hc k hlt
      have hs := has_succ zs x k hlt
      rw [hno, Bool.false_or] at hs
      by_cases he : zs[k] = x
      · have hy := Lib.hid (has_of hlt he)
        have he' : (x == zs[k]) = true := by simp [he]
        clear hc hs hno he
        go_wp2
        go_ret
        exact ⟨⟨_, rfl, by rw [hy.out]; simp⟩, rfl⟩
      · have he' : (x == zs[k]) = false := by simp; exact fun h => he h.symm
        have Hs := Lib.hid (show has (zs.take (k + 1)) x = false by rw [hs]; simp [he])
        clear hc hs hno he
        go_wp2
        go_round
        case rel => exact ⟨k + 1, by omega, by go_num, Hs.out⟩
        case measure => simp [intOf]; omega
    · obtain rfl : k = zs.length := by omega
      rw [List.take_length] at hno
      have HN := Lib.hid hno
      clear hc hno
      go_wp2
      go_ret
      exact ⟨⟨_, rfl, by rw [HN.out]; rfl⟩, rfl⟩
theorem con_e (ao : Option Addr) (c : Nat) (x : Int) (w : World) : Calls Try.prog 58 #[.slice ao 0 c, .int .u64 x] w fun ee w' => ee = .returned (.bool false) ∧ w = w' := by
  have K1 := Lib.hid (idx_e ao c x)
  go_enter Try.func58, Try.ntmps58
  go_wp2_with (go_at_call 88; (with_reducible refine (K1.out _).mono ?_); rintro e w' ⟨rfl, rfl⟩)
  go_ret
  exact ⟨rfl, rfl⟩
theorem con_c (zs : List Int) (b o c : Nat) (x : Int) (hn : zs.length ≤ 4611686018427387904) (w : World) (hc : ∀ k (h : k < zs.length), w.cell? ⟨b, o + k, none⟩ = some (.int .u64 zs[k])) :
    Calls Try.prog 58 #[.slice (some ⟨b, o, none⟩) zs.length c, .int .u64 x] w fun ee w' => ee = .returned (.bool (has zs x)) ∧ w = w' := by
  have K1 := Lib.hid (idx_c zs b o c x hn w hc)
  clear hc
  go_enter Try.func58, Try.ntmps58
  go_wp2_with (go_at_call 88; (with_reducible refine (K1.out).mono ?_); rintro e w' ⟨⟨iv, rfl, hiv⟩, rfl⟩)
  go_ret
  refine ⟨?_, rfl⟩
  rw [← hiv]
  rfl
theorem bm1_c (m : Int) (w : World) : Calls Try.prog 87 #[.int .u64 m] w fun ee w' => ee = .returned (.bool (!smay m)) ∧ w = w' := by
  unfold smay
  by_cases h : 1 ≤ m
  · have h1 : decide (m < 1) = false := by simp; omega
    by_cases h2 : m ≤ 4294967295
    · have h3 : decide (4294967295 < m) = false := by simp; omega
      have e : (!(decide (1 ≤ m) && decide (m ≤ 4294967295))) = false := by simp [h, h2]
      rw [e]
      clear e h h2
      go_enter Try.func87, Try.ntmps87
      go_wp2
      go_ret
      exact ⟨rfl, rfl⟩
    · have h3 : decide (4294967295 < m) = true := by simp; omega
      have e : (!(decide (1 ≤ m) && decide (m ≤ 4294967295))) = true := by simp [h, h2]
      rw [e]
      clear e h h2
      go_enter Try.func87, Try.ntmps87
      go_wp2
      go_ret
      exact ⟨rfl, rfl⟩
  · have h1 : decide (m < 1) = true := by simp; omega
    have e : (!(decide (1 ≤ m) && decide (m ≤ 4294967295))) = true := by simp [h]
    rw [e]
    clear e h
    go_enter Try.func87, Try.ntmps87
    go_wp2
    go_ret
    exact ⟨rfl, rfl⟩
theorem ixf_e (ao : Option Addr) (c : Nat) (w : World) : Calls Try.prog 97 #[.slice ao 0 c, .func (.func 87) #[] #[]] w fun ee w' => ee = .returned (.int .i64 (-1)) ∧ w = w' := by
  go_enter Try.func97, Try.ntmps97
  go_wp2_with fail
  refine wp_loop_rounds 1 ?_
  rw [rounds_succ]
  go_wp2
  go_ret
  exact ⟨rfl, rfl⟩
/-- Are all slopes? -/
def smays (zs : List Int) : Bool := zs.all smay
theorem smays_succ (zs : List Int) (k : Nat) (h : k < zs.length) : smays (zs.take (k + 1)) = (smays (zs.take k) && smay zs[k]) := by
  unfold smays; rw [take_snoc' zs k h, List.all_append]; simp
theorem smays_no {zs : List Int} {k : Nat} (h : k < zs.length) (he : smay zs[k] = false) : smays zs = false := by
  unfold smays; rw [List.all_eq_false]; exact ⟨zs[k], List.getElem_mem h, by simp [he]⟩
theorem smays_get {zs : List Int} (h : smays zs = true) (k : Nat) (hk : k < zs.length) : smay zs[k] = true := by
  unfold smays at h; rw [List.all_eq_true] at h; exact h _ (List.getElem_mem hk)
theorem ixf_c (zs : List Int) (b o c : Nat) (hn : zs.length ≤ 4611686018427387904) (w : World) (hc : ∀ k (h : k < zs.length), w.cell? ⟨b, o + k, none⟩ = some (.int .u64 zs[k])) :
    Calls Try.prog 97 #[.slice (some ⟨b, o, none⟩) zs.length c, .func (.func 87) #[] #[]] w fun ee w' => (∃ i, ee = .returned (.int .i64 i) ∧ decide (0 ≤ i) = !smays zs) ∧ w = w' := by
  have K1 := Lib.hid bm1_c
  go_enter Try.func97, Try.ntmps97
  go_wp2_with fail
  go_loop [8] (fun i => ∃ k : Nat, k ≤ zs.length ∧ i = .int .i64 k ∧ smays (zs.take k) = true) (fun i => zs.length - (intOf i).toNat)
  case atStart => exact ⟨0, Nat.zero_le _, rfl, rfl⟩
  case round =>
    obtain ⟨k, hk, rfl, hno⟩ := hrel
    by_cases hlt : k < zs.length
    · have hcell := hc k hlt
      have hs := smays_succ zs k hlt
      rw [hno, Bool.true_and] at hs
      have K2 := Lib.hid (K1.out zs[k])
      cases he : smay zs[k] with
      | false =>
        rw [he] at K2
        have hy := Lib.hid (smays_no hlt he)
        clear hc hs hno he
        go_wp2_with (go_at_call 87; (with_reducible refine (K2.out _).mono ?_); rintro e w' ⟨rfl, rfl⟩)
        go_ret
        exact ⟨⟨_, rfl, by rw [hy.out]; simp⟩, rfl⟩
      | true =>
        rw [he] at K2
        have Hs := Lib.hid (show smays (zs.take (k + 1)) = true by rw [hs]; exact he)
        clear hc hs hno he
        go_wp2_with (go_at_call 87; (with_reducible refine (K2.out _).mono ?_); rintro e w' ⟨rfl, rfl⟩)
        go_round
        case rel => exact ⟨k + 1, by omega, by go_num, Hs.out⟩
        case measure => simp [intOf]; omega
    · obtain rfl : k = zs.length := by omega
      rw [List.take_length] at hno
      have HN := Lib.hid hno
      clear hc hno
      go_wp2
      go_ret
      exact ⟨⟨_, rfl, by rw [HN.out]; rfl⟩, rfl⟩
theorem cof_e (ao : Option Addr) (c : Nat) (w : World) : Calls Try.prog 86 #[.slice ao 0 c, .func (.func 87) #[] #[]] w fun ee w' => ee = .returned (.bool false) ∧ w = w' := by
  have K1 := Lib.hid (ixf_e ao c)
  go_enter Try.func86, Try.ntmps86
  go_wp2_with (go_at_call 97; (with_reducible refine (K1.out _).mono ?_); rintro e w' ⟨rfl, rfl⟩)
  go_ret
  exact ⟨rfl, rfl⟩
theorem cof_c (zs : List Int) (b o c : Nat) (hn : zs.length ≤ 4611686018427387904) (w : World) (hc : ∀ k (h : k < zs.length), w.cell? ⟨b, o + k, none⟩ = some (.int .u64 zs[k])) :
    Calls Try.prog 86 #[.slice (some ⟨b, o, none⟩) zs.length c, .func (.func 87) #[] #[]] w fun ee w' => ee = .returned (.bool (!smays zs)) ∧ w = w' := by
  have K1 := Lib.hid (ixf_c zs b o c hn w hc)
  clear hc
  go_enter Try.func86, Try.ntmps86
  go_wp2_with (go_at_call 97; (with_reducible refine (K1.out).mono ?_); rintro e w' ⟨⟨iv, rfl, hiv⟩, rfl⟩)
  go_ret
  refine ⟨?_, rfl⟩
  rw [← hiv]
  rfl
theorem bmy_e (ao : Option Addr) (c : Nat) (w : World) : Calls Try.prog 57 #[.slice ao 0 c] w fun ee w' => ee = .returned (.bool true) ∧ w = w' := by
  have K1 := Lib.hid (cof_e ao c)
  go_enter Try.func57, Try.ntmps57
  go_wp2_with (go_at_call 86; (with_reducible refine (K1.out _).mono ?_); rintro e w' ⟨rfl, rfl⟩)
  go_ret
  exact ⟨rfl, rfl⟩
theorem bmy_c (zs : List Int) (b o c : Nat) (hn : zs.length ≤ 64) (w : World) (hc : ∀ k (h : k < zs.length), w.cell? ⟨b, o + k, none⟩ = some (.int .u64 zs[k])) :
    Calls Try.prog 57 #[.slice (some ⟨b, o, none⟩) zs.length c] w fun ee w' => ee = .returned (.bool (smays zs)) ∧ w = w' := by
  have k1 := cof_c zs b o c (by omega) w hc
  have g1 : decide ((zs.length : Int) ≤ 64) = true := by simp; omega
  clear hc
  cases h : smays zs with
  | true =>
    rw [h] at k1
    have K1 := Lib.hid k1
    clear k1 h
    go_enter Try.func57, Try.ntmps57
    go_wp2_with (go_at_call 86; (with_reducible refine (K1.out).mono ?_); rintro e w' ⟨rfl, rfl⟩)
    go_ret
    exact ⟨rfl, rfl⟩
  | false =>
    rw [h] at k1
    have K1 := Lib.hid k1
    clear k1 h
    go_enter Try.func57, Try.ntmps57
    go_wp2_with (go_at_call 86; (with_reducible refine (K1.out).mono ?_); rintro e w' ⟨rfl, rfl⟩)
    go_ret
    exact ⟨rfl, rfl⟩
theorem bmy_long (v : Option Addr) (n c : Nat) (hn : 64 < n) (w : World) :
    Calls Try.prog 57 #[.slice v n c] w fun ee w' => ee = .returned (.bool false) ∧ w = w' := by
  have g1 : decide ((n : Int) ≤ 64) = false := by simp; omega
  go_enter Try.func57, Try.ntmps57
  go_wp2
  go_ret
  exact ⟨rfl, rfl⟩
/-- The least of m and all. -/
def lsm (m : Int) (zs : List Int) : Int := zs.foldl min m
theorem lsm_succ (m : Int) (zs : List Int) (k : Nat) (h : k < zs.length) : lsm m (zs.take (k + 1)) = min (lsm m (zs.take k)) zs[k] := by
  unfold lsm; rw [take_snoc' zs k h, List.foldl_append]; rfl
theorem ble_c (m : Int) (zs : List Int) (b o c : Nat) (hn : zs.length ≤ 4611686018427387904) (w : World) (hc : ∀ k (h : k < zs.length), w.cell? ⟨b, o + k, none⟩ = some (.int .u64 zs[k])) :
    Calls Try.prog 59 #[.int .u64 m, .slice (some ⟨b, o, none⟩) zs.length c] w fun ee w' => ee = .returned (.int .u64 (lsm m zs)) ∧ w = w' := by
  go_enter Try.func59, Try.ntmps59
  go_wp2_with fail
  go_loop [0, 9] (fun v i => ∃ k : Nat, k ≤ zs.length ∧ i = .int .i64 k ∧ v = .int .u64 (lsm m (zs.take k))) (fun _ i => zs.length - (intOf i).toNat)
  case atStart => exact ⟨0, Nat.zero_le _, rfl, rfl⟩
  case round =>
    obtain ⟨k, hk, rfl, rfl⟩ := hrel
    by_cases hlt : k < zs.length
    · have hcell := hc k hlt
      have Hs := Lib.hid (lsm_succ m zs k hlt)
      clear hc
      go_wp2
      all_goals
        go_round
        case rel => exact ⟨k + 1, by omega, by go_num, by rw [Hs.out, ← min_if]⟩
        case measure => simp [intOf]; omega
    · obtain rfl : k = zs.length := by omega
      clear hc
      go_wp2
      go_ret
      exact ⟨rfl, rfl⟩
/-- The sum of all. -/
def sums (zs : List Int) : Int := zs.foldl (· + ·) 0
theorem sums_succ (zs : List Int) (k : Nat) (h : k < zs.length) : sums (zs.take (k + 1)) = sums (zs.take k) + zs[k] := by
  unfold sums; rw [take_snoc' zs k h, List.foldl_append]; rfl
theorem sums_le (zs : List Int) (h : smays zs = true) : ∀ k : Nat, k ≤ zs.length → (k : Int) ≤ sums (zs.take k) ∧ sums (zs.take k) ≤ k * 4294967295 := by
  intro k
  induction k with
  | zero => intro _; simp [sums]
  | succ k ih =>
    intro hk
    rw [sums_succ zs k (by omega)]
    have h1 := ih (by omega)
    have h2 := (smay_iff _).1 (smays_get h k (by omega))
    omega
theorem bsu_c (zs : List Int) (b o c : Nat) (hn : zs.length ≤ 64) (hs : smays zs = true) (w : World) (hc : ∀ k (h : k < zs.length), w.cell? ⟨b, o + k, none⟩ = some (.int .u64 zs[k])) :
    Calls Try.prog 60 #[.slice (some ⟨b, o, none⟩) zs.length c] w fun ee w' => ee = .returned (.int .u64 (sums zs)) ∧ w = w' := by
  have HL := Lib.hid (sums_le zs hs)
  have HM := Lib.hid (smays_get hs)
  clear hs
  go_enter Try.func60, Try.ntmps60
  go_wp2_with fail
  go_loop [3, 8] (fun v i => ∃ k : Nat, k ≤ zs.length ∧ i = .int .i64 k ∧ v = .int .u64 (sums (zs.take k))) (fun _ i => zs.length - (intOf i).toNat)
  case atStart => exact ⟨0, Nat.zero_le _, rfl, rfl⟩
  case round =>
    obtain ⟨k, hk, rfl, rfl⟩ := hrel
    by_cases hlt : k < zs.length
    · have hcell := hc k hlt
      have hs := sums_succ zs k hlt
      have h1 := HL.out (k + 1) (by omega)
      have W1 : IntKind.u64.wrap (sums (zs.take k) + zs[k]) = sums (zs.take k) + zs[k] := by rw [← hs, wrap_u64]; omega
      have Hs := Lib.hid hs
      clear hc hs h1
      go_wp2
      go_round
      case rel => exact ⟨k + 1, by omega, by go_num, by rw [Hs.out]⟩
      case measure => simp [intOf]; omega
    · obtain rfl : k = zs.length := by omega
      clear hc
      go_wp2
      go_ret
      exact ⟨rfl, rfl⟩
end Go.Proofs.Ytfplniooncdjdaa
