/- The reference: First, Went, Waiting. -/
import Derived.Test.YtnpidbodeebnkaaSg4
namespace Go.Proofs.Ytnpidbodeebnkaa
set_option linter.unusedVariables false
set_option linter.unusedSimpArgs false
set_option maxRecDepth 100000
open Go.RowKit Fg Reg Go.Maps
attribute [local irreducible] Reg.wN Reg.wE QR

theorem pk7_all (w : World) : (Instr.alloc 33 true (.tuple #[])).run Try.prog w = .ok (.pointer (some ⟨w.heap.size, 0, none⟩)) (w.alloc (.cells #[.int .i64 0, .int .u64 0, .int .u64 0, .int .i64 0, .bool false, .bool false] 33)) := by kernel_rfl
theorem pk7_info : (Try.prog.info? 33).map (·.size) = some 6 := by kernel_rfl
theorem pk7_one (q : PK) : (#[.int .i64 (q).cl, .int .u64 (q).ta, .int .u64 (q).dn, .int .i64 (q).ln, .bool (q).rl, .bool (q).gn] : Array Value).all (·.oneCell') = true := by kernel_rfl
theorem take_sn {α : Type} [Inhabited α] (L : List α) (k : Nat) (h : k < L.length) : L.take (k + 1) = L.take k ++ [L[k]] := by rw [List.take_add_one, List.getElem?_eq_getElem h]; rfl
theorem fst_at {c : Int} {l : List PK} {k : Nat} (hk : k < l.length) (h1 : (l[k].cl == c && !l[k].gn) = true) (h2 : ∀ q ∈ l.take k, (q.cl == c && !q.gn) = false) : fstI c l = some k := by
  unfold fstI
  rw [List.findIdx?_eq_some_iff_getElem]
  refine ⟨hk, h1, fun j hj => ?_⟩
  rw [h2 l[j] (List.mem_take_iff_getElem.2 ⟨j, by omega, rfl⟩)]
  simp
theorem fst_no {c : Int} {l : List PK} (h2 : ∀ q ∈ l, (q.cl == c && !q.gn) = false) : fstI c l = none := by
  unfold fstI
  rw [List.findIdx?_eq_none_iff]
  exact h2
def fsv (c : Int) (l : List PK) : Int := match fstI c l with | some i => (i : Int) | none => -1
set_option maxHeartbeats 4000000 in
theorem rf7_c (l : List PK) (n : Nat) (hn : l.length = n) (hle : n ≤ 1000) (c : Int) (ao : Option Addr) (cap : Nat) (w : World) (hR : RwV PK.cells 6 w ao l) :
    Calls Try.prog 10 #[.slice ao n cap, .int .i64 c] w fun ee w' => ee = .returned (.int .i64 (fsv c l)) ∧ Below w.heap.size w w' := by
  have HN := Lib.hid hn
  have HR := Lib.hid hR
  have ALL := Lib.hid pk7_all
  have INF := Lib.hid pk7_info
  have ONE := Lib.hid pk7_one
  clear hn hR
  go_enter Try.func10, Try.ntmps10
  go_wp2_with fail
  go_loopg [9] n (fun k9 s9 wr => ∃ k : Nat, s9 = .int .i64 k ∧ k ≤ n ∧ (∀ q ∈ l.take k, (q.cl == c && !q.gn) = false) ∧ Below w.heap.size w wr ∧ n - k ≤ k9)
  case atStart => exact ⟨0, rfl, Nat.zero_le _, fun q hq => by simp at hq, Below.refl _ _, by omega⟩
  case round =>
    obtain ⟨k, rfl, hk, hno, hB, hk9⟩ := hrel
    have HB := Lib.hid hB
    by_cases hlt : k < n
    · have hlC : k < l.length := by rw [HN.out]; exact hlt
      obtain ⟨b, o, rfl, hb, hra⟩ := (HR.out.below hB) k hlC
      have hat := fun h1 => fst_at (c := c) hlC h1 hno
      have hts := take_sn l k hlC
      obtain ⟨q, hq⟩ : ∃ q, l[k] = q := ⟨_, rfl⟩
      rw [hq] at hra hat hts
      have HR1 := Lib.hid (show wr.rangeAt b (o + k * 6) (#[.int .i64 (q).cl, .int .u64 (q).ta, .int .u64 (q).dn, .int .i64 (q).ln, .bool (q).rl, .bool (q).gn] : Array Value).toList from hra)
      have hstep : (q.cl == c && !q.gn) = false → ∀ x ∈ l.take (k + 1), (x.cl == c && !x.gn) = false := fun g x hx => by
        rw [hts] at hx
        rcases List.mem_append.1 hx with h | h
        · exact hno x h
        · rw [List.mem_singleton] at h; rw [h]; exact g
      have HST := Lib.hid hstep
      have HAT := Lib.hid hat
      clear hB hra hq hno hlC hts hb hstep hat
      cases hc : (q.cl == c) with
      | false =>
        have HX := Lib.hid (HST.out (by rw [hc]; rfl))
        go_wp2_with (first
          | go_guarded
          | (refine wpList_var_new3 rfl rfl rfl 33 #[.int .i64 0, .int .u64 0, .int .u64 0, .int .i64 0, .bool false, .bool false] ALL.out rfl _ rfl _ _ rfl #[.int .i64 (q).cl, .int .u64 (q).ta, .int .u64 (q).dn, .int .i64 (q).ln, .bool (q).rl, .bool (q).gn] _ rfl rfl rfl INF.out rfl (ONE.out _) ?_; intro w5 hs5 hb5 hv5; have e05 := hv5.cell 0 rfl; have e55 := hv5.cell 5 rfl; have l5 := hv5.lt; have HV5 := Lib.hid hv5; have HB5 : Hid (Below w.heap.size w w5) := Lib.hid (HB.out.trans (hb5.mono HB.out.size));  clear hb5 hv5)
          | (refine wpList_part_get rfl 33 _ rfl b (o + k * 6) #[.int .i64 (q).cl, .int .u64 (q).ta, .int .u64 (q).dn, .int .i64 (q).ln, .bool (q).rl, .bool (q).gn] _ HR1.out rfl Try.underlying33 rfl INF.out ?_))
        go_roundg (n - (k + 1))
        case rel => exact ⟨k + 1, by go_num, by omega, HX.out, HB5.out, Nat.le_refl _⟩
        case measure => omega
      | true =>
        cases hg : q.gn with
        | true =>
          have HX := Lib.hid (HST.out (by rw [hg]; simp))
          go_wp2_with (first
            | go_guarded
            | (refine wpList_var_new3 rfl rfl rfl 33 #[.int .i64 0, .int .u64 0, .int .u64 0, .int .i64 0, .bool false, .bool false] ALL.out rfl _ rfl _ _ rfl #[.int .i64 (q).cl, .int .u64 (q).ta, .int .u64 (q).dn, .int .i64 (q).ln, .bool (q).rl, .bool (q).gn] _ rfl rfl rfl INF.out rfl (ONE.out _) ?_; intro w5 hs5 hb5 hv5; have e05 := hv5.cell 0 rfl; have e55 := hv5.cell 5 rfl; have l5 := hv5.lt; have HV5 := Lib.hid hv5; have HB5 : Hid (Below w.heap.size w w5) := Lib.hid (HB.out.trans (hb5.mono HB.out.size)); rw [hg] at e55; clear hb5 hv5)
            | (refine wpList_part_get rfl 33 _ rfl b (o + k * 6) #[.int .i64 (q).cl, .int .u64 (q).ta, .int .u64 (q).dn, .int .i64 (q).ln, .bool (q).rl, .bool (q).gn] _ HR1.out rfl Try.underlying33 rfl INF.out ?_))
          go_roundg (n - (k + 1))
          case rel => exact ⟨k + 1, by go_num, by omega, HX.out, HB5.out, Nat.le_refl _⟩
          case measure => omega
        | false =>
          have hx : fsv c l = k := by unfold fsv; rw [HAT.out (by rw [hc, hg]; rfl)]
          have HX := Lib.hid hx
          clear hx
          go_wp2_with (first
            | go_guarded
            | (refine wpList_var_new3 rfl rfl rfl 33 #[.int .i64 0, .int .u64 0, .int .u64 0, .int .i64 0, .bool false, .bool false] ALL.out rfl _ rfl _ _ rfl #[.int .i64 (q).cl, .int .u64 (q).ta, .int .u64 (q).dn, .int .i64 (q).ln, .bool (q).rl, .bool (q).gn] _ rfl rfl rfl INF.out rfl (ONE.out _) ?_; intro w5 hs5 hb5 hv5; have e05 := hv5.cell 0 rfl; have e55 := hv5.cell 5 rfl; have l5 := hv5.lt; have HV5 := Lib.hid hv5; have HB5 : Hid (Below w.heap.size w w5) := Lib.hid (HB.out.trans (hb5.mono HB.out.size)); rw [hg] at e55; clear hb5 hv5)
            | (refine wpList_part_get rfl 33 _ rfl b (o + k * 6) #[.int .i64 (q).cl, .int .u64 (q).ta, .int .u64 (q).dn, .int .i64 (q).ln, .bool (q).rl, .bool (q).gn] _ HR1.out rfl Try.underlying33 rfl INF.out ?_))
          go_ret
          exact ⟨by rw [HX.out]; rfl, HB5.out⟩
    · obtain rfl : k = n := by omega
      have hf : l.take k = l := by rw [← HN.out, List.take_length]
      rw [hf] at hno
      have hx : fsv c l = -1 := by unfold fsv; rw [fst_no hno]
      have HX := Lib.hid hx
      clear hB hno hf hlt hx
      go_wp2_with (first | go_guarded)
      go_ret
      exact ⟨by rw [HX.out]; rfl, HB.out⟩
/-- What Went tells. -/
def wnv (c dn ln : Int) (l : List PK) : Int := match fstI c l with | none => 6 | some i => if ln < 1 then 26 else if dn < (l.getD i default).ta then 27 else 0
set_option maxHeartbeats 4000000 in
theorem rw7_c (l : List PK) (n : Nat) (hn : l.length = n) (hle : n ≤ 1000) (c dn ln : Int) (ao : Option Addr) (cap : Nat) (w : World) (hR : RwV PK.cells 6 w ao l) :
    Calls Try.prog 7 #[.slice ao n cap, .int .i64 c, .int .u64 dn, .int .i64 ln] w fun ee w' => ee = .returned (.int .i64 (wnv c dn ln l)) ∧ Below w.heap.size w w' := by
  have KF := Lib.hid (rf7_c l n hn hle c ao cap w hR)
  cases hf : fstI c l with
  | none =>
    have e : wnv c dn ln l = 6 := by unfold wnv; rw [hf]
    have e2 : fsv c l = -1 := by unfold fsv; rw [hf]
    rw [e]
    rw [e2] at KF
    clear hf e e2 hR hn
    go_enter Try.func7, Try.ntmps7
    go_wp2_with (first | go_guarded | (go_at_call 10; (with_reducible refine KF.out.mono ?_); rintro _ w1 ⟨rfl, hbel⟩; have HB := Lib.hid hbel; clear hbel))
    go_ret
    exact ⟨rfl, HB.out⟩
  | some i =>
    have e2 : fsv c l = i := by unfold fsv; rw [hf]
    rw [e2] at KF
    obtain ⟨hi, -⟩ := fst_some hf
    by_cases h1 : ln < 1
    · have q1 : decide (ln < 1) = true := decide_eq_true h1
      have e : wnv c dn ln l = 26 := by unfold wnv; rw [hf]; simp only; rw [if_pos h1]
      rw [e]
      have hin : i < n := by omega
      clear hf e e2 hR hn hi h1
      go_enter Try.func7, Try.ntmps7
      go_wp2_with (first | go_guarded | (go_at_call 10; (with_reducible refine KF.out.mono ?_); rintro _ w1 ⟨rfl, hbel⟩; have HB := Lib.hid hbel; clear hbel))
      go_ret
      exact ⟨rfl, HB.out⟩
    · have q1 : decide (ln < 1) = false := decide_eq_false h1
      obtain ⟨b, o, rfl, hb, hra⟩ := hR i hi
      have hta := hra 1 _ rfl
      have HT := Lib.hid hta
      have HBL := Lib.hid hb
      have hin : i < n := by omega
      have hgd : l.getD i default = l[i] := by simp [List.getD, List.getElem?_eq_getElem hi]
      obtain ⟨a, ha⟩ : ∃ a, l[i].ta = a := ⟨_, rfl⟩
      rw [ha] at HT
      by_cases h2 : dn < a
      · have q2 : decide (dn < a) = true := decide_eq_true h2
        have e : wnv c dn ln l = 27 := by unfold wnv; rw [hf]; simp only; rw [if_neg h1, hgd, ha, if_pos h2]
        rw [e]
        clear hf e e2 hR hn hi h1 h2 hra hta hb hgd ha
        go_enter Try.func7, Try.ntmps7
        go_wp2_with (first | go_guarded | (go_at_call 10; (with_reducible refine KF.out.mono ?_); rintro _ w1 ⟨rfl, hbel⟩; have g1 := (hbel.cell (p := ⟨b, o + i * 6 + 1, none⟩) HBL.out).trans HT.out; have gl := Nat.lt_of_lt_of_le HBL.out hbel.size; have HB := Lib.hid hbel; clear hbel))
        go_ret
        exact ⟨rfl, HB.out⟩
      · have q2 : decide (dn < a) = false := decide_eq_false h2
        have e : wnv c dn ln l = 0 := by unfold wnv; rw [hf]; simp only; rw [if_neg h1, hgd, ha, if_neg h2]
        rw [e]
        clear hf e e2 hR hn hi h1 h2 hra hta hb hgd ha
        go_enter Try.func7, Try.ntmps7
        go_wp2_with (first | go_guarded | (go_at_call 10; (with_reducible refine KF.out.mono ?_); rintro _ w1 ⟨rfl, hbel⟩; have g1 := (hbel.cell (p := ⟨b, o + i * 6 + 1, none⟩) HBL.out).trans HT.out; have gl := Nat.lt_of_lt_of_le HBL.out hbel.size; have HB := Lib.hid hbel; clear hbel))
        go_ret
        exact ⟨rfl, HB.out⟩
theorem waitC_yes {c : Int} {l : List PK} {k : Nat} (h : k < l.length) (h1 : (l[k].cl == c && !l[k].gn) = true) : (waitC c (l.take (k + 1))).length = (waitC c (l.take k)).length + 1 := by
  unfold waitC
  rw [take_sn l k h, List.filter_append, List.filter_cons_of_pos (p := fun q : PK => q.cl == c && !q.gn) h1, List.length_append]; rfl
theorem waitC_no {c : Int} {l : List PK} {k : Nat} (h : k < l.length) (h1 : (l[k].cl == c && !l[k].gn) = false) : (waitC c (l.take (k + 1))).length = (waitC c (l.take k)).length := by
  unfold waitC
  rw [take_sn l k h, List.filter_append, List.filter_cons_of_neg (p := fun q : PK => q.cl == c && !q.gn) (by rw [h1]; simp), List.filter_nil, List.append_nil]
set_option maxHeartbeats 4000000 in
theorem rn7_c (l : List PK) (n : Nat) (hn : l.length = n) (hle : n ≤ 1000) (c : Int) (ao : Option Addr) (cap : Nat) (w : World) (hR : RwV PK.cells 6 w ao l) :
    Calls Try.prog 15 #[.slice ao n cap, .int .i64 c] w fun ee w' => ee = .returned (.int .i64 ((waitC c l).length : Int)) ∧ Below w.heap.size w w' := by
  have HN := Lib.hid hn
  have HR := Lib.hid hR
  have ALL := Lib.hid pk7_all
  have INF := Lib.hid pk7_info
  have ONE := Lib.hid pk7_one
  clear hn hR
  go_enter Try.func15, Try.ntmps15
  go_wp2_with fail
  go_loopg [5, 10] n (fun k9 s5 s10 wr => ∃ (k m : Nat), s5 = .int .i64 m ∧ s10 = .int .i64 k ∧ k ≤ n ∧ (waitC c (l.take k)).length = m ∧ Below w.heap.size w wr ∧ n - k ≤ k9)
  case atStart => exact ⟨0, 0, rfl, rfl, Nat.zero_le _, rfl, Below.refl _ _, by omega⟩
  case round =>
    obtain ⟨k, m, rfl, rfl, hk, hm, hB, hk9⟩ := hrel
    have HB := Lib.hid hB
    have HM := Lib.hid hm
    have hm1 : m ≤ 1000 := by rw [← hm]; exact Nat.le_trans (List.length_filter_le _ _) (by simp; omega)
    by_cases hlt : k < n
    · have hlC : k < l.length := by rw [HN.out]; exact hlt
      obtain ⟨b, o, rfl, hb, hra⟩ := (HR.out.below hB) k hlC
      have hy := waitC_yes (c := c) hlC
      have hno := waitC_no (c := c) hlC
      obtain ⟨q, hq⟩ : ∃ q, l[k] = q := ⟨_, rfl⟩
      rw [hq] at hra hy hno
      have HR1 := Lib.hid (show wr.rangeAt b (o + k * 6) (#[.int .i64 (q).cl, .int .u64 (q).ta, .int .u64 (q).dn, .int .i64 (q).ln, .bool (q).rl, .bool (q).gn] : Array Value).toList from hra)
      clear hB hra hq hlC hb hm
      cases hc : (q.cl == c) with
      | false =>
        have HX := Lib.hid (hno (by rw [hc]; rfl))
        clear hy hno
        go_wp2_with (first
          | go_guarded
          | (refine wpList_var_new rfl rfl 33 #[.int .i64 0, .int .u64 0, .int .u64 0, .int .i64 0, .bool false, .bool false] ALL.out rfl _ _ rfl #[.int .i64 (q).cl, .int .u64 (q).ta, .int .u64 (q).dn, .int .i64 (q).ln, .bool (q).rl, .bool (q).gn] rfl rfl INF.out rfl (ONE.out _) ?_; intro w5 hs5 hb5 hv5; have e05 := hv5.cell 0 rfl; have e55 := hv5.cell 5 rfl; have l5 := hv5.lt; have HV5 := Lib.hid hv5; have HB5 : Hid (Below w.heap.size w w5) := Lib.hid (HB.out.trans (hb5.mono HB.out.size));  clear hb5 hv5)
          | (refine wpList_part_get rfl 33 _ rfl b (o + k * 6) #[.int .i64 (q).cl, .int .u64 (q).ta, .int .u64 (q).dn, .int .i64 (q).ln, .bool (q).rl, .bool (q).gn] _ HR1.out rfl Try.underlying33 rfl INF.out ?_))
        go_roundg (n - (k + 1))
        case rel => exact ⟨k + 1, m, rfl, by go_num, by omega, by rw [HX.out]; exact HM.out, HB5.out, Nat.le_refl _⟩
        case measure => omega
      | true =>
        cases hg : q.gn with
        | true =>
          have HX := Lib.hid (hno (by rw [hg]; simp))
          clear hy hno
          go_wp2_with (first
            | go_guarded
            | (refine wpList_var_new rfl rfl 33 #[.int .i64 0, .int .u64 0, .int .u64 0, .int .i64 0, .bool false, .bool false] ALL.out rfl _ _ rfl #[.int .i64 (q).cl, .int .u64 (q).ta, .int .u64 (q).dn, .int .i64 (q).ln, .bool (q).rl, .bool (q).gn] rfl rfl INF.out rfl (ONE.out _) ?_; intro w5 hs5 hb5 hv5; have e05 := hv5.cell 0 rfl; have e55 := hv5.cell 5 rfl; have l5 := hv5.lt; have HV5 := Lib.hid hv5; have HB5 : Hid (Below w.heap.size w w5) := Lib.hid (HB.out.trans (hb5.mono HB.out.size)); rw [hg] at e55; clear hb5 hv5)
            | (refine wpList_part_get rfl 33 _ rfl b (o + k * 6) #[.int .i64 (q).cl, .int .u64 (q).ta, .int .u64 (q).dn, .int .i64 (q).ln, .bool (q).rl, .bool (q).gn] _ HR1.out rfl Try.underlying33 rfl INF.out ?_))
          go_roundg (n - (k + 1))
          case rel => exact ⟨k + 1, m, rfl, by go_num, by omega, by rw [HX.out]; exact HM.out, HB5.out, Nat.le_refl _⟩
          case measure => omega
        | false =>
          have HX := Lib.hid (hy (by rw [hc, hg]; rfl))
          clear hy hno
          go_wp2_with (first
            | go_guarded
            | (refine wpList_var_new rfl rfl 33 #[.int .i64 0, .int .u64 0, .int .u64 0, .int .i64 0, .bool false, .bool false] ALL.out rfl _ _ rfl #[.int .i64 (q).cl, .int .u64 (q).ta, .int .u64 (q).dn, .int .i64 (q).ln, .bool (q).rl, .bool (q).gn] rfl rfl INF.out rfl (ONE.out _) ?_; intro w5 hs5 hb5 hv5; have e05 := hv5.cell 0 rfl; have e55 := hv5.cell 5 rfl; have l5 := hv5.lt; have HV5 := Lib.hid hv5; have HB5 : Hid (Below w.heap.size w w5) := Lib.hid (HB.out.trans (hb5.mono HB.out.size)); rw [hg] at e55; clear hb5 hv5)
            | (refine wpList_part_get rfl 33 _ rfl b (o + k * 6) #[.int .i64 (q).cl, .int .u64 (q).ta, .int .u64 (q).dn, .int .i64 (q).ln, .bool (q).rl, .bool (q).gn] _ HR1.out rfl Try.underlying33 rfl INF.out ?_))
          go_roundg (n - (k + 1))
          case rel => exact ⟨k + 1, m + 1, by go_num, by go_num, by omega, by rw [HX.out, HM.out], HB5.out, Nat.le_refl _⟩
          case measure => omega
    · obtain rfl : k = n := by omega
      have hf : l.take k = l := by rw [← HN.out, List.take_length]
      rw [hf] at hm
      have HX := Lib.hid hm
      clear hB hf hlt hm
      go_wp2_with (first | go_guarded)
      go_ret
      exact ⟨by rw [HX.out]; rfl, HB.out⟩
end Go.Proofs.Ytnpidbodeebnkaa
