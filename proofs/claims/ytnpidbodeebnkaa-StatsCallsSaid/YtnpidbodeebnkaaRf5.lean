/- The reference: Classes, the walk. -/
import Derived.Test.YtnpidbodeebnkaaRf4
namespace Go.Proofs.Ytnpidbodeebnkaa
set_option linter.unusedVariables false
set_option linter.unusedSimpArgs false
set_option maxRecDepth 100000
open Go.RowKit Fg Reg Go.Maps
attribute [local irreducible] Reg.wN Reg.wE QR

set_option maxHeartbeats 8000000 in
theorem rk7_c (l : List PK) (n : Nat) (hn : l.length = n) (hle : n ≤ 1000) (ao : Option Addr) (cap : Nat) (w : World) (hR : RwV PK.cells 6 w ao l) :
    Calls Try.prog 19 #[.slice ao n cap] w fun e z' => ∃ oo cp, e = .returned (.slice oo (clsL l).length cp) ∧ RwV (fun x : Int => [Value.int .i64 x]) 1 z' oo (clsL l) ∧ Below w.heap.size w z' := by
  obtain ⟨ii, ci0, cz0, cz1, cz2⟩ := int7_parts
  have CI0 := Lib.hid ci0
  have CZ0 := Lib.hid cz0
  have CZ1 := Lib.hid cz1
  have CZ2 := Lib.hid cz2
  have HN := Lib.hid hn
  have HR := Lib.hid hR
  have ALL := Lib.hid pk7_all
  have INF := Lib.hid pk7_info
  have ONE := Lib.hid pk7_one
  clear hn hR ci0 cz0 cz1 cz2
  go_enter Try.func19, Try.ntmps19
  go_wp2_with fail
  go_loopg [3, 12] n (fun k9 s3 s12 wr => ∃ (k m : Nat) (oo : Option Addr) (cp : Nat), s3 = .slice oo m cp ∧ s12 = .int .i64 k ∧ k ≤ n ∧ (clsL (l.take k)).length = m ∧ wr.ownsRow w.heap.size 3 1 (.slice oo m cp) m ((clsL (l.take k)).map (Value.int .i64)) ∧ Below w.heap.size w wr ∧ n - k ≤ k9)
  case atStart => exact ⟨0, 0, none, 0, rfl, rfl, Nat.zero_le _, rfl, World.ownsRow_nil _ _ _ _, Below.refl _ _, by omega⟩
  case round =>
    obtain ⟨k, m, oo, cp, rfl, rfl, hk, hm, hO, hB, hk9⟩ := hrel
    have HB := Lib.hid hB
    have HO := Lib.hid hO
    have hm1 : m ≤ 1000 := by rw [← hm]; refine Nat.le_trans (clsL_len _) ?_; simp; omega
    by_cases hlt : k < n
    · have hlC : k < l.length := by rw [HN.out]; exact hlt
      obtain ⟨b, o, rfl, hb, hra⟩ := (HR.out.below hB) k hlC
      have hts := take_sn l k hlC
      obtain ⟨q, hq⟩ : ∃ q, l[k] = q := ⟨_, rfl⟩
      rw [hq] at hra hts
      have HR1 := Lib.hid (show wr.rangeAt b (o + k * 6) (#[.int .i64 (q).cl, .int .u64 (q).ta, .int .u64 (q).dn, .int .i64 (q).ln, .bool (q).rl, .bool (q).gn] : Array Value).toList from hra)
      have hnx : clsL (l.take (k + 1)) = insA q.cl (clsL (l.take k)) := by rw [hts, clsL_snoc]
      have hKs := clsL_srt (l.take k)
      obtain ⟨K, hKe⟩ : ∃ K, clsL (l.take k) = K := ⟨_, rfl⟩
      rw [hKe] at hnx hKs hm HO
      have HNX := Lib.hid hnx
      have HKS := Lib.hid hKs
      have HKM := Lib.hid hm
      clear hB hra hq hlC hb hts hm hO hnx hKs hKe
      go_wp2_with (first
        | go_guarded
        | (refine wpList_var_new rfl rfl 33 #[.int .i64 0, .int .u64 0, .int .u64 0, .int .i64 0, .bool false, .bool false] ALL.out rfl _ _ rfl #[.int .i64 (q).cl, .int .u64 (q).ta, .int .u64 (q).dn, .int .i64 (q).ln, .bool (q).rl, .bool (q).gn] rfl rfl INF.out rfl (ONE.out _) ?_; intro w5 hs5 hb5 hv5; have e05 := hv5.cell 0 rfl; have l5 := hv5.lt; have HV5 := Lib.hid hv5; have HB5 : Hid (Below w.heap.size w w5) := Lib.hid (HB.out.trans (hb5.mono HB.out.size)); have HL5 := Lib.hid l5; have HV50 := Lib.hid e05; have HO5 := Lib.hid (row_bel HO.out hb5); clear hb5 hv5)
        | (refine wpList_part_get rfl 33 _ rfl b (o + k * 6) #[.int .i64 (q).cl, .int .u64 (q).ta, .int .u64 (q).dn, .int .i64 (q).ln, .bool (q).rl, .bool (q).gn] _ HR1.out rfl Try.underlying33 rfl INF.out ?_))
      try go_frame
      obtain ⟨p5, hp5⟩ : ∃ p, wr.heap.size = p := ⟨_, rfl⟩
      (try rw [hp5] at HL5)
      (try rw [hp5] at HV50)
      (try simp only [hp5])
      clear hp5 e05 l5
      have hflat : ∀ l : List Int, l.map (Value.int .i64) = l.flatMap (fun x : Int => [Value.int .i64 x]) := fun l => by
        induction l with
        | nil => rfl
        | cons a l ih => rw [List.flatMap_cons, ← ih]; rfl
      have hown5 := HO5.out
      rw [← HKM.out, hflat K] at hown5
      obtain ⟨oo9, cp9, e9, hR5, -⟩ := RwV.of_own icl_of hown5
      injection e9 with e91 e92 e93
      subst e91 e93
      have HR5 := Lib.hid hR5
      clear hown5 hR5 hflat e92
      have HK9 := Lib.hid hk9
      clear hk9
      go_loopg [6, 7, 18] m (fun k8 s6 s7 s18 wv => ∃ (j k2 : Nat) (pt : Bool) (o2 : Option Addr) (c2 : Nat), s6 = .slice o2 k2 c2 ∧ s7 = .bool pt ∧ s18 = .int .i64 j ∧ j ≤ m ∧ (wst q.cl (K.take j) pt).length = k2 ∧ wv.ownsRow w5.heap.size 3 1 (.slice o2 k2 c2) k2 ((wst q.cl (K.take j) pt).map (Value.int .i64)) ∧ (pt = false → ∀ y ∈ K.take j, y < q.cl) ∧ (pt = true → ∃ y ∈ K.take j, q.cl ≤ y) ∧ Below w5.heap.size w5 wv ∧ m - j ≤ k8)
      case atStart => exact ⟨0, 0, false, none, 0, rfl, rfl, rfl, Nat.zero_le _, rfl, World.ownsRow_nil _ _ _ _, fun _ y hy => by simp at hy, fun h => (by cases h), Below.refl _ _, by omega⟩
      case round =>
        obtain ⟨j, k2, pt, o2, c2, rfl, rfl, rfl, hj, hk2, hO2, hp0, hp1, hBv, hk8⟩ := hrel
        have HBv := Lib.hid hBv
        have HO2 := Lib.hid hO2
        have hk21 : k2 ≤ 1001 := by
          rw [← hk2]
          have h1 : (K.take j).length ≤ 1000 := by simp; omega
          unfold wst
          cases pt with
          | false => simpa using Nat.le_succ_of_le h1
          | true =>
            rw [if_pos rfl]
            have h2 := ins_len1 q.cl (K.take j) (HKS.out.sublist (List.take_sublist _ _))
            omega
        have g0 := (HBv.out.cell (p := ⟨p5, 0, none⟩) HL5.out).trans HV50.out
        have gl0 := Nat.lt_of_lt_of_le HL5.out HBv.out.size
        by_cases hlj : j < m
        · have hlK : j < K.length := by rw [HKM.out]; exact hlj
          obtain ⟨bk, ok, rfl, hbk, hrk⟩ := (HR5.out.below hBv) j hlK
          have hce := hrk 0 _ rfl
          have htk := take_sn K j hlK
          have hbig : ∀ x ∈ K.take j, x < K[j] := fun x hx => by
            obtain ⟨i, hi, rfl⟩ := List.mem_take_iff_getElem.1 hx
            exact List.pairwise_iff_getElem.1 HKS.out i j (by omega) hlK (by omega)
          obtain ⟨y, hy⟩ : ∃ y, K[j] = y := ⟨_, rfl⟩
          rw [hy] at hce htk hbig
          simp only [Nat.add_zero, Nat.mul_one] at hce
          clear hrk
          cases pt with
          | false =>
            have hall := hp0 rfl
            by_cases hyc : q.cl ≤ y
            · have qa : decide (q.cl ≤ y) = true := decide_eq_true hyc
              by_cases hye : y = q.cl
              · have qb : (y != q.cl) = false := by simp [hye]
                have hw : wst q.cl (K.take (j + 1)) true = wst q.cl (K.take j) false ++ [q.cl] := by unfold wst; rw [if_pos rfl, if_neg (by simp), htk, hye, ins_same hall]
                have HW := Lib.hid hw
                have HM := Lib.hid (show ∃ x ∈ K.take (j + 1), q.cl ≤ x from ⟨y, by rw [htk]; simp, hyc⟩)
                have HK2 := Lib.hid hk2
                clear hO2 hp0 hp1 hBv hk2 hlK htk hbig hy hall hyc hw hye
                go_wp2_with (first | go_guarded | (at_builtin; refine wpList_append_own _ rfl _ _ 48 rfl w5.heap.size 3 ii _ 1 8 Try.underlying48 CI0.out CZ0.out CZ1.out CZ2.out rfl (by decide) (.slice o2 k2 c2) _ _ rfl (World.ownsRow.alloc HO2.out _) ⟨_, 0, none⟩ 1 1 [.int .i64 q.cl] rfl rfl ?c1 ?c2 ?c3 ?c4 ?c5 ?_; (case c1 => (intro q9 u hu; (rcases q9 with _ | q9 <;> simp at hu <;> (try subst hu) <;> simp [Addr.add, go_sem, *]))); (case c2 => (intro v hv; simp at hv; (first | (subst hv; rfl) | (rcases hv with rfl <;> rfl)))); (case c3 => (unfold maxLen; omega)); (case c4 => omega); (case c5 => (have := HBv.out.size; simp; omega)); intro v3 z3 hown3 hg3 _; (have HBv3 : Hid (Below w5.heap.size w5 z3) := Lib.hid (HBv.out.trans ((Below.alloc (Below.refl _ _) HBv.out.size _).grown hg3 (by have := HBv.out.size; simp; omega) (fun q9 hq => (HO2.out.lt q9 hq).1)))); have g3 := (HBv3.out.cell (p := ⟨p5, 0, none⟩) HL5.out).trans HV50.out; have gl3 := Nat.lt_of_lt_of_le HL5.out HBv3.out.size; obtain ⟨a3, c3, rfl⟩ := row_form hown3; (have HO3 := Lib.hid hown3); clear hown3 hg3))
                go_roundg (m - (j + 1))
                case rel => exact ⟨j + 1, k2 + 1, true, a3, c3, rfl, rfl, by go_num, by omega, by rw [HW.out, List.length_append, HK2.out]; rfl, by rw [HW.out, List.map_append]; exact HO3.out, fun h => (by cases h), fun _ => HM.out, HBv3.out, Nat.le_refl _⟩
                case measure => omega
              · have qb : (y != q.cl) = true := by simpa using hye
                have hw : wst q.cl (K.take (j + 1)) true = wst q.cl (K.take j) false ++ [q.cl] ++ [y] := by unfold wst; rw [if_pos rfl, if_neg (by simp), htk, ins_put hall (by omega)]
                have HW := Lib.hid hw
                have HM := Lib.hid (show ∃ x ∈ K.take (j + 1), q.cl ≤ x from ⟨y, by rw [htk]; simp, hyc⟩)
                have HK2 := Lib.hid hk2
                clear hO2 hp0 hp1 hBv hk2 hlK htk hbig hy hall hyc hw hye
                go_wp2_with (first | go_guarded | (at_builtin; refine wpList_append_own _ rfl _ _ 48 rfl w5.heap.size 3 ii _ 1 8 Try.underlying48 CI0.out CZ0.out CZ1.out CZ2.out rfl (by decide) (.slice a3 (k2 + 1) c3) _ _ rfl (World.ownsRow.alloc HO3.out _) ⟨_, 0, none⟩ 1 1 [.int .i64 y] rfl rfl ?c1 ?c2 ?c3 ?c4 ?c5 ?_; (case c1 => (intro q9 u hu; (rcases q9 with _ | q9 <;> simp at hu <;> (try subst hu) <;> simp [Addr.add, go_sem, *]))); (case c2 => (intro v hv; simp at hv; (first | (subst hv; rfl) | (rcases hv with rfl <;> rfl)))); (case c3 => (unfold maxLen; omega)); (case c4 => omega); (case c5 => (have := HBv3.out.size; simp; omega)); intro v4 z4 hown4 hg4 _; (have HBv4 : Hid (Below w5.heap.size w5 z4) := Lib.hid (HBv3.out.trans ((Below.alloc (Below.refl _ _) HBv3.out.size _).grown hg4 (by have := HBv3.out.size; simp; omega) (fun q9 hq => (HO3.out.lt q9 hq).1)))); have g4 := (HBv4.out.cell (p := ⟨p5, 0, none⟩) HL5.out).trans HV50.out; have gl4 := Nat.lt_of_lt_of_le HL5.out HBv4.out.size; obtain ⟨a4, c4, rfl⟩ := row_form hown4; (have HO4 := Lib.hid hown4); clear hown4 hg4) | (at_builtin; refine wpList_append_own _ rfl _ _ 48 rfl w5.heap.size 3 ii _ 1 8 Try.underlying48 CI0.out CZ0.out CZ1.out CZ2.out rfl (by decide) (.slice o2 k2 c2) _ _ rfl (World.ownsRow.alloc HO2.out _) ⟨_, 0, none⟩ 1 1 [.int .i64 q.cl] rfl rfl ?c1 ?c2 ?c3 ?c4 ?c5 ?_; (case c1 => (intro q9 u hu; (rcases q9 with _ | q9 <;> simp at hu <;> (try subst hu) <;> simp [Addr.add, go_sem, *]))); (case c2 => (intro v hv; simp at hv; (first | (subst hv; rfl) | (rcases hv with rfl <;> rfl)))); (case c3 => (unfold maxLen; omega)); (case c4 => omega); (case c5 => (have := HBv.out.size; simp; omega)); intro v3 z3 hown3 hg3 _; (have HBv3 : Hid (Below w5.heap.size w5 z3) := Lib.hid (HBv.out.trans ((Below.alloc (Below.refl _ _) HBv.out.size _).grown hg3 (by have := HBv.out.size; simp; omega) (fun q9 hq => (HO2.out.lt q9 hq).1)))); have g3 := (HBv3.out.cell (p := ⟨p5, 0, none⟩) HL5.out).trans HV50.out; have gl3 := Nat.lt_of_lt_of_le HL5.out HBv3.out.size; obtain ⟨a3, c3, rfl⟩ := row_form hown3; (have HO3 := Lib.hid hown3); clear hown3 hg3))
                go_roundg (m - (j + 1))
                case rel => exact ⟨j + 1, k2 + 1 + 1, true, a4, c4, rfl, rfl, by go_num, by omega, by rw [HW.out, List.length_append, List.length_append, HK2.out]; rfl, by rw [HW.out, List.map_append, List.map_append]; exact HO4.out, fun h => (by cases h), fun _ => HM.out, HBv4.out, Nat.le_refl _⟩
                case measure => omega
            · have qa : decide (q.cl ≤ y) = false := decide_eq_false hyc
              have qb : (y != q.cl) = true := by simp; omega
              have hw : wst q.cl (K.take (j + 1)) false = wst q.cl (K.take j) false ++ [y] := by unfold wst; rw [if_neg (by simp), if_neg (by simp), htk]
              have HW := Lib.hid hw
              have HM := Lib.hid (show ∀ x ∈ K.take (j + 1), x < q.cl from fun x hx => by
                rw [htk] at hx
                rcases List.mem_append.1 hx with g | g
                · exact hall x g
                · rw [List.mem_singleton] at g; subst g; omega)
              have HK2 := Lib.hid hk2
              clear hO2 hp0 hp1 hBv hk2 hlK htk hbig hy hall hyc hw
              go_wp2_with (first | go_guarded | (at_builtin; refine wpList_append_own _ rfl _ _ 48 rfl w5.heap.size 3 ii _ 1 8 Try.underlying48 CI0.out CZ0.out CZ1.out CZ2.out rfl (by decide) (.slice o2 k2 c2) _ _ rfl (World.ownsRow.alloc HO2.out _) ⟨_, 0, none⟩ 1 1 [.int .i64 y] rfl rfl ?c1 ?c2 ?c3 ?c4 ?c5 ?_; (case c1 => (intro q9 u hu; (rcases q9 with _ | q9 <;> simp at hu <;> (try subst hu) <;> simp [Addr.add, go_sem, *]))); (case c2 => (intro v hv; simp at hv; (first | (subst hv; rfl) | (rcases hv with rfl <;> rfl)))); (case c3 => (unfold maxLen; omega)); (case c4 => omega); (case c5 => (have := HBv.out.size; simp; omega)); intro v3 z3 hown3 hg3 _; (have HBv3 : Hid (Below w5.heap.size w5 z3) := Lib.hid (HBv.out.trans ((Below.alloc (Below.refl _ _) HBv.out.size _).grown hg3 (by have := HBv.out.size; simp; omega) (fun q9 hq => (HO2.out.lt q9 hq).1)))); have g3 := (HBv3.out.cell (p := ⟨p5, 0, none⟩) HL5.out).trans HV50.out; have gl3 := Nat.lt_of_lt_of_le HL5.out HBv3.out.size; obtain ⟨a3, c3, rfl⟩ := row_form hown3; (have HO3 := Lib.hid hown3); clear hown3 hg3))
              go_roundg (m - (j + 1))
              case rel => exact ⟨j + 1, k2 + 1, false, a3, c3, rfl, rfl, by go_num, by omega, by rw [HW.out, List.length_append, HK2.out]; rfl, by rw [HW.out, List.map_append]; exact HO3.out, fun _ => HM.out, fun h => (by cases h), HBv3.out, Nat.le_refl _⟩
              case measure => omega
          | true =>
            obtain ⟨x0, hx0, hx1⟩ := hp1 rfl
            have hyc : q.cl < y := Int.lt_of_le_of_lt hx1 (hbig x0 hx0)
            have qb : (y != q.cl) = true := by simp; omega
            have hw : wst q.cl (K.take (j + 1)) true = wst q.cl (K.take j) true ++ [y] := by unfold wst; rw [if_pos rfl, if_pos rfl, htk, ins_more hyc]
            have HW := Lib.hid hw
            have HM := Lib.hid (show ∃ x ∈ K.take (j + 1), q.cl ≤ x from ⟨y, by rw [htk]; simp, by omega⟩)
            have HK2 := Lib.hid hk2
            clear hO2 hp0 hp1 hBv hk2 hlK htk hbig hy hyc hw hx0 hx1
            go_wp2_with (first | go_guarded | (at_builtin; refine wpList_append_own _ rfl _ _ 48 rfl w5.heap.size 3 ii _ 1 8 Try.underlying48 CI0.out CZ0.out CZ1.out CZ2.out rfl (by decide) (.slice o2 k2 c2) _ _ rfl (World.ownsRow.alloc HO2.out _) ⟨_, 0, none⟩ 1 1 [.int .i64 y] rfl rfl ?c1 ?c2 ?c3 ?c4 ?c5 ?_; (case c1 => (intro q9 u hu; (rcases q9 with _ | q9 <;> simp at hu <;> (try subst hu) <;> simp [Addr.add, go_sem, *]))); (case c2 => (intro v hv; simp at hv; (first | (subst hv; rfl) | (rcases hv with rfl <;> rfl)))); (case c3 => (unfold maxLen; omega)); (case c4 => omega); (case c5 => (have := HBv.out.size; simp; omega)); intro v3 z3 hown3 hg3 _; (have HBv3 : Hid (Below w5.heap.size w5 z3) := Lib.hid (HBv.out.trans ((Below.alloc (Below.refl _ _) HBv.out.size _).grown hg3 (by have := HBv.out.size; simp; omega) (fun q9 hq => (HO2.out.lt q9 hq).1)))); have g3 := (HBv3.out.cell (p := ⟨p5, 0, none⟩) HL5.out).trans HV50.out; have gl3 := Nat.lt_of_lt_of_le HL5.out HBv3.out.size; obtain ⟨a3, c3, rfl⟩ := row_form hown3; (have HO3 := Lib.hid hown3); clear hown3 hg3))
            go_roundg (m - (j + 1))
            case rel => exact ⟨j + 1, k2 + 1, true, a3, c3, rfl, rfl, by go_num, by omega, by rw [HW.out, List.length_append, HK2.out]; rfl, by rw [HW.out, List.map_append]; exact HO3.out, fun h => (by cases h), fun _ => HM.out, HBv3.out, Nat.le_refl _⟩
            case measure => omega
        · obtain rfl : j = m := by omega
          have hf : K.take j = K := by rw [← HKM.out, List.take_length]
          rw [hf] at hk2 hp0
          have HO2k := hO2
          rw [hf] at HO2k
          have HO9 := Lib.hid HO2k
          cases pt with
          | true =>
            have hw : wst q.cl K true = insA q.cl K := rfl
            rw [hw] at hk2 HO9
            have HK2 := Lib.hid hk2
            clear hO2 hp0 hp1 hBv hk2 hlj hf hw HO2k HO2 hk8
            go_wp2_with (first | go_guarded)
            go_roundg (n - (k + 1))
            case rel => exact ⟨k + 1, k2, o2, c2, rfl, by go_num, by omega, by rw [HNX.out]; exact HK2.out, by rw [HNX.out]; exact ownsRow_base_a HO9.out HB5.out.size, HB5.out.trans (HBv.out.mono HB5.out.size), Nat.le_refl _⟩
            case measure => have := HK9.out; omega
          | false =>
            have hw : insA q.cl K = wst q.cl K false ++ [q.cl] := by rw [ins_all (hp0 rfl)]; rfl
            have HW := Lib.hid hw
            have HK2 := Lib.hid hk2
            clear hO2 hp0 hp1 hBv hk2 hlj hf hw HO2k HO2 hk8
            go_wp2_with (first | go_guarded | (at_builtin; refine wpList_append_own _ rfl _ _ 48 rfl w5.heap.size 3 ii _ 1 8 Try.underlying48 CI0.out CZ0.out CZ1.out CZ2.out rfl (by decide) (.slice o2 k2 c2) _ _ rfl (World.ownsRow.alloc HO9.out _) ⟨_, 0, none⟩ 1 1 [.int .i64 q.cl] rfl rfl ?c1 ?c2 ?c3 ?c4 ?c5 ?_; (case c1 => (intro q9 u hu; (rcases q9 with _ | q9 <;> simp at hu <;> (try subst hu) <;> simp [Addr.add, go_sem, *]))); (case c2 => (intro v hv; simp at hv; (first | (subst hv; rfl) | (rcases hv with rfl <;> rfl)))); (case c3 => (unfold maxLen; omega)); (case c4 => omega); (case c5 => (have := HBv.out.size; simp; omega)); intro v3 z3 hown3 hg3 _; (have HBv3 : Hid (Below w5.heap.size w5 z3) := Lib.hid (HBv.out.trans ((Below.alloc (Below.refl _ _) HBv.out.size _).grown hg3 (by have := HBv.out.size; simp; omega) (fun q9 hq => (HO9.out.lt q9 hq).1)))); have g3 := (HBv3.out.cell (p := ⟨p5, 0, none⟩) HL5.out).trans HV50.out; have gl3 := Nat.lt_of_lt_of_le HL5.out HBv3.out.size; obtain ⟨a3, c3, rfl⟩ := row_form hown3; (have HO3 := Lib.hid hown3); clear hown3 hg3))
            go_roundg (n - (k + 1))
            case rel => exact ⟨k + 1, k2 + 1, a3, c3, rfl, by go_num, by omega, by rw [HNX.out, HW.out, List.length_append, HK2.out]; rfl, by rw [HNX.out, HW.out, List.map_append]; exact ownsRow_base_a HO3.out HB5.out.size, HB5.out.trans (HBv3.out.mono HB5.out.size), Nat.le_refl _⟩
            case measure => have := HK9.out; omega
    · obtain rfl : k = n := by omega
      have hf : l.take k = l := by rw [← HN.out, List.take_length]
      rw [hf] at hm HO
      have hflat : ∀ l : List Int, l.map (Value.int .i64) = l.flatMap (fun x : Int => [Value.int .i64 x]) := fun l => by
        induction l with
        | nil => rfl
        | cons a l ih => rw [List.flatMap_cons, ← ih]; rfl
      have ho := HO.out
      rw [← hm, hflat (clsL l)] at ho
      obtain ⟨oo9, cp9, e9, hR9, -⟩ := RwV.of_own icl_of ho
      injection e9 with e91 e92 e93
      have HR9 : Hid (RwV (fun x : Int => [Value.int .i64 x]) 1 wr oo (clsL l)) := Lib.hid (by rw [e91]; exact hR9)
      have HM := Lib.hid hm
      clear hB hm hO hlt hf hflat ho hR9 e91 e92 e93
      go_wp2_with (first | go_guarded)
      refine bodyPost_ret (v := .slice oo m cp) (by simp [results, Try.results19, go_sem, *]) rfl ?_
      exact ⟨oo, cp, by rw [HM.out], HR9.out, HB.out⟩
end Go.Proofs.Ytnpidbodeebnkaa
