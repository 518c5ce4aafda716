/- Rows of numbers that are the same; Reals; Copy. -/
import Derived.Test.YtlenmhbhakeonaaHi16
import Derived.Test.YtlenmhbhakeonaaCloM
namespace Go.Proofs.Ytlenmhbhakeonaa
set_option linter.unusedVariables false
set_option linter.unusedSimpArgs false
set_option maxRecDepth 100000
open Go.RowKit Fg Reg Go.Maps
attribute [local irreducible] Reg.wE VR

set_option maxHeartbeats 4000000 in
theorem pints_c (zs : List Int) (a1 a2 : Option Addr) (c1 c2 : Nat) (hn : zs.length ≤ 100000) (w : World) (h1 : IntsV w a1 zs) (h2 : IntsV w a2 zs) : Calls Try.prog 41 #[.slice a1 zs.length c1, .slice a2 zs.length c2] w fun ee w' => ee = .returned (.bool true) ∧ Below w.heap.size w w' := by
  have H1 := Lib.hid h1
  have H2 := Lib.hid h2
  clear h1 h2
  go_enter Try.func41, Try.ntmps41
  go_wp2_with fail
  go_loopw [13] (fun ii wr => ∃ k : Nat, k ≤ zs.length ∧ ii = .int .i64 k ∧ Below w.heap.size w wr) (fun ii _ => zs.length - (intOf ii).toNat)
  case atStart => exact ⟨0, Nat.zero_le _, rfl, Below.refl _ _⟩
  case round =>
    obtain ⟨k, hk, rfl, hB⟩ := hrel
    have hsz := hB.size
    by_cases hlt : k < zs.length
    · obtain ⟨b1, o1, rfl, hb1, e1⟩ := (H1.out.below hB) k hlt
      obtain ⟨b2, o2, rfl, hb2, e2⟩ := (H2.out.below hB) k hlt
      generalize zs[k] = y at *
      go_wp2
      go_quiet (fail)
      go_wp2
      go_roundw
      case rel => exact ⟨k + 1, by omega, by go_num, by ((repeat' apply And.intro) <;> first | (simp [go_sem, *]; done) | omega | (repeat' (first | with_reducible exact Below.refl _ _ | with_reducible assumption | ((with_reducible refine Below.drew ?_)) | ((with_reducible refine below_drewN ?_ _)) | ((with_reducible refine Below.alloc ?_ ?_ _); rotate_left; focus (first | omega | (simp; done) | (simp; omega))) | ((with_reducible refine Below.setCell ?_ ?_ _); rotate_left; focus (first | omega | (simp; done) | (simp; omega))) | ((with_reducible refine Below.trans ?_ (Below.mono (by with_reducible assumption) ?_)); rotate_left; focus (first | omega | (simp; done) | (simp; omega))))))⟩
      case measure => simp [intOf]; omega
    · obtain rfl : k = zs.length := by omega
      go_wp2
      go_ret
      exact ⟨rfl, hB⟩
/-- The real-time curve's cells. -/
def crt (c : Cls) : List Value := [.int .u64 c.ra, .int .u64 c.rb, .int .u64 c.rc]
/-- The leaves that are real. -/
def rls (f : Int → Option Cls) (M : List Int) : List Cls := (M.map (fun x => gcl (f x))).filter rl1
theorem rls_yes {f : Int → Option Cls} {M : List Int} {k : Nat} (h : k < M.length) {c : Cls} (hc : f M[k] = some c) (hr : rl1 c = true) : rls f (M.take (k + 1)) = rls f (M.take k) ++ [c] := by
  unfold rls
  rw [take_snoc'' M k h, List.map_append, List.filter_append]
  simp [hc, gcl, hr]
theorem rls_no {f : Int → Option Cls} {M : List Int} {k : Nat} (h : k < M.length) {c : Cls} (hc : f M[k] = some c) (hr : rl1 c = false) : rls f (M.take (k + 1)) = rls f (M.take k) := by
  unfold rls
  rw [take_snoc'' M k h, List.map_append, List.filter_append]
  simp [hc, gcl, hr]
theorem rls_len (f : Int → Option Cls) (M : List Int) : (rls f M).length ≤ M.length := Nat.le_trans (List.length_filter_le _ _) (by simp)
theorem cv_parts : ∃ i, Try.prog.info? 29 = some i ∧ i.zero = some (.agg #[.int .u64 0, .int .u64 0, .int .u64 0]) ∧ i.size = 3 ∧ i.bytes = 24 := ⟨_, rfl, rfl, rfl, rfl⟩
set_option maxHeartbeats 8000000 in
theorem hrea_c {w : World} {tb mb : Nat} {f : Int → Option Cls} {L : List Int} (h : HT w tb mb f) (I : TI f L) :
    Calls Try.prog 27 #[.pointer (some ⟨tb, 0, none⟩)] w fun e w' => ∃ v, e = .returned v ∧ w'.ownsRow w.heap.size 29 3 v (rls f (L.filter (sel f Cls.leaf))).length ((rls f (L.filter (sel f Cls.leaf))).flatMap crt) ∧ Below w.heap.size w w' := by
  obtain ⟨ii, ci0, cz0, cz1, cz2⟩ := cv_parts
  have CI0 := Lib.hid ci0
  have CZ0 := Lib.hid cz0
  have CZ1 := Lib.hid cz1
  have CZ2 := Lib.hid cz2
  have KL := Lib.hid (leaves_c h L I.srt I.mem (Nat.le_trans I.len (by decide)) I.iok)
  have hsub : ∀ x ∈ L.filter (sel f Cls.leaf), iok x ∧ ∃ c, f x = some c ∧ CIn c := fun x hx => by
    have hxL := (List.mem_filter.1 hx).1
    refine ⟨I.iok x hxL, ?_⟩
    obtain ⟨c, hc⟩ := Option.isSome_iff_exists.1 ((I.mem x).2 hxL)
    exact ⟨c, hc, (I.cls x c hc).2.1⟩
  have hlen : (L.filter (sel f Cls.leaf)).length ≤ 1000 := Nat.le_trans (List.length_filter_le _ _) (Nat.le_trans I.len (by decide))
  obtain ⟨M, hM⟩ : ∃ M, L.filter (sel f Cls.leaf) = M := ⟨_, rfl⟩
  rw [hM] at KL hsub hlen ⊢
  obtain ⟨m, hm⟩ : ∃ m, M.length = m := ⟨_, rfl⟩
  rw [hm] at hlen KL
  have HM := Lib.hid hm
  have HSUB := Lib.hid hsub
  have H := Lib.hid h
  have ALL := Lib.hid cl_alloc
  have INF := Lib.hid cl_info
  have ONE := Lib.hid cla_one
  clear h I hM hm hsub ci0 cz0 cz1 cz2
  go_enter Try.func27, Try.ntmps27
  go_wp2_with (first
    | go_guarded
    | (go_at_call 18; (with_reducible refine KL.out.mono ?_); rintro _ w1 ⟨v, rfl, hrow, hbel⟩; obtain ⟨ao, cp, rfl⟩ := row_form hrow; have HIV := Lib.hid (own_ints hrow).2; have HB1 := Lib.hid hbel; clear hbel hrow))
  try go_frame
  go_loopg [3, 10] m (fun k9 s3 s10 wr => ∃ (k n : Nat) (oo : Option Addr) (c : Nat), s3 = .slice oo n c ∧ s10 = .int .i64 k ∧ k ≤ m ∧ (rls f (M.take k)).length = n ∧ wr.ownsRow w1.heap.size 29 3 (.slice oo n c) n ((rls f (M.take k)).flatMap crt) ∧ Below w1.heap.size w1 wr ∧ m - k ≤ k9)
  case atStart => exact ⟨0, 0, none, 0, rfl, rfl, Nat.zero_le _, rfl, World.ownsRow_nil _ _ _ _, Below.refl _ _, by omega⟩
  case round =>
    obtain ⟨k, n, oo, c, rfl, rfl, hk, hn, hO, hB, hk9⟩ := hrel
    have HN := Lib.hid hn
    have HO := Lib.hid hO
    have HBW := Lib.hid (HB1.out.trans (hB.mono HB1.out.size))
    have HB := Lib.hid hB
    have hT : HT wr tb mb f := H.out.below HBW.out
    by_cases hlt : k < m
    · have hlC : k < M.length := by rw [HM.out]; exact hlt
      obtain ⟨b, o, rfl, hb, hcell⟩ := HIV.out k hlC
      obtain ⟨hx, cl, hc, hin⟩ := HSUB.out M[k] (List.getElem_mem hlC)
      have hce := (hB.cell (p := ⟨b, o + k, none⟩) hb).trans hcell
      have hb2 : b < wr.heap.size := Nat.lt_of_lt_of_le hb hB.size
      have hy := rls_yes hlC hc
      have hno := rls_no hlC hc
      have hnm : n ≤ 1000 := by rw [← hn]; exact Nat.le_trans (rls_len f _) (by simp; omega)
      obtain ⟨x, hxe⟩ : ∃ x, M[k] = x := ⟨_, rfl⟩
      rw [hxe] at hx hc hce
      have c0 := hT.c0
      have lt := hT.lt
      have hl0 := hT.look hx false
      rw [hc] at hl0
      have hlk : (Instr.lookup 108 (.map (some mb)) (.int .i64 x) false).run Try.prog wr = .ok (.agg #[.int .i64 (cl).id, .int .i64 (cl).par, .bool (cl).leaf, .int .u64 (cl).ra, .int .u64 (cl).rb, .int .u64 (cl).rc, .int .u64 (cl).la, .int .u64 (cl).lb, .int .u64 (cl).lc, .int .u64 (cl).ua, .int .u64 (cl).ub, .int .u64 (cl).uc, .int .i64 (cl).pk, .int .i64 (cl).bt]) wr := hl0
      have KR := Lib.hid (fun z => creal_c hin z)
      have HX := Lib.hid hx
      clear hl0 hcell hxe hin hc hn hO hB hT
      cases hr : rl1 cl with
      | false =>
        rw [hr] at KR
        have HR : Hid (rls f (M.take (k + 1)) = rls f (M.take k)) := Lib.hid (hno hr)
        clear hy hno
        go_wp2_with (first
          | go_guarded
          | (go_at_call 77; (with_reducible refine (KR.out _).mono ?_); rintro _ w6 ⟨rfl, hbel⟩; have HO6 := Lib.hid (row_bel HO5.out hbel); have HB6 := Lib.hid (HB5.out.trans (hbel.mono HB5.out.size)); clear hbel)
          | (refine wpList_var_get rfl 31 _ rfl _ #[.int .i64 (cl).id, .int .i64 (cl).par, .bool (cl).leaf, .int .u64 (cl).ra, .int .u64 (cl).rb, .int .u64 (cl).rc, .int .u64 (cl).la, .int .u64 (cl).lb, .int .u64 (cl).lc, .int .u64 (cl).ua, .int .u64 (cl).ub, .int .u64 (cl).uc, .int .i64 (cl).pk, .int .i64 (cl).bt] _ HV5.out rfl Try.underlying31 rfl INF.out ?_)
          | (refine wpList_var_new rfl rfl 31 #[.int .i64 0, .int .i64 0, .bool false, .int .u64 0, .int .u64 0, .int .u64 0, .int .u64 0, .int .u64 0, .int .u64 0, .int .u64 0, .int .u64 0, .int .u64 0, .int .i64 0, .int .i64 0] ALL.out rfl _ _ rfl #[.int .i64 (cl).id, .int .i64 (cl).par, .bool (cl).leaf, .int .u64 (cl).ra, .int .u64 (cl).rb, .int .u64 (cl).rc, .int .u64 (cl).la, .int .u64 (cl).lb, .int .u64 (cl).lc, .int .u64 (cl).ua, .int .u64 (cl).ub, .int .u64 (cl).uc, .int .i64 (cl).pk, .int .i64 (cl).bt] rfl rfl INF.out rfl (ONE.out _) ?_; intro w5 hs5 hb5 hv5; have HV5 := Lib.hid hv5; have HO5 := Lib.hid (row_bel HO.out hb5); have HB5 := Lib.hid (HB.out.trans (hb5.mono HB.out.size)); clear hb5 hv5))
        go_roundg (m - (k + 1))
        case rel => exact ⟨k + 1, n, oo, c, rfl, by go_num, by omega, by rw [HR.out, HN.out], by rw [HR.out]; exact HO6.out, HB6.out, Nat.le_refl _⟩
        case measure => omega
      | true =>
        rw [hr] at KR
        have HR : Hid (rls f (M.take (k + 1)) = rls f (M.take k) ++ [cl]) := Lib.hid (hy hr)
        clear hy hno
        go_wp2_with (first
          | go_guarded
          | (at_builtin; refine wpList_append_own _ rfl _ _ 49 rfl w1.heap.size 29 ii _ 3 24 Try.underlying49 CI0.out CZ0.out CZ1.out CZ2.out rfl (by decide) (.slice oo n c) _ _ rfl (World.ownsRow.alloc HO6.out _) ⟨_, 0, none⟩ 1 1 (crt cl) rfl rfl ?c1 ?c2 ?c3 ?c4 ?c5 ?_; (case c1 => (intro q u hu; (rcases q with _ | _ | _ | q <;> simp [crt] at hu <;> (try subst hu) <;> simp [Addr.add, go_sem, *]))); (case c2 => (intro v hv; simp [crt] at hv; rcases hv with rfl | rfl | rfl <;> rfl)); (case c3 => (unfold maxLen; omega)); (case c4 => omega); (case c5 => (have := HB6.out.size; simp; omega)); intro v2 z2 hown2 hg2 _; (have HB2 : Hid (Below w1.heap.size w1 z2) := Lib.hid (HB6.out.trans ((Below.alloc (Below.refl w6.heap.size w6) (Nat.le_refl _) _).mono HB6.out.size |>.grown hg2 (by have := HB6.out.size; simp; omega) (fun q hq => (HO6.out.lt q hq).1)))); obtain ⟨a2, c2, rfl⟩ := row_form hown2; (have HO2 := Lib.hid hown2); clear hown2 hg2)
          | (go_at_call 77; (with_reducible refine (KR.out _).mono ?_); rintro _ w6 ⟨rfl, hbel⟩; have HO6 := Lib.hid (row_bel HO5.out hbel); have HB6 := Lib.hid (HB5.out.trans (hbel.mono HB5.out.size)); have hv6 := HV5.out.bel hbel; have r3 := hv6.cell 3 rfl; have r4 := hv6.cell 4 rfl; have r5 := hv6.cell 5 rfl; have lv := hv6.lt; clear hbel hv6)
          | (refine wpList_var_get rfl 31 _ rfl _ #[.int .i64 (cl).id, .int .i64 (cl).par, .bool (cl).leaf, .int .u64 (cl).ra, .int .u64 (cl).rb, .int .u64 (cl).rc, .int .u64 (cl).la, .int .u64 (cl).lb, .int .u64 (cl).lc, .int .u64 (cl).ua, .int .u64 (cl).ub, .int .u64 (cl).uc, .int .i64 (cl).pk, .int .i64 (cl).bt] _ HV5.out rfl Try.underlying31 rfl INF.out ?_)
          | (refine wpList_var_new rfl rfl 31 #[.int .i64 0, .int .i64 0, .bool false, .int .u64 0, .int .u64 0, .int .u64 0, .int .u64 0, .int .u64 0, .int .u64 0, .int .u64 0, .int .u64 0, .int .u64 0, .int .i64 0, .int .i64 0] ALL.out rfl _ _ rfl #[.int .i64 (cl).id, .int .i64 (cl).par, .bool (cl).leaf, .int .u64 (cl).ra, .int .u64 (cl).rb, .int .u64 (cl).rc, .int .u64 (cl).la, .int .u64 (cl).lb, .int .u64 (cl).lc, .int .u64 (cl).ua, .int .u64 (cl).ub, .int .u64 (cl).uc, .int .i64 (cl).pk, .int .i64 (cl).bt] rfl rfl INF.out rfl (ONE.out _) ?_; intro w5 hs5 hb5 hv5; have HV5 := Lib.hid hv5; have HO5 := Lib.hid (row_bel HO.out hb5); have HB5 := Lib.hid (HB.out.trans (hb5.mono HB.out.size)); clear hb5 hv5))
        go_roundg (m - (k + 1))
        case rel => exact ⟨k + 1, n + 1, a2, c2, rfl, by go_num, by omega, by rw [HR.out, List.length_append, HN.out]; rfl, by rw [HR.out, List.flatMap_append, List.flatMap_singleton]; exact HO2.out, HB2.out, Nat.le_refl _⟩
        case measure => omega
    · obtain rfl : k = m := by omega
      have hfin : rls f (M.take k) = rls f M := by rw [← HM.out, List.take_length]
      have HF := Lib.hid hfin
      clear hfin hn hO hB hT
      go_wp2_with (first | go_guarded)
      go_ret
      exact ⟨_, rfl, by rw [← HF.out, HN.out]; exact HO.out.mono HB1.out.size, HBW.out⟩
end Go.Proofs.Ytlenmhbhakeonaa
