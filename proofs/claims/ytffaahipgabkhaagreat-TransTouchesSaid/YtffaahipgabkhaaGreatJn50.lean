/- Joined texts. -/
import Derived.Test.YtffaahipgabkhaaGreatJn0
import Derived.Test.YtffaahipgabkhaaGreatJn49
set_option linter.unusedVariables false
set_option linter.unusedSimpArgs false
set_option maxRecDepth 100000
set_option maxHeartbeats 16000000
section
namespace Go.Proofs.YtffaahipgabkhaaGreat
open Go.RowKit Fg Reg Go.Maps Go.Shelf
attribute [local irreducible] Reg.wE VR
theorem low_le {L : List Int} (hs : L.Pairwise (· < ·)) {i : Nat} (hi : i < L.length) {y : Int} (hy : y ∈ L.drop i) : L[i] ≤ y := by
 have hp : (L.drop i).Pairwise (· < ·) := hs.drop
 rw [List.drop_eq_getElem_cons hi] at hp hy
 rcases List.mem_cons.1 hy with h | h
 ·omega
 ·have := (List.pairwise_cons.1 hp).1 y h
  omega
theorem rtou_c {f g : Int → Option Cls} {L M : List Int} (I : TI f L) (J : TI g M) (n m : Nat) (hn : L.length = n) (hm : M.length = m) (ao bo : Option Addr) (ac bc : Nat) (w : World) (hA : RwV crow 14 w ao (rowsX f L)) (hB : RwV crow 14 w bo (rowsX g M)) :
  Calls Tryz.prog 15 #[.slice ao n ac, .slice bo m bc] w fun e w' => ∃ U oo c, e = .returned (.slice oo U.length c) ∧ Tch f g U ∧ w'.ownsRow w.heap.size 3 1 (.slice oo U.length c) U.length (U.map (Value.int .i64)) ∧ Below w.heap.size w w' := by
 obtain ⟨ii, ci0, cz0, cz1, cz2⟩ := int_partsH
 have CI0 := Lib.hid ci0
 have CZ0 := Lib.hid cz0
 have CZ1 := Lib.hid cz1
 have CZ2 := Lib.hid cz2
 have n64 : n ≤ 64 := by rw [← hn]; exact I.len
 have m64 : m ≤ 64 := by rw [← hm]; exact J.len
 have HI := Lib.hid I
 have HJ := Lib.hid J
 have HN := Lib.hid hn
 have HM := Lib.hid hm
 have HA := Lib.hid hA
 have HBR := Lib.hid hB
 have KSG := Lib.hid (fun (x : Int) (z : World) (hza : RwV crow 14 z ao (rowsX f L)) (hzb : RwV crow 14 z bo (rowsX g M)) => rsame_c I J n m hn hm x ao bo ac bc z hza hzb)
 have hnm : IntKind.i64.wrap ((n : Int) + (m : Int)) = ((n + m : Nat) : Int) := by rw [IntKind.wrap_i64]; omega
 clear ci0 cz0 cz1 cz2 I J hn hm hA hB
 go_enter Tryz.func15, Tryz.ntmps15
 go_wp2_with fail
 go_loopg [5, 6, 7, 14] (n + m) (fun k9 s5 s6 s7 s14 wr => ∃ (i k r0 u : Nat) (U : List Int) (oo : Option Addr) (c : Nat), s5 = .slice oo u c ∧ s6 = .int .i64 i ∧ s7 = .int .i64 k ∧ s14 = .int .i64 r0 ∧ U.length = u ∧ MI f g L M i k U ∧ i ≤ n ∧ k ≤ m ∧ r0 ≤ i + k ∧ u ≤ i + k ∧ wr.ownsRow w.heap.size 3 1 (.slice oo u c) u (U.map (Value.int .i64)) ∧ Below w.heap.size w wr ∧ n + m - r0 ≤ k9)
 case atStart => exact ⟨0, 0, 0, 0, [], none, 0, rfl, rfl, rfl, rfl, rfl, MI.zero _ _ _ _, by omega, by omega, by omega, by omega, World.ownsRow_nil _ _ _ _, Below.refl _ _, by omega⟩
 case round =>
  obtain ⟨i, k, r0, u, U, oo, c, rfl, rfl, rfl, rfl, hou, hmi, hi0, hk0, hr0, hu0, hO, hB, hk9⟩ := hrel
  have HO := Lib.hid hO
  have HB := Lib.hid hB
  have HU := Lib.hid hou
  by_cases hrr : r0 < n + m
  ·by_cases hi : i < n
   ·by_cases hk : k < m
    ·have hrlt : r0 < n + m := hrr
     have qi : decide ((i : Int) < (n : Int)) = true := decide_eq_true (by omega)
     have qk : decide ((k : Int) < (m : Int)) = true := decide_eq_true (by omega)
     have qe : ((k : Int) == (m : Int)) = false := by simp; omega
     have hiL : i < L.length := by rw [HN.out]; exact hi
     have hiX : i < (rowsX f L).length := by rw [rowsX_len]; exact hiL
     obtain ⟨b1, o1, rfl, l1, hr1⟩ := (HA.out.below HB.out) i hiX
     have g1 := hr1 0 _ (show (crow (rowsX f L)[i])[0]? = some (.int .i64 (rowsX f L)[i].id) from rfl)
     rw [(rx_at HI.out hiL).2, Nat.add_zero] at g1
     have p1 : ∀ y ∈ L.drop i, L[i] ≤ y := fun y hy => low_le HI.out.srt hiL hy
     obtain ⟨x1, hx1⟩ : ∃ x, L[i] = x := ⟨_, rfl⟩
     rw [hx1] at g1 p1
     clear hr1
     have hkM : k < M.length := by rw [HM.out]; exact hk
     have hkX : k < (rowsX g M).length := by rw [rowsX_len]; exact hkM
     obtain ⟨b2, o2, rfl, l2, hr2⟩ := (HBR.out.below HB.out) k hkX
     have g2 := hr2 0 _ (show (crow (rowsX g M)[k])[0]? = some (.int .i64 (rowsX g M)[k].id) from rfl)
     rw [(rx_at HJ.out hkM).2, Nat.add_zero] at g2
     have p2 : ∀ y ∈ M.drop k, M[k] ≤ y := fun y hy => low_le HJ.out.srt hkM hy
     obtain ⟨x2, hx2⟩ : ∃ x, M[k] = x := ⟨_, rfl⟩
     rw [hx2] at g2 p2
     clear hr2
     by_cases heq : x1 = x2
     ·focus
       have q1 : decide (x1 ≤ x2) = true := decide_eq_true (by omega)
       have q2 : (x1 == x1) = true := by simp
       have q3 : (x2 == x1) = true := by simpa using heq.symm
       have hst := hmi.step HI.out.srt HJ.out.srt (x := x1) (.inl (by rw [List.drop_eq_getElem_cons hiL, hx1]; exact List.mem_cons_self)) (fun y hy => by rcases hy with hy | hy; exact p1 y hy; (rw [heq]; exact p2 y hy)) (i' := (i + 1)) (k' := (k + 1)) (.inl ⟨hiL, hx1, rfl⟩) (.inl ⟨hkM, hx2.trans heq.symm, rfl⟩)
       clear heq
       obtain ⟨r, hr⟩ : ∃ r, sm f g x1 = r := ⟨_, rfl⟩
       rw [hr] at hst
       have KSX := KSG.out x1
       rw [hr] at KSX
       have KS := Lib.hid KSX
       clear KSX
       clear hr
       clear hmi hO hB hou
       go_wp2_with (first | go_guarded)
       go_quiet (fail)
       have hbq : Below wr.heap.size wr (wr.drewN nq) := below_drewN (Below.refl _ _) _
       have HBQ := Lib.hid (HB.out.trans (hbq.mono HB.out.size))
       have HOQ := Lib.hid (row_bel HO.out hbq)
       clear hbq
       cases r with
       | true =>
        rw [if_pos rfl] at hst
        have HST := Lib.hid hst
        clear hst
        go_wp2_with (first
         | go_guarded
         | (go_at_call 37; (with_reducible refine (KS.out _ (HA.out.below HBQ.out) (HBR.out.below HBQ.out)).mono ?_); rintro _ w1 ⟨rfl, hbel⟩; have HB1 := Lib.hid (HBQ.out.trans (hbel.mono HBQ.out.size)); have HO1 := Lib.hid (row_bel HOQ.out hbel); clear hbel))
        go_roundg (n + m - (r0 + 1))
        case rel => exact ⟨(i + 1), (k + 1), r0 + 1, u, U, oo, c, rfl, (by first | rfl | go_num), (by first | rfl | go_num), (by first | rfl | go_num), HU.out, HST.out, by omega, by omega, by omega, by omega, HO1.out, HB1.out, by omega⟩
        case measure => omega
       | false =>
        rw [if_neg (by simp)] at hst
        have HST := Lib.hid hst
        have HU2 : Hid ((U ++ [x1]).length = u + 1) := Lib.hid (by rw [List.length_append, HU.out]; rfl)
        clear hst
        go_wp2_with (first
         | go_guarded
         | (at_builtin; refine wpList_append_own _ rfl _ _ 36 rfl w.heap.size 3 ii _ 1 8 Tryz.underlying36 CI0.out CZ0.out CZ1.out CZ2.out rfl (by decide) (.slice oo u c) _ _ rfl (World.ownsRow.alloc HO1.out _) ⟨_, 0, none⟩ 1 1 [.int .i64 x1] rfl rfl ?c1 ?c2 ?c3 ?c4 ?c5 ?_; (case c1 => (intro q u hu; (rcases q with _ | q <;> simp at hu <;> (try subst hu) <;> simp [Addr.add, go_sem, *]))); (case c2 => (intro v hv; simp at hv; (first | (subst hv; rfl) | (rcases hv with rfl <;> rfl)))); (case c3 => (unfold maxLen; omega)); (case c4 => omega); (case c5 => (have := HB1.out.size; simp; omega)); intro v2 z2 hown2 hg2 _; (have HB2 : Hid (Below w.heap.size w z2) := Lib.hid (HB1.out.trans ((Below.alloc (Below.refl _ _) HB1.out.size _).grown hg2 (by have := HB1.out.size; simp; omega) (fun q hq => (HO1.out.lt q hq).1)))); obtain ⟨a2, c2, rfl⟩ := row_form hown2; (have HO2 := Lib.hid hown2); clear hown2 hg2)
         | (go_at_call 37; (with_reducible refine (KS.out _ (HA.out.below HBQ.out) (HBR.out.below HBQ.out)).mono ?_); rintro _ w1 ⟨rfl, hbel⟩; have HB1 := Lib.hid (HBQ.out.trans (hbel.mono HBQ.out.size)); have HO1 := Lib.hid (row_bel HOQ.out hbel); clear hbel))
        go_roundg (n + m - (r0 + 1))
        case rel => exact ⟨(i + 1), (k + 1), r0 + 1, u + 1, U ++ [x1], a2, c2, rfl, (by first | rfl | go_num), (by first | rfl | go_num), (by first | rfl | go_num), HU2.out, HST.out, by omega, by omega, by omega, by omega, (by rw [List.map_append]; exact HO2.out), HB2.out, by omega⟩
        case measure => omega
     ·by_cases hlt : x1 < x2
      ·focus
        have q1 : decide (x1 ≤ x2) = true := decide_eq_true (by omega)
        have q2 : (x1 == x1) = true := by simp
        have q3 : (x2 == x1) = false := by simpa using fun e : x2 = x1 => heq e.symm
        have hst := hmi.step HI.out.srt HJ.out.srt (x := x1) (.inl (by rw [List.drop_eq_getElem_cons hiL, hx1]; exact List.mem_cons_self)) (fun y hy => by rcases hy with hy | hy; exact p1 y hy; exact Int.le_trans (Int.le_of_lt hlt) (p2 y hy)) (i' := (i + 1)) (k' := k) (.inl ⟨hiL, hx1, rfl⟩) (.inr ⟨fun _ e => heq (e.symm.trans hx2), rfl⟩)
        obtain ⟨r, hr⟩ : ∃ r, sm f g x1 = r := ⟨_, rfl⟩
        rw [hr] at hst
        have KSX := KSG.out x1
        rw [hr] at KSX
        have KS := Lib.hid KSX
        clear KSX
        clear hr
        clear hmi hO hB hou
        go_wp2_with (first | go_guarded)
        go_quiet (fail)
        have hbq : Below wr.heap.size wr (wr.drewN nq) := below_drewN (Below.refl _ _) _
        have HBQ := Lib.hid (HB.out.trans (hbq.mono HB.out.size))
        have HOQ := Lib.hid (row_bel HO.out hbq)
        clear hbq
        cases r with
        | true =>
         rw [if_pos rfl] at hst
         have HST := Lib.hid hst
         clear hst
         go_wp2_with (first
          | go_guarded
          | (go_at_call 37; (with_reducible refine (KS.out _ (HA.out.below HBQ.out) (HBR.out.below HBQ.out)).mono ?_); rintro _ w1 ⟨rfl, hbel⟩; have HB1 := Lib.hid (HBQ.out.trans (hbel.mono HBQ.out.size)); have HO1 := Lib.hid (row_bel HOQ.out hbel); clear hbel))
         go_roundg (n + m - (r0 + 1))
         case rel => exact ⟨(i + 1), k, r0 + 1, u, U, oo, c, rfl, (by first | rfl | go_num), (by first | rfl | go_num), (by first | rfl | go_num), HU.out, HST.out, by omega, by omega, by omega, by omega, HO1.out, HB1.out, by omega⟩
         case measure => omega
        | false =>
         rw [if_neg (by simp)] at hst
         have HST := Lib.hid hst
         have HU2 : Hid ((U ++ [x1]).length = u + 1) := Lib.hid (by rw [List.length_append, HU.out]; rfl)
         clear hst
         go_wp2_with (first
          | go_guarded
          | (at_builtin; refine wpList_append_own _ rfl _ _ 36 rfl w.heap.size 3 ii _ 1 8 Tryz.underlying36 CI0.out CZ0.out CZ1.out CZ2.out rfl (by decide) (.slice oo u c) _ _ rfl (World.ownsRow.alloc HO1.out _) ⟨_, 0, none⟩ 1 1 [.int .i64 x1] rfl rfl ?c1 ?c2 ?c3 ?c4 ?c5 ?_; (case c1 => (intro q u hu; (rcases q with _ | q <;> simp at hu <;> (try subst hu) <;> simp [Addr.add, go_sem, *]))); (case c2 => (intro v hv; simp at hv; (first | (subst hv; rfl) | (rcases hv with rfl <;> rfl)))); (case c3 => (unfold maxLen; omega)); (case c4 => omega); (case c5 => (have := HB1.out.size; simp; omega)); intro v2 z2 hown2 hg2 _; (have HB2 : Hid (Below w.heap.size w z2) := Lib.hid (HB1.out.trans ((Below.alloc (Below.refl _ _) HB1.out.size _).grown hg2 (by have := HB1.out.size; simp; omega) (fun q hq => (HO1.out.lt q hq).1)))); obtain ⟨a2, c2, rfl⟩ := row_form hown2; (have HO2 := Lib.hid hown2); clear hown2 hg2)
          | (go_at_call 37; (with_reducible refine (KS.out _ (HA.out.below HBQ.out) (HBR.out.below HBQ.out)).mono ?_); rintro _ w1 ⟨rfl, hbel⟩; have HB1 := Lib.hid (HBQ.out.trans (hbel.mono HBQ.out.size)); have HO1 := Lib.hid (row_bel HOQ.out hbel); clear hbel))
         go_roundg (n + m - (r0 + 1))
         case rel => exact ⟨(i + 1), k, r0 + 1, u + 1, U ++ [x1], a2, c2, rfl, (by first | rfl | go_num), (by first | rfl | go_num), (by first | rfl | go_num), HU2.out, HST.out, by omega, by omega, by omega, by omega, (by rw [List.map_append]; exact HO2.out), HB2.out, by omega⟩
         case measure => omega
      ·focus
        have q1 : decide (x1 ≤ x2) = false := decide_eq_false (by omega)
        have q2 : (x2 == x2) = true := by simp
        have q3 : (x1 == x2) = false := by simpa using heq
        have hst := hmi.step HI.out.srt HJ.out.srt (x := x2) (.inr (by rw [List.drop_eq_getElem_cons hkM, hx2]; exact List.mem_cons_self)) (fun y hy => by rcases hy with hy | hy; exact Int.le_trans (by omega) (p1 y hy); exact p2 y hy) (i' := i) (k' := (k + 1)) (.inr ⟨fun _ e => heq (hx1.symm.trans e), rfl⟩) (.inl ⟨hkM, hx2, rfl⟩)
        obtain ⟨r, hr⟩ : ∃ r, sm f g x2 = r := ⟨_, rfl⟩
        rw [hr] at hst
        have KSX := KSG.out x2
        rw [hr] at KSX
        have KS := Lib.hid KSX
        clear KSX
        clear hr
        clear hmi hO hB hou
        go_wp2_with (first | go_guarded)
        go_quiet (fail)
        have hbq : Below wr.heap.size wr (wr.drewN nq) := below_drewN (Below.refl _ _) _
        have HBQ := Lib.hid (HB.out.trans (hbq.mono HB.out.size))
        have HOQ := Lib.hid (row_bel HO.out hbq)
        clear hbq
        cases r with
        | true =>
         rw [if_pos rfl] at hst
         have HST := Lib.hid hst
         clear hst
         go_wp2_with (first
          | go_guarded
          | (go_at_call 37; (with_reducible refine (KS.out _ (HA.out.below HBQ.out) (HBR.out.below HBQ.out)).mono ?_); rintro _ w1 ⟨rfl, hbel⟩; have HB1 := Lib.hid (HBQ.out.trans (hbel.mono HBQ.out.size)); have HO1 := Lib.hid (row_bel HOQ.out hbel); clear hbel))
         go_roundg (n + m - (r0 + 1))
         case rel => exact ⟨i, (k + 1), r0 + 1, u, U, oo, c, rfl, (by first | rfl | go_num), (by first | rfl | go_num), (by first | rfl | go_num), HU.out, HST.out, by omega, by omega, by omega, by omega, HO1.out, HB1.out, by omega⟩
         case measure => omega
        | false =>
         rw [if_neg (by simp)] at hst
         have HST := Lib.hid hst
         have HU2 : Hid ((U ++ [x2]).length = u + 1) := Lib.hid (by rw [List.length_append, HU.out]; rfl)
         clear hst
         go_wp2_with (first
          | go_guarded
          | (at_builtin; refine wpList_append_own _ rfl _ _ 36 rfl w.heap.size 3 ii _ 1 8 Tryz.underlying36 CI0.out CZ0.out CZ1.out CZ2.out rfl (by decide) (.slice oo u c) _ _ rfl (World.ownsRow.alloc HO1.out _) ⟨_, 0, none⟩ 1 1 [.int .i64 x2] rfl rfl ?c1 ?c2 ?c3 ?c4 ?c5 ?_; (case c1 => (intro q u hu; (rcases q with _ | q <;> simp at hu <;> (try subst hu) <;> simp [Addr.add, go_sem, *]))); (case c2 => (intro v hv; simp at hv; (first | (subst hv; rfl) | (rcases hv with rfl <;> rfl)))); (case c3 => (unfold maxLen; omega)); (case c4 => omega); (case c5 => (have := HB1.out.size; simp; omega)); intro v2 z2 hown2 hg2 _; (have HB2 : Hid (Below w.heap.size w z2) := Lib.hid (HB1.out.trans ((Below.alloc (Below.refl _ _) HB1.out.size _).grown hg2 (by have := HB1.out.size; simp; omega) (fun q hq => (HO1.out.lt q hq).1)))); obtain ⟨a2, c2, rfl⟩ := row_form hown2; (have HO2 := Lib.hid hown2); clear hown2 hg2)
          | (go_at_call 37; (with_reducible refine (KS.out _ (HA.out.below HBQ.out) (HBR.out.below HBQ.out)).mono ?_); rintro _ w1 ⟨rfl, hbel⟩; have HB1 := Lib.hid (HBQ.out.trans (hbel.mono HBQ.out.size)); have HO1 := Lib.hid (row_bel HOQ.out hbel); clear hbel))
         go_roundg (n + m - (r0 + 1))
         case rel => exact ⟨i, (k + 1), r0 + 1, u + 1, U ++ [x2], a2, c2, rfl, (by first | rfl | go_num), (by first | rfl | go_num), (by first | rfl | go_num), HU2.out, HST.out, by omega, by omega, by omega, by omega, (by rw [List.map_append]; exact HO2.out), HB2.out, by omega⟩
         case measure => omega
    ·have hrlt : r0 < n + m := hrr
     focus
      have qi : decide ((i : Int) < (n : Int)) = true := decide_eq_true (by omega)
      have qk : decide ((k : Int) < (m : Int)) = false := decide_eq_false (by omega)
      have qe : ((k : Int) == (m : Int)) = true := by simp; omega
      have hiL : i < L.length := by rw [HN.out]; exact hi
      have hiX : i < (rowsX f L).length := by rw [rowsX_len]; exact hiL
      obtain ⟨b1, o1, rfl, l1, hr1⟩ := (HA.out.below HB.out) i hiX
      have g1 := hr1 0 _ (show (crow (rowsX f L)[i])[0]? = some (.int .i64 (rowsX f L)[i].id) from rfl)
      rw [(rx_at HI.out hiL).2, Nat.add_zero] at g1
      have p1 : ∀ y ∈ L.drop i, L[i] ≤ y := fun y hy => low_le HI.out.srt hiL hy
      obtain ⟨x1, hx1⟩ : ∃ x, L[i] = x := ⟨_, rfl⟩
      rw [hx1] at g1 p1
      clear hr1
      have hdk : M.drop k = [] := List.drop_eq_nil_of_le (by rw [HM.out]; omega)
      have hnm : ¬ k < M.length := by rw [HM.out]; omega
      have q2 : (x1 == x1) = true := by simp
      have hst := hmi.step HI.out.srt HJ.out.srt (x := x1) (.inl (by rw [List.drop_eq_getElem_cons hiL, hx1]; exact List.mem_cons_self)) (fun y hy => by rcases hy with hy | hy; exact p1 y hy; (rw [hdk] at hy; cases hy)) (i' := (i + 1)) (k' := k) (.inl ⟨hiL, hx1, rfl⟩) (.inr ⟨fun h => absurd h hnm, rfl⟩)
      obtain ⟨r, hr⟩ : ∃ r, sm f g x1 = r := ⟨_, rfl⟩
      rw [hr] at hst
      have KSX := KSG.out x1
      rw [hr] at KSX
      have KS := Lib.hid KSX
      clear KSX
      clear hr
      clear hmi hO hB hou
      go_wp2_with (first | go_guarded)
      go_quiet (fail)
      have hbq : Below wr.heap.size wr (wr.drewN nq) := below_drewN (Below.refl _ _) _
      have HBQ := Lib.hid (HB.out.trans (hbq.mono HB.out.size))
      have HOQ := Lib.hid (row_bel HO.out hbq)
      clear hbq
      cases r with
      | true =>
       rw [if_pos rfl] at hst
       have HST := Lib.hid hst
       clear hst
       go_wp2_with (first
        | go_guarded
        | (go_at_call 37; (with_reducible refine (KS.out _ (HA.out.below HBQ.out) (HBR.out.below HBQ.out)).mono ?_); rintro _ w1 ⟨rfl, hbel⟩; have HB1 := Lib.hid (HBQ.out.trans (hbel.mono HBQ.out.size)); have HO1 := Lib.hid (row_bel HOQ.out hbel); clear hbel))
       go_roundg (n + m - (r0 + 1))
       case rel => exact ⟨(i + 1), k, r0 + 1, u, U, oo, c, rfl, (by first | rfl | go_num), (by first | rfl | go_num), (by first | rfl | go_num), HU.out, HST.out, by omega, by omega, by omega, by omega, HO1.out, HB1.out, by omega⟩
       case measure => omega
      | false =>
       rw [if_neg (by simp)] at hst
       have HST := Lib.hid hst
       have HU2 : Hid ((U ++ [x1]).length = u + 1) := Lib.hid (by rw [List.length_append, HU.out]; rfl)
       clear hst
       go_wp2_with (first
        | go_guarded
        | (at_builtin; refine wpList_append_own _ rfl _ _ 36 rfl w.heap.size 3 ii _ 1 8 Tryz.underlying36 CI0.out CZ0.out CZ1.out CZ2.out rfl (by decide) (.slice oo u c) _ _ rfl (World.ownsRow.alloc HO1.out _) ⟨_, 0, none⟩ 1 1 [.int .i64 x1] rfl rfl ?c1 ?c2 ?c3 ?c4 ?c5 ?_; (case c1 => (intro q u hu; (rcases q with _ | q <;> simp at hu <;> (try subst hu) <;> simp [Addr.add, go_sem, *]))); (case c2 => (intro v hv; simp at hv; (first | (subst hv; rfl) | (rcases hv with rfl <;> rfl)))); (case c3 => (unfold maxLen; omega)); (case c4 => omega); (case c5 => (have := HB1.out.size; simp; omega)); intro v2 z2 hown2 hg2 _; (have HB2 : Hid (Below w.heap.size w z2) := Lib.hid (HB1.out.trans ((Below.alloc (Below.refl _ _) HB1.out.size _).grown hg2 (by have := HB1.out.size; simp; omega) (fun q hq => (HO1.out.lt q hq).1)))); obtain ⟨a2, c2, rfl⟩ := row_form hown2; (have HO2 := Lib.hid hown2); clear hown2 hg2)
        | (go_at_call 37; (with_reducible refine (KS.out _ (HA.out.below HBQ.out) (HBR.out.below HBQ.out)).mono ?_); rintro _ w1 ⟨rfl, hbel⟩; have HB1 := Lib.hid (HBQ.out.trans (hbel.mono HBQ.out.size)); have HO1 := Lib.hid (row_bel HOQ.out hbel); clear hbel))
       go_roundg (n + m - (r0 + 1))
       case rel => exact ⟨(i + 1), k, r0 + 1, u + 1, U ++ [x1], a2, c2, rfl, (by first | rfl | go_num), (by first | rfl | go_num), (by first | rfl | go_num), HU2.out, HST.out, by omega, by omega, by omega, by omega, (by rw [List.map_append]; exact HO2.out), HB2.out, by omega⟩
       case measure => omega
   ·by_cases hk : k < m
    ·have hrlt : r0 < n + m := hrr
     focus
      have qi : decide ((i : Int) < (n : Int)) = false := decide_eq_false (by omega)
      have qk : decide ((k : Int) < (m : Int)) = true := decide_eq_true (by omega)
      have qe : ((k : Int) == (m : Int)) = false := by simp; omega
      have hkM : k < M.length := by rw [HM.out]; exact hk
      have hkX : k < (rowsX g M).length := by rw [rowsX_len]; exact hkM
      obtain ⟨b2, o2, rfl, l2, hr2⟩ := (HBR.out.below HB.out) k hkX
      have g2 := hr2 0 _ (show (crow (rowsX g M)[k])[0]? = some (.int .i64 (rowsX g M)[k].id) from rfl)
      rw [(rx_at HJ.out hkM).2, Nat.add_zero] at g2
      have p2 : ∀ y ∈ M.drop k, M[k] ≤ y := fun y hy => low_le HJ.out.srt hkM hy
      obtain ⟨x2, hx2⟩ : ∃ x, M[k] = x := ⟨_, rfl⟩
      rw [hx2] at g2 p2
      clear hr2
      have hdi : L.drop i = [] := List.drop_eq_nil_of_le (by rw [HN.out]; omega)
      have hnl : ¬ i < L.length := by rw [HN.out]; omega
      have q2 : (x2 == x2) = true := by simp
      have hst := hmi.step HI.out.srt HJ.out.srt (x := x2) (.inr (by rw [List.drop_eq_getElem_cons hkM, hx2]; exact List.mem_cons_self)) (fun y hy => by rcases hy with hy | hy; (rw [hdi] at hy; cases hy); exact p2 y hy) (i' := i) (k' := (k + 1)) (.inr ⟨fun h => absurd h hnl, rfl⟩) (.inl ⟨hkM, hx2, rfl⟩)
      obtain ⟨r, hr⟩ : ∃ r, sm f g x2 = r := ⟨_, rfl⟩
      rw [hr] at hst
      have KSX := KSG.out x2
      rw [hr] at KSX
      have KS := Lib.hid KSX
      clear KSX
      clear hr
      clear hmi hO hB hou
      go_wp2_with (first | go_guarded)
      go_quiet (fail)
      have hbq : Below wr.heap.size wr (wr.drewN nq) := below_drewN (Below.refl _ _) _
      have HBQ := Lib.hid (HB.out.trans (hbq.mono HB.out.size))
      have HOQ := Lib.hid (row_bel HO.out hbq)
      clear hbq
      cases r with
      | true =>
       rw [if_pos rfl] at hst
       have HST := Lib.hid hst
       clear hst
       go_wp2_with (first
        | go_guarded
        | (go_at_call 37; (with_reducible refine (KS.out _ (HA.out.below HBQ.out) (HBR.out.below HBQ.out)).mono ?_); rintro _ w1 ⟨rfl, hbel⟩; have HB1 := Lib.hid (HBQ.out.trans (hbel.mono HBQ.out.size)); have HO1 := Lib.hid (row_bel HOQ.out hbel); clear hbel))
       go_roundg (n + m - (r0 + 1))
       case rel => exact ⟨i, (k + 1), r0 + 1, u, U, oo, c, rfl, (by first | rfl | go_num), (by first | rfl | go_num), (by first | rfl | go_num), HU.out, HST.out, by omega, by omega, by omega, by omega, HO1.out, HB1.out, by omega⟩
       case measure => omega
      | false =>
       rw [if_neg (by simp)] at hst
       have HST := Lib.hid hst
       have HU2 : Hid ((U ++ [x2]).length = u + 1) := Lib.hid (by rw [List.length_append, HU.out]; rfl)
       clear hst
       go_wp2_with (first
        | go_guarded
        | (at_builtin; refine wpList_append_own _ rfl _ _ 36 rfl w.heap.size 3 ii _ 1 8 Tryz.underlying36 CI0.out CZ0.out CZ1.out CZ2.out rfl (by decide) (.slice oo u c) _ _ rfl (World.ownsRow.alloc HO1.out _) ⟨_, 0, none⟩ 1 1 [.int .i64 x2] rfl rfl ?c1 ?c2 ?c3 ?c4 ?c5 ?_; (case c1 => (intro q u hu; (rcases q with _ | q <;> simp at hu <;> (try subst hu) <;> simp [Addr.add, go_sem, *]))); (case c2 => (intro v hv; simp at hv; (first | (subst hv; rfl) | (rcases hv with rfl <;> rfl)))); (case c3 => (unfold maxLen; omega)); (case c4 => omega); (case c5 => (have := HB1.out.size; simp; omega)); intro v2 z2 hown2 hg2 _; (have HB2 : Hid (Below w.heap.size w z2) := Lib.hid (HB1.out.trans ((Below.alloc (Below.refl _ _) HB1.out.size _).grown hg2 (by have := HB1.out.size; simp; omega) (fun q hq => (HO1.out.lt q hq).1)))); obtain ⟨a2, c2, rfl⟩ := row_form hown2; (have HO2 := Lib.hid hown2); clear hown2 hg2)
        | (go_at_call 37; (with_reducible refine (KS.out _ (HA.out.below HBQ.out) (HBR.out.below HBQ.out)).mono ?_); rintro _ w1 ⟨rfl, hbel⟩; have HB1 := Lib.hid (HBQ.out.trans (hbel.mono HBQ.out.size)); have HO1 := Lib.hid (row_bel HOQ.out hbel); clear hbel))
       go_roundg (n + m - (r0 + 1))
       case rel => exact ⟨i, (k + 1), r0 + 1, u + 1, U ++ [x2], a2, c2, rfl, (by first | rfl | go_num), (by first | rfl | go_num), (by first | rfl | go_num), HU2.out, HST.out, by omega, by omega, by omega, by omega, (by rw [List.map_append]; exact HO2.out), HB2.out, by omega⟩
       case measure => omega
    ·have hrlt : r0 < n + m := hrr
     have qi : decide ((i : Int) < (n : Int)) = false := decide_eq_false (by omega)
     have qk : decide ((k : Int) < (m : Int)) = false := decide_eq_false (by omega)
     have qe : ((k : Int) == (m : Int)) = true := by simp; omega
     have hi2 : i = L.length := by rw [HN.out]; omega
     have hk2 : k = M.length := by rw [HM.out]; omega
     have HT : Hid (Tch f g U) := Lib.hid (by rw [hi2, hk2] at hmi; exact MI.tch HI.out HJ.out hmi)
     clear hmi hi2 hk2 hB hO
     go_wp2_with (first | go_guarded)
     go_quiet (fail)
     have hbq : Below wr.heap.size wr (wr.drewN nq) := below_drewN (Below.refl _ _) _
     have HBQ := Lib.hid (HB.out.trans (hbq.mono HB.out.size))
     have HOQ := Lib.hid (row_bel HO.out hbq)
     clear hbq
     go_wp2_with (first | go_guarded)
     go_ret
     exact ⟨U, oo, c, (by rw [HU.out]; rfl), HT.out, by rw [HU.out]; exact HOQ.out, HBQ.out⟩
  ·have hi : i = n := by omega
   have hk : k = m := by omega
   have hi2 : i = L.length := by rw [HN.out]; omega
   have hk2 : k = M.length := by rw [HM.out]; omega
   have HT : Hid (Tch f g U) := Lib.hid (by rw [hi2, hk2] at hmi; exact MI.tch HI.out HJ.out hmi)
   clear hmi hi2 hk2 hB hO
   go_wp2_with (first | go_guarded)
   go_ret
   exact ⟨U, oo, c, (by rw [HU.out]; rfl), HT.out, by rw [HU.out]; exact HO.out, HB.out⟩
end Go.Proofs.YtffaahipgabkhaaGreat
end
