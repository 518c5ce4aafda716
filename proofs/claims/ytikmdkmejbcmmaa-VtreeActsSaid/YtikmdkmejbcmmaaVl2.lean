/- vtree's methods. -/
import Derived.Test.YtikmdkmejbcmmaaEl2
namespace Go.Proofs.Ytikmdkmejbcmmaa
set_option linter.unusedVariables false
set_option linter.unusedSimpArgs false
set_option maxRecDepth 100000
open Go.RowKit Fg Reg Go.MapKept Go.Maps
attribute [local irreducible] Reg.wE NT

theorem v_zv (w : World) : (zeroValue 129).run Try.prog w = .ok (.agg #[.int .u64 0, .int .u64 0]) w := by kernel_rfl
theorem v_look {w : World} {tb mb a : Nat} {t : Tr} {L : List Rw} (h : TBL w tb mb a t L) {i : Int} (hi : iok i) : (Instr.lookup 125 (.map (some mb)) (.int .i64 i) true).run Try.prog w = .ok (.tuple #[mget (.agg #[.int .u64 0, .int .u64 0]) pv (lookL L i), .bool (lookL L i).isSome]) w :=
  Mp.look true h.mp ikok Try.underlying125 (v_zv w) hi
theorem v_get_y (tb mb a : Nat) (t : Tr) (L : List Rw) (i : Int) (r : Rw) (w : World) (h : TBL w tb mb a t L) (hi : iok i) (hr : rfd i L = some r) : Calls Try.prog 49 #[.pointer (some ⟨tb, 0, none⟩), .int .i64 i] w fun ee w' => ee = .returned (.tuple #[.int .u64 r.a, .int .u64 r.b, .int .i64 0]) ∧ Below w.heap.size w w' := by
  have hl : (Instr.lookup 125 (.map (some mb)) (.int .i64 i) true).run Try.prog w = .ok (.tuple #[.agg #[.int .u64 r.a, .int .u64 r.b], .bool true]) w := by
    have := v_look h hi
    rw [show lookL L i = some (r.a, r.b) by unfold lookL; rw [hr]; rfl] at this
    exact this
  have c0 := h.c0
  have lt := h.lt
  clear h hr
  go_enter Try.func49, Try.ntmps49
  go_wp2
  go_quiet (fail)
  go_wp2
  refine bodyPost_ret (v := (.tuple #[.int .u64 r.a, .int .u64 r.b, .int .i64 0])) (by simp [results, Try.results49, go_sem, *]) rfl ⟨rfl, ?_⟩
  (repeat' (first | assumption | exact Below.refl _ _ | refine Below.setCell ?_ (by first | (simp; done) | omega | (simp; omega)) _ | refine Below.alloc ?_ (by first | (simp; done) | omega | (simp; omega)) _ | refine Below.drew ?_ | refine below_drewN ?_ _))
theorem v_get_n (tb mb a : Nat) (t : Tr) (L : List Rw) (i : Int) (w : World) (h : TBL w tb mb a t L) (hi : iok i) (hr : rfd i L = none) : Calls Try.prog 49 #[.pointer (some ⟨tb, 0, none⟩), .int .i64 i] w fun ee w' => ee = .returned (.tuple #[.int .u64 0, .int .u64 0, .int .i64 6]) ∧ Below w.heap.size w w' := by
  have hl : (Instr.lookup 125 (.map (some mb)) (.int .i64 i) true).run Try.prog w = .ok (.tuple #[.agg #[.int .u64 0, .int .u64 0], .bool false]) w := by
    have := v_look h hi
    rw [show lookL L i = none by unfold lookL; rw [hr]; rfl] at this
    exact this
  have c0 := h.c0
  have lt := h.lt
  clear h hr
  go_enter Try.func49, Try.ntmps49
  go_wp2
  refine bodyPost_ret (v := (.tuple #[.int .u64 0, .int .u64 0, .int .i64 6])) (by simp [results, Try.results49, go_sem, *]) rfl ⟨rfl, ?_⟩
  (repeat' (first | assumption | exact Below.refl _ _ | refine Below.setCell ?_ (by first | (simp; done) | omega | (simp; omega)) _ | refine Below.alloc ?_ (by first | (simp; done) | omega | (simp; omega)) _ | refine Below.drew ?_ | refine below_drewN ?_ _))
theorem v_drop_n (tb mb a : Nat) (t : Tr) (L : List Rw) (i : Int) (w : World) (h : TBL w tb mb a t L) (hi : iok i) (hr : rfd i L = none) : Calls Try.prog 45 #[.pointer (some ⟨tb, 0, none⟩), .int .i64 i] w fun ee w' => ee = .returned (.int .i64 6) ∧ Below w.heap.size w w' := by
  have K := Lib.hid (v_get_n tb mb a t L i w h hi hr)
  clear h hi hr
  go_enter Try.func45, Try.ntmps45
  go_wp2_with (go_at_call 49; (with_reducible refine K.out.mono ?_); rintro _ w1 ⟨rfl, hbel⟩)
  go_ret
  exact ⟨rfl, by with_reducible assumption⟩
theorem v_delR (r : Rw) (a : Nat) (t : Tr) (y : It) (w : World) (h : TR w a t) (hf : fndL r.it (tl t) = some y) (hl : (tl t).length ≤ 200) :
    Calls Try.prog 16 #[.pointer (some ⟨a, 0, none⟩), .agg #[.int .u64 (r.a), .int .i64 (r.id)]] w fun e w' => e = .returned (.int .i64 0) ∧ TR w' a (cutT r.it t) ∧ Only (fun k => k = a ∨ k ∈ fp t) w w' := del_c a t r.it y w h hf (by have := hgt_len t; omega) (by omega)
theorem v_insR (x : Rw) (a : Nat) (t : Tr) (w : World) (h : TR w a t) (hf : fndL x.it (tl t) = none) (hl : (tl t).length ≤ 200) :
    Calls Try.prog 18 #[.pointer (some ⟨a, 0, none⟩), .agg #[.int .u64 (x.a), .int .i64 (x.id)], .agg #[.int .u64 (x.b), .int .i64 (x.id)]] w fun e w' => ∃ nb, w.heap.size ≤ nb ∧ e = .returned (.int .i64 0) ∧ TR w' a (putT nb x.it t) ∧ Only (fun k => k = a ∨ k ∈ fp t) w w' :=
  ins_c a t x.it ⟨x.b, x.id, 0, 0⟩ w h hf (by have := hgt_len t; omega) (by omega)
set_option maxHeartbeats 2000000 in
theorem v_drop_y (tb mb a : Nat) (t : Tr) (L : List Rw) (r : Rw) (w : World) (h : TBL w tb mb a t L) (hi : iok r.id) (hr : r ∈ L) (hL : L.length ≤ 200) :
    Calls Try.prog 45 #[.pointer (some ⟨tb, 0, none⟩), .int .i64 r.id] w fun e w' => e = .returned (.int .i64 0) ∧ ∃ t', TBL w' tb mb a t' (dropL r.id L) ∧ Only (SB mb a t) w w' ∧ ∀ k ∈ fp t', k ∈ fp t := by
  have K := Lib.hid (v_get_y tb mb a t L r.id r w h hi (rfd_mem h.rs hr))
  have KD := Lib.hid (fun z (hz : TR z a t) => v_delR r a t r.it z hz (tm_fnd h.tm h.tr.ss hr) (by rw [h.len]; exact hL))
  have HI := Lib.hid hi
  have HT := Lib.hid h
  have HR := Lib.hid hr
  clear h hr hi hL
  go_enter Try.func45, Try.ntmps45
  go_wp2_with (first
    | (go_at_call 49; (with_reducible refine K.out.mono ?_); rintro _ w1 ⟨rfl, hbel⟩; have HT1 := Lib.hid (HT.out.below hbel); have c0 := HT1.out.c0; have c1 := HT1.out.c1; have lt := HT1.out.lt; have HB1 := Lib.hid hbel; clear hbel)
    | (at_delete; refine wpList_delete_mp _ rfl _ _ 125 3 rfl ikok ikv_inj Try.underlying125 mb _ rfl HT1.out.mp r.id HI.out rfl ?_; intro w2 hm2 ho2 hs2; have c0 := (ho2.cell lt HT1.out.ne1).trans c0; have c1 := (ho2.cell lt HT1.out.ne1).trans c1; have lt := Nat.lt_of_lt_of_le lt ho2.size; have HM2 := Lib.hid hm2; have HO2 := Lib.hid ho2; clear hm2 ho2 hs2)
    | (go_at_call 16; (with_reducible refine (KD.out _ (HT1.out.trm HO2.out)).mono ?_); rintro _ w3 ⟨rfl, hT3, hO3⟩; have HT3 := Lib.hid hT3; have HO3 := Lib.hid hO3; clear hT3 hO3))
  go_ret
  obtain ⟨h1, h2, h3⟩ := TBL.dropped HT1.out HR.out HM2.out HO2.out HT3.out HO3.out
  exact ⟨rfl, _, h1, (Only.of_below (S := SB mb a t) HB1.out).trans h2, h3⟩
theorem v_nn (b : Nat) (w : World) : (binOp .eql 125 (.map (some b)) (.map none)).run Try.prog w = .ok (.bool false) w := by kernel_rfl
set_option maxHeartbeats 4000000 in
theorem v_set_n (tb mb a : Nat) (t : Tr) (L : List Rw) (x : Rw) (w : World) (h : TBL w tb mb a t L) (hi : iok x.id) (hr : rfd x.id L = none) (hL : L.length ≤ 200) :
    Calls Try.prog 46 #[.pointer (some ⟨tb, 0, none⟩), .int .i64 x.id, .int .u64 x.a, .int .u64 x.b] w fun e w' => e = .returned (.int .i64 0) ∧ ∃ t', TBL w' tb mb a t' (setL x L) ∧ Only (SB mb a t) w w' ∧ ∀ k ∈ fp t', k ∈ fp t ∨ w.heap.size ≤ k := by
  have K := Lib.hid (v_drop_n tb mb a t L x.id w h hi hr)
  have KI := Lib.hid (fun z (hz : TR z a t) => v_insR x a t z hz (tm_none h.tm hr) (by rw [h.len]; exact hL))
  have HI := Lib.hid hi
  have HT := Lib.hid h
  have HR := Lib.hid hr
  have hnn := v_nn mb
  clear h hr hi hL
  go_enter Try.func46, Try.ntmps46
  go_wp2_with (first
    | (go_at_call 45; (with_reducible refine K.out.mono ?_); rintro _ w1 ⟨rfl, hbel⟩; have HT1 := Lib.hid (HT.out.below hbel); have c0 := HT1.out.c0; have c1 := HT1.out.c1; have lt := HT1.out.lt; have HB1 := Lib.hid hbel; clear hbel)
    | (at_mapUpdate; refine wpList_mapUpdate_mp _ rfl _ _ _ 125 rfl ikok Try.underlying125 mb _ rfl HT1.out.mp x.id (x.a, x.b) HI.out rfl rfl ?_; intro w2 hm2 ho2 hs2; have c0 := (ho2.cell lt HT1.out.ne1).trans c0; have c1 := (ho2.cell lt HT1.out.ne1).trans c1; have lt := Nat.lt_of_lt_of_le lt ho2.size; have HM2 := Lib.hid hm2; have HO2 := Lib.hid ho2; clear hm2 ho2 hs2)
    | (go_at_call 18; (with_reducible refine (KI.out _ (HT1.out.trm HO2.out)).mono ?_); rintro _ w3 ⟨nb, hn3, rfl, hT3, hO3⟩; have HN3 := Lib.hid hn3; have HT3 := Lib.hid hT3; have HO3 := Lib.hid hO3; clear hn3 hT3 hO3))
  go_ret
  obtain ⟨h1, h2, h3⟩ := TBL.put HT1.out HR.out HM2.out HO2.out HN3.out HT3.out HO3.out
  exact ⟨rfl, _, h1, (Only.of_below (S := SB mb a t) HB1.out).trans h2, fun k hk => (h3 k hk).imp (fun g => g) (fun g => Nat.le_trans HB1.out.size g)⟩
set_option maxHeartbeats 4000000 in
theorem v_set_y (tb mb a : Nat) (t : Tr) (L : List Rw) (x r : Rw) (w : World) (h : TBL w tb mb a t L) (hi : iok x.id) (hr : rfd x.id L = some r) (hL : L.length ≤ 200) :
    Calls Try.prog 46 #[.pointer (some ⟨tb, 0, none⟩), .int .i64 x.id, .int .u64 x.a, .int .u64 x.b] w fun e w' => e = .returned (.int .i64 0) ∧ ∃ t', TBL w' tb mb a t' (setL x L) ∧ Only (SB mb a t) w w' ∧ ∀ k ∈ fp t', k ∈ fp t ∨ w.heap.size ≤ k := by
  obtain ⟨hrm, hre⟩ := rfd_some hr
  have k0 := v_drop_y tb mb a t L r w h (by rw [hre]; exact hi) hrm hL
  rw [hre] at k0
  have K := Lib.hid k0
  have hno : rfd x.id (dropL x.id L) = none := rfd_none.2 fun s hs => (drop_mem.1 hs).2
  have KI := Lib.hid (fun t1 z (h1 : TBL z tb mb a t1 (dropL x.id L)) z2 (hz : TR z2 a t1) => v_insR x a t1 z2 hz (tm_none h1.tm hno) (by rw [h1.len]; exact Nat.le_trans (drop_len _ _) hL))
  have HI := Lib.hid hi
  have HR := Lib.hid hno
  clear h hr hi hL k0 hrm hre hno
  go_enter Try.func46, Try.ntmps46
  go_wp2_with (first
    | (go_at_call 45; (with_reducible refine K.out.mono ?_); rintro _ w1 ⟨rfl, t1, hT1, hO1, hf1⟩; have HT1 := Lib.hid hT1; have c0 := HT1.out.c0; have c1 := HT1.out.c1; have lt := HT1.out.lt; have HO1 := Lib.hid hO1; have HF1 := Lib.hid hf1; clear hT1 hO1 hf1)
    | (at_mapUpdate; refine wpList_mapUpdate_mp _ rfl _ _ _ 125 rfl ikok Try.underlying125 mb _ rfl HT1.out.mp x.id (x.a, x.b) HI.out rfl rfl ?_; intro w2 hm2 ho2 hs2; have c0 := (ho2.cell lt HT1.out.ne1).trans c0; have c1 := (ho2.cell lt HT1.out.ne1).trans c1; have lt := Nat.lt_of_lt_of_le lt ho2.size; have HM2 := Lib.hid hm2; have HO2 := Lib.hid ho2; clear hm2 ho2 hs2)
    | (go_at_call 18; (with_reducible refine (KI.out _ _ HT1.out _ (HT1.out.trm HO2.out)).mono ?_); rintro _ w3 ⟨nb, hn3, rfl, hT3, hO3⟩; have HN3 := Lib.hid hn3; have HT3 := Lib.hid hT3; have HO3 := Lib.hid hO3; clear hn3 hT3 hO3))
  go_ret
  obtain ⟨h1, h2, h3⟩ := TBL.put HT1.out HR.out HM2.out HO2.out HN3.out HT3.out HO3.out
  rw [set_drop] at h1
  refine ⟨rfl, _, h1, HO1.out.trans (h2.mono fun k hk => ?_), fun k hk => ?_⟩
  · rcases hk with g | g | g
    · exact .inl g
    · exact .inr (.inl g)
    · exact .inr (.inr (HF1.out k g))
  · rcases h3 k hk with g | g
    · exact .inl (HF1.out k g)
    · exact .inr (Nat.le_trans HO1.out.size g)
theorem v_set_c (tb mb a : Nat) (t : Tr) (L : List Rw) (x : Rw) (w : World) (h : TBL w tb mb a t L) (hi : iok x.id) (hL : L.length ≤ 200) :
    Calls Try.prog 46 #[.pointer (some ⟨tb, 0, none⟩), .int .i64 x.id, .int .u64 x.a, .int .u64 x.b] w fun e w' => e = .returned (.int .i64 0) ∧ ∃ t', TBL w' tb mb a t' (setL x L) ∧ Only (SB mb a t) w w' ∧ ∀ k ∈ fp t', k ∈ fp t ∨ w.heap.size ≤ k := by
  cases hr : rfd x.id L with
  | none => exact v_set_n tb mb a t L x w h hi hr hL
  | some r => exact v_set_y tb mb a t L x r w h hi hr hL
set_option maxHeartbeats 2000000 in
theorem v_new_c (w : World) : Calls Try.prog 44 #[] w fun e w' => ∃ tb mb a, e = .returned (.pointer (some ⟨tb, 0, none⟩)) ∧ OT w w' tb mb a .nil [] := by
  have hmm := @run_makeMap Try.prog
  have hma := Mp.made (κ := Int) ikv pv iok w
  have HMA := Lib.hid hma
  clear hma
  go_enter Try.func44, Try.ntmps44
  go_wp2_with (go_at_call 13; (with_reducible refine (new_c _).mono ?_); rintro _ w1 ⟨a, ha, rfl, hT, hbel⟩; have HT := Lib.hid hT; have HB := Lib.hid hbel; have HA := Lib.hid ha; clear ha hT hbel)
  go_ret
  have h1 := HA.out
  have h2 := HB.out
  have h3 := HT.out
  have hsz := h2.size
  simp at h1 hsz
  have hal := h3.lt
  have hB : Below w.heap.size w w1 := Below.trans (Below.alloc (Below.refl _ _) (Nat.le_refl _) _) (h2.mono (by simp))
  have hmp := (HMA.out.below h2 (by simp)).alloc (.cells #[.map (some w.heap.size), .pointer (some ⟨a, 0, none⟩)] 127)
  have hlk : lookL [] = fun _ => none := by funext x; rfl
  refine ⟨w1.heap.size, w.heap.size, a, rfl, ?_⟩
  refine ⟨Below.alloc hB (by omega) _, ⟨by simp [go_sem], by simp [go_sem], by simp, ?_, h3.below (Below.alloc (Below.refl _ _) (Nat.le_refl _) _), fun x => by simp [tl], List.Pairwise.nil, by omega, fun k hk => ?_⟩, fun k hk => ?_⟩
  · rw [hlk]; exact hmp
  · rcases hk with rfl | hk
    · omega
    · simp [fp] at hk
  · rcases hk with rfl | rfl | rfl | hk
    · omega
    · exact Nat.le_refl _
    · omega
    · simp [fp] at hk
theorem v_len_c (tb mb a : Nat) (t : Tr) (L : List Rw) (w : World) (h : TBL w tb mb a t L) : Calls Try.prog 53 #[.pointer (some ⟨tb, 0, none⟩)] w fun ee w' => ee = .returned (.int .i64 L.length) ∧ Below w.heap.size w w' := by
  have hl := fun ty => h.mp.len ikv_inj (e := 129) Try.underlying125 (L.map Rw.id) (ids_nodup h.rs) (ikey_map L) ty
  rw [List.length_map] at hl
  have c0 := h.c0
  have lt := h.lt
  clear h
  go_enter Try.func53, Try.ntmps53
  go_wp2
  go_ret
  refine ⟨rfl, ?_⟩
  (repeat' (first | assumption | exact Below.refl _ _ | refine Below.setCell ?_ (by first | (simp; done) | omega | (simp; omega)) _ | refine Below.alloc ?_ (by first | (simp; done) | omega | (simp; omega)) _ | refine Below.drew ?_ | refine below_drewN ?_ _))
set_option maxHeartbeats 4000000 in
theorem v_ids_c (tb mb a : Nat) (t : Tr) (L : List Rw) (w : World) (h : TBL w tb mb a t L) (hL : L.length ≤ 200) : Calls Try.prog 51 #[.pointer (some ⟨tb, 0, none⟩)] w fun e w' => (∃ ao c, e = .returned (.slice ao L.length c) ∧ RwV (fun x : Int => [Value.int .i64 x]) 1 w' ao (L.map Rw.id)) ∧ Below w.heap.size w w' := by
  obtain ⟨D, hown, hsz, hmem, hnd⟩ := Mp.owns (n := L.length) (by unfold maxLen; omega) h.mp
  have hp : (intKeys D).Perm (L.map Rw.id) := perm_of_mem hnd (ids_nodup h.rs) fun x => by rw [hmem x]; exact look_is
  have HP := Lib.hid hp
  have HRS := Lib.hid h.rs
  have K1 := Lib.hid keysV_c
  have K2 := Lib.hid (sortedV_c mb L.length D _ w hown (by unfold maxLen; omega) (by omega))
  have c0 := h.c0
  have plt := h.lt
  clear h hown hsz hmem hnd hp
  go_enter Try.func51, Try.ntmps51
  go_wp2_with (first
    | (go_at_call 77; ((with_reducible refine (K1.out _ _).mono ?_); rintro e w1 ⟨rfl, rfl⟩))
    | (go_at_call 73; ((with_reducible refine (K2.out).mono ?_); rintro e w2 ⟨v2, ss, rfl, hS, hrow, -, hb⟩)))
  go_ret
  rw [ms_ids HRS.out (hS.trans HP.out)] at hrow
  have hss : ss.length = (L.map Rw.id).length := (hS.trans HP.out).length_eq
  have hr2 : w2.ownsRow w.heap.size 3 1 v2 (L.map Rw.id).length ((L.map Rw.id).flatMap (fun x : Int => [Value.int .i64 x])) := by
    rw [hss] at hrow
    rw [show (L.map Rw.id).flatMap (fun x : Int => [Value.int .i64 x]) = (L.map Rw.id).map encZ by rw [List.flatMap_def]; induction (L.map Rw.id) with | nil => rfl | cons x M ih => simp only [List.map_cons, List.flatten_cons, ih]; rfl]
    exact hrow
  obtain ⟨ao, c, rfl, hR, -⟩ := RwV.of_own icl_of hr2
  rw [List.length_map] at *
  exact ⟨⟨ao, c, rfl, hR⟩, hb⟩
set_option maxHeartbeats 2000000 in
theorem v_pick_c (tb mb a : Nat) (t : Tr) (L : List Rw) (now : Int) (w : World) (h : TBL w tb mb a t L) : Calls Try.prog 48 #[.pointer (some ⟨tb, 0, none⟩), .int .u64 now] w fun ee w' => ee = .returned (.tuple #[.int .i64 (fv (fstL (mnn now 9223372036854775807) (tl t))).ki, .bool (fstL (mnn now 9223372036854775807) (tl t)).isSome]) ∧ Below w.heap.size w w' := by
  have hmn := fun w => run_mnn now 9223372036854775807 w
  have K := Lib.hid (fstm_c a t (mnn now 9223372036854775807) w h.tr)
  have c0 := h.c0
  have c1 := h.c1
  have lt := h.lt
  clear h
  generalize fv (fstL (mnn now 9223372036854775807) (tl t)) = X at *
  generalize (fstL (mnn now 9223372036854775807) (tl t)).isSome = O at *
  go_enter Try.func48, Try.ntmps48
  go_wp2_with (go_at_call 24; (with_reducible refine K.out.mono ?_); rintro _ w1 ⟨rfl, hbel⟩)
  refine bodyPost_ret (v := (.tuple #[.int .i64 X.ki, .bool O])) (by simp [results, Try.results48, go_sem, *]) rfl ⟨rfl, ?_⟩
  have hs := hbel.size
  (repeat' (first | assumption | exact Below.refl _ _ | refine Below.setCell ?_ (by first | (simp; done) | omega | (simp; omega)) _ | refine Below.alloc ?_ (by first | (simp; done) | omega | (simp; omega)) _ | refine Below.drew ?_ | refine below_drewN ?_ _))
set_option maxHeartbeats 2000000 in
theorem v_low_c (tb mb a : Nat) (t : Tr) (L : List Rw) (w : World) (h : TBL w tb mb a t L) : Calls Try.prog 52 #[.pointer (some ⟨tb, 0, none⟩)] w fun ee w' => ee = .returned (.tuple #[.int .u64 (if isN t = true then 0 else (lst t).ka), .bool (!isN t)]) ∧ Below w.heap.size w w' := by
  have c0 := h.c0
  have c1 := h.c1
  have lt := h.lt
  cases hn : isN t with
  | true =>
    have := isN_nil hn
    subst this
    have K := Lib.hid (least_e a w h.tr)
    clear h hn
    simp only [if_true, Bool.not_true]
    go_enter Try.func52, Try.ntmps52
    go_wp2_with (go_at_call 27; (with_reducible refine K.out.mono ?_); rintro _ w1 ⟨rfl, hbel⟩)
    refine bodyPost_ret (v := (.tuple #[.int .u64 0, .bool false])) (by simp [results, Try.results52, go_sem, *]) rfl ⟨rfl, ?_⟩
    have hs := hbel.size
    (repeat' (first | assumption | exact Below.refl _ _ | refine Below.setCell ?_ (by first | (simp; done) | omega | (simp; omega)) _ | refine Below.alloc ?_ (by first | (simp; done) | omega | (simp; omega)) _ | refine Below.drew ?_ | refine below_drewN ?_ _))
  | false =>
    have K := Lib.hid (least_c a t w h.tr hn)
    clear h hn
    simp only [Bool.false_eq_true, if_false, Bool.not_false]
    generalize lst t = X at *
    go_enter Try.func52, Try.ntmps52
    go_wp2_with (go_at_call 27; (with_reducible refine K.out.mono ?_); rintro _ w1 ⟨rfl, hbel⟩)
    refine bodyPost_ret (v := (.tuple #[.int .u64 X.ka, .bool true])) (by simp [results, Try.results52, go_sem, *]) rfl ⟨rfl, ?_⟩
    have hs := hbel.size
    (repeat' (first | assumption | exact Below.refl _ _ | refine Below.setCell ?_ (by first | (simp; done) | omega | (simp; omega)) _ | refine Below.alloc ?_ (by first | (simp; done) | omega | (simp; omega)) _ | refine Below.drew ?_ | refine below_drewN ?_ _))
set_option maxHeartbeats 2000000 in
theorem v_fit_c (tb mb a : Nat) (t : Tr) (L : List Rw) (w : World) (h : TBL w tb mb a t L) : Calls Try.prog 50 #[.pointer (some ⟨tb, 0, none⟩)] w fun ee w' => ee = .returned (.int .u64 (if (belL 18446744073709551615 (tl t)).isSome = true then mnn (fv (belL 18446744073709551615 (tl t))).va 9223372036854775808 else 9223372036854775808)) ∧ Below w.heap.size w w' := by
  have k0 := belm_c a t 18446744073709551615 w h.tr
  have c0 := h.c0
  have c1 := h.c1
  have lt := h.lt
  have hmn := fun w => run_mnn (fv (belL 18446744073709551615 (tl t))).va 9223372036854775808 w
  clear h
  generalize fv (belL 18446744073709551615 (tl t)) = X at *
  generalize (belL 18446744073709551615 (tl t)).isSome = O at *
  have K := Lib.hid k0
  clear k0
  cases O with
  | true =>
    simp only [if_true]
    go_enter Try.func50, Try.ntmps50
    go_wp2_with (go_at_call 23; (with_reducible refine K.out.mono ?_); rintro _ w1 ⟨rfl, hbel⟩)
    go_ret
    refine ⟨rfl, ?_⟩
    have hs := hbel.size
    (repeat' (first | assumption | exact Below.refl _ _ | refine Below.setCell ?_ (by first | (simp; done) | omega | (simp; omega)) _ | refine Below.alloc ?_ (by first | (simp; done) | omega | (simp; omega)) _ | refine Below.drew ?_ | refine below_drewN ?_ _))
  | false =>
    simp only [Bool.false_eq_true, if_false]
    go_enter Try.func50, Try.ntmps50
    go_wp2_with (go_at_call 23; (with_reducible refine K.out.mono ?_); rintro _ w1 ⟨rfl, hbel⟩)
    go_ret
    refine ⟨rfl, ?_⟩
    have hs := hbel.size
    (repeat' (first | assumption | exact Below.refl _ _ | refine Below.setCell ?_ (by first | (simp; done) | omega | (simp; omega)) _ | refine Below.alloc ?_ (by first | (simp; done) | omega | (simp; omega)) _ | refine Below.drew ?_ | refine below_drewN ?_ _))
end Go.Proofs.Ytikmdkmejbcmmaa
