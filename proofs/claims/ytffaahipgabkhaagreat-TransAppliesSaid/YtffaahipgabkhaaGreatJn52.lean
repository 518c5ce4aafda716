/- Joined texts. -/
import Derived.Test.YtffaahipgabkhaaGreatJn0
import Derived.Test.YtffaahipgabkhaaGreatJn46
set_option linter.unusedVariables false
set_option linter.unusedSimpArgs false
set_option maxRecDepth 100000
set_option maxHeartbeats 16000000
section
namespace Go.Proofs.YtffaahipgabkhaaGreat
open Go.RowKit Fg Reg Go.Maps Go.Shelf
attribute [local irreducible] Reg.wE VR
theorem rs18_c (X : List Cls) (n : Nat) (hX : X.length = n) (hnb : n ≤ 1000) (a1 a2 : Option Addr) (c1 c2 : Nat) (w : World) (h1 : RwV crow 14 w a1 X) (h2 : RwV crow 14 w a2 X) :
  Calls Tryz.prog 31 #[.slice a1 n c1, .slice a2 n c2] w fun ee w' => ee = .returned (.bool true) ∧ Below w.heap.size w w' := by
 have H1 := Lib.hid h1
 have H2 := Lib.hid h2
 have HX := Lib.hid hX
 have ALL := Lib.hid cl_alloc
 have INF := Lib.hid cl_info
 have ONE := Lib.hid cla_one
 have EQH := Lib.hid (fun (c : Cls) (z : World) => (by have := eqClD c c z; rw [(clEq_iff c c).2 rfl] at this; exact this : (Op.equalIn 10000 48 (.agg #[.int .i64 c.id, .int .i64 c.par, .bool c.leaf, .int .u64 c.ra, .int .u64 c.rb, .int .u64 c.rc, .int .u64 c.la, .int .u64 c.lb, .int .u64 c.lc, .int .u64 c.ua, .int .u64 c.ub, .int .u64 c.uc, .int .i64 c.pk, .int .i64 c.bt]) (.agg #[.int .i64 c.id, .int .i64 c.par, .bool c.leaf, .int .u64 c.ra, .int .u64 c.rb, .int .u64 c.rc, .int .u64 c.la, .int .u64 c.lb, .int .u64 c.lc, .int .u64 c.ua, .int .u64 c.ub, .int .u64 c.uc, .int .i64 c.pk, .int .i64 c.bt])).run Tryz.prog z = .ok true z))
 clear h1 h2 hX
 go_enter Tryz.func31, Tryz.ntmps31
 go_wp2_with (first | go_guarded)
 go_loopg [14] n (fun k9 s14 wr => ∃ k : Nat, s14 = .int .i64 k ∧ k ≤ n ∧ Below w.heap.size w wr ∧ n - k ≤ k9)
 case atStart => exact ⟨0, rfl, Nat.zero_le _, Below.refl _ _, by omega⟩
 case round =>
  obtain ⟨k, rfl, hk, hB, hk9⟩ := hrel
  have HB := Lib.hid hB
  by_cases hlt : k < n
  ·have hlC : k < X.length := by rw [HX.out]; exact hlt
   obtain ⟨b1, o1, rfl, hb1, hr1⟩ := (H1.out.below hB) k hlC
   obtain ⟨b2, o2, rfl, hb2, hr2⟩ := (H2.out.below hB) k hlC
   obtain ⟨c, hc⟩ : ∃ c, X[k] = c := ⟨_, rfl⟩
   rw [hc] at hr1 hr2
   have HR1 := Lib.hid (show wr.rangeAt b1 (o1 + k * 14) (#[.int .i64 c.id, .int .i64 c.par, .bool c.leaf, .int .u64 c.ra, .int .u64 c.rb, .int .u64 c.rc, .int .u64 c.la, .int .u64 c.lb, .int .u64 c.lc, .int .u64 c.ua, .int .u64 c.ub, .int .u64 c.uc, .int .i64 c.pk, .int .i64 c.bt] : Array Value).toList from hr1)
   have HR2 := Lib.hid hr2
   have HL2 := Lib.hid hb2
   have EQ := EQH.out c
   clear hB hc hr1 hr2 hb1 hb2 hlC
   go_wp2_with (first
    | go_guarded
    | (refine wpList_var_new3 rfl rfl rfl 48 #[.int .i64 0, .int .i64 0, .bool false, .int .u64 0, .int .u64 0, .int .u64 0, .int .u64 0, .int .u64 0, .int .u64 0, .int .u64 0, .int .u64 0, .int .u64 0, .int .i64 0, .int .i64 0] ALL.out rfl _ rfl _ _ rfl #[.int .i64 c.id, .int .i64 c.par, .bool c.leaf, .int .u64 c.ra, .int .u64 c.rb, .int .u64 c.rc, .int .u64 c.la, .int .u64 c.lb, .int .u64 c.lc, .int .u64 c.ua, .int .u64 c.ub, .int .u64 c.uc, .int .i64 c.pk, .int .i64 c.bt] _ rfl rfl rfl INF.out rfl (ONE.out _) ?_; intro w5 hs5 hb5 hv5; have vl := hv5.lt; have dl := Nat.lt_of_lt_of_le HL2.out hb5.size; have v0 := hv5.cell 0 rfl; have d0 := (hb5.cell (p := ⟨b2, o2 + k * 14 + 0, none⟩) HL2.out).trans (HR2.out 0 _ rfl); have v1 := hv5.cell 1 rfl; have d1 := (hb5.cell (p := ⟨b2, o2 + k * 14 + 1, none⟩) HL2.out).trans (HR2.out 1 _ rfl); have v2 := hv5.cell 2 rfl; have d2 := (hb5.cell (p := ⟨b2, o2 + k * 14 + 2, none⟩) HL2.out).trans (HR2.out 2 _ rfl); have v3 := hv5.cell 3 rfl; have d3 := (hb5.cell (p := ⟨b2, o2 + k * 14 + 3, none⟩) HL2.out).trans (HR2.out 3 _ rfl); have v4 := hv5.cell 4 rfl; have d4 := (hb5.cell (p := ⟨b2, o2 + k * 14 + 4, none⟩) HL2.out).trans (HR2.out 4 _ rfl); have v5 := hv5.cell 5 rfl; have d5 := (hb5.cell (p := ⟨b2, o2 + k * 14 + 5, none⟩) HL2.out).trans (HR2.out 5 _ rfl); have v6 := hv5.cell 6 rfl; have d6 := (hb5.cell (p := ⟨b2, o2 + k * 14 + 6, none⟩) HL2.out).trans (HR2.out 6 _ rfl); have v7 := hv5.cell 7 rfl; have d7 := (hb5.cell (p := ⟨b2, o2 + k * 14 + 7, none⟩) HL2.out).trans (HR2.out 7 _ rfl); have v8 := hv5.cell 8 rfl; have d8 := (hb5.cell (p := ⟨b2, o2 + k * 14 + 8, none⟩) HL2.out).trans (HR2.out 8 _ rfl); have v9 := hv5.cell 9 rfl; have d9 := (hb5.cell (p := ⟨b2, o2 + k * 14 + 9, none⟩) HL2.out).trans (HR2.out 9 _ rfl); have v10 := hv5.cell 10 rfl; have d10 := (hb5.cell (p := ⟨b2, o2 + k * 14 + 10, none⟩) HL2.out).trans (HR2.out 10 _ rfl); have v11 := hv5.cell 11 rfl; have d11 := (hb5.cell (p := ⟨b2, o2 + k * 14 + 11, none⟩) HL2.out).trans (HR2.out 11 _ rfl); have v12 := hv5.cell 12 rfl; have d12 := (hb5.cell (p := ⟨b2, o2 + k * 14 + 12, none⟩) HL2.out).trans (HR2.out 12 _ rfl); have v13 := hv5.cell 13 rfl; have d13 := (hb5.cell (p := ⟨b2, o2 + k * 14 + 13, none⟩) HL2.out).trans (HR2.out 13 _ rfl); have HB5 := Lib.hid (HB.out.trans (hb5.mono HB.out.size)); simp only [Nat.add_zero] at d0; clear hb5 hv5)
    | (refine wpList_part_get rfl 48 _ rfl b1 (o1 + k * 14) #[.int .i64 c.id, .int .i64 c.par, .bool c.leaf, .int .u64 c.ra, .int .u64 c.rb, .int .u64 c.rc, .int .u64 c.la, .int .u64 c.lb, .int .u64 c.lc, .int .u64 c.ua, .int .u64 c.ub, .int .u64 c.uc, .int .i64 c.pk, .int .i64 c.bt] _ HR1.out rfl Tryz.underlying48 rfl INF.out ?_))
   go_quiet (fail)
   have hbq : Below w5.heap.size w5 (w5.drewN nq) := below_drewN (Below.refl _ _) _
   have HB6 := Lib.hid (HB5.out.trans (hbq.mono HB5.out.size))
   clear hbq
   go_wp2_with (first | go_guarded)
   go_roundg (n - (k + 1))
   case rel => exact ⟨k + 1, by go_num, by omega, HB6.out, Nat.le_refl _⟩
   case measure => omega
  ·obtain rfl : k = n := by omega
   clear hB hlt
   go_wp2_with (first | go_guarded)
   go_ret
   exact ⟨rfl, HB.out⟩
theorem lsame_c {tb mb : Nat} {f : Int → Option Cls} {L : List Int} (I : TI f L) (n : Nat) (hn : L.length = n) (lo : Option Addr) (cap : Nat) (w : World) (h : HT w tb mb f) (hR : RwV crow 14 w lo (rowsX f L)) :
  Calls Tryz.prog 12 #[.pointer (some ⟨tb, 0, none⟩), .slice lo n cap] w fun ee w' => ee = .returned (.bool true) ∧ Below w.heap.size w w' := by
 obtain ⟨ii, ci0, cz0, cz1, cz2⟩ := clp_parts
 have CI0 := Lib.hid ci0
 have CZ0 := Lib.hid cz0
 have CZ1 := Lib.hid cz1
 have CZ2 := Lib.hid cz2
 have ALL := Lib.hid cl_alloc
 have INF := Lib.hid cl_info
 have ONE := Lib.hid cla_one
 have hn64 : n ≤ 64 := by rw [← hn]; exact I.len
 have KID : Hid (Calls Tryz.prog 18 #[.pointer (some ⟨tb, 0, none⟩)] w fun e z' => ∃ ao cap, e = .returned (.slice ao n cap) ∧ IntsV z' ao L ∧ Below w.heap.size w z') := Lib.hid (by
  refine (ids_c h L I.srt I.mem (Nat.le_trans I.len (by decide)) I.iok).mono ?_
  rintro e z' ⟨v, rfl, hr, hb⟩
  obtain ⟨ao, cap, rfl⟩ := row_form hr
  exact ⟨ao, cap, by rw [hn], (own_ints hr).2, hb⟩)
 have KG : Hid (∀ z x c, HT z tb mb f → f x = some c → iok x → Calls Tryz.prog 30 #[.pointer (some ⟨tb, 0, none⟩), .int .i64 x] z fun e z' => e = .returned (.tuple #[.agg #[.int .i64 c.id, .int .i64 c.par, .bool c.leaf, .int .u64 c.ra, .int .u64 c.rb, .int .u64 c.rc, .int .u64 c.la, .int .u64 c.lb, .int .u64 c.lc, .int .u64 c.ua, .int .u64 c.ub, .int .u64 c.uc, .int .i64 c.pk, .int .i64 c.bt], .int .i64 0]) ∧ Below z.heap.size z z') := Lib.hid (fun z x c hz hc hx => by
  refine (hget_c hz hx).mono ?_
  rintro e z' ⟨he, hb⟩
  rw [hc] at he
  exact ⟨he, hb⟩)
 have KS := Lib.hid (fun (z : World) a1 a2 c1 c2 (h1 : RwV crow 14 z a1 (rowsX f L)) (h2 : RwV crow 14 z a2 (rowsX f L)) => rs18_c (rowsX f L) n (by rw [rowsX_len]; exact hn) (by omega) a1 a2 c1 c2 z h1 h2)
 have HI := Lib.hid I
 have HN := Lib.hid hn
 have HT0 := Lib.hid h
 have HR0 := Lib.hid hR
 clear ci0 cz0 cz1 cz2 I hn h hR
 go_enter Tryz.func12, Tryz.ntmps12
 go_wp2_with (first
  | go_guarded
  | (go_at_call 18; (with_reducible refine KID.out.mono ?_); rintro _ w1 ⟨io, ic, rfl, hv, hbel⟩; have HV := Lib.hid hv; have HB1 := Lib.hid hbel; have HT1 := Lib.hid (HT0.out.below hbel); have HR1 := Lib.hid (HR0.out.below hbel); clear hv hbel))
 try go_frame
 go_loopg [5, 13] n (fun k9 s5 s13 wr => ∃ (k : Nat) (oo : Option Addr) (c : Nat), s5 = .slice oo k c ∧ s13 = .int .i64 k ∧ k ≤ n ∧ wr.ownsRow w1.heap.size 48 14 (.slice oo k c) k ((rowsX f (L.take k)).flatMap crow) ∧ Below w1.heap.size w1 wr ∧ n - k ≤ k9)
 case atStart => exact ⟨0, none, 0, rfl, rfl, Nat.zero_le _, World.ownsRow_nil _ _ _ _, Below.refl _ _, by omega⟩
 case round =>
  obtain ⟨k, oo, c, rfl, rfl, hk, hO, hB, hk9⟩ := hrel
  have HO := Lib.hid hO
  have HB := Lib.hid hB
  by_cases hlt : k < n
  ·have hlC : k < L.length := by rw [HN.out]; exact hlt
   obtain ⟨b, o, rfl, hb, hce⟩ := (HV.out.below hB) k hlC
   have hc := (rx_at HI.out hlC).1
   have hxi := HI.out.iok L[k] (List.getElem_mem hlC)
   have hrow : rowsX f (L.take (k + 1)) = rowsX f (L.take k) ++ [(rowsX f L)[k]'(by rw [rowsX_len]; exact hlC)] := by
    show (L.take (k + 1)).map (fun x => gcl (f x)) = (L.take k).map (fun x => gcl (f x)) ++ [(L.map (fun x => gcl (f x)))[k]'(by rw [List.length_map]; exact hlC)]
    rw [take_snoc'' L k hlC, List.map_append, List.getElem_map]
    rfl
   obtain ⟨y, hy⟩ : ∃ y, (rowsX f L)[k]'(by rw [rowsX_len]; exact hlC) = y := ⟨_, rfl⟩
   obtain ⟨x, hx⟩ : ∃ x, L[k] = x := ⟨_, rfl⟩
   rw [hx] at hce hc hxi
   rw [hy] at hc hrow
   have hfm : (rowsX f (L.take (k + 1))).flatMap crow = (rowsX f (L.take k)).flatMap crow ++ crow y := by rw [hrow]; simp
   have HFM := Lib.hid hfm
   have KG1 := Lib.hid (fun z hz => KG.out z x y hz hc hxi)
   clear hO hB hc hxi hrow hy hx hfm hlC hb
   go_wp2_with (first
    | go_guarded
    | (at_builtin; refine wpList_append_own _ rfl _ _ 25 rfl w1.heap.size 48 ii _ 14 112 Tryz.underlying25 CI0.out CZ0.out CZ1.out CZ2.out rfl (by decide) (.slice oo k c) _ _ rfl (World.ownsRow.alloc HO5.out _) ⟨_, 0, none⟩ 1 1 (crow y) rfl rfl ?c1 ?c2 ?c3 ?c4 ?c5 ?_; (case c1 => exact news_at w5 (crow y) 48 _ (by omega)); (case c2 => exact crow_one y); (case c3 => (unfold maxLen; omega)); (case c4 => omega); (case c5 => (have := HB5.out.size; simp; omega)); intro v2 z6 hown2 hg2 _; (have HB6 : Hid (Below w1.heap.size w1 z6) := Lib.hid (HB5.out.trans ((Below.alloc (Below.refl _ _) HB5.out.size _).grown hg2 (by have := HB5.out.size; simp; omega) (fun q hq => (HO5.out.lt q hq).1)))); obtain ⟨a2, c2, rfl⟩ := row_form hown2; (have HO6 := Lib.hid hown2); clear hown2 hg2)
    | (refine wpList_var_get rfl 48 _ rfl _ #[.int .i64 y.id, .int .i64 y.par, .bool y.leaf, .int .u64 y.ra, .int .u64 y.rb, .int .u64 y.rc, .int .u64 y.la, .int .u64 y.lb, .int .u64 y.lc, .int .u64 y.ua, .int .u64 y.ub, .int .u64 y.uc, .int .i64 y.pk, .int .i64 y.bt] _ HV5.out rfl Tryz.underlying48 rfl INF.out ?_)
    | (refine wpList_var_new rfl rfl 48 #[.int .i64 0, .int .i64 0, .bool false, .int .u64 0, .int .u64 0, .int .u64 0, .int .u64 0, .int .u64 0, .int .u64 0, .int .u64 0, .int .u64 0, .int .u64 0, .int .i64 0, .int .i64 0] ALL.out rfl _ _ rfl #[.int .i64 y.id, .int .i64 y.par, .bool y.leaf, .int .u64 y.ra, .int .u64 y.rb, .int .u64 y.rc, .int .u64 y.la, .int .u64 y.lb, .int .u64 y.lc, .int .u64 y.ua, .int .u64 y.ub, .int .u64 y.uc, .int .i64 y.pk, .int .i64 y.bt] rfl rfl INF.out rfl (ONE.out _) ?_; (have mk := HB4); intro w5 hs5 hb5 hv5; have HV5 := Lib.hid hv5; have HB5 := Lib.hid (HB4.out.trans (hb5.mono HB4.out.size)); have HO5 := Lib.hid (row_bel HO4.out hb5); clear hb5 hv5)
    | (go_at_call 30; (with_reducible refine (KG1.out _ (HT1.out.below HB.out)).mono ?_); rintro _ w4 ⟨rfl, hbel⟩; have HB4 := Lib.hid (HB.out.trans (hbel.mono HB.out.size)); have HO4 := Lib.hid (row_bel HO.out hbel); clear hbel))
   go_roundg (n - (k + 1))
   case rel => exact ⟨k + 1, a2, c2, rfl, by go_num, by omega, by rw [HFM.out]; exact HO6.out, HB6.out, Nat.le_refl _⟩
   case measure => omega
  ·obtain rfl : k = n := by omega
   have hO2 : wr.ownsRow w1.heap.size 48 14 (.slice oo k c) k ((rowsX f L).flatMap crow) := by rw [List.take_of_length_le (by rw [HN.out]; exact Nat.le_refl _)] at hO; exact hO
   have HX := Lib.hid (own_rwv crow_len hO2 (by rw [rowsX_len]; exact HN.out))
   clear hO hO2 hB hlt
   go_wp2_with (first
    | go_guarded
    | (go_at_call 31; (with_reducible refine (KS.out _ _ _ _ _ HX.out (HR1.out.below HB.out)).mono ?_); rintro _ w7 ⟨rfl, hbel⟩; have HB7 : Hid (Below w.heap.size w w7) := Lib.hid (HB1.out.trans ((HB.out.trans (hbel.mono HB.out.size)).mono HB1.out.size)); clear hbel))
   go_ret
   exact ⟨rfl, HB7.out⟩
end Go.Proofs.YtffaahipgabkhaaGreat
end
