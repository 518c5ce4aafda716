/- Joined texts. -/
import Derived.Test.YtffaahipgabkhaaGreatJn0
import Derived.Test.YtffaahipgabkhaaGreatJn3
import Derived.Test.YtffaahipgabkhaaGreatJn17
import Derived.Lib.SlicesCompact
set_option linter.unusedVariables false
set_option linter.unusedSimpArgs false
set_option maxRecDepth 100000
set_option maxHeartbeats 16000000
section
namespace Go.Proofs.YtffaahipgabkhaaGreat
open Go.RowKit Fg Reg Go.Maps
attribute [local irreducible] Reg.wE VR
theorem pints_c (zs : List Int) (a1 a2 : Option Addr) (c1 c2 : Nat) (hn : zs.length ≤ 100000) (w : World) (h1 : IntsV w a1 zs) (h2 : IntsV w a2 zs) : Calls Tryz.prog 14 #[.slice a1 zs.length c1, .slice a2 zs.length c2] w fun ee w' => ee = .returned (.bool true) ∧ Below w.heap.size w w' := by
 have H1 := Lib.hid h1
 have H2 := Lib.hid h2
 clear h1 h2
 go_enter Tryz.func14, Tryz.ntmps14
 go_wp2_with fail
 go_loopw [13] (fun ii wr => ∃ k : Nat, k ≤ zs.length ∧ ii = .int .i64 k ∧ Below w.heap.size w wr) (fun ii _ => zs.length - (intOf ii).toNat)
 case atStart => exact ⟨0, Nat.zero_le _, rfl, Below.refl _ _⟩
 case round =>
  obtain ⟨k, hk, rfl, hB⟩ := hrel
  have hsz := hB.size
  by_cases hlt : k < zs.length
  ·obtain ⟨b1, o1, rfl, hb1, e1⟩ := (H1.out.below hB) k hlt
   obtain ⟨b2, o2, rfl, hb2, e2⟩ := (H2.out.below hB) k hlt
   generalize zs[k] = y at *
   go_wp2
   go_quiet (fail)
   go_wp2
   go_roundw
   case rel => exact ⟨k + 1, by omega, by go_num, by exact kpb⟩
   case measure => simp [intOf]; omega
  ·obtain rfl : k = zs.length := by omega
   go_wp2
   go_ret
   exact ⟨rfl, hB⟩
def crt (c : Cls) : List Value := [.int .u64 c.ra, .int .u64 c.rb, .int .u64 c.rc]
def rls (f : Int → Option Cls) (M : List Int) : List Cls := (M.map (fun x => gcl (f x))).filter rl1
theorem rls_yes {f : Int → Option Cls} {M : List Int} {k : Nat} (h : k < M.length) {c : Cls} (hc : f M[k] = some c) (hr : rl1 c = true) : rls f (M.take (k + 1)) = rls f (M.take k) ++ [c] := by
 unfold rls
 rw [take_snoc'' M k h, List.map_append, List.filter_append]
 simp [hc, gcl, hr]
theorem rls_no {f : Int → Option Cls} {M : List Int} {k : Nat} (h : k < M.length) {c : Cls} (hc : f M[k] = some c) (hr : rl1 c = false) : rls f (M.take (k + 1)) = rls f (M.take k) := by
 unfold rls
 rw [take_snoc'' M k h, List.map_append, List.filter_append]
 simp [hc, gcl, hr]
theorem rls_len (f : Int → Option Cls) (M : List Int) : (rls f M).length ≤ M.length := Nat.le_trans (List.length_filter_le _ _) (by simp)
theorem cv_parts : ∃ i, Tryz.prog.info? 46 = some i ∧ i.zero = some (.agg #[.int .u64 0, .int .u64 0, .int .u64 0]) ∧ i.size = 3 ∧ i.bytes = 24 := ⟨_, rfl, rfl, rfl, rfl⟩
theorem hrea_c {w : World} {tb mb : Nat} {f : Int → Option Cls} {L : List Int} (h : HT w tb mb f) (I : TI f L) :
  Calls Tryz.prog 27 #[.pointer (some ⟨tb, 0, none⟩)] w fun e w' => ∃ v, e = .returned v ∧ w'.ownsRow w.heap.size 46 3 v (rls f (L.filter (sel f Cls.leaf))).length ((rls f (L.filter (sel f Cls.leaf))).flatMap crt) ∧ Below w.heap.size w w' := by
 obtain ⟨ii, ci0, cz0, cz1, cz2⟩ := cv_parts
 have CI0 := Lib.hid ci0
 have CZ0 := Lib.hid cz0
 have CZ1 := Lib.hid cz1
 have CZ2 := Lib.hid cz2
 have KL := Lib.hid (leaves_c h L I.srt I.mem (Nat.le_trans I.len (by decide)) I.iok)
 have hsub : ∀ x ∈ L.filter (sel f Cls.leaf), iok x ∧ ∃ c, f x = some c ∧ CIn c := fun x hx => by
  have hxL := (List.mem_filter.1 hx).1
  refine ⟨I.iok x hxL, ?_⟩
  obtain ⟨c, hc⟩ := Option.isSome_iff_exists.1 ((I.mem x).2 hxL)
  exact ⟨c, hc, (I.cls x c hc).2.1⟩
 have hlen : (L.filter (sel f Cls.leaf)).length ≤ 1000 := Nat.le_trans (List.length_filter_le _ _) (Nat.le_trans I.len (by decide))
 obtain ⟨M, hM⟩ : ∃ M, L.filter (sel f Cls.leaf) = M := ⟨_, rfl⟩
 rw [hM] at KL hsub hlen ⊢
 obtain ⟨m, hm⟩ : ∃ m, M.length = m := ⟨_, rfl⟩
 rw [hm] at hlen KL
 have HM := Lib.hid hm
 have HSUB := Lib.hid hsub
 have H := Lib.hid h
 have ALL := Lib.hid cl_alloc
 have INF := Lib.hid cl_info
 have ONE := Lib.hid cla_one
 clear h I hM hm hsub ci0 cz0 cz1 cz2
 go_enter Tryz.func27, Tryz.ntmps27
 go_wp2_with (first
  | go_guarded
  | (go_at_call 60; (with_reducible refine KL.out.mono ?_); rintro _ w1 ⟨v, rfl, hrow, hbel⟩; obtain ⟨ao, cp, rfl⟩ := row_form hrow; have HIV := Lib.hid (own_ints hrow).2; have HB1 := Lib.hid hbel; clear hbel hrow))
 try go_frame
 go_loopg [3, 10] m (fun k9 s3 s10 wr => ∃ (k n : Nat) (oo : Option Addr) (c : Nat), s3 = .slice oo n c ∧ s10 = .int .i64 k ∧ k ≤ m ∧ (rls f (M.take k)).length = n ∧ wr.ownsRow w1.heap.size 46 3 (.slice oo n c) n ((rls f (M.take k)).flatMap crt) ∧ Below w1.heap.size w1 wr ∧ m - k ≤ k9)
 case atStart => exact ⟨0, 0, none, 0, rfl, rfl, Nat.zero_le _, rfl, World.ownsRow_nil _ _ _ _, Below.refl _ _, by omega⟩
 case round =>
  obtain ⟨k, n, oo, c, rfl, rfl, hk, hn, hO, hB, hk9⟩ := hrel
  have HN := Lib.hid hn
  have HO := Lib.hid hO
  have HBW := Lib.hid (HB1.out.trans (hB.mono HB1.out.size))
  have HB := Lib.hid hB
  have hT : HT wr tb mb f := H.out.below HBW.out
  by_cases hlt : k < m
  ·have hlC : k < M.length := by rw [HM.out]; exact hlt
   obtain ⟨b, o, rfl, hb, hcell⟩ := HIV.out k hlC
   obtain ⟨hx, cl, hc, hin⟩ := HSUB.out M[k] (List.getElem_mem hlC)
   have hce := (hB.cell (p := ⟨b, o + k, none⟩) hb).trans hcell
   have hb2 : b < wr.heap.size := Nat.lt_of_lt_of_le hb hB.size
   have hy := rls_yes hlC hc
   have hno := rls_no hlC hc
   have hnm : n ≤ 1000 := by rw [← hn]; exact Nat.le_trans (rls_len f _) (by simp; omega)
   obtain ⟨x, hxe⟩ : ∃ x, M[k] = x := ⟨_, rfl⟩
   rw [hxe] at hx hc hce
   have c0 := hT.c0
   have lt := hT.lt
   have hl0 := hT.look hx false
   rw [hc] at hl0
   have hlk : (Instr.lookup 77 (.map (some mb)) (.int .i64 x) false).run Tryz.prog wr = .ok (.agg #[.int .i64 cl.id, .int .i64 cl.par, .bool cl.leaf, .int .u64 cl.ra, .int .u64 cl.rb, .int .u64 cl.rc, .int .u64 cl.la, .int .u64 cl.lb, .int .u64 cl.lc, .int .u64 cl.ua, .int .u64 cl.ub, .int .u64 cl.uc, .int .i64 cl.pk, .int .i64 cl.bt]) wr := hl0
   have KR := Lib.hid (fun z => creal_c hin z)
   have HX := Lib.hid hx
   clear hl0 hcell hxe hin hc hn hO hB hT
   cases hr : rl1 cl with
   | false =>
    rw [hr] at KR
    have HR : Hid (rls f (M.take (k + 1)) = rls f (M.take k)) := Lib.hid (hno hr)
    clear hy hno
    go_wp2_with (first
     | go_guarded
     | (go_at_call 40; (with_reducible refine (KR.out _).mono ?_); rintro _ w6 ⟨rfl, hbel⟩; have HO6 := Lib.hid (row_bel HO5.out hbel); have HB6 := Lib.hid (HB5.out.trans (hbel.mono HB5.out.size)); clear hbel)
     | (refine wpList_var_get rfl 48 _ rfl _ #[.int .i64 cl.id, .int .i64 cl.par, .bool cl.leaf, .int .u64 cl.ra, .int .u64 cl.rb, .int .u64 cl.rc, .int .u64 cl.la, .int .u64 cl.lb, .int .u64 cl.lc, .int .u64 cl.ua, .int .u64 cl.ub, .int .u64 cl.uc, .int .i64 cl.pk, .int .i64 cl.bt] _ HV5.out rfl Tryz.underlying48 rfl INF.out ?_)
     | (refine wpList_var_new rfl rfl 48 #[.int .i64 0, .int .i64 0, .bool false, .int .u64 0, .int .u64 0, .int .u64 0, .int .u64 0, .int .u64 0, .int .u64 0, .int .u64 0, .int .u64 0, .int .u64 0, .int .i64 0, .int .i64 0] ALL.out rfl _ _ rfl #[.int .i64 cl.id, .int .i64 cl.par, .bool cl.leaf, .int .u64 cl.ra, .int .u64 cl.rb, .int .u64 cl.rc, .int .u64 cl.la, .int .u64 cl.lb, .int .u64 cl.lc, .int .u64 cl.ua, .int .u64 cl.ub, .int .u64 cl.uc, .int .i64 cl.pk, .int .i64 cl.bt] rfl rfl INF.out rfl (ONE.out _) ?_; intro w5 hs5 hb5 hv5; have HV5 := Lib.hid hv5; have HO5 := Lib.hid (row_bel HO.out hb5); have HB5 := Lib.hid (HB.out.trans (hb5.mono HB.out.size)); clear hb5 hv5))
    go_roundg (m - (k + 1))
    case rel => exact ⟨k + 1, n, oo, c, rfl, by go_num, by omega, by rw [HR.out, HN.out], by rw [HR.out]; exact HO6.out, HB6.out, Nat.le_refl _⟩
    case measure => omega
   | true =>
    rw [hr] at KR
    have HR : Hid (rls f (M.take (k + 1)) = rls f (M.take k) ++ [cl]) := Lib.hid (hy hr)
    clear hy hno
    go_wp2_with (first
     | go_guarded
     | (at_builtin; refine wpList_append_own _ rfl _ _ 61 rfl w1.heap.size 46 ii _ 3 24 Tryz.underlying61 CI0.out CZ0.out CZ1.out CZ2.out rfl (by decide) (.slice oo n c) _ _ rfl (World.ownsRow.alloc HO6.out _) ⟨_, 0, none⟩ 1 1 (crt cl) rfl rfl ?c1 ?c2 ?c3 ?c4 ?c5 ?_; (case c1 => (intro q u hu; (rcases q with _ | _ | _ | q <;> simp [crt] at hu <;> (try subst hu) <;> simp [Addr.add, go_sem, *]))); (case c2 => (intro v hv; simp [crt] at hv; rcases hv with rfl | rfl | rfl <;> rfl)); (case c3 => (unfold maxLen; omega)); (case c4 => omega); (case c5 => (have := HB6.out.size; simp; omega)); intro v2 z2 hown2 hg2 _; (have HB2 : Hid (Below w1.heap.size w1 z2) := Lib.hid (HB6.out.trans ((Below.alloc (Below.refl w6.heap.size w6) (Nat.le_refl _) _).mono HB6.out.size |>.grown hg2 (by have := HB6.out.size; simp; omega) (fun q hq => (HO6.out.lt q hq).1)))); obtain ⟨a2, c2, rfl⟩ := row_form hown2; (have HO2 := Lib.hid hown2); clear hown2 hg2)
     | (go_at_call 40; (with_reducible refine (KR.out _).mono ?_); rintro _ w6 ⟨rfl, hbel⟩; have HO6 := Lib.hid (row_bel HO5.out hbel); have HB6 := Lib.hid (HB5.out.trans (hbel.mono HB5.out.size)); have hv6 := HV5.out.bel hbel; have r3 := hv6.cell 3 rfl; have r4 := hv6.cell 4 rfl; have r5 := hv6.cell 5 rfl; have lv := hv6.lt; clear hbel hv6)
     | (refine wpList_var_get rfl 48 _ rfl _ #[.int .i64 cl.id, .int .i64 cl.par, .bool cl.leaf, .int .u64 cl.ra, .int .u64 cl.rb, .int .u64 cl.rc, .int .u64 cl.la, .int .u64 cl.lb, .int .u64 cl.lc, .int .u64 cl.ua, .int .u64 cl.ub, .int .u64 cl.uc, .int .i64 cl.pk, .int .i64 cl.bt] _ HV5.out rfl Tryz.underlying48 rfl INF.out ?_)
     | (refine wpList_var_new rfl rfl 48 #[.int .i64 0, .int .i64 0, .bool false, .int .u64 0, .int .u64 0, .int .u64 0, .int .u64 0, .int .u64 0, .int .u64 0, .int .u64 0, .int .u64 0, .int .u64 0, .int .i64 0, .int .i64 0] ALL.out rfl _ _ rfl #[.int .i64 cl.id, .int .i64 cl.par, .bool cl.leaf, .int .u64 cl.ra, .int .u64 cl.rb, .int .u64 cl.rc, .int .u64 cl.la, .int .u64 cl.lb, .int .u64 cl.lc, .int .u64 cl.ua, .int .u64 cl.ub, .int .u64 cl.uc, .int .i64 cl.pk, .int .i64 cl.bt] rfl rfl INF.out rfl (ONE.out _) ?_; intro w5 hs5 hb5 hv5; have HV5 := Lib.hid hv5; have HO5 := Lib.hid (row_bel HO.out hb5); have HB5 := Lib.hid (HB.out.trans (hb5.mono HB.out.size)); clear hb5 hv5))
    go_roundg (m - (k + 1))
    case rel => exact ⟨k + 1, n + 1, a2, c2, rfl, by go_num, by omega, by rw [HR.out, List.length_append, HN.out]; rfl, by rw [HR.out, List.flatMap_append, List.flatMap_singleton]; exact HO2.out, HB2.out, Nat.le_refl _⟩
    case measure => omega
  ·obtain rfl : k = m := by omega
   have hfin : rls f (M.take k) = rls f M := by rw [← HM.out, List.take_length]
   have HF := Lib.hid hfin
   clear hfin hn hO hB hT
   go_wp2_with (first | go_guarded)
   go_ret
   exact ⟨_, rfl, by rw [← HF.out, HN.out]; exact HO.out.mono HB1.out.size, HBW.out⟩
end Go.Proofs.YtffaahipgabkhaaGreat
end
section
namespace Go.Proofs.YtffaahipgabkhaaGreat
open Go.RowKit Fg Reg
attribute [local irreducible] Reg.wE
def AC (z : World) (b : Nat) (op : Int) (c : Cls) : Prop := z.cell? ⟨b, 0, none⟩ = some (.int .i64 op) ∧ z.cell? ⟨b, 1, none⟩ = some (.int .i64 c.id) ∧ z.cell? ⟨b, 2, none⟩ = some (.int .i64 c.par) ∧ z.cell? ⟨b, 3, none⟩ = some (.bool c.leaf) ∧ z.cell? ⟨b, 4, none⟩ = some (.int .u64 c.ra) ∧ z.cell? ⟨b, 5, none⟩ = some (.int .u64 c.rb) ∧ z.cell? ⟨b, 6, none⟩ = some (.int .u64 c.rc) ∧ z.cell? ⟨b, 7, none⟩ = some (.int .u64 c.la) ∧ z.cell? ⟨b, 8, none⟩ = some (.int .u64 c.lb) ∧ z.cell? ⟨b, 9, none⟩ = some (.int .u64 c.lc) ∧ z.cell? ⟨b, 10, none⟩ = some (.int .u64 c.ua) ∧ z.cell? ⟨b, 11, none⟩ = some (.int .u64 c.ub) ∧ z.cell? ⟨b, 12, none⟩ = some (.int .u64 c.uc) ∧ z.cell? ⟨b, 13, none⟩ = some (.int .i64 c.pk) ∧ z.cell? ⟨b, 14, none⟩ = some (.int .i64 c.bt) ∧ b < z.heap.size
theorem AC.below {z z' : World} {b : Nat} {op : Int} {c : Cls} (h : AC z b op c) (hb : Below z.heap.size z z') : AC z' b op c := by
 obtain ⟨y0, y1, y2, y3, y4, y5, y6, y7, y8, y9, y10, y11, y12, y13, y14, yl⟩ := h
 exact ⟨(hb.cell yl).trans y0, (hb.cell yl).trans y1, (hb.cell yl).trans y2, (hb.cell yl).trans y3, (hb.cell yl).trans y4, (hb.cell yl).trans y5, (hb.cell yl).trans y6, (hb.cell yl).trans y7, (hb.cell yl).trans y8, (hb.cell yl).trans y9, (hb.cell yl).trans y10, (hb.cell yl).trans y11, (hb.cell yl).trans y12, (hb.cell yl).trans y13, (hb.cell yl).trans y14, Nat.lt_of_lt_of_le yl hb.size⟩
end Go.Proofs.YtffaahipgabkhaaGreat
end
section
namespace Go.Proofs.YtffaahipgabkhaaGreat
open Go.RowKit Fg Reg Go.Maps
attribute [local irreducible] Reg.wE VR
theorem mclo_c {w : World} {mb n : Nat} {f : Int → Option Cls} (h : Mp ikv clv iok f n w mb) : Calls Tryz.prog 54 #[.map (some mb)] w fun e w' => e = .returned (.map (some w.heap.size)) ∧ Mp ikv clv iok f n w' w.heap.size ∧ Below w.heap.size w w' ∧ w'.heap.size = w.heap.size + 1 := by
 obtain ⟨es, ck, hb, hE⟩ := h
 have K : Calls Tryz.prog 54 #[.map (some mb)] w fun e w' => e = .returned (.map (some w.heap.size)) ∧ w' = w.alloc (.map es ck) := AnyW.maps_Clone (ρ := cloneM_ren) cloneM mb es ck w hb
 refine K.mono ?_
 rintro e w' ⟨rfl, rfl⟩
 exact ⟨rfl, ⟨es, ck, heap_alloc_new w _, hE⟩, Below.alloc (Below.refl _ _) (Nat.le_refl _) _, by simp⟩
theorem hcop_c {w : World} {tb mb : Nat} {f : Int → Option Cls} (h : HT w tb mb f) : Calls Tryz.prog 24 #[.pointer (some ⟨tb, 0, none⟩)] w fun e w' => ∃ tb2 mb2, e = .returned (.pointer (some ⟨tb2, 0, none⟩)) ∧ w.heap.size ≤ tb2 ∧ w.heap.size ≤ mb2 ∧ HT w' tb2 mb2 f ∧ Below w.heap.size w w' := by
 obtain ⟨n, hn⟩ := h.mp
 have K := Lib.hid (mclo_c hn)
 have c0 := h.c0
 have lt := h.lt
 clear h hn
 go_enter Tryz.func24, Tryz.ntmps24
 go_wp2_with (first | go_guarded | (go_at_call 54; (with_reducible refine K.out.mono ?_); rintro _ w1 ⟨rfl, hm, hbel, hsz⟩; have HM := Lib.hid hm; have HB := Lib.hid hbel; have HS := Lib.hid hsz; clear hm hbel hsz))
 refine bodyPost_ret (v := .pointer (some ⟨w1.heap.size, 0, none⟩)) (by simp [results, Tryz.results24, go_sem, *]) rfl ⟨_, _, rfl, HB.out.size, Nat.le_refl _, ⟨?_, by simp, ?_, _, HM.out.alloc _⟩, HB.out.alloc HB.out.size _⟩
 ·simp [go_sem]
 ·have := HS.out; omega
def t1c : Cls := ⟨1, 0, false, 0, 0, 0, 5, 0, 5, 0, 0, 0, 0, 0⟩
def t2c : Cls := ⟨2, 1, true, 5, 0, 5, 5, 0, 5, 0, 0, 0, 1, 9⟩
def f1t : Int → Option Cls := addF (fun _ => none) [] t1c
def l1t : List Int := addL (fun _ => none) [] t1c
def f2t : Int → Option Cls := addF f1t l1t t2c
def l2t : List Int := addL f1t l1t t2c
end Go.Proofs.YtffaahipgabkhaaGreat
end
section
namespace Go.Proofs.YtffaahipgabkhaaGreat
open Go.RowKit Fg Reg Go.Maps
attribute [local irreducible] Reg.wE VR
structure HA where
 k : Int
 c : Cls
instance : Inhabited HA := ⟨⟨0, clz⟩⟩
def HA.cells (a : HA) : List Value := [.int .i64 a.k, .int .i64 a.c.id, .int .i64 a.c.par, .bool a.c.leaf, .int .u64 a.c.ra, .int .u64 a.c.rb, .int .u64 a.c.rc, .int .u64 a.c.la, .int .u64 a.c.lb, .int .u64 a.c.lc, .int .u64 a.c.ua, .int .u64 a.c.ub, .int .u64 a.c.uc, .int .i64 a.c.pk, .int .i64 a.c.bt]
def doE (k : Int) (f : Int → Option Cls) (L : List Int) (c : Cls) : Int := if k = 0 then addE f L c else if k = 1 then delE f L c.id else setE f L c
def doF (k : Int) (f : Int → Option Cls) (L : List Int) (c : Cls) : Int → Option Cls := if k = 0 then addF f L c else if k = 1 then delF f L c.id else setF f L c
def doL (k : Int) (f : Int → Option Cls) (L : List Int) (c : Cls) : List Int := if k = 0 then addL f L c else if k = 1 then delL f L c.id else L
theorem TI.doF {f : Int → Option Cls} {L : List Int} (I : TI f L) (k : Int) {c : Cls} (hi : CIn c) : TI (doF k f L c) (doL k f L c) := by
 unfold Go.Proofs.YtffaahipgabkhaaGreat.doF Go.Proofs.YtffaahipgabkhaaGreat.doL
 by_cases h0 : k = 0
 ·rw [if_pos h0, if_pos h0]; exact I.addF hi
 ·rw [if_neg h0, if_neg h0]
  by_cases h1 : k = 1
  ·rw [if_pos h1, if_pos h1]; exact I.delF c.id
  ·rw [if_neg h1, if_neg h1]; exact I.setF hi
end Go.Proofs.YtffaahipgabkhaaGreat
end
section
namespace Go.Proofs.YtffaahipgabkhaaGreat
open Go.RowKit Fg Reg Go.Maps
attribute [local irreducible] Reg.wE VR
theorem tss_eq : ∀ (a b : List Int), a.Pairwise (· < ·) → b.Pairwise (· < ·) → (∀ x, x ∈ a ↔ x ∈ b) → a = b
 | [], [], _, _, _ => rfl
 | [], y :: b, _, _, h => by have := (h y).2 (by simp); simp at this
 | x :: a, [], _, _, h => by have := (h x).1 (by simp); simp at this
 | x :: a, y :: b, ha, hb, h => by
  rw [List.pairwise_cons] at ha hb
  have hxy : x = y := by
   have h1 : x ∈ y :: b := (h x).1 (by simp)
   have h2 : y ∈ x :: a := (h y).2 (by simp)
   rw [List.mem_cons] at h1 h2
   rcases h1 with h1 | h1
   ·exact h1
   ·rcases h2 with h2 | h2
    ·exact h2.symm
    ·have := hb.1 x h1; have := ha.1 y h2; omega
  subst hxy
  congr 1
  refine tss_eq a b ha.2 hb.2 fun z => ?_
  constructor
  ·intro hz
   have h1 : z ∈ x :: b := (h z).1 (by simp [hz])
   rw [List.mem_cons] at h1
   rcases h1 with h1 | h1
   ·have := ha.1 z hz; omega
   ·exact h1
  ·intro hz
   have h1 : z ∈ x :: a := (h z).2 (by simp [hz])
   rw [List.mem_cons] at h1
   rcases h1 with h1 | h1
   ·have := hb.1 z hz; omega
   ·exact h1
theorem tcompact_ss (D : Array Int) (hs : ∀ i j, i ≤ j → j < D.size → D[i]! ≤ D[j]!) : ∀ m, m ≤ D.size → (Go.Lib.compactUpTo D m).Pairwise (· < ·) ∧ ∀ x, x ∈ Go.Lib.compactUpTo D m ↔ ∃ i, i < m ∧ D[i]! = x
 | 0, _ => by simp [Go.Lib.compactUpTo]
 | m + 1, hm => by
  obtain ⟨h1, h2⟩ := tcompact_ss D hs m (by omega)
  rw [Go.Lib.compactUpTo_succ]
  cases hk : Go.Lib.keeps D m
  ·simp only [Bool.false_eq_true, if_false, List.append_nil]
   refine ⟨h1, fun x => ?_⟩
   rw [h2 x]
   have hk2 : ¬ (m = 0 ∨ D[m]! ≠ D[m - 1]!) := by simpa [Go.Lib.keeps] using hk
   have hm0 : m ≠ 0 := fun h => hk2 (.inl h)
   have hme : D[m]! = D[m - 1]! := Classical.byContradiction fun h => hk2 (.inr h)
   constructor
   ·rintro ⟨i, h, e⟩; exact ⟨i, by omega, e⟩
   ·rintro ⟨i, h, e⟩
    by_cases him : i = m
    ·subst him; exact ⟨i - 1, by omega, by rw [← hme]; exact e⟩
    ·exact ⟨i, by omega, e⟩
  ·simp only [if_true]
   refine ⟨?_, fun x => ?_⟩
   ·rw [List.pairwise_append]
    refine ⟨h1, by simp, fun x hx y hy => ?_⟩
    simp at hy
    subst hy
    obtain ⟨i, hi, rfl⟩ := (h2 x).1 hx
    have hk2 : m = 0 ∨ D[m]! ≠ D[m - 1]! := by simpa [Go.Lib.keeps] using hk
    have a1 := hs i (m - 1) (by omega) (by omega)
    have a2 := hs (m - 1) m (by omega) (by omega)
    rcases hk2 with hk2 | hk2 <;> omega
   ·rw [List.mem_append, h2 x]
    constructor
    ·rintro (⟨i, h, e⟩ | h)
     ·exact ⟨i, by omega, e⟩
     ·simp at h; exact ⟨m, by omega, h.symm⟩
    ·rintro ⟨i, h, e⟩
     by_cases him : i = m
     ·subst him; exact .inr (by simp [e])
     ·exact .inl ⟨i, by omega, e⟩
def clEq (c d : Cls) : Bool := (c.id == d.id) && (c.par == d.par) && (c.leaf == d.leaf) && (c.ra == d.ra) && (c.rb == d.rb) && (c.rc == d.rc) && (c.la == d.la) && (c.lb == d.lb) && (c.lc == d.lc) && (c.ua == d.ua) && (c.ub == d.ub) && (c.uc == d.uc) && (c.pk == d.pk) && (c.bt == d.bt)
theorem clEq_iff (c d : Cls) : clEq c d = true ↔ c = d := by
 unfold clEq
 cases c; cases d
 simp only [Bool.and_eq_true, beq_iff_eq, Cls.mk.injEq]
 constructor
 ·rintro ⟨⟨⟨⟨⟨⟨⟨⟨⟨⟨⟨⟨⟨h1, h2⟩, h3⟩, h4⟩, h5⟩, h6⟩, h7⟩, h8⟩, h9⟩, h10⟩, h11⟩, h12⟩, h13⟩, h14⟩
  exact ⟨h1, h2, h3, h4, h5, h6, h7, h8, h9, h10, h11, h12, h13, h14⟩
 ·rintro ⟨h1, h2, h3, h4, h5, h6, h7, h8, h9, h10, h11, h12, h13, h14⟩
  exact ⟨⟨⟨⟨⟨⟨⟨⟨⟨⟨⟨⟨⟨h1, h2⟩, h3⟩, h4⟩, h5⟩, h6⟩, h7⟩, h8⟩, h9⟩, h10⟩, h11⟩, h12⟩, h13⟩, h14⟩
theorem eqCvD (n : Nat) (a b d a' b' d' : Int) (w : World) : (Op.equalIn (n + 2) 46 (.agg #[.int .u64 a, .int .u64 b, .int .u64 d]) (.agg #[.int .u64 a', .int .u64 b', .int .u64 d'])).run Tryz.prog w = .ok ((a == a') && (b == b') && (d == d')) w := by
 have hz1 : ∀ w, (sizeOf 44).run Tryz.prog w = .ok 1 w := fun w => by kernel_rfl
 have ha1 : ∀ w, (isAgg 44).run Tryz.prog w = .ok false w := fun w => by kernel_rfl
 have u1 := Tryz.underlying44
 have hS : Tryz.prog.underlying 46 = some (.struct (Tryz.prog.fieldsOf 46)) := by kernel_rfl
 have hp : Tryz.prog.stoodInHeld 46 = false := by kernel_rfl
 rw [show n + 2 = (n + 1) + 1 from rfl, run_equalIn_agg w (n + 1) 46 _ _ hS hp]
 simp only [Program.fieldsOf, Tryz.underlying46]
 cases g1 : (a == a')
 ·go_simp
 ·cases g2 : (b == b')
  ·go_simp
  ·cases g3 : (d == d') <;> go_simp
theorem eqClD (c d : Cls) (w : World) : (Op.equalIn 10000 48 (.agg #[.int .i64 c.id, .int .i64 c.par, .bool c.leaf, .int .u64 c.ra, .int .u64 c.rb, .int .u64 c.rc, .int .u64 c.la, .int .u64 c.lb, .int .u64 c.lc, .int .u64 c.ua, .int .u64 c.ub, .int .u64 c.uc, .int .i64 c.pk, .int .i64 c.bt]) (.agg #[.int .i64 d.id, .int .i64 d.par, .bool d.leaf, .int .u64 d.ra, .int .u64 d.rb, .int .u64 d.rc, .int .u64 d.la, .int .u64 d.lb, .int .u64 d.lc, .int .u64 d.ua, .int .u64 d.ub, .int .u64 d.uc, .int .i64 d.pk, .int .i64 d.bt])).run Tryz.prog w = .ok (clEq c d) w := by
 have hz1 : ∀ w, (sizeOf 3).run Tryz.prog w = .ok 1 w := fun w => by kernel_rfl
 have ha1 : ∀ w, (isAgg 3).run Tryz.prog w = .ok false w := fun w => by kernel_rfl
 have hz2 : ∀ w, (sizeOf 4).run Tryz.prog w = .ok 1 w := fun w => by kernel_rfl
 have ha2 : ∀ w, (isAgg 4).run Tryz.prog w = .ok false w := fun w => by kernel_rfl
 have hz3 : ∀ w, (sizeOf 46).run Tryz.prog w = .ok 3 w := fun w => by kernel_rfl
 have ha3 : ∀ w, (isAgg 46).run Tryz.prog w = .ok true w := fun w => by kernel_rfl
 have u1 := Tryz.underlying3
 have u2 := Tryz.underlying4
 have e1 := eqCvD 9997 c.ra c.rb c.rc d.ra d.rb d.rc
 have e2 := eqCvD 9997 c.la c.lb c.lc d.la d.lb d.lc
 have e3 := eqCvD 9997 c.ua c.ub c.uc d.ua d.ub d.uc
 have hS : Tryz.prog.underlying 48 = some (.struct (Tryz.prog.fieldsOf 48)) := by kernel_rfl
 have hp : Tryz.prog.stoodInHeld 48 = false := by kernel_rfl
 have hcl : clEq c d = ((c.id == d.id) && (c.par == d.par) && (c.leaf == d.leaf) && ((c.ra == d.ra) && (c.rb == d.rb) && (c.rc == d.rc)) && ((c.la == d.la) && (c.lb == d.lb) && (c.lc == d.lc)) && ((c.ua == d.ua) && (c.ub == d.ub) && (c.uc == d.uc)) && (c.pk == d.pk) && (c.bt == d.bt)) := by unfold clEq; simp only [Bool.and_assoc]
 rw [hcl, show (10000 : Nat) = 9999 + 1 from rfl, run_equalIn_agg w 9999 48 _ _ hS hp]
 simp only [Program.fieldsOf, Tryz.underlying48]
 generalize ((c.ra == d.ra) && (c.rb == d.rb) && (c.rc == d.rc)) = r1 at *
 generalize ((c.la == d.la) && (c.lb == d.lb) && (c.lc == d.lc)) = r2 at *
 generalize ((c.ua == d.ua) && (c.ub == d.ub) && (c.uc == d.uc)) = r3 at *
 clear hcl
 cases g1 : (c.id == d.id)
 ·go_simp
 ·cases g2 : (c.par == d.par)
  ·go_simp
  ·cases g3 : (c.leaf == d.leaf)
   ·go_simp
   ·cases r1
    ·go_simp
    ·cases r2
     ·go_simp
     ·cases r3
      ·go_simp
      ·cases g4 : (c.pk == d.pk)
       ·go_simp
       ·cases g5 : (c.bt == d.bt) <;> go_simp
def TV (z : World) (v : Value) (f : Int → Option Cls) (L : List Int) : Prop := (v = .pointer none ∧ f = (fun _ => none) ∧ L = []) ∨ ∃ tb mb, v = .pointer (some ⟨tb, 0, none⟩) ∧ HT z tb mb f
theorem TV.below {z z' : World} {v : Value} {f : Int → Option Cls} {L : List Int} (h : TV z v f L) (hb : Below z.heap.size z z') : TV z' v f L := by
 rcases h with h | ⟨tb, mb, h1, h2⟩
 ·exact .inl h
 ·exact .inr ⟨tb, mb, h1, h2.below hb⟩
theorem tget_c {z : World} {v : Value} {f : Int → Option Cls} {L : List Int} (h : TV z v f L) {x : Int} (hx : iok x) : Calls Tryz.prog 30 #[v, .int .i64 x] z fun e z' => ∃ er : Int, e = .returned (.tuple #[.agg #[.int .i64 ((gcl (f x))).id, .int .i64 ((gcl (f x))).par, .bool ((gcl (f x))).leaf, .int .u64 ((gcl (f x))).ra, .int .u64 ((gcl (f x))).rb, .int .u64 ((gcl (f x))).rc, .int .u64 ((gcl (f x))).la, .int .u64 ((gcl (f x))).lb, .int .u64 ((gcl (f x))).lc, .int .u64 ((gcl (f x))).ua, .int .u64 ((gcl (f x))).ub, .int .u64 ((gcl (f x))).uc, .int .i64 ((gcl (f x))).pk, .int .i64 ((gcl (f x))).bt], .int .i64 er]) ∧ (er == 0) = (f x).isSome ∧ Below z.heap.size z z' := by
 rcases h with ⟨rfl, rfl, rfl⟩ | ⟨tb, mb, rfl, h⟩
 ·refine (get_nil x z).mono ?_
  rintro e z' ⟨rfl, hb⟩
  exact ⟨7, rfl, rfl, hb⟩
 ·refine (hget_c h hx).mono ?_
  rintro e z' ⟨rfl, hb⟩
  refine ⟨_, rfl, ?_, hb⟩
  cases f x <;> rfl
theorem tids_c {z : World} {v : Value} {f : Int → Option Cls} {L : List Int} (h : TV z v f L) (I : TI f L) : Calls Tryz.prog 18 #[v] z fun e z' => ∃ r, e = .returned r ∧ z'.ownsRow z.heap.size 3 1 r L.length (L.map (Value.int .i64)) ∧ Below z.heap.size z z' := by
 rcases h with ⟨rfl, rfl, rfl⟩ | ⟨tb, mb, rfl, h⟩
 ·refine (ids_nil z).mono ?_
  rintro e z' ⟨rfl, hb⟩
  exact ⟨_, rfl, World.ownsRow_nil _ _ _ _, hb⟩
 ·refine (ids_c h L I.srt I.mem (Nat.le_trans I.len (by decide)) I.iok).mono ?_
  rintro e z' ⟨r, rfl, hr, hb⟩
  exact ⟨r, rfl, hr.mono (by omega), hb⟩
def tsm (f g : Int → Option Cls) (x : Int) : Bool := match f x, g x with | some c, some d => clEq c d | _, _ => false
theorem tsm_iff {f g : Int → Option Cls} {x : Int} (h : (f x).isSome = true ∨ (g x).isSome = true) : tsm f g x = false ↔ f x ≠ g x := by
 unfold tsm
 cases hf : f x with
 | none =>
  rw [hf] at h
  cases hg : g x with
  | none => rw [hg] at h; simp at h
  | some d => simp
 | some c =>
  cases hg : g x with
  | none => simp
  | some d =>
   simp only [ne_eq, Option.some.injEq]
   rw [← clEq_iff c d]
   simp
structure Tch (f g : Int → Option Cls) (T : List Int) : Prop where
 srt : T.Pairwise (· < ·)
 mem : ∀ x, x ∈ T ↔ f x ≠ g x
theorem Tch.uniq {f g : Int → Option Cls} {A B : List Int} (h : Tch f g A) (k : Tch f g B) : A = B := tss_eq A B h.srt k.srt fun x => (h.mem x).trans (k.mem x).symm
theorem Tch.swap {f g : Int → Option Cls} {A : List Int} (h : Tch f g A) : Tch g f A := ⟨h.srt, fun x => (h.mem x).trans ⟨Ne.symm, Ne.symm⟩⟩
theorem msort_le (M : List Int) : (M.mergeSort (fun x y => decide (x ≤ y))).Pairwise (· ≤ ·) := by
 refine List.Pairwise.imp ?_ (List.pairwise_mergeSort (le := fun x y => decide ((x : Int) ≤ y)) (fun a b c h1 h2 => ?_) (fun a b => ?_) M)
 ·intro a b h; exact of_decide_eq_true h
 ·have h1 := of_decide_eq_true h1; have h2 := of_decide_eq_true h2; exact decide_eq_true (by omega)
 ·simp only [Bool.or_eq_true, decide_eq_true_eq]; omega
def unl (M : List Int) : List Int := Go.Lib.compactUpTo (M.mergeSort (fun x y => decide (x ≤ y))).toArray (M.mergeSort (fun x y => decide (x ≤ y))).toArray.size
theorem unl_ss (M : List Int) : (unl M).Pairwise (· < ·) ∧ ∀ x, x ∈ unl M ↔ x ∈ M := by
 obtain ⟨D, hD⟩ : ∃ D, M.mergeSort (fun x y => decide (x ≤ y)) = D := ⟨_, rfl⟩
 have hp : D.Perm M := by rw [← hD]; exact List.mergeSort_perm _ _
 have hs : ∀ i j, i ≤ j → j < D.toArray.size → D.toArray[i]! ≤ D.toArray[j]! := fun i j hij hj => by
  have hj' : j < D.length := by simpa using hj
  have hi' : i < D.length := by omega
  rw [getElem!_pos D.toArray j hj, getElem!_pos D.toArray i (by simpa using hi')]
  by_cases he : i = j
  ·subst he; exact Int.le_refl _
  ·have := List.pairwise_iff_getElem.1 (msort_le M)
   rw [hD] at this
   simpa using this i j hi' hj' (by omega)
 have h := tcompact_ss D.toArray hs D.toArray.size (Nat.le_refl _)
 unfold unl
 rw [hD]
 refine ⟨h.1, fun x => ?_⟩
 rw [h.2 x, ← hp.mem_iff]
 constructor
 ·rintro ⟨i, hi, rfl⟩
  rw [getElem!_pos D.toArray i hi]
  simp
 ·intro hx
  obtain ⟨i, hi, rfl⟩ := List.getElem_of_mem hx
  exact ⟨i, by simpa using hi, by rw [getElem!_pos D.toArray i (by simpa using hi)]; simp⟩
theorem unl_len (M : List Int) : (unl M).length ≤ M.length := by
 unfold unl Go.Lib.compactUpTo
 have := List.length_filter_le (Go.Lib.keeps (M.mergeSort (fun x y => decide (x ≤ y))).toArray) (List.range (M.mergeSort (fun x y => decide (x ≤ y))).toArray.size)
 simpa using this
theorem tch_of {f g : Int → Option Cls} {L M : List Int} (I : TI f L) (J : TI g M) : Tch f g ((unl (L ++ M)).filter (fun x => !tsm f g x)) := by
 have h := unl_ss (L ++ M)
 refine ⟨h.1.filter _, fun x => ?_⟩
 rw [List.mem_filter, h.2 x, List.mem_append, ← I.mem, ← J.mem]
 constructor
 ·rintro ⟨h1, h2⟩
  exact (tsm_iff h1).1 (by simpa using h2)
 ·intro hne
  have h1 : (f x).isSome = true ∨ (g x).isSome = true := by
   cases hf : f x with
   | some c => exact .inl rfl
   | none =>
    cases hg : g x with
    | some d => exact .inr rfl
    | none => rw [hf, hg] at hne; exact absurd rfl hne
  exact ⟨h1, by rw [(tsm_iff h1).2 hne]; rfl⟩
end Go.Proofs.YtffaahipgabkhaaGreat
end
