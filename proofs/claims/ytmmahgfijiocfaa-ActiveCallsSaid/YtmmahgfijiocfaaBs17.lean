/- Joined texts. -/
import Derived.Test.YtmmahgfijiocfaaBs0
import Derived.Test.YtmmahgfijiocfaaBs13
import Derived.Test.YtmmahgfijiocfaaBs16
set_option linter.unusedVariables false
set_option linter.unusedSimpArgs false
set_option maxRecDepth 100000
set_option maxHeartbeats 16000000
section
namespace Go.Proofs.Ytmmahgfijiocfaa
open Go.RowKit Fg Reg Go.Maps
attribute [local irreducible] Reg.wE VR
theorem crow_one (c : Cls) : ∀ v ∈ crow c, v.oneCell' = true := by
 intro v hv
 unfold crow at hv
 simp only [List.mem_cons, List.not_mem_nil, or_false] at hv
 rcases hv with rfl | rfl | rfl | rfl | rfl | rfl | rfl | rfl | rfl | rfl | rfl | rfl | rfl | rfl <;> rfl
theorem news_at (w : World) (cs : List Value) (t : TypeId) (b : Nat) (hb : b = w.heap.size) : ∀ (j : Nat) (u : Value), cs[j]? = some u → (w.alloc (.cells cs.toArray t)).cell? ((⟨b, 0, none⟩ : Addr).add j) = some u := by
 subst hb
 exact news_new w cs t
theorem crow_len (c : Cls) : (crow c).length = 14 := rfl
theorem clp_parts : ∃ i, Try.prog.info? 54 = some i ∧ i.zero = some (.agg #[.int .i64 0, .int .i64 0, .bool false, .int .u64 0, .int .u64 0, .int .u64 0, .int .u64 0, .int .u64 0, .int .u64 0, .int .u64 0, .int .u64 0, .int .u64 0, .int .i64 0, .int .i64 0]) ∧ i.size = 14 ∧ i.bytes = 112 := ⟨_, rfl, rfl, rfl, rfl⟩
def pst (c : Cls) (s : List Cls × Bool) (y : Cls) : List Cls × Bool :=
 let t := if s.2 = false ∧ c.id ≤ y.id then (s.1 ++ [c], true) else s
 if y.id = c.id then t else (t.1 ++ [y], t.2)
def pfin (c : Cls) (s : List Cls × Bool) : List Cls := if s.2 = true then s.1 else s.1 ++ [c]
def putX (X : List Cls) (c : Cls) : List Cls := pfin c (X.foldl (pst c) ([], false))
theorem pst_snoc (c : Cls) {X : List Cls} {k : Nat} (h : k < X.length) : (X.take (k + 1)).foldl (pst c) ([], false) = pst c ((X.take k).foldl (pst c) ([], false)) X[k] := by
 rw [take_snoc'' X k h, List.foldl_append]; rfl
theorem pst_len (c : Cls) (s : List Cls × Bool) (y : Cls) : (pst c s y).1.length ≤ s.1.length + 2 := by
 unfold pst
 split <;> split <;> simp
theorem pfold_len (c : Cls) : ∀ (X : List Cls) (s : List Cls × Bool), (X.foldl (pst c) s).1.length ≤ s.1.length + 2 * X.length
 | [], s => by simp
 | y :: X, s => by
  have h1 := pfold_len c X (pst c s y)
  have h2 := pst_len c s y
  simp only [List.foldl_cons, List.length_cons]
  omega
theorem rput_c (X : List Cls) (n : Nat) (hX : X.length = n) (hn : n ≤ 500) (x : Cls) (ao : Option Addr) (cap : Nat) (w : World) (hR : RwV crow 14 w ao X) :
  Calls Try.prog 78 #[.slice ao n cap, .agg #[.int .i64 x.id, .int .i64 x.par, .bool x.leaf, .int .u64 x.ra, .int .u64 x.rb, .int .u64 x.rc, .int .u64 x.la, .int .u64 x.lb, .int .u64 x.lc, .int .u64 x.ua, .int .u64 x.ub, .int .u64 x.uc, .int .i64 x.pk, .int .i64 x.bt]] w fun e w' => ∃ v, e = .returned v ∧ w'.ownsRow w.heap.size 54 14 v (putX X x).length ((putX X x).flatMap crow) ∧ Below w.heap.size w w' := by
 obtain ⟨ii, ci0, cz0, cz1, cz2⟩ := clp_parts
 have CI0 := Lib.hid ci0
 have CZ0 := Lib.hid cz0
 have CZ1 := Lib.hid cz1
 have CZ2 := Lib.hid cz2
 have hW0 : VR (w.alloc (.cells #[.int .i64 x.id, .int .i64 x.par, .bool x.leaf, .int .u64 x.ra, .int .u64 x.rb, .int .u64 x.rc, .int .u64 x.la, .int .u64 x.lb, .int .u64 x.lc, .int .u64 x.ua, .int .u64 x.ub, .int .u64 x.uc, .int .i64 x.pk, .int .i64 x.bt] 54)) w.heap.size 54 #[.int .i64 x.id, .int .i64 x.par, .bool x.leaf, .int .u64 x.ra, .int .u64 x.rb, .int .u64 x.rc, .int .u64 x.la, .int .u64 x.lb, .int .u64 x.lc, .int .u64 x.ua, .int .u64 x.ub, .int .u64 x.uc, .int .i64 x.pk, .int .i64 x.bt] := VR.new _ _ _
 have hB0 : Below w.heap.size w (w.alloc (.cells #[.int .i64 x.id, .int .i64 x.par, .bool x.leaf, .int .u64 x.ra, .int .u64 x.rb, .int .u64 x.rc, .int .u64 x.la, .int .u64 x.lb, .int .u64 x.lc, .int .u64 x.ua, .int .u64 x.ub, .int .u64 x.uc, .int .i64 x.pk, .int .i64 x.bt] 54)) := bub
 have HV0 := Lib.hid hW0
 have HB0 := Lib.hid hB0
 have HX := Lib.hid hX
 have HR := Lib.hid (hR.below hB0)
 have ALL := Lib.hid cl_alloc
 have INF := Lib.hid cl_info
 have ONE := Lib.hid cla_one
 obtain ⟨base, hbase⟩ : ∃ base, w.heap.size + 1 = base := ⟨_, rfl⟩
 have HBA := Lib.hid hbase
 have HRS := Lib.hid (fun (z : World) (h : Below w.heap.size w z) => hR.below h)
 clear ci0 cz0 cz1 cz2 hW0 hB0 hX hR hbase
 go_enter Try.func78, Try.ntmps78
 go_wp2_with fail
 go_loopg [5, 6, 11] n (fun k9 s5 s6 s11 wr => ∃ (k m : Nat) (oo : Option Addr) (cp : Nat) (o : List Cls) (dn : Bool), s5 = .slice oo m cp ∧ s6 = .bool dn ∧ s11 = .int .i64 k ∧ k ≤ n ∧ (X.take k).foldl (pst x) ([], false) = (o, dn) ∧ o.length = m ∧ VR wr w.heap.size 54 #[.int .i64 x.id, .int .i64 x.par, .bool x.leaf, .int .u64 x.ra, .int .u64 x.rb, .int .u64 x.rc, .int .u64 x.la, .int .u64 x.lb, .int .u64 x.lc, .int .u64 x.ua, .int .u64 x.ub, .int .u64 x.uc, .int .i64 x.pk, .int .i64 x.bt] ∧ wr.ownsRow base 54 14 (.slice oo m cp) m (o.flatMap crow) ∧ Below w.heap.size w wr ∧ base ≤ wr.heap.size ∧ n - k ≤ k9)
 case atStart => exact ⟨0, 0, none, 0, [], false, rfl, rfl, rfl, Nat.zero_le _, rfl, rfl, HV0.out, World.ownsRow_nil _ _ _ _, HB0.out, by rw [← HBA.out]; simp, by omega⟩
 case round =>
  obtain ⟨k, m, oo, cp, o, dn, rfl, rfl, rfl, hk, hfo, hm, hv, hO, hB, hbs, hk9⟩ := hrel
  have HFO := Lib.hid hfo
  have HM := Lib.hid hm
  have HV := Lib.hid hv
  have HO := Lib.hid hO
  have HB := Lib.hid hB
  have hmk : m ≤ 1000 := by
   have := pfold_len x (X.take k) ([], false)
   rw [hfo, hm] at this
   simp at this
   omega
  have g0 := hv.cell 0 rfl
  have gl := hv.lt
  by_cases hlt : k < n
  ·have hlC : k < X.length := by rw [HX.out]; exact hlt
   obtain ⟨b, of, rfl, hb, hra⟩ := (HRS.out _ hB) k hlC
   have hsn := pst_snoc x hlC
   rw [hfo] at hsn
   obtain ⟨y, hye⟩ : ∃ y, X[k] = y := ⟨_, rfl⟩
   rw [hye] at hra hsn
   have HR1 := Lib.hid (show wr.rangeAt b (of + k * 14) (#[.int .i64 y.id, .int .i64 y.par, .bool y.leaf, .int .u64 y.ra, .int .u64 y.rb, .int .u64 y.rc, .int .u64 y.la, .int .u64 y.lb, .int .u64 y.lc, .int .u64 y.ua, .int .u64 y.ub, .int .u64 y.uc, .int .i64 y.pk, .int .i64 y.bt] : Array Value).toList from hra)
   clear hfo hm hB hra hye hv hO hb
   have hbx : w.heap.size < base := by have := HBA.out; omega
   have HNP : Hid (∀ q, (Value.slice oo m cp).ownBlock = some q → base ≤ q ∧ q < wr.heap.size) := Lib.hid HO.out.lt
   cases dn with
   | true =>
    by_cases he : y.id = x.id
    ·have hs2 : pst x (o, true) y = (o, true) := by unfold pst; simp [he]
     rw [hs2] at hsn
     have HSN := Lib.hid hsn
     have q1 : (y.id != x.id) = false := by simpa using he
     have q2 : (y.id == x.id) = true := by simpa using he
     clear hs2 hsn he
     go_wp2_with (first
      | go_guarded
      | (refine wpList_var_new rfl rfl 54 #[.int .i64 0, .int .i64 0, .bool false, .int .u64 0, .int .u64 0, .int .u64 0, .int .u64 0, .int .u64 0, .int .u64 0, .int .u64 0, .int .u64 0, .int .u64 0, .int .i64 0, .int .i64 0] ALL.out rfl _ _ rfl #[.int .i64 y.id, .int .i64 y.par, .bool y.leaf, .int .u64 y.ra, .int .u64 y.rb, .int .u64 y.rc, .int .u64 y.la, .int .u64 y.lb, .int .u64 y.lc, .int .u64 y.ua, .int .u64 y.ub, .int .u64 y.uc, .int .i64 y.pk, .int .i64 y.bt] rfl rfl INF.out rfl (ONE.out _) ?_; intro w5 hs5 hb5 hv5; have e5 := hv5.cell 0 rfl; have l5 := hv5.lt; have HV5 := Lib.hid hv5; have HB5 := Lib.hid (HB.out.trans (hb5.mono HB.out.size)); have HO5 := Lib.hid (row_bel HO.out hb5); have HG5 := Lib.hid (HV.out.bel hb5); have x5 := HG5.out.cell 0 rfl; have xl5 := HG5.out.lt; clear hb5 hv5)
      | (refine wpList_part_get rfl 54 _ rfl b (of + k * 14) #[.int .i64 y.id, .int .i64 y.par, .bool y.leaf, .int .u64 y.ra, .int .u64 y.rb, .int .u64 y.rc, .int .u64 y.la, .int .u64 y.lb, .int .u64 y.lc, .int .u64 y.ua, .int .u64 y.ub, .int .u64 y.uc, .int .i64 y.pk, .int .i64 y.bt] _ HR1.out rfl Try.underlying54 rfl INF.out ?_))
     go_roundg (n - (k + 1))
     case rel => exact ⟨k + 1, m, oo, cp, o, true, rfl, rfl, by go_num, by omega, HSN.out, HM.out, HG5.out, HO5.out, HB5.out, by omega, Nat.le_refl _⟩
     case measure => omega
    ·have hs2 : pst x (o, true) y = (o ++ [y], true) := by unfold pst; simp [he]
     rw [hs2] at hsn
     have HSN := Lib.hid hsn
     have q1 : (y.id != x.id) = true := by simpa using he
     have q2 : (y.id == x.id) = false := by simpa using he
     clear hs2 hsn he
     go_wp2_with (first
      | go_guarded
      | (at_builtin; refine wpList_append_own _ rfl _ _ 26 rfl base 54 ii _ 14 112 Try.underlying26 CI0.out CZ0.out CZ1.out CZ2.out rfl (by decide) (.slice oo m cp) _ _ rfl (World.ownsRow.alloc HO5.out _) ⟨_, 0, none⟩ 1 1 (crow y) rfl rfl ?c1 ?c2 ?c3 ?c4 ?c5 ?_; (case c1 => exact news_at w5 (crow y) 54 _ (by omega)); (case c2 => exact crow_one y); (case c3 => (unfold maxLen; omega)); (case c4 => omega); (case c5 => (skip; simp; omega)); intro v2 z6 hown2 hg2 _; (have HB6 : Hid (Below w.heap.size w z6) := Lib.hid (HB5.out.trans ((Below.alloc (Below.refl _ _) HB5.out.size _).grown hg2 (by have := HB5.out.size; simp; omega) (fun q hq => Nat.le_trans (Nat.le_of_lt hbx) (HO5.out.lt q hq).1)))); (have HG6 := Lib.hid ((HG5.out.alloc _).grown2 hg2 (fun e => absurd (HO5.out.lt _ e).1 (Nat.not_le.2 hbx)))); have x6 := HG6.out.cell 0 rfl; have xl6 := HG6.out.lt; (have HZ6 : Hid (base ≤ z6.heap.size) := Lib.hid (Nat.le_trans (show base ≤ (World.alloc w5 _).heap.size by (have := HO5.out); simp; omega) hg2.size)); obtain ⟨a2, c2, rfl⟩ := row_form hown2; (have HO6 := Lib.hid hown2); clear hown2 hg2)
      | (refine wpList_var_get rfl 54 _ rfl wr.heap.size #[.int .i64 y.id, .int .i64 y.par, .bool y.leaf, .int .u64 y.ra, .int .u64 y.rb, .int .u64 y.rc, .int .u64 y.la, .int .u64 y.lb, .int .u64 y.lc, .int .u64 y.ua, .int .u64 y.ub, .int .u64 y.uc, .int .i64 y.pk, .int .i64 y.bt] _ HV5.out rfl Try.underlying54 rfl INF.out ?_)
      | (refine wpList_var_new rfl rfl 54 #[.int .i64 0, .int .i64 0, .bool false, .int .u64 0, .int .u64 0, .int .u64 0, .int .u64 0, .int .u64 0, .int .u64 0, .int .u64 0, .int .u64 0, .int .u64 0, .int .i64 0, .int .i64 0] ALL.out rfl _ _ rfl #[.int .i64 y.id, .int .i64 y.par, .bool y.leaf, .int .u64 y.ra, .int .u64 y.rb, .int .u64 y.rc, .int .u64 y.la, .int .u64 y.lb, .int .u64 y.lc, .int .u64 y.ua, .int .u64 y.ub, .int .u64 y.uc, .int .i64 y.pk, .int .i64 y.bt] rfl rfl INF.out rfl (ONE.out _) ?_; intro w5 hs5 hb5 hv5; have e5 := hv5.cell 0 rfl; have l5 := hv5.lt; have HV5 := Lib.hid hv5; have HB5 := Lib.hid (HB.out.trans (hb5.mono HB.out.size)); have HO5 := Lib.hid (row_bel HO.out hb5); have HG5 := Lib.hid (HV.out.bel hb5); have x5 := HG5.out.cell 0 rfl; have xl5 := HG5.out.lt; clear hb5 hv5)
      | (refine wpList_part_get rfl 54 _ rfl b (of + k * 14) #[.int .i64 y.id, .int .i64 y.par, .bool y.leaf, .int .u64 y.ra, .int .u64 y.rb, .int .u64 y.rc, .int .u64 y.la, .int .u64 y.lb, .int .u64 y.lc, .int .u64 y.ua, .int .u64 y.ub, .int .u64 y.uc, .int .i64 y.pk, .int .i64 y.bt] _ HR1.out rfl Try.underlying54 rfl INF.out ?_))
     go_roundg (n - (k + 1))
     case rel => exact ⟨k + 1, m + 1, a2, c2, o ++ [y], true, rfl, rfl, by go_num, by omega, HSN.out, by rw [List.length_append, HM.out]; rfl, HG6.out, by rw [List.flatMap_append, List.flatMap_singleton]; exact HO6.out, HB6.out, by have := HB6.out.size; have := HZ6.out; omega, Nat.le_refl _⟩
     case measure => omega
   | false =>
    by_cases hle : x.id ≤ y.id
    ·have q3 : decide (x.id ≤ y.id) = true := decide_eq_true hle
     by_cases he : y.id = x.id
     ·have hs2 : pst x (o, false) y = (o ++ [x], true) := by unfold pst; simp [he]
      rw [hs2] at hsn
      have HSN := Lib.hid hsn
      have q1 : (y.id != x.id) = false := by simpa using he
      have q2 : (y.id == x.id) = true := by simpa using he
      clear hs2 hsn he hle
      go_wp2_with (first
       | go_guarded
       | (at_builtin; refine wpList_append_own _ rfl _ _ 26 rfl base 54 ii _ 14 112 Try.underlying26 CI0.out CZ0.out CZ1.out CZ2.out rfl (by decide) (.slice oo m cp) _ _ rfl (World.ownsRow.alloc HO5.out _) ⟨_, 0, none⟩ 1 1 (crow x) rfl rfl ?c1 ?c2 ?c3 ?c4 ?c5 ?_; (case c1 => exact news_at w5 (crow x) 54 _ (by omega)); (case c2 => exact crow_one x); (case c3 => (unfold maxLen; omega)); (case c4 => omega); (case c5 => (skip; simp; omega)); intro v2 z6 hown2 hg2 _; (have HB6 : Hid (Below w.heap.size w z6) := Lib.hid (HB5.out.trans ((Below.alloc (Below.refl _ _) HB5.out.size _).grown hg2 (by have := HB5.out.size; simp; omega) (fun q hq => Nat.le_trans (Nat.le_of_lt hbx) (HO5.out.lt q hq).1)))); (have HG6 := Lib.hid ((HG5.out.alloc _).grown2 hg2 (fun e => absurd (HO5.out.lt _ e).1 (Nat.not_le.2 hbx)))); have x6 := HG6.out.cell 0 rfl; have xl6 := HG6.out.lt; (have HZ6 : Hid (base ≤ z6.heap.size) := Lib.hid (Nat.le_trans (show base ≤ (World.alloc w5 _).heap.size by (have := HO5.out); simp; omega) hg2.size)); (have HY6 := Lib.hid ((HV5.out.alloc _).grown2 hg2 (fun e => absurd (HNP.out _ e).2 (Nat.lt_irrefl _)))); have y6 := HY6.out.cell 0 rfl; have yl6 := HY6.out.lt; obtain ⟨a2, c2, rfl⟩ := row_form hown2; (have HO6 := Lib.hid hown2); (have mk6 := HO6); clear hown2 hg2)
       | (refine wpList_var_get rfl 54 _ rfl w.heap.size #[.int .i64 x.id, .int .i64 x.par, .bool x.leaf, .int .u64 x.ra, .int .u64 x.rb, .int .u64 x.rc, .int .u64 x.la, .int .u64 x.lb, .int .u64 x.lc, .int .u64 x.ua, .int .u64 x.ub, .int .u64 x.uc, .int .i64 x.pk, .int .i64 x.bt] _ HG5.out rfl Try.underlying54 rfl INF.out ?_)
       | (refine wpList_var_new rfl rfl 54 #[.int .i64 0, .int .i64 0, .bool false, .int .u64 0, .int .u64 0, .int .u64 0, .int .u64 0, .int .u64 0, .int .u64 0, .int .u64 0, .int .u64 0, .int .u64 0, .int .i64 0, .int .i64 0] ALL.out rfl _ _ rfl #[.int .i64 y.id, .int .i64 y.par, .bool y.leaf, .int .u64 y.ra, .int .u64 y.rb, .int .u64 y.rc, .int .u64 y.la, .int .u64 y.lb, .int .u64 y.lc, .int .u64 y.ua, .int .u64 y.ub, .int .u64 y.uc, .int .i64 y.pk, .int .i64 y.bt] rfl rfl INF.out rfl (ONE.out _) ?_; intro w5 hs5 hb5 hv5; have e5 := hv5.cell 0 rfl; have l5 := hv5.lt; have HV5 := Lib.hid hv5; have HB5 := Lib.hid (HB.out.trans (hb5.mono HB.out.size)); have HO5 := Lib.hid (row_bel HO.out hb5); have HG5 := Lib.hid (HV.out.bel hb5); have x5 := HG5.out.cell 0 rfl; have xl5 := HG5.out.lt; clear hb5 hv5)
       | (refine wpList_part_get rfl 54 _ rfl b (of + k * 14) #[.int .i64 y.id, .int .i64 y.par, .bool y.leaf, .int .u64 y.ra, .int .u64 y.rb, .int .u64 y.rc, .int .u64 y.la, .int .u64 y.lb, .int .u64 y.lc, .int .u64 y.ua, .int .u64 y.ub, .int .u64 y.uc, .int .i64 y.pk, .int .i64 y.bt] _ HR1.out rfl Try.underlying54 rfl INF.out ?_))
      go_roundg (n - (k + 1))
      case rel => exact ⟨k + 1, m + 1, a2, c2, o ++ [x], true, rfl, rfl, by go_num, by omega, HSN.out, by rw [List.length_append, HM.out]; rfl, HG6.out, by rw [List.flatMap_append, List.flatMap_singleton]; exact HO6.out, HB6.out, by have := HB6.out.size; have := HZ6.out; omega, Nat.le_refl _⟩
      case measure => omega
     ·have hs2 : pst x (o, false) y = (o ++ [x] ++ [y], true) := by unfold pst; simp [he, hle]
      rw [hs2] at hsn
      have HSN := Lib.hid hsn
      have q1 : (y.id != x.id) = true := by simpa using he
      have q2 : (y.id == x.id) = false := by simpa using he
      clear hs2 hsn he hle
      go_wp2_with (first
       | go_guarded
       | (have mk7 := HY6; at_builtin; refine wpList_append_own _ rfl _ _ 26 rfl base 54 ii _ 14 112 Try.underlying26 CI0.out CZ0.out CZ1.out CZ2.out rfl (by decide) (.slice a2 (m + 1) c2) _ _ rfl (World.ownsRow.alloc HO6.out _) ⟨_, 0, none⟩ 1 1 (crow y) rfl rfl ?c1 ?c2 ?c3 ?c4 ?c5 ?_; (case c1 => exact news_at z6 (crow y) 54 _ (by omega)); (case c2 => exact crow_one y); (case c3 => (unfold maxLen; omega)); (case c4 => omega); (case c5 => ((have := HZ6.out); simp; omega)); intro v2 z7 hown2 hg2 _; (have HB7 : Hid (Below w.heap.size w z7) := Lib.hid (HB6.out.trans ((Below.alloc (Below.refl _ _) HB6.out.size _).grown hg2 (by have := HB6.out.size; simp; omega) (fun q hq => Nat.le_trans (Nat.le_of_lt hbx) (HO6.out.lt q hq).1)))); (have HG7 := Lib.hid ((HG6.out.alloc _).grown2 hg2 (fun e => absurd (HO6.out.lt _ e).1 (Nat.not_le.2 hbx)))); have x7 := HG7.out.cell 0 rfl; have xl7 := HG7.out.lt; (have HZ7 : Hid (base ≤ z7.heap.size) := Lib.hid (Nat.le_trans (show base ≤ (World.alloc z6 _).heap.size by (have := HO6.out); simp; omega) hg2.size)); obtain ⟨a3, c3, rfl⟩ := row_form hown2; (have HO7 := Lib.hid hown2); clear hown2 hg2)
       | (refine wpList_var_get rfl 54 _ rfl wr.heap.size #[.int .i64 y.id, .int .i64 y.par, .bool y.leaf, .int .u64 y.ra, .int .u64 y.rb, .int .u64 y.rc, .int .u64 y.la, .int .u64 y.lb, .int .u64 y.lc, .int .u64 y.ua, .int .u64 y.ub, .int .u64 y.uc, .int .i64 y.pk, .int .i64 y.bt] _ HY6.out rfl Try.underlying54 rfl INF.out ?_)
       | (at_builtin; refine wpList_append_own _ rfl _ _ 26 rfl base 54 ii _ 14 112 Try.underlying26 CI0.out CZ0.out CZ1.out CZ2.out rfl (by decide) (.slice oo m cp) _ _ rfl (World.ownsRow.alloc HO5.out _) ⟨_, 0, none⟩ 1 1 (crow x) rfl rfl ?c1 ?c2 ?c3 ?c4 ?c5 ?_; (case c1 => exact news_at w5 (crow x) 54 _ (by omega)); (case c2 => exact crow_one x); (case c3 => (unfold maxLen; omega)); (case c4 => omega); (case c5 => (skip; simp; omega)); intro v2 z6 hown2 hg2 _; (have HB6 : Hid (Below w.heap.size w z6) := Lib.hid (HB5.out.trans ((Below.alloc (Below.refl _ _) HB5.out.size _).grown hg2 (by have := HB5.out.size; simp; omega) (fun q hq => Nat.le_trans (Nat.le_of_lt hbx) (HO5.out.lt q hq).1)))); (have HG6 := Lib.hid ((HG5.out.alloc _).grown2 hg2 (fun e => absurd (HO5.out.lt _ e).1 (Nat.not_le.2 hbx)))); have x6 := HG6.out.cell 0 rfl; have xl6 := HG6.out.lt; (have HZ6 : Hid (base ≤ z6.heap.size) := Lib.hid (Nat.le_trans (show base ≤ (World.alloc w5 _).heap.size by (have := HO5.out); simp; omega) hg2.size)); (have HY6 := Lib.hid ((HV5.out.alloc _).grown2 hg2 (fun e => absurd (HNP.out _ e).2 (Nat.lt_irrefl _)))); have y6 := HY6.out.cell 0 rfl; have yl6 := HY6.out.lt; obtain ⟨a2, c2, rfl⟩ := row_form hown2; (have HO6 := Lib.hid hown2); (have mk6 := HO6); clear hown2 hg2)
       | (refine wpList_var_get rfl 54 _ rfl w.heap.size #[.int .i64 x.id, .int .i64 x.par, .bool x.leaf, .int .u64 x.ra, .int .u64 x.rb, .int .u64 x.rc, .int .u64 x.la, .int .u64 x.lb, .int .u64 x.lc, .int .u64 x.ua, .int .u64 x.ub, .int .u64 x.uc, .int .i64 x.pk, .int .i64 x.bt] _ HG5.out rfl Try.underlying54 rfl INF.out ?_)
       | (refine wpList_var_new rfl rfl 54 #[.int .i64 0, .int .i64 0, .bool false, .int .u64 0, .int .u64 0, .int .u64 0, .int .u64 0, .int .u64 0, .int .u64 0, .int .u64 0, .int .u64 0, .int .u64 0, .int .i64 0, .int .i64 0] ALL.out rfl _ _ rfl #[.int .i64 y.id, .int .i64 y.par, .bool y.leaf, .int .u64 y.ra, .int .u64 y.rb, .int .u64 y.rc, .int .u64 y.la, .int .u64 y.lb, .int .u64 y.lc, .int .u64 y.ua, .int .u64 y.ub, .int .u64 y.uc, .int .i64 y.pk, .int .i64 y.bt] rfl rfl INF.out rfl (ONE.out _) ?_; intro w5 hs5 hb5 hv5; have e5 := hv5.cell 0 rfl; have l5 := hv5.lt; have HV5 := Lib.hid hv5; have HB5 := Lib.hid (HB.out.trans (hb5.mono HB.out.size)); have HO5 := Lib.hid (row_bel HO.out hb5); have HG5 := Lib.hid (HV.out.bel hb5); have x5 := HG5.out.cell 0 rfl; have xl5 := HG5.out.lt; clear hb5 hv5)
       | (refine wpList_part_get rfl 54 _ rfl b (of + k * 14) #[.int .i64 y.id, .int .i64 y.par, .bool y.leaf, .int .u64 y.ra, .int .u64 y.rb, .int .u64 y.rc, .int .u64 y.la, .int .u64 y.lb, .int .u64 y.lc, .int .u64 y.ua, .int .u64 y.ub, .int .u64 y.uc, .int .i64 y.pk, .int .i64 y.bt] _ HR1.out rfl Try.underlying54 rfl INF.out ?_))
      go_roundg (n - (k + 1))
      case rel => exact ⟨k + 1, m + 1 + 1, a3, c3, o ++ [x] ++ [y], true, rfl, rfl, by go_num, by omega, HSN.out, by rw [List.length_append, List.length_append, HM.out]; rfl, HG7.out, by rw [List.flatMap_append, List.flatMap_append, List.flatMap_singleton, List.flatMap_singleton]; exact HO7.out, HB7.out, by have := HZ7.out; omega, Nat.le_refl _⟩
      case measure => omega
    ·have q3 : decide (x.id ≤ y.id) = false := decide_eq_false hle
     have he : ¬ y.id = x.id := by omega
     have hs2 : pst x (o, false) y = (o ++ [y], false) := by unfold pst; simp [he, hle]
     rw [hs2] at hsn
     have HSN := Lib.hid hsn
     have q1 : (y.id != x.id) = true := by simpa using he
     have q2 : (y.id == x.id) = false := by simpa using he
     clear hs2 hsn he hle
     go_wp2_with (first
      | go_guarded
      | (at_builtin; refine wpList_append_own _ rfl _ _ 26 rfl base 54 ii _ 14 112 Try.underlying26 CI0.out CZ0.out CZ1.out CZ2.out rfl (by decide) (.slice oo m cp) _ _ rfl (World.ownsRow.alloc HO5.out _) ⟨_, 0, none⟩ 1 1 (crow y) rfl rfl ?c1 ?c2 ?c3 ?c4 ?c5 ?_; (case c1 => exact news_at w5 (crow y) 54 _ (by omega)); (case c2 => exact crow_one y); (case c3 => (unfold maxLen; omega)); (case c4 => omega); (case c5 => (skip; simp; omega)); intro v2 z6 hown2 hg2 _; (have HB6 : Hid (Below w.heap.size w z6) := Lib.hid (HB5.out.trans ((Below.alloc (Below.refl _ _) HB5.out.size _).grown hg2 (by have := HB5.out.size; simp; omega) (fun q hq => Nat.le_trans (Nat.le_of_lt hbx) (HO5.out.lt q hq).1)))); (have HG6 := Lib.hid ((HG5.out.alloc _).grown2 hg2 (fun e => absurd (HO5.out.lt _ e).1 (Nat.not_le.2 hbx)))); have x6 := HG6.out.cell 0 rfl; have xl6 := HG6.out.lt; (have HZ6 : Hid (base ≤ z6.heap.size) := Lib.hid (Nat.le_trans (show base ≤ (World.alloc w5 _).heap.size by (have := HO5.out); simp; omega) hg2.size)); obtain ⟨a2, c2, rfl⟩ := row_form hown2; (have HO6 := Lib.hid hown2); clear hown2 hg2)
      | (refine wpList_var_get rfl 54 _ rfl wr.heap.size #[.int .i64 y.id, .int .i64 y.par, .bool y.leaf, .int .u64 y.ra, .int .u64 y.rb, .int .u64 y.rc, .int .u64 y.la, .int .u64 y.lb, .int .u64 y.lc, .int .u64 y.ua, .int .u64 y.ub, .int .u64 y.uc, .int .i64 y.pk, .int .i64 y.bt] _ HV5.out rfl Try.underlying54 rfl INF.out ?_)
      | (refine wpList_var_new rfl rfl 54 #[.int .i64 0, .int .i64 0, .bool false, .int .u64 0, .int .u64 0, .int .u64 0, .int .u64 0, .int .u64 0, .int .u64 0, .int .u64 0, .int .u64 0, .int .u64 0, .int .i64 0, .int .i64 0] ALL.out rfl _ _ rfl #[.int .i64 y.id, .int .i64 y.par, .bool y.leaf, .int .u64 y.ra, .int .u64 y.rb, .int .u64 y.rc, .int .u64 y.la, .int .u64 y.lb, .int .u64 y.lc, .int .u64 y.ua, .int .u64 y.ub, .int .u64 y.uc, .int .i64 y.pk, .int .i64 y.bt] rfl rfl INF.out rfl (ONE.out _) ?_; intro w5 hs5 hb5 hv5; have e5 := hv5.cell 0 rfl; have l5 := hv5.lt; have HV5 := Lib.hid hv5; have HB5 := Lib.hid (HB.out.trans (hb5.mono HB.out.size)); have HO5 := Lib.hid (row_bel HO.out hb5); have HG5 := Lib.hid (HV.out.bel hb5); have x5 := HG5.out.cell 0 rfl; have xl5 := HG5.out.lt; clear hb5 hv5)
      | (refine wpList_part_get rfl 54 _ rfl b (of + k * 14) #[.int .i64 y.id, .int .i64 y.par, .bool y.leaf, .int .u64 y.ra, .int .u64 y.rb, .int .u64 y.rc, .int .u64 y.la, .int .u64 y.lb, .int .u64 y.lc, .int .u64 y.ua, .int .u64 y.ub, .int .u64 y.uc, .int .i64 y.pk, .int .i64 y.bt] _ HR1.out rfl Try.underlying54 rfl INF.out ?_))
     go_roundg (n - (k + 1))
     case rel => exact ⟨k + 1, m + 1, a2, c2, o ++ [y], false, rfl, rfl, by go_num, by omega, HSN.out, by rw [List.length_append, HM.out]; rfl, HG6.out, by rw [List.flatMap_append, List.flatMap_singleton]; exact HO6.out, HB6.out, by have := HB6.out.size; have := HZ6.out; omega, Nat.le_refl _⟩
     case measure => omega
  ·obtain rfl : k = n := by omega
   have hX2 : X.take k = X := by rw [← HX.out, List.take_length]
   rw [hX2] at hfo
   have hbx : w.heap.size < base := by have := HBA.out; omega
   cases dn with
   | true =>
    have hp : putX X x = o := by unfold putX; rw [hfo]; rfl
    have HP := Lib.hid hp
    clear hB hm hO hlt hX2 hfo hp hv
    go_wp2_with (first | go_guarded)
    go_ret
    exact ⟨_, rfl, by rw [HP.out, HM.out]; exact HO.out.mono (by omega), HB.out⟩
   | false =>
    have hp : putX X x = o ++ [x] := by unfold putX; rw [hfo]; rfl
    have HP := Lib.hid hp
    have HG5 := HV
    have HO5 := HO
    have HB5 := HB
    have HNP : Hid (∀ q, (Value.slice oo m cp).ownBlock = some q → base ≤ q ∧ q < wr.heap.size) := Lib.hid HO.out.lt
    clear hB hm hO hlt hX2 hfo hp hv
    go_wp2_with (first
     | go_guarded
     | (at_builtin; refine wpList_append_own _ rfl _ _ 26 rfl base 54 ii _ 14 112 Try.underlying26 CI0.out CZ0.out CZ1.out CZ2.out rfl (by decide) (.slice oo m cp) _ _ rfl (World.ownsRow.alloc HO5.out _) ⟨_, 0, none⟩ 1 1 (crow x) rfl rfl ?c1 ?c2 ?c3 ?c4 ?c5 ?_; (case c1 => exact news_at wr (crow x) 54 _ (by omega)); (case c2 => exact crow_one x); (case c3 => (unfold maxLen; omega)); (case c4 => omega); (case c5 => (skip; simp; omega)); intro v2 z6 hown2 hg2 _; (have HB6 : Hid (Below w.heap.size w z6) := Lib.hid (HB5.out.trans ((Below.alloc (Below.refl _ _) HB5.out.size _).grown hg2 (by have := HB5.out.size; simp; omega) (fun q hq => Nat.le_trans (Nat.le_of_lt hbx) (HO5.out.lt q hq).1)))); (have HG6 := Lib.hid ((HG5.out.alloc _).grown2 hg2 (fun e => absurd (HO5.out.lt _ e).1 (Nat.not_le.2 hbx)))); have x6 := HG6.out.cell 0 rfl; have xl6 := HG6.out.lt; (have HZ6 : Hid (base ≤ z6.heap.size) := Lib.hid (Nat.le_trans (show base ≤ (World.alloc wr _).heap.size by (have := HO5.out); simp; omega) hg2.size)); obtain ⟨a2, c2, rfl⟩ := row_form hown2; (have HO6 := Lib.hid hown2); clear hown2 hg2)
     | (refine wpList_var_get rfl 54 _ rfl w.heap.size #[.int .i64 x.id, .int .i64 x.par, .bool x.leaf, .int .u64 x.ra, .int .u64 x.rb, .int .u64 x.rc, .int .u64 x.la, .int .u64 x.lb, .int .u64 x.lc, .int .u64 x.ua, .int .u64 x.ub, .int .u64 x.uc, .int .i64 x.pk, .int .i64 x.bt] _ HG5.out rfl Try.underlying54 rfl INF.out ?_))
    go_ret
    exact ⟨_, rfl, by rw [HP.out, List.length_append, HM.out, List.flatMap_append, List.flatMap_singleton]; exact HO6.out.mono (by omega), HB6.out⟩
end Go.Proofs.Ytmmahgfijiocfaa
end
