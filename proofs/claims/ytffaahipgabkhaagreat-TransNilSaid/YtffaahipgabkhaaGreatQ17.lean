/- Joined texts. -/
import Derived.Test.YtffaahipgabkhaaGreatQ2
import Derived.Test.YtffaahipgabkhaaGreatQ3
import Derived.Test.YtffaahipgabkhaaGreatQ6
import Derived.Test.YtffaahipgabkhaaGreatQ15
import Derived.Test.YtffaahipgabkhaaGreatQ16
import Derived.Deep.MidRow
import Derived.Deep.WholeRow
section
namespace Go.Proofs.YtffaahipgabkhaaGreat
set_option linter.unusedVariables false
set_option linter.unusedSimpArgs false
set_option maxRecDepth 100000
open Go.RowKit Fg Reg Go.Maps
attribute [local irreducible] Reg.wE VR
def clz : Cls := ⟨0, 0, false, 0, 0, 0, 0, 0, 0, 0, 0, 0, 0, 0⟩
def gcl (o : Option Cls) : Cls := match o with | some c => c | none => clz
def ger (o : Option Cls) : Int := match o with | some _ => 0 | none => 6
theorem hget_c {w : World} {tb mb : Nat} {f : Int → Option Cls} (h : HT w tb mb f) {i : Int} (hi : iok i) : Calls Tryz.prog 30 #[.pointer (some ⟨tb, 0, none⟩), .int .i64 i] w fun ee w' => ee = .returned (.tuple #[.agg #[.int .i64 ((gcl (f i))).id, .int .i64 ((gcl (f i))).par, .bool ((gcl (f i))).leaf, .int .u64 ((gcl (f i))).ra, .int .u64 ((gcl (f i))).rb, .int .u64 ((gcl (f i))).rc, .int .u64 ((gcl (f i))).la, .int .u64 ((gcl (f i))).lb, .int .u64 ((gcl (f i))).lc, .int .u64 ((gcl (f i))).ua, .int .u64 ((gcl (f i))).ub, .int .u64 ((gcl (f i))).uc, .int .i64 ((gcl (f i))).pk, .int .i64 ((gcl (f i))).bt], .int .i64 (ger (f i))]) ∧ Below w.heap.size w w' := by
  cases hc : f i with
  | none => exact hget_n h hi hc
  | some c => exact hget_y h hi hc
theorem cl_info : (Tryz.prog.info? 48).map (·.size) = some 14 := by kernel_rfl
theorem cla_one (c : Cls) : (#[.int .i64 (c).id, .int .i64 (c).par, .bool (c).leaf, .int .u64 (c).ra, .int .u64 (c).rb, .int .u64 (c).rc, .int .u64 (c).la, .int .u64 (c).lb, .int .u64 (c).lc, .int .u64 (c).ua, .int .u64 (c).ub, .int .u64 (c).uc, .int .i64 (c).pk, .int .i64 (c).bt] : Array Value).all (·.oneCell') = true := by kernel_rfl
theorem cl_alloc (w : World) : (Instr.alloc 48 true (.tuple #[])).run Tryz.prog w = .ok (.pointer (some ⟨w.heap.size, 0, none⟩)) (w.alloc (.cells #[.int .i64 0, .int .i64 0, .bool false, .int .u64 0, .int .u64 0, .int .u64 0, .int .u64 0, .int .u64 0, .int .u64 0, .int .u64 0, .int .u64 0, .int .u64 0, .int .i64 0, .int .i64 0] 48)) := by kernel_rfl
def upl (f : Int → Option Cls) : Nat → Int → List Int
  | 0, _ => []
  | n + 1, i => match f i with | none => [] | some c => i :: upl f n c.par
def fin (f : Int → Option Cls) : Nat → Int → Bool
  | 0, i => (f i).isNone
  | n + 1, i => match f i with | none => true | some c => fin f n c.par
theorem upl_none {f : Int → Option Cls} {i : Int} (h : f i = none) (n : Nat) : upl f n i = [] := by cases n <;> simp [upl, h]
theorem upl_some {f : Int → Option Cls} {i : Int} {c : Cls} (h : f i = some c) (n : Nat) : upl f (n + 1) i = i :: upl f n c.par := by simp [upl, h]
theorem fin_some {f : Int → Option Cls} {i : Int} {c : Cls} (h : f i = some c) (n : Nat) : fin f (n + 1) i = fin f n c.par := by simp [fin, h]
theorem upl_len (f : Int → Option Cls) : ∀ (n : Nat) (i : Int), (upl f n i).length ≤ n
  | 0, _ => Nat.le_refl _
  | n + 1, i => by
    unfold upl
    split
    · exact Nat.zero_le _
    · have := upl_len f n; simp only [List.length_cons]; exact Nat.succ_le_succ (this _)
set_option maxHeartbeats 8000000 in
theorem hup_c {w : World} {tb mb : Nat} {f : Int → Option Cls} (h : HT w tb mb f) (hok : ∀ x c, f x = some c → c.id = x ∧ iok c.par) (N : Nat) (hN : N ≤ 1000) (num : Int) (hid : iok num) (hf : fin f N num = true) :
    Calls Tryz.prog 71 #[.pointer (some ⟨tb, 0, none⟩), .int .i64 num] w fun e w' => ∃ v, e = .returned v ∧ w'.ownsRow w.heap.size 3 1 v (upl f N num).length ((upl f N num).map (Value.int .i64)) ∧ Below w.heap.size w w' := by
  obtain ⟨ii, ci0, cz0, cz1, cz2⟩ := int_partsH
  have CI0 := Lib.hid ci0
  have CZ0 := Lib.hid cz0
  have CZ1 := Lib.hid cz1
  have CZ2 := Lib.hid cz2
  have KG := Lib.hid (fun (z : World) (hz : HT z tb mb f) (i : Int) (hi : iok i) => hget_c hz hi)
  have H := Lib.hid h
  have HL := Lib.hid h.lt
  have HOK := Lib.hid hok
  have HID := Lib.hid hid
  have HF := Lib.hid hf
  have ALL := Lib.hid cl_alloc
  have INF := Lib.hid cl_info
  have ONE := Lib.hid cla_one
  clear h hok hid hf ci0 cz0 cz1 cz2
  go_enter Tryz.func71, Tryz.ntmps71
  go_wp2_with (first
    | go_guarded
    | (refine wpList_var_new rfl rfl 48 #[.int .i64 0, .int .i64 0, .bool false, .int .u64 0, .int .u64 0, .int .u64 0, .int .u64 0, .int .u64 0, .int .u64 0, .int .u64 0, .int .u64 0, .int .u64 0, .int .i64 0, .int .i64 0] ALL.out rfl _ _ rfl #[.int .i64 ((gcl (f num))).id, .int .i64 ((gcl (f num))).par, .bool ((gcl (f num))).leaf, .int .u64 ((gcl (f num))).ra, .int .u64 ((gcl (f num))).rb, .int .u64 ((gcl (f num))).rc, .int .u64 ((gcl (f num))).la, .int .u64 ((gcl (f num))).lb, .int .u64 ((gcl (f num))).lc, .int .u64 ((gcl (f num))).ua, .int .u64 ((gcl (f num))).ub, .int .u64 ((gcl (f num))).uc, .int .i64 ((gcl (f num))).pk, .int .i64 ((gcl (f num))).bt] rfl rfl INF.out rfl (ONE.out _) ?_; intro w2 hs2 hb2 hv2; have HV2 := Lib.hid hv2; have HB2 := Lib.hid (HB1.out.trans (hb2.mono HB1.out.size)); clear hb2 hv2)
    | (go_at_call 30; (with_reducible refine (KG.out _ H.out _ HID.out).mono ?_); rintro _ w1 ⟨rfl, hbel⟩; have HB1 := Lib.hid hbel; clear hbel))
  try go_frame
  go_loopg [5, 6, 7] N (fun k9 s5 s6 s7 wr => ∃ (i : Int) (done : List Int) (n m : Nat) (ao : Option Addr) (c p : Nat), s5 = .slice ao m c ∧ s6 = .pointer (some ⟨p, 0, none⟩) ∧ s7 = .int .i64 (ger (f i)) ∧ done.length = m ∧ upl f N num = done ++ upl f n i ∧ m + n = N ∧ fin f n i = true ∧ iok i ∧ VR wr p 48 #[.int .i64 ((gcl (f i))).id, .int .i64 ((gcl (f i))).par, .bool ((gcl (f i))).leaf, .int .u64 ((gcl (f i))).ra, .int .u64 ((gcl (f i))).rb, .int .u64 ((gcl (f i))).rc, .int .u64 ((gcl (f i))).la, .int .u64 ((gcl (f i))).lb, .int .u64 ((gcl (f i))).lc, .int .u64 ((gcl (f i))).ua, .int .u64 ((gcl (f i))).ub, .int .u64 ((gcl (f i))).uc, .int .i64 ((gcl (f i))).pk, .int .i64 ((gcl (f i))).bt] ∧ wr.ownsRow w.heap.size 3 1 (.slice ao m c) m (done.map (Value.int .i64)) ∧ w.heap.size ≤ p ∧ Below w.heap.size w wr ∧ n ≤ k9)
  case atStart => exact ⟨num, [], N, 0, none, 0, _, rfl, rfl, rfl, rfl, rfl, by omega, HF.out, HID.out, HV2.out, World.ownsRow_nil _ _ _ _, HB1.out.size, HB2.out, Nat.le_refl _⟩
  case round =>
    obtain ⟨i, done, n, m, ao, c, p, rfl, rfl, rfl, hm, hup, hmn, hfi, hi, hv, hO, hp, hB, hk⟩ := hrel
    have HM := Lib.hid hm
    have HUP := Lib.hid hup
    have HFI := Lib.hid hfi
    have HI := Lib.hid hi
    have HV := Lib.hid hv
    have HO := Lib.hid hO
    have HB := Lib.hid hB
    have hT : HT wr tb mb f := H.out.below hB
    have HT0 := Lib.hid hT
    clear hm hup hfi hi hO hB hT
    cases hc : f i with
    | none =>
      have hu := upl_none hc n
      have HU : Hid (upl f N num = done) := Lib.hid (by rw [HUP.out, hu, List.append_nil])
      have e1 : (gcl (none : Option Cls)) = clz := rfl
      have e2 : (ger (none : Option Cls)) = 6 := rfl
      rw [hc] at hv
      clear hu hv
      rw [e2]
      go_wp2_with (first | go_guarded)
      go_ret
      exact ⟨_, rfl, by rw [HU.out, HM.out]; exact HO.out, HB.out⟩
    | some cc =>
      have e1 : (gcl (some cc)) = cc := rfl
      have e2 : (ger (some cc)) = 0 := rfl
      have hcid := (HOK.out i cc hc).1
      have HPAR := Lib.hid (HOK.out i cc hc).2
      cases n with
      | zero => have h0 := HFI.out; unfold fin at h0; rw [hc] at h0; cases h0
      | succ n =>
        have hf1 := HFI.out
        rw [fin_some hc] at hf1
        have HF1 : Hid (fin f n cc.par = true) := Lib.hid hf1
        have hu1 := HUP.out
        rw [upl_some hc] at hu1
        have HU1 : Hid (upl f N num = (done ++ [cc.id]) ++ upl f n cc.par) := Lib.hid (by rw [hu1, hcid]; simp)
        have hv0 : VR wr p 48 #[.int .i64 (cc).id, .int .i64 (cc).par, .bool (cc).leaf, .int .u64 (cc).ra, .int .u64 (cc).rb, .int .u64 (cc).rc, .int .u64 (cc).la, .int .u64 (cc).lb, .int .u64 (cc).lc, .int .u64 (cc).ua, .int .u64 (cc).ub, .int .u64 (cc).uc, .int .i64 (cc).pk, .int .i64 (cc).bt] := by have := HV.out; rw [hc] at this; exact this
        have HV0 := Lib.hid hv0
        have HD1 : Hid ((done ++ [cc.id]).length = m + 1) := Lib.hid (by rw [List.length_append, HM.out]; rfl)
        have cid : wr.cell? ⟨p, 0, none⟩ = some (.int .i64 cc.id) := hv0.cell 0 rfl
        have hpl := hv0.lt
        have hmN : m ≤ 1000 := by omega
        rw [e2]
        clear hu1 hf1 hv hv0 e1 e2 hcid HV
        go_wp2_with (first
          | go_guarded
          | (refine wpList_var_set rfl 48 _ _ rfl _ #[.int .i64 (cc).id, .int .i64 (cc).par, .bool (cc).leaf, .int .u64 (cc).ra, .int .u64 (cc).rb, .int .u64 (cc).rc, .int .u64 (cc).la, .int .u64 (cc).lb, .int .u64 (cc).lc, .int .u64 (cc).ua, .int .u64 (cc).ub, .int .u64 (cc).uc, .int .i64 (cc).pk, .int .i64 (cc).bt] #[.int .i64 ((gcl (f cc.par))).id, .int .i64 ((gcl (f cc.par))).par, .bool ((gcl (f cc.par))).leaf, .int .u64 ((gcl (f cc.par))).ra, .int .u64 ((gcl (f cc.par))).rb, .int .u64 ((gcl (f cc.par))).rc, .int .u64 ((gcl (f cc.par))).la, .int .u64 ((gcl (f cc.par))).lb, .int .u64 ((gcl (f cc.par))).lc, .int .u64 ((gcl (f cc.par))).ua, .int .u64 ((gcl (f cc.par))).ub, .int .u64 ((gcl (f cc.par))).uc, .int .i64 ((gcl (f cc.par))).pk, .int .i64 ((gcl (f cc.par))).bt] HV5.out rfl rfl INF.out rfl (ONE.out _) ?_; intro w6 hs6 ho6 hv6; have HV6 := Lib.hid hv6; have HO6 := Lib.hid (own_var HO5.out HV5.out (by decide) ho6); have HB6 : Hid (Below w.heap.size w w6) := Lib.hid (HB5.out.trans ⟨ho6.1, ho6.2, ho6.3, ho6.4, fun k hk => ho6.5 k (Nat.lt_of_lt_of_le hk HB5.out.size) (by have := HB2.out.size; omega)⟩); clear ho6 hv6)
          | (go_at_call 30; (with_reducible refine (KG.out _ HT4.out _ HPAR.out).mono ?_); rintro _ w5 ⟨rfl, hbel⟩; have HV5 := Lib.hid (HV4.out.bel hbel); have HO5 := Lib.hid (row_bel HO4.out hbel); have HB5 := Lib.hid (HB4.out.trans (hbel.mono HB4.out.size)); clear hbel)
          | (refine wpList_var_new rfl rfl 48 #[.int .i64 0, .int .i64 0, .bool false, .int .u64 0, .int .u64 0, .int .u64 0, .int .u64 0, .int .u64 0, .int .u64 0, .int .u64 0, .int .u64 0, .int .u64 0, .int .i64 0, .int .i64 0] ALL.out rfl _ _ rfl #[.int .i64 (cc).id, .int .i64 (cc).par, .bool (cc).leaf, .int .u64 (cc).ra, .int .u64 (cc).rb, .int .u64 (cc).rc, .int .u64 (cc).la, .int .u64 (cc).lb, .int .u64 (cc).lc, .int .u64 (cc).ua, .int .u64 (cc).ub, .int .u64 (cc).uc, .int .i64 (cc).pk, .int .i64 (cc).bt] rfl rfl INF.out rfl (ONE.out _) ?_; intro w4 hs4 hb4 hv4; have cpar : w4.cell? ⟨z2.heap.size, 1, none⟩ = some (.int .i64 cc.par) := hv4.cell 1 rfl; have HV4 := Lib.hid hv4; have HO4 := Lib.hid (row_bel HO2.out hb4); have HB4 := Lib.hid (HB2.out.trans (hb4.mono HB2.out.size)); have HT4 := Lib.hid (H.out.below HB4.out); have hl4 := hv4.lt; clear hb4 hv4)
          | (refine wpList_var_get rfl 48 _ rfl p #[.int .i64 (cc).id, .int .i64 (cc).par, .bool (cc).leaf, .int .u64 (cc).ra, .int .u64 (cc).rb, .int .u64 (cc).rc, .int .u64 (cc).la, .int .u64 (cc).lb, .int .u64 (cc).lc, .int .u64 (cc).ua, .int .u64 (cc).ub, .int .u64 (cc).uc, .int .i64 (cc).pk, .int .i64 (cc).bt] _ HV2.out rfl Tryz.underlying48 rfl INF.out ?_)
          | (at_builtin; refine wpList_append_own _ rfl _ _ 36 rfl w.heap.size 3 ii (.int .i64 0) 1 8 Tryz.underlying36 CI0.out CZ0.out CZ1.out CZ2.out rfl (by decide) (.slice ao m c) _ _ rfl (World.ownsRow.alloc HO.out _) ⟨_, 0, none⟩ 1 1 [Value.int .i64 cc.id] rfl rfl ?c1 ?c2 ?c3 ?c4 ?c5 ?_; (case c1 => (intro q u hu; rcases q with _ | q <;> simp at hu <;> (try subst hu) <;> simp [Addr.add, go_sem, *])); (case c2 => (intro v hv; simp at hv; subst hv; rfl)); (case c3 => (unfold maxLen; omega)); (case c4 => omega); (case c5 => (have := HB.out.size; simp; omega)); intro v2 z2 hown2 hg2 _; (have HB2 : Hid (Below w.heap.size w z2) := Lib.hid (HB.out.trans ((Below.alloc (Below.refl _ _) HB.out.size _).grown hg2 (by have := HB.out.size; simp; omega) (fun q hq => (HO.out.lt q hq).1)))); (have HV2 := Lib.hid ((HV0.out.alloc _).grown hg2 (World.ownsRow.alloc HO.out _) (by decide))); obtain ⟨a2, c2, rfl⟩ := row_form hown2; (have HO2 := Lib.hid hown2); clear hown2 hg2))
        go_roundg n
        case rel => exact ⟨cc.par, done ++ [cc.id], n, m + 1, a2, c2, _, rfl, rfl, rfl, HD1.out, HU1.out, by omega, HF1.out, HPAR.out, HV6.out, by rw [List.map_append]; exact HO6.out, HB2.out.size, HB6.out, Nat.le_refl _⟩
        case measure => omega
theorem hdep_c {w : World} {tb mb : Nat} {f : Int → Option Cls} (h : HT w tb mb f) (hok : ∀ x c, f x = some c → c.id = x ∧ iok c.par) (N : Nat) (hN : N ≤ 1000) (num : Int) (hid : iok num) (hf : fin f N num = true) :
    Calls Tryz.prog 48 #[.pointer (some ⟨tb, 0, none⟩), .int .i64 num] w fun ee w' => ee = .returned (.int .i64 (upl f N num).length) ∧ Below w.heap.size w w' := by
  have K := Lib.hid (hup_c h hok N hN num hid hf)
  clear h hok hf hid
  go_enter Tryz.func48, Tryz.ntmps48
  go_wp2_with (first | go_guarded | (go_at_call 71; (with_reducible refine K.out.mono ?_); rintro _ w1 ⟨v, rfl, hr, hb⟩; obtain ⟨a2, c2, rfl⟩ := row_form hr; have HB := Lib.hid hb; clear hr hb))
  go_ret
  exact ⟨rfl, HB.out⟩
end Go.Proofs.YtffaahipgabkhaaGreat
end
section
namespace Go.Proofs.YtffaahipgabkhaaGreat
set_option linter.unusedVariables false
set_option linter.unusedSimpArgs false
set_option maxRecDepth 100000
open Go.RowKit Fg Reg
structure Ev where
  op : Int
  inn : Bool
  real : Bool
  tm : Int
  dn : Int
  cls : Int
  id : Int
  ln : Int
  a : Int
  b : Int
  c : Int
  d : Int
instance : Inhabited Ev := ⟨⟨0, false, false, 0, 0, 0, 0, 0, 0, 0, 0, 0⟩⟩
def Ev.cells (e : Ev) : List Value := [.int .i64 e.op, .bool e.inn, .bool e.real, .int .u64 e.tm, .int .u64 e.dn, .int .i64 e.cls, .int .u64 e.id, .int .i64 e.ln, .int .u16 e.a, .int .u16 e.b, .int .u16 e.c, .int .u16 e.d]
structure Ev.wf (e : Ev) : Prop where
  tm0 : 0 ≤ e.tm
  tm1 : e.tm ≤ 18446744073709551615
  dn0 : 0 ≤ e.dn
  dn1 : e.dn ≤ 18446744073709551615
theorem Ev.one (e : Ev) : ∀ v ∈ e.cells, v.oneCell' = true := by
  intro v hv
  unfold Ev.cells at hv
  simp only [List.mem_cons, List.not_mem_nil, or_false] at hv
  rcases hv with rfl | rfl | rfl | rfl | rfl | rfl | rfl | rfl | rfl | rfl | rfl | rfl <;> rfl
def EvsV (w : World) (a : Option Addr) (es : List Ev) : Prop := ∀ k (h : k < es.length), ∃ b o, a = some ⟨b, o, none⟩ ∧ b < w.heap.size ∧ w.rangeAt b (o + k * 12) es[k].cells
def IntsV (w : World) (a : Option Addr) (zs : List Int) : Prop := ∀ k (h : k < zs.length), ∃ b o, a = some ⟨b, o, none⟩ ∧ b < w.heap.size ∧ w.cell? ⟨b, o + k, none⟩ = some (.int .i64 zs[k])
theorem EvsV.below {w w' : World} {a : Option Addr} {es : List Ev} (h : EvsV w a es) (hb : Below w.heap.size w w') : EvsV w' a es := fun k hk => by
  obtain ⟨b, o, e, h1, h2⟩ := h k hk
  exact ⟨b, o, e, Nat.lt_of_lt_of_le h1 hb.size, fun j v hv => (hb.cell (p := ⟨b, o + k * 12 + j, none⟩) h1).trans (h2 j v hv)⟩
theorem IntsV.below {w w' : World} {a : Option Addr} {zs : List Int} (h : IntsV w a zs) (hb : Below w.heap.size w w') : IntsV w' a zs := fun k hk => by
  obtain ⟨b, o, e, h1, h2⟩ := h k hk
  exact ⟨b, o, e, Nat.lt_of_lt_of_le h1 hb.size, (hb.cell (p := ⟨b, o + k, none⟩) h1).trans h2⟩
theorem ints_block {w : World} {b : Nat} {cs : Array Value} {t : TypeId} {fr : Nat × Nat} (zs : List Int) (hb : w.heap[b]? = some (.cells cs t fr)) (hc : cs.toList = zs.map (Value.int .i64)) : IntsV w (some ⟨b, 0, none⟩) zs := fun k hk => by
  refine ⟨b, 0, rfl, (Array.getElem?_eq_some_iff.1 hb).1, ?_⟩
  rw [cell_of_row w b _ cs t fr hb, Nat.zero_add, ← Array.getElem?_toList, hc]
  simp [hk]
def has (zs : List Int) (x : Int) : Bool := zs.any (· == x)
theorem take_snoc'' {α : Type} (l : List α) (k : Nat) (h : k < l.length) : l.take (k + 1) = l.take k ++ [l[k]] := by
  simp
end Go.Proofs.YtffaahipgabkhaaGreat
end
