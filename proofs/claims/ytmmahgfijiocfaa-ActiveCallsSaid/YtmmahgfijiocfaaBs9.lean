/- Joined texts. -/
import Derived.Test.YtmmahgfijiocfaaBs0
import Derived.Test.YtmmahgfijiocfaaBs2
import Derived.Test.YtmmahgfijiocfaaBs3
import Derived.Test.YtmmahgfijiocfaaBs4
import Derived.Test.YtmmahgfijiocfaaBs8
import Derived.Deep.MidRow
import Derived.Deep.WholeRow
set_option linter.unusedVariables false
set_option linter.unusedSimpArgs false
set_option maxRecDepth 100000
set_option maxHeartbeats 16000000
section
namespace Go.Proofs.Ytmmahgfijiocfaa
open Go.RowKit Fg Reg
structure Ev where
 op : Int
 inn : Bool
 real : Bool
 tm : Int
 dn : Int
 cls : Int
 id : Int
 ln : Int
 a : Int
 b : Int
 c : Int
 d : Int
instance : Inhabited Ev := ⟨⟨0, false, false, 0, 0, 0, 0, 0, 0, 0, 0, 0⟩⟩
def Ev.cells (e : Ev) : List Value := [.int .i64 e.op, .bool e.inn, .bool e.real, .int .u64 e.tm, .int .u64 e.dn, .int .i64 e.cls, .int .u64 e.id, .int .i64 e.ln, .int .u16 e.a, .int .u16 e.b, .int .u16 e.c, .int .u16 e.d]
structure Ev.wf (e : Ev) : Prop where
 tm0 : 0 ≤ e.tm
 tm1 : e.tm ≤ 18446744073709551615
 dn0 : 0 ≤ e.dn
 dn1 : e.dn ≤ 18446744073709551615
theorem Ev.one (e : Ev) : ∀ v ∈ e.cells, v.oneCell' = true := by
 intro v hv
 unfold Ev.cells at hv
 simp only [List.mem_cons, List.not_mem_nil, or_false] at hv
 rcases hv with rfl | rfl | rfl | rfl | rfl | rfl | rfl | rfl | rfl | rfl | rfl | rfl <;> rfl
def EvsV (w : World) (a : Option Addr) (es : List Ev) : Prop := ∀ k (h : k < es.length), ∃ b o, a = some ⟨b, o, none⟩ ∧ b < w.heap.size ∧ w.rangeAt b (o + k * 12) es[k].cells
def IntsV (w : World) (a : Option Addr) (zs : List Int) : Prop := ∀ k (h : k < zs.length), ∃ b o, a = some ⟨b, o, none⟩ ∧ b < w.heap.size ∧ w.cell? ⟨b, o + k, none⟩ = some (.int .i64 zs[k])
theorem EvsV.below {w w' : World} {a : Option Addr} {es : List Ev} (h : EvsV w a es) (hb : Below w.heap.size w w') : EvsV w' a es := fun k hk => by
 obtain ⟨b, o, e, h1, h2⟩ := h k hk
 exact ⟨b, o, e, Nat.lt_of_lt_of_le h1 hb.size, fun j v hv => (hb.cell (p := ⟨b, o + k * 12 + j, none⟩) h1).trans (h2 j v hv)⟩
theorem IntsV.below {w w' : World} {a : Option Addr} {zs : List Int} (h : IntsV w a zs) (hb : Below w.heap.size w w') : IntsV w' a zs := fun k hk => by
 obtain ⟨b, o, e, h1, h2⟩ := h k hk
 exact ⟨b, o, e, Nat.lt_of_lt_of_le h1 hb.size, (hb.cell (p := ⟨b, o + k, none⟩) h1).trans h2⟩
theorem evs_block {w : World} {b : Nat} {cs : Array Value} {t : TypeId} {fr : Nat × Nat} (es : List Ev) (hb : w.heap[b]? = some (.cells cs t fr)) (hc : cs.toList = es.flatMap Ev.cells) : EvsV w (some ⟨b, 0, none⟩) es := fun k hk => by
 refine ⟨b, 0, rfl, (Array.getElem?_eq_some_iff.1 hb).1, fun j v hv => ?_⟩
 rw [cell_of_row w b _ cs t fr hb, Nat.zero_add]
 have hj : j < 12 := (List.getElem?_eq_some_iff.1 hv).1
 rw [← Array.getElem?_toList, hc]
 clear hc hb
 induction es generalizing k with
 | nil => exact absurd hk (Nat.not_lt_zero _)
 | cons e es ih =>
  have hl : e.cells.length = 12 := rfl
  rw [List.flatMap_cons]
  cases k with
  | zero => rw [List.getElem?_append_left (by omega), Nat.zero_mul, Nat.zero_add]; exact hv
  | succ k =>
   rw [List.getElem?_append_right (by omega), hl, show (k + 1) * 12 + j - 12 = k * 12 + j by omega]
   exact ih k (by simpa using hk) (by simpa using hv)
theorem ints_block {w : World} {b : Nat} {cs : Array Value} {t : TypeId} {fr : Nat × Nat} (zs : List Int) (hb : w.heap[b]? = some (.cells cs t fr)) (hc : cs.toList = zs.map (Value.int .i64)) : IntsV w (some ⟨b, 0, none⟩) zs := fun k hk => by
 refine ⟨b, 0, rfl, (Array.getElem?_eq_some_iff.1 hb).1, ?_⟩
 rw [cell_of_row w b _ cs t fr hb, Nat.zero_add, ← Array.getElem?_toList, hc]
 simp [hk]
theorem wpList_store_new {P : Program} {ops : Array Oper} {rest : List Oper} {op : Oper} {a : Act} {w : World} {Q : Exit → Act → World → Prop} (hgd : op.guard = none) (ty : TypeId) (x y : Operand) (ho : op.op = .store ty x y)
  (c cells : Array Value) (hx : a.eval x = .pointer (some ⟨w.heap.size, 0, none⟩)) (hy : a.eval y = .agg cells)
  (hi : (P.info? ty).map (·.size) = some cells.size) (hs : c.size = cells.size) (h1 : cells.all (·.oneCell') = true)
  (h : wpList P ops Q rest (a.put op.dst undef) (w.alloc (.cells cells ty))) : wpList P ops Q (op :: rest) a (w.alloc (.cells c ty)) :=
 wpList_plain hgd fun _ hK => by
  unfold Oper.wp execOp
  simp only [ho, hx, hy, Sem.run_bind, Sem.run_pure, Result.andThen_ok, run_storeAt_new (P := P) w ty c cells hi hs h1]
  exact hK _ _ h
theorem ev_info : (Try.prog.info? 97).map (·.size) = some 12 := by kernel_rfl
def has (zs : List Int) (x : Int) : Bool := zs.any (· == x)
theorem take_snoc'' {α : Type} (l : List α) (k : Nat) (h : k < l.length) : l.take (k + 1) = l.take k ++ [l[k]] := by
 simp
theorem has_succ (zs : List Int) (x : Int) (k : Nat) (h : k < zs.length) : has (zs.take (k + 1)) x = (has (zs.take k) x || zs[k] == x) := by
 unfold has; rw [take_snoc'' zs k h, List.any_append]; simp
theorem has_of {zs : List Int} {x : Int} {k : Nat} (h : k < zs.length) (he : zs[k] = x) : has zs x = true := by
 unfold has; rw [List.any_eq_true]; exact ⟨zs[k], List.getElem_mem h, by simp [he]⟩
theorem idx_c (zs : List Int) (a : Option Addr) (c : Nat) (x : Int) (hn : zs.length ≤ 4611686018427387904) (w : World) (hc : IntsV w a zs) :
  Calls Try.prog 81 #[.slice a zs.length c, .int .i64 x] w fun ee w' => (∃ i, ee = .returned (.int .i64 i) ∧ decide (0 ≤ i) = has zs x) ∧ w = w' := by
 go_enter Try.func81, Try.ntmps81
 go_wp2_with fail
 go_loop [8] (fun i => ∃ k : Nat, k ≤ zs.length ∧ i = .int .i64 k ∧ has (zs.take k) x = false) (fun i => zs.length - (intOf i).toNat)
 case atStart => exact ⟨0, Nat.zero_le _, rfl, rfl⟩
 case round =>
  obtain ⟨k, hk, rfl, hno⟩ := hrel
  by_cases hlt : k < zs.length
  ·obtain ⟨b, o, rfl, hb, hcell⟩ := hc k hlt
   have hs := has_succ zs x k hlt
   rw [hno, Bool.false_or] at hs
   by_cases he : zs[k] = x
   ·have hy := Lib.hid (has_of hlt he)
    have he' : (x == zs[k]) = true := by simp [he]
    clear hc hs hno he
    go_wp2
    go_ret
    exact ⟨⟨_, rfl, by rw [hy.out]; simp⟩, rfl⟩
   ·have he' : (x == zs[k]) = false := by simp; exact fun h => he h.symm
    have Hs := Lib.hid (show has (zs.take (k + 1)) x = false by rw [hs]; simp [he])
    clear hc hs hno he
    go_wp2
    go_round
    case rel => exact ⟨k + 1, by omega, by go_num, Hs.out⟩
    case measure => simp [intOf]; omega
  ·obtain rfl : k = zs.length := by omega
   rw [List.take_length] at hno
   have HN := Lib.hid hno
   clear hc hno
   go_wp2
   go_ret
   exact ⟨⟨_, rfl, by rw [HN.out]; rfl⟩, rfl⟩
theorem con_c (zs : List Int) (a : Option Addr) (c : Nat) (x : Int) (hn : zs.length ≤ 4611686018427387904) (w : World) (hc : IntsV w a zs) :
  Calls Try.prog 61 #[.slice a zs.length c, .int .i64 x] w fun ee w' => ee = .returned (.bool (has zs x)) ∧ w = w' := by
 have K1 := Lib.hid (idx_c zs a c x hn w hc)
 clear hc
 go_enter Try.func61, Try.ntmps61
 go_wp2_with (go_at_call 81; (with_reducible refine (K1.out).mono ?_); rintro e w' ⟨⟨iv, rfl, hiv⟩, rfl⟩)
 go_ret
 refine ⟨?_, rfl⟩
 rw [← hiv]
 rfl
end Go.Proofs.Ytmmahgfijiocfaa
end
section
namespace Go.Proofs.Ytmmahgfijiocfaa
open Go.RowKit Fg Reg Go.Maps
attribute [local irreducible] Reg.wE VR
theorem own_ints {w : World} {base n c : Nat} {ao : Option Addr} {C : List Int} (h : w.ownsRow base 3 1 (.slice ao n c) n (C.map (Value.int .i64))) : n = C.length ∧ IntsV w ao C := by
 have hn : n = C.length := by have := h.1; simpa using this.symm
 refine ⟨hn, fun k hk => ?_⟩
 rcases h.2 with ⟨_, h0⟩ | ⟨g, cap, cur, hv, hb, hg, hc, hm, hs, ht⟩
 ·omega
 ·simp only [Value.slice.injEq] at hv
  obtain ⟨rfl, -, -⟩ := hv
  refine ⟨g, 0, rfl, (Array.getElem?_eq_some_iff.1 hg).1, ?_⟩
  rw [cell_of_row w g (0 + k) cur _ _ hg, Nat.zero_add]
  have h1 : (cur.toList.take (n * 1))[k]? = cur.toList[k]? := by rw [List.getElem?_take]; simp; omega
  rw [← Array.getElem?_toList, ← h1, ht]
  simp [hk]
theorem cs1_c {z : World} {tb mb cb : Nat} {f : Int → Option Cls} (h : HT z tb mb f) (hcb : z.cell? ⟨cb, 0, none⟩ = some (.pointer (some ⟨tb, 0, none⟩))) (hl : cb < z.heap.size) {x : Int} (hx : iok x) {c : Cls} (hc : f x = some c) (hin : CIn c) :
  Calls Try.prog 75 #[.int .i64 x, .pointer (some ⟨cb, 0, none⟩)] z fun ee w' => ee = .returned (.bool (sh1 c)) ∧ Below z.heap.size z w' := by
 have c0 := h.c0
 have lt := h.lt
 have hl0 := h.look hx false
 rw [hc] at hl0
 have hk : (Instr.lookup 85 (.map (some mb)) (.int .i64 x) false).run Try.prog z = .ok (.agg #[.int .i64 c.id, .int .i64 c.par, .bool c.leaf, .int .u64 c.ra, .int .u64 c.rb, .int .u64 c.rc, .int .u64 c.la, .int .u64 c.lb, .int .u64 c.lc, .int .u64 c.ua, .int .u64 c.ub, .int .u64 c.uc, .int .i64 c.pk, .int .i64 c.bt]) z := hl0
 have K := Lib.hid (fun z' => cshares_c hin z')
 clear hl0 h hc
 go_enter Try.func75, Try.ntmps75
 go_wp2_with (first | go_guarded | (go_at_call 33; (with_reducible refine (K.out _).mono ?_); rintro _ w1 ⟨rfl, hbel⟩))
 refine bodyPost_ret (v := (.bool (sh1 c))) (by simp [results, Try.results75, go_sem, *]) rfl ⟨rfl, ?_⟩
 first | (with_reducible assumption) | exact bub
theorem any_take {α : Type} (p : α → Bool) (C : List α) (k : Nat) (h : k < C.length) (h0 : (C.take k).any p = false) : (C.take (k + 1)).any p = p C[k] := by
 rw [take_snoc'' C k h, List.any_append, h0]; simp
theorem any_of {α : Type} (p : α → Bool) {C : List α} {k : Nat} (h : k < C.length) (he : p C[k] = true) : C.any p = true := List.any_eq_true.2 ⟨C[k], List.getElem_mem h, he⟩
def shx (f : Int → Option Cls) (x : Int) : Bool := sh1 (gcl (f x))
theorem ixf_c {w : World} {tb mb cb : Nat} {f : Int → Option Cls} (h : HT w tb mb f) (hcb : w.cell? ⟨cb, 0, none⟩ = some (.pointer (some ⟨tb, 0, none⟩))) (hl : cb < w.heap.size) (C : List Int) (ao : Option Addr) (cap : Nat) (hI : IntsV w ao C) (hC : ∀ x ∈ C, iok x ∧ ∃ c, f x = some c ∧ CIn c) (hn : C.length ≤ 1000) :
  Calls Try.prog 80 #[.slice ao C.length cap, .func (.func 75) #[] #[.pointer (some ⟨cb, 0, none⟩)]] w fun e w' => ∃ i : Int, e = .returned (.int .i64 i) ∧ decide (0 ≤ i) = C.any (shx f) ∧ Below w.heap.size w w' := by
 have H := Lib.hid h
 have HCB := Lib.hid hcb
 have HI := Lib.hid hI
 have HC := Lib.hid hC
 obtain ⟨m, hm⟩ : ∃ m, C.length = m := ⟨_, rfl⟩
 rw [hm] at hn ⊢
 have HM := Lib.hid hm
 clear h hcb hI hC hm
 go_enter Try.func80, Try.ntmps80
 go_wp2_with fail
 go_loopg [8] m (fun k9 s8 wr => ∃ k : Nat, s8 = .int .i64 k ∧ k ≤ m ∧ (C.take k).any (shx f) = false ∧ Below w.heap.size w wr ∧ m - k ≤ k9)
 case atStart => exact ⟨0, rfl, Nat.zero_le _, rfl, Below.refl _ _, by omega⟩
 case round =>
  obtain ⟨k, rfl, hk, hno, hB, hk9⟩ := hrel
  have HB := Lib.hid hB
  by_cases hlt : k < m
  ·have hlC : k < C.length := by rw [HM.out]; exact hlt
   obtain ⟨b, o, rfl, hb, hcell⟩ := HI.out k hlC
   obtain ⟨hx, c, hc, hin⟩ := HC.out C[k] (List.getElem_mem hlC)
   have hat := any_take (shx f) C k hlC hno
   have hof := any_of (shx f) hlC
   have hsx : shx f C[k] = sh1 c := by unfold shx; rw [hc]; rfl
   rw [hsx] at hat hof
   have hce := (hB.cell (p := ⟨b, o + k, none⟩) hb).trans hcell
   obtain ⟨x, hxe⟩ : ∃ x, C[k] = x := ⟨_, rfl⟩
   rw [hxe] at hx hc hce
   have K := Lib.hid (fun (z : World) (hz : Below w.heap.size w z) => cs1_c (H.out.below hz) ((hz.cell (p := ⟨cb, 0, none⟩) hl).trans HCB.out) (Nat.lt_of_lt_of_le hl hz.size) hx hc hin)
   have HAT := Lib.hid hat
   have HOF := Lib.hid hof
   have hbs := hB.size
   clear hat hof hno hcell hsx hxe hx hc hin
   cases hs : sh1 c with
   | true =>
    rw [hs] at K
    go_wp2_with (first | go_guarded | (go_at_call 75; (with_reducible refine (K.out _ HB.out).mono ?_); rintro _ w1 ⟨rfl, hbel⟩; have HB1 := Lib.hid (HB.out.trans (hbel.mono HB.out.size)); clear hbel))
    go_ret
    exact ⟨_, rfl, by rw [HOF.out hs]; simp, HB1.out⟩
   | false =>
    rw [hs] at K
    have HA2 : Hid ((C.take (k + 1)).any (shx f) = false) := Lib.hid (by rw [HAT.out, hs])
    go_wp2_with (first | go_guarded | (go_at_call 75; (with_reducible refine (K.out _ HB.out).mono ?_); rintro _ w1 ⟨rfl, hbel⟩; have HB1 := Lib.hid (HB.out.trans (hbel.mono HB.out.size)); clear hbel))
    go_roundg (m - (k + 1))
    case rel => exact ⟨k + 1, by go_num, by omega, HA2.out, HB1.out, Nat.le_refl _⟩
    case measure => omega
  ·obtain rfl : k = m := by omega
   have hno2 : C.any (shx f) = false := by rw [← HM.out, List.take_length] at hno; exact hno
   have HN := Lib.hid hno2
   clear hno hno2
   go_wp2_with (first | go_guarded)
   go_ret
   exact ⟨_, rfl, by rw [HN.out]; rfl, HB.out⟩
theorem cnf_c {w : World} {tb mb cb : Nat} {f : Int → Option Cls} (h : HT w tb mb f) (hcb : w.cell? ⟨cb, 0, none⟩ = some (.pointer (some ⟨tb, 0, none⟩))) (hl : cb < w.heap.size) (C : List Int) (ao : Option Addr) (cap : Nat) (hI : IntsV w ao C) (hC : ∀ x ∈ C, iok x ∧ ∃ c, f x = some c ∧ CIn c) (hn : C.length ≤ 1000) :
  Calls Try.prog 74 #[.slice ao C.length cap, .func (.func 75) #[] #[.pointer (some ⟨cb, 0, none⟩)]] w fun ee w' => ee = .returned (.bool (C.any (shx f))) ∧ Below w.heap.size w w' := by
 have K := Lib.hid (ixf_c h hcb hl C ao cap hI hC hn)
 obtain ⟨r, hr⟩ : ∃ r, C.any (shx f) = r := ⟨_, rfl⟩
 obtain ⟨m, hm⟩ : ∃ m, C.length = m := ⟨_, rfl⟩
 rw [hr, hm] at K
 rw [hr, hm]
 clear h hcb hI hC hr
 go_enter Try.func74, Try.ntmps74
 go_wp2_with (first | go_guarded | (go_at_call 80; (with_reducible refine K.out.mono ?_); rintro _ w1 ⟨i, rfl, hi, hbel⟩; have HB := Lib.hid hbel; clear hbel))
 go_ret
 exact ⟨rfl, HB.out⟩
theorem hcs_c {w : World} {tb mb : Nat} {f : Int → Option Cls} (h : HT w tb mb f) (num : Int) (L : List Int) (hL : L.Pairwise (· < ·)) (hm : ∀ x, (f x).isSome = true ↔ x ∈ L) (hn : L.length ≤ 1000) (hok : ∀ x ∈ L, iok x) (hin : ∀ x c, f x = some c → CIn c) :
  Calls Try.prog 55 #[.pointer (some ⟨tb, 0, none⟩), .int .i64 num] w fun ee w' => ee = .returned (.bool ((L.filter (sel f (fun c => c.par == num))).any (shx f))) ∧ Below w.heap.size w w' := by
 have hb0 : Below w.heap.size w (w.alloc (.cells #[.pointer (some ⟨tb, 0, none⟩)] 25)) := bub
 have hT : HT (w.alloc (.cells #[.pointer (some ⟨tb, 0, none⟩)] 25)) tb mb f := h.below hb0
 have K1 := Lib.hid (children_c hT num L hL hm hn hok)
 have hsub : ∀ x ∈ L.filter (sel f (fun c => c.par == num)), iok x ∧ ∃ c, f x = some c ∧ CIn c := fun x hx => by
  have hxL := (List.mem_filter.1 hx).1
  refine ⟨hok x hxL, ?_⟩
  obtain ⟨c, hc⟩ := Option.isSome_iff_exists.1 ((hm x).2 hxL)
  exact ⟨c, hc, hin x c hc⟩
 have hlen : (L.filter (sel f (fun c => c.par == num))).length ≤ 1000 := Nat.le_trans (List.length_filter_le _ _) hn
 obtain ⟨C, hC⟩ : ∃ C, L.filter (sel f (fun c => c.par == num)) = C := ⟨_, rfl⟩
 rw [hC] at hsub hlen K1 ⊢
 have c0 : (w.alloc (.cells #[.pointer (some ⟨tb, 0, none⟩)] 25)).cell? ⟨w.heap.size, 0, none⟩ = some (.pointer (some ⟨tb, 0, none⟩)) := by simp [go_sem]
 have HC0 := Lib.hid c0
 have HT0 := Lib.hid hT
 have HSUB := Lib.hid hsub
 have HLEN := Lib.hid hlen
 obtain ⟨r, hr⟩ : ∃ r, C.any (shx f) = r := ⟨_, rfl⟩
 have HR := Lib.hid hr
 rw [hr]
 clear h hm hok hin hT hb0 hC hsub hlen c0 hr
 go_enter Try.func55, Try.ntmps55
 go_wp2_with (first
  | go_guarded
  | (go_at_call 74; (with_reducible refine (K2.out).mono ?_); rintro _ w2 ⟨rfl, hbel⟩; have HB2 := Lib.hid (HB1.out.trans (hbel.mono HB1.out.size)); clear hbel)
  | (go_at_call 45; (with_reducible refine K1.out.mono ?_); rintro _ w1 ⟨v, rfl, hrow, hbel⟩; obtain ⟨ao, cp, rfl⟩ := row_form hrow; have hiv := (own_ints hrow).2; have K2 := Lib.hid (by have := cnf_c (HT0.out.below hbel) ((hbel.cell (p := ⟨w.heap.size, 0, none⟩) (by simp)).trans HC0.out) (Nat.lt_of_lt_of_le (by simp) hbel.size) C ao cp hiv HSUB.out HLEN.out; rw [HR.out] at this; exact this); have HB1 : Hid (Below w.heap.size w w1) := Lib.hid ((Below.alloc (Below.refl _ _) (Nat.le_refl _) _).trans (hbel.mono (by simp))); clear hbel hrow hiv))
 go_ret
 exact ⟨rfl, HB2.out⟩
end Go.Proofs.Ytmmahgfijiocfaa
end
section
namespace Go.Proofs.Ytmmahgfijiocfaa
open Go.RowKit Fg Reg Go.MapKept Go.Maps
section
variable {P : Program} {κ ν : Type} {k : TypeId} {kv : κ → Value} {vv : ν → Value} {ok : κ → Prop}
variable {f : κ → Option ν} {n : Nat} {w : World} {b : Nat} {t e : TypeId}
def mdel [DecidableEq κ] (f : κ → Option ν) (x : κ) : κ → Option ν := fun y => if y = x then none else f y
theorem Mp.delete [DecidableEq κ] (h : Mp kv vv ok f n w b) (K : KeyOk P k kv ok) (hinj : ∀ x y, kv x = kv y → x = y) (ht : P.underlying t = some (.map k e)) {x : κ} (hx : ok x) (ty : TypeId) :
  ∃ w', (Builtin.delete_ #[t, k] ty #[.map (some b), kv x]).run P w = .ok (.tuple #[]) w' ∧ Mp kv vv ok (mdel f x) n w' b ∧ Only (fun i => i = b) w w' ∧ w'.heap.size = w.heap.size := by
 obtain ⟨es, clock, hb, hE⟩ := h
 obtain ⟨l, hl⟩ := K.lit x hx
 have hO : ∀ o, Only (fun i => i = b) w (ChangeMaps.setBlock w b o) := fun o => ⟨rfl, rfl, rfl, by simp [ChangeMaps.setBlock], fun i _ hi => ChangeMaps.heap_setBlock_other hb _ (fun e => hi e)⟩
 rcases K.keyed.find w hl es.toList (hE.keys K) with ⟨h1, h2⟩ | ⟨j, e0, h1, h2, h3⟩
 ·refine ⟨ChangeMaps.setBlock w b (.map es clock), ?_, ⟨_, _, ChangeMaps.heap_setBlock_same hb _, hE.stamped, hE.size, ?_, ?_⟩, hO _, by simp [ChangeMaps.setBlock]⟩
  ·simp [Builtin.delete_, run_underlying ht, MapKept.run_getObj_map hb, K.keyed.check w _ hl, h1, MapKept.run_setObj_map _ hb, Result.andThen, ChangeMaps.setBlock]
  ·intro e he
   obtain ⟨y, u, hy, e1, e2, e3⟩ := hE.ent e he
   refine ⟨y, u, hy, e1, e2, ?_⟩
   have : y ≠ x := fun hyx => h2 e he (by rw [e1, hyx])
   simp [mdel, this, e3]
  ·intro y u hu
   unfold mdel at hu
   split at hu
   ·cases hu
   ·exact hE.has y u hu
 ·have hjl : j < es.toList.length := (List.getElem?_eq_some_iff.1 h2).1
  have hjs : j < es.size := by simpa using hjl
  have hsub : (es.eraseIdxIfInBounds j).toList = es.toList.eraseIdx j := by
   unfold Array.eraseIdxIfInBounds
   rw [dif_pos hjs]
   simp
  have hd := ((stamped_iff es clock).1 hE.stamped).2.2
  have e0j : es.toList[j] = e0 := (List.getElem?_eq_some_iff.1 h2).2
  have hpw := List.pairwise_iff_getElem.1 hd
  have hat : ∀ i (hi : i < es.toList.length), i ≠ j → es.toList[i].key ≠ e0.key := fun i hi hij => by
   rcases Nat.lt_or_gt_of_ne hij with hlt | hlt
   ·have := hpw i j hi hjl hlt; rw [e0j] at this; exact this
   ·have := hpw j i hjl hi hlt; rw [e0j] at this; exact fun hh => this hh.symm
  refine ⟨ChangeMaps.setBlock w b (.map (es.eraseIdxIfInBounds j) clock), ?_, ⟨_, _, ChangeMaps.heap_setBlock_same hb _, stamped_erase hE.stamped j, Nat.le_trans (MapFrom.size_erase es j) hE.size, ?_, ?_⟩, hO _, by simp [ChangeMaps.setBlock]⟩
  ·simp [Builtin.delete_, run_underlying ht, MapKept.run_getObj_map hb, K.keyed.check w _ hl, h1, MapKept.run_setObj_map _ hb, Result.andThen, ChangeMaps.setBlock]
  ·intro e he
   rw [hsub] at he
   obtain ⟨i, hi, hne, hee⟩ := List.mem_eraseIdx_iff_getElem.1 he
   have hm : e ∈ es.toList := hee ▸ List.getElem_mem hi
   obtain ⟨y, u, hy, e1, e2, e3⟩ := hE.ent e hm
   refine ⟨y, u, hy, e1, e2, ?_⟩
   have : y ≠ x := fun hyx => hat i hi hne (by rw [hee, e1, hyx, h3])
   simp [mdel, this, e3]
  ·intro y u hu
   unfold mdel at hu
   split at hu
   ·cases hu
   ·rename_i hyx
    obtain ⟨e, he, hk⟩ := hE.has y u hu
    obtain ⟨i, hi, ex⟩ := List.getElem_of_mem he
    by_cases hij : i = j
    ·subst hij
     exfalso
     obtain ⟨y', u', hy', e1, e2, e3⟩ := hE.ent e he
     have hee : e = e0 := by rw [← ex, e0j]
     exact hyx (hinj y x (by rw [← hk, hee, h3]))
    ·exact ⟨e, by rw [hsub]; exact List.mem_eraseIdx_iff_getElem.2 ⟨i, hi, hij, ex⟩, hk⟩
theorem wpList_delete_mp [DecidableEq κ] (w : World) {ops : Array Oper} {rest : List Oper} {o : Oper} {a : Act} {Q : Exit → Act → World → Prop}
  (hg : o.guard = none) (m x : Operand) (t k : TypeId) (hop : o.op = Op.call { callee := Callee.builtin Builtin.delete, args := #[m, x], argTypes := #[t, k] })
  (K : KeyOk P k kv ok) (hinj : ∀ x y, kv x = kv y → x = y) (ht : P.underlying t = some (.map k e)) (b n : Nat)
  (hm : a.eval m = .map (some b)) (h : Mp kv vv ok f n w b) (key : κ) (hk : ok key) (hx : a.eval x = kv key)
  (hK : ∀ w', Mp kv vv ok (mdel f key) n w' b → Only (fun i => i = b) w w' → w'.heap.size = w.heap.size → wpList P ops Q rest (a.put o.dst (.tuple #[])) w') :
  wpList P ops Q (o :: rest) a w := by
 refine wpList_plain hg fun K' hK' => ?_
 obtain ⟨w', hrun, r1, r2, r3⟩ := h.delete K hinj ht hk o.type
 unfold Oper.wp
 simp [execOp, hop, resolve, invoke, builtin, hm, hx, hrun, Result.andThen]
 exact hK' _ _ (hK w' r1 r2 r3)
theorem perm_of_mem {α : Type} [DecidableEq α] {A B : List α} (hA : A.Nodup) (hB : B.Nodup) (h : ∀ x, x ∈ A ↔ x ∈ B) : A.Perm B := (List.perm_ext_iff_of_nodup hA hB).2 h
theorem MpEnt.count [DecidableEq κ] (hinj : ∀ x y, kv x = kv y → x = y) {es : Array MapEntry} {clock : Nat} (h : MpEnt kv vv ok f n es clock) (ks : List κ) (hn : ks.Nodup) (hk : ∀ x, x ∈ ks ↔ (f x).isSome = true) : es.size = ks.length := by
 have hd := ((stamped_iff es clock).1 h.stamped).2.2
 have h2 : ∃ xs : List κ, xs.length = es.toList.length ∧ es.toList.map (·.key) = xs.map kv ∧ ∀ x ∈ xs, (f x).isSome = true := by
  have go : ∀ L : List MapEntry, (∀ e ∈ L, ∃ x v, ok x ∧ e.key = kv x ∧ e.val = vv v ∧ f x = some v) → ∃ xs : List κ, xs.length = L.length ∧ L.map (·.key) = xs.map kv ∧ ∀ x ∈ xs, (f x).isSome = true := by
   intro L
   induction L with
   | nil => intro _; exact ⟨[], rfl, rfl, by simp⟩
   | cons e L ih =>
    intro hL
    obtain ⟨xs, x1, x2, x3⟩ := ih fun e' he' => hL e' (by simp [he'])
    obtain ⟨x, v, _, e1, _, e3⟩ := hL e (by simp)
    refine ⟨x :: xs, by simp [x1], by simp [x2, e1], fun y hy => ?_⟩
    rcases List.mem_cons.1 hy with rfl | hy
    ·rw [e3]; rfl
    ·exact x3 y hy
  exact go _ h.ent
 obtain ⟨xs, x1, x2, x3⟩ := h2
 have hnx : xs.Nodup := by
  have h3 : (es.toList.map (·.key)).Nodup := by unfold List.Nodup; rw [List.pairwise_map]; exact hd
  rw [x2] at h3
  unfold List.Nodup at h3 ⊢
  rw [List.pairwise_map] at h3
  exact h3.imp fun h g => h (by rw [g])
 have hp : xs.Perm ks := perm_of_mem hnx hn fun x => by
  rw [hk x]
  constructor
  ·exact x3 x
  ·intro hx
   obtain ⟨v, hv⟩ := Option.isSome_iff_exists.1 hx
   obtain ⟨e, he, hke⟩ := h.has x v hv
   have : kv x ∈ xs.map kv := by rw [← x2, ← hke]; exact List.mem_map.2 ⟨e, he, rfl⟩
   obtain ⟨y, hy, hyx⟩ := List.mem_map.1 this
   rw [← hinj y x hyx]; exact hy
 rw [← hp.length_eq, x1]; simp
theorem Mp.len [DecidableEq κ] (h : Mp kv vv ok f n w b) (hinj : ∀ x y, kv x = kv y → x = y) (ht : P.underlying t = some (.map k e)) (ks : List κ) (hn : ks.Nodup) (hk : ∀ x, x ∈ ks ↔ (f x).isSome = true) (ty : TypeId) : (Builtin.len_ #[t] ty #[.map (some b)]).run P w = .ok (.int .i64 ks.length) w := by
 obtain ⟨es, clock, hb, hE⟩ := h
 rw [← hE.count hinj ks hn hk]
 simp [Builtin.len_, run_underlying ht, MapKept.run_getObj_map hb, goInt, Result.andThen]
end
end Go.Proofs.Ytmmahgfijiocfaa
end
