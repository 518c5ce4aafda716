/- Joined texts. -/
import Derived.Test.YtffaahipgabkhaaGreatJn0
import Derived.Test.YtffaahipgabkhaaGreatJn3
import Derived.Test.YtffaahipgabkhaaGreatJn13
set_option linter.unusedVariables false
set_option linter.unusedSimpArgs false
set_option maxRecDepth 100000
set_option maxHeartbeats 16000000
section
namespace Go.Proofs.YtffaahipgabkhaaGreat
open Go.RowKit Fg Reg Go.Maps
attribute [local irreducible] Reg.wE VR
theorem own_ints {w : World} {base n c : Nat} {ao : Option Addr} {C : List Int} (h : w.ownsRow base 3 1 (.slice ao n c) n (C.map (Value.int .i64))) : n = C.length ∧ IntsV w ao C := by
 have hn : n = C.length := by have := h.1; simpa using this.symm
 refine ⟨hn, fun k hk => ?_⟩
 rcases h.2 with ⟨_, h0⟩ | ⟨g, cap, cur, hv, hb, hg, hc, hm, hs, ht⟩
 ·omega
 ·simp only [Value.slice.injEq] at hv
  obtain ⟨rfl, -, -⟩ := hv
  refine ⟨g, 0, rfl, (Array.getElem?_eq_some_iff.1 hg).1, ?_⟩
  rw [cell_of_row w g (0 + k) cur _ _ hg, Nat.zero_add]
  have h1 : (cur.toList.take (n * 1))[k]? = cur.toList[k]? := by rw [List.getElem?_take]; simp; omega
  rw [← Array.getElem?_toList, ← h1, ht]
  simp [hk]
theorem cs1_c {z : World} {tb mb cb : Nat} {f : Int → Option Cls} (h : HT z tb mb f) (hcb : z.cell? ⟨cb, 0, none⟩ = some (.pointer (some ⟨tb, 0, none⟩))) (hl : cb < z.heap.size) {x : Int} (hx : iok x) {c : Cls} (hc : f x = some c) (hin : CIn c) :
  Calls Tryz.prog 73 #[.int .i64 x, .pointer (some ⟨cb, 0, none⟩)] z fun ee w' => ee = .returned (.bool (sh1 c)) ∧ Below z.heap.size z w' := by
 have c0 := h.c0
 have lt := h.lt
 have hl0 := h.look hx false
 rw [hc] at hl0
 have hk : (Instr.lookup 77 (.map (some mb)) (.int .i64 x) false).run Tryz.prog z = .ok (.agg #[.int .i64 c.id, .int .i64 c.par, .bool c.leaf, .int .u64 c.ra, .int .u64 c.rb, .int .u64 c.rc, .int .u64 c.la, .int .u64 c.lb, .int .u64 c.lc, .int .u64 c.ua, .int .u64 c.ub, .int .u64 c.uc, .int .i64 c.pk, .int .i64 c.bt]) z := hl0
 have K := Lib.hid (fun z' => cshares_c hin z')
 clear hl0 h hc
 go_enter Tryz.func73, Tryz.ntmps73
 go_wp2_with (first | go_guarded | (go_at_call 46; (with_reducible refine (K.out _).mono ?_); rintro _ w1 ⟨rfl, hbel⟩))
 refine bodyPost_ret (v := (.bool (sh1 c))) (by simp [results, Tryz.results73, go_sem, *]) rfl ⟨rfl, ?_⟩
 first | (with_reducible assumption) | exact bub
theorem any_take {α : Type} (p : α → Bool) (C : List α) (k : Nat) (h : k < C.length) (h0 : (C.take k).any p = false) : (C.take (k + 1)).any p = p C[k] := by
 rw [take_snoc'' C k h, List.any_append, h0]; simp
theorem any_of {α : Type} (p : α → Bool) {C : List α} {k : Nat} (h : k < C.length) (he : p C[k] = true) : C.any p = true := List.any_eq_true.2 ⟨C[k], List.getElem_mem h, he⟩
def shx (f : Int → Option Cls) (x : Int) : Bool := sh1 (gcl (f x))
theorem ixf_c {w : World} {tb mb cb : Nat} {f : Int → Option Cls} (h : HT w tb mb f) (hcb : w.cell? ⟨cb, 0, none⟩ = some (.pointer (some ⟨tb, 0, none⟩))) (hl : cb < w.heap.size) (C : List Int) (ao : Option Addr) (cap : Nat) (hI : IntsV w ao C) (hC : ∀ x ∈ C, iok x ∧ ∃ c, f x = some c ∧ CIn c) (hn : C.length ≤ 1000) :
  Calls Tryz.prog 66 #[.slice ao C.length cap, .func (.func 73) #[] #[.pointer (some ⟨cb, 0, none⟩)]] w fun e w' => ∃ i : Int, e = .returned (.int .i64 i) ∧ decide (0 ≤ i) = C.any (shx f) ∧ Below w.heap.size w w' := by
 have H := Lib.hid h
 have HCB := Lib.hid hcb
 have HI := Lib.hid hI
 have HC := Lib.hid hC
 obtain ⟨m, hm⟩ : ∃ m, C.length = m := ⟨_, rfl⟩
 rw [hm] at hn ⊢
 have HM := Lib.hid hm
 clear h hcb hI hC hm
 go_enter Tryz.func66, Tryz.ntmps66
 go_wp2_with fail
 go_loopg [8] m (fun k9 s8 wr => ∃ k : Nat, s8 = .int .i64 k ∧ k ≤ m ∧ (C.take k).any (shx f) = false ∧ Below w.heap.size w wr ∧ m - k ≤ k9)
 case atStart => exact ⟨0, rfl, Nat.zero_le _, rfl, Below.refl _ _, by omega⟩
 case round =>
  obtain ⟨k, rfl, hk, hno, hB, hk9⟩ := hrel
  have HB := Lib.hid hB
  by_cases hlt : k < m
  ·have hlC : k < C.length := by rw [HM.out]; exact hlt
   obtain ⟨b, o, rfl, hb, hcell⟩ := HI.out k hlC
   obtain ⟨hx, c, hc, hin⟩ := HC.out C[k] (List.getElem_mem hlC)
   have hat := any_take (shx f) C k hlC hno
   have hof := any_of (shx f) hlC
   have hsx : shx f C[k] = sh1 c := by unfold shx; rw [hc]; rfl
   rw [hsx] at hat hof
   have hce := (hB.cell (p := ⟨b, o + k, none⟩) hb).trans hcell
   obtain ⟨x, hxe⟩ : ∃ x, C[k] = x := ⟨_, rfl⟩
   rw [hxe] at hx hc hce
   have K := Lib.hid (fun (z : World) (hz : Below w.heap.size w z) => cs1_c (H.out.below hz) ((hz.cell (p := ⟨cb, 0, none⟩) hl).trans HCB.out) (Nat.lt_of_lt_of_le hl hz.size) hx hc hin)
   have HAT := Lib.hid hat
   have HOF := Lib.hid hof
   have hbs := hB.size
   clear hat hof hno hcell hsx hxe hx hc hin
   cases hs : sh1 c with
   | true =>
    rw [hs] at K
    go_wp2_with (first | go_guarded | (go_at_call 73; (with_reducible refine (K.out _ HB.out).mono ?_); rintro _ w1 ⟨rfl, hbel⟩; have HB1 := Lib.hid (HB.out.trans (hbel.mono HB.out.size)); clear hbel))
    go_ret
    exact ⟨_, rfl, by rw [HOF.out hs]; simp, HB1.out⟩
   | false =>
    rw [hs] at K
    have HA2 : Hid ((C.take (k + 1)).any (shx f) = false) := Lib.hid (by rw [HAT.out, hs])
    go_wp2_with (first | go_guarded | (go_at_call 73; (with_reducible refine (K.out _ HB.out).mono ?_); rintro _ w1 ⟨rfl, hbel⟩; have HB1 := Lib.hid (HB.out.trans (hbel.mono HB.out.size)); clear hbel))
    go_roundg (m - (k + 1))
    case rel => exact ⟨k + 1, by go_num, by omega, HA2.out, HB1.out, Nat.le_refl _⟩
    case measure => omega
  ·obtain rfl : k = m := by omega
   have hno2 : C.any (shx f) = false := by rw [← HM.out, List.take_length] at hno; exact hno
   have HN := Lib.hid hno2
   clear hno hno2
   go_wp2_with (first | go_guarded)
   go_ret
   exact ⟨_, rfl, by rw [HN.out]; rfl, HB.out⟩
theorem cnf_c {w : World} {tb mb cb : Nat} {f : Int → Option Cls} (h : HT w tb mb f) (hcb : w.cell? ⟨cb, 0, none⟩ = some (.pointer (some ⟨tb, 0, none⟩))) (hl : cb < w.heap.size) (C : List Int) (ao : Option Addr) (cap : Nat) (hI : IntsV w ao C) (hC : ∀ x ∈ C, iok x ∧ ∃ c, f x = some c ∧ CIn c) (hn : C.length ≤ 1000) :
  Calls Tryz.prog 38 #[.slice ao C.length cap, .func (.func 73) #[] #[.pointer (some ⟨cb, 0, none⟩)]] w fun ee w' => ee = .returned (.bool (C.any (shx f))) ∧ Below w.heap.size w w' := by
 have K := Lib.hid (ixf_c h hcb hl C ao cap hI hC hn)
 obtain ⟨r, hr⟩ : ∃ r, C.any (shx f) = r := ⟨_, rfl⟩
 obtain ⟨m, hm⟩ : ∃ m, C.length = m := ⟨_, rfl⟩
 rw [hr, hm] at K
 rw [hr, hm]
 clear h hcb hI hC hr
 go_enter Tryz.func38, Tryz.ntmps38
 go_wp2_with (first | go_guarded | (go_at_call 66; (with_reducible refine K.out.mono ?_); rintro _ w1 ⟨i, rfl, hi, hbel⟩; have HB := Lib.hid hbel; clear hbel))
 go_ret
 exact ⟨rfl, HB.out⟩
theorem hcs_c {w : World} {tb mb : Nat} {f : Int → Option Cls} (h : HT w tb mb f) (num : Int) (L : List Int) (hL : L.Pairwise (· < ·)) (hm : ∀ x, (f x).isSome = true ↔ x ∈ L) (hn : L.length ≤ 1000) (hok : ∀ x ∈ L, iok x) (hin : ∀ x c, f x = some c → CIn c) :
  Calls Tryz.prog 50 #[.pointer (some ⟨tb, 0, none⟩), .int .i64 num] w fun ee w' => ee = .returned (.bool ((L.filter (sel f (fun c => c.par == num))).any (shx f))) ∧ Below w.heap.size w w' := by
 have hb0 : Below w.heap.size w (w.alloc (.cells #[.pointer (some ⟨tb, 0, none⟩)] 24)) := bub
 have hT : HT (w.alloc (.cells #[.pointer (some ⟨tb, 0, none⟩)] 24)) tb mb f := h.below hb0
 have K1 := Lib.hid (children_c hT num L hL hm hn hok)
 have hsub : ∀ x ∈ L.filter (sel f (fun c => c.par == num)), iok x ∧ ∃ c, f x = some c ∧ CIn c := fun x hx => by
  have hxL := (List.mem_filter.1 hx).1
  refine ⟨hok x hxL, ?_⟩
  obtain ⟨c, hc⟩ := Option.isSome_iff_exists.1 ((hm x).2 hxL)
  exact ⟨c, hc, hin x c hc⟩
 have hlen : (L.filter (sel f (fun c => c.par == num))).length ≤ 1000 := Nat.le_trans (List.length_filter_le _ _) hn
 obtain ⟨C, hC⟩ : ∃ C, L.filter (sel f (fun c => c.par == num)) = C := ⟨_, rfl⟩
 rw [hC] at hsub hlen K1 ⊢
 have c0 : (w.alloc (.cells #[.pointer (some ⟨tb, 0, none⟩)] 24)).cell? ⟨w.heap.size, 0, none⟩ = some (.pointer (some ⟨tb, 0, none⟩)) := by simp [go_sem]
 have HC0 := Lib.hid c0
 have HT0 := Lib.hid hT
 have HSUB := Lib.hid hsub
 have HLEN := Lib.hid hlen
 obtain ⟨r, hr⟩ : ∃ r, C.any (shx f) = r := ⟨_, rfl⟩
 have HR := Lib.hid hr
 rw [hr]
 clear h hm hok hin hT hb0 hC hsub hlen c0 hr
 go_enter Tryz.func50, Tryz.ntmps50
 go_wp2_with (first
  | go_guarded
  | (go_at_call 38; (with_reducible refine (K2.out).mono ?_); rintro _ w2 ⟨rfl, hbel⟩; have HB2 := Lib.hid (HB1.out.trans (hbel.mono HB1.out.size)); clear hbel)
  | (go_at_call 49; (with_reducible refine K1.out.mono ?_); rintro _ w1 ⟨v, rfl, hrow, hbel⟩; obtain ⟨ao, cp, rfl⟩ := row_form hrow; have hiv := (own_ints hrow).2; have K2 := Lib.hid (by have := cnf_c (HT0.out.below hbel) ((hbel.cell (p := ⟨w.heap.size, 0, none⟩) (by simp)).trans HC0.out) (Nat.lt_of_lt_of_le (by simp) hbel.size) C ao cp hiv HSUB.out HLEN.out; rw [HR.out] at this; exact this); have HB1 : Hid (Below w.heap.size w w1) := Lib.hid ((Below.alloc (Below.refl _ _) (Nat.le_refl _) _).trans (hbel.mono (by simp))); clear hbel hrow hiv))
 go_ret
 exact ⟨rfl, HB2.out⟩
end Go.Proofs.YtffaahipgabkhaaGreat
end
section
namespace Go.Proofs.YtffaahipgabkhaaGreat
open Go.RowKit Fg Reg Go.MapKept Go.Maps
section
variable {P : Program} {κ ν : Type} {k : TypeId} {kv : κ → Value} {vv : ν → Value} {ok : κ → Prop}
variable {f : κ → Option ν} {n : Nat} {w : World} {b : Nat} {t e : TypeId}
def mdel [DecidableEq κ] (f : κ → Option ν) (x : κ) : κ → Option ν := fun y => if y = x then none else f y
theorem Mp.delete [DecidableEq κ] (h : Mp kv vv ok f n w b) (K : KeyOk P k kv ok) (hinj : ∀ x y, kv x = kv y → x = y) (ht : P.underlying t = some (.map k e)) {x : κ} (hx : ok x) (ty : TypeId) :
  ∃ w', (Builtin.delete_ #[t, k] ty #[.map (some b), kv x]).run P w = .ok (.tuple #[]) w' ∧ Mp kv vv ok (mdel f x) n w' b ∧ Only (fun i => i = b) w w' ∧ w'.heap.size = w.heap.size := by
 obtain ⟨es, clock, hb, hE⟩ := h
 obtain ⟨l, hl⟩ := K.lit x hx
 have hO : ∀ o, Only (fun i => i = b) w (ChangeMaps.setBlock w b o) := fun o => ⟨rfl, rfl, rfl, by simp [ChangeMaps.setBlock], fun i _ hi => ChangeMaps.heap_setBlock_other hb _ (fun e => hi e)⟩
 rcases K.keyed.find w hl es.toList (hE.keys K) with ⟨h1, h2⟩ | ⟨j, e0, h1, h2, h3⟩
 ·refine ⟨ChangeMaps.setBlock w b (.map es clock), ?_, ⟨_, _, ChangeMaps.heap_setBlock_same hb _, hE.stamped, hE.size, ?_, ?_⟩, hO _, by simp [ChangeMaps.setBlock]⟩
  ·simp [Builtin.delete_, run_underlying ht, MapKept.run_getObj_map hb, K.keyed.check w _ hl, h1, MapKept.run_setObj_map _ hb, Result.andThen, ChangeMaps.setBlock]
  ·intro e he
   obtain ⟨y, u, hy, e1, e2, e3⟩ := hE.ent e he
   refine ⟨y, u, hy, e1, e2, ?_⟩
   have : y ≠ x := fun hyx => h2 e he (by rw [e1, hyx])
   simp [mdel, this, e3]
  ·intro y u hu
   unfold mdel at hu
   split at hu
   ·cases hu
   ·exact hE.has y u hu
 ·have hjl : j < es.toList.length := (List.getElem?_eq_some_iff.1 h2).1
  have hjs : j < es.size := by simpa using hjl
  have hsub : (es.eraseIdxIfInBounds j).toList = es.toList.eraseIdx j := by
   unfold Array.eraseIdxIfInBounds
   rw [dif_pos hjs]
   simp
  have hd := ((stamped_iff es clock).1 hE.stamped).2.2
  have e0j : es.toList[j] = e0 := (List.getElem?_eq_some_iff.1 h2).2
  have hpw := List.pairwise_iff_getElem.1 hd
  have hat : ∀ i (hi : i < es.toList.length), i ≠ j → es.toList[i].key ≠ e0.key := fun i hi hij => by
   rcases Nat.lt_or_gt_of_ne hij with hlt | hlt
   ·have := hpw i j hi hjl hlt; rw [e0j] at this; exact this
   ·have := hpw j i hjl hi hlt; rw [e0j] at this; exact fun hh => this hh.symm
  refine ⟨ChangeMaps.setBlock w b (.map (es.eraseIdxIfInBounds j) clock), ?_, ⟨_, _, ChangeMaps.heap_setBlock_same hb _, stamped_erase hE.stamped j, Nat.le_trans (MapFrom.size_erase es j) hE.size, ?_, ?_⟩, hO _, by simp [ChangeMaps.setBlock]⟩
  ·simp [Builtin.delete_, run_underlying ht, MapKept.run_getObj_map hb, K.keyed.check w _ hl, h1, MapKept.run_setObj_map _ hb, Result.andThen, ChangeMaps.setBlock]
  ·intro e he
   rw [hsub] at he
   obtain ⟨i, hi, hne, hee⟩ := List.mem_eraseIdx_iff_getElem.1 he
   have hm : e ∈ es.toList := hee ▸ List.getElem_mem hi
   obtain ⟨y, u, hy, e1, e2, e3⟩ := hE.ent e hm
   refine ⟨y, u, hy, e1, e2, ?_⟩
   have : y ≠ x := fun hyx => hat i hi hne (by rw [hee, e1, hyx, h3])
   simp [mdel, this, e3]
  ·intro y u hu
   unfold mdel at hu
   split at hu
   ·cases hu
   ·rename_i hyx
    obtain ⟨e, he, hk⟩ := hE.has y u hu
    obtain ⟨i, hi, ex⟩ := List.getElem_of_mem he
    by_cases hij : i = j
    ·subst hij
     exfalso
     obtain ⟨y', u', hy', e1, e2, e3⟩ := hE.ent e he
     have hee : e = e0 := by rw [← ex, e0j]
     exact hyx (hinj y x (by rw [← hk, hee, h3]))
    ·exact ⟨e, by rw [hsub]; exact List.mem_eraseIdx_iff_getElem.2 ⟨i, hi, hij, ex⟩, hk⟩
theorem wpList_delete_mp [DecidableEq κ] (w : World) {ops : Array Oper} {rest : List Oper} {o : Oper} {a : Act} {Q : Exit → Act → World → Prop}
  (hg : o.guard = none) (m x : Operand) (t k : TypeId) (hop : o.op = Op.call { callee := Callee.builtin Builtin.delete, args := #[m, x], argTypes := #[t, k] })
  (K : KeyOk P k kv ok) (hinj : ∀ x y, kv x = kv y → x = y) (ht : P.underlying t = some (.map k e)) (b n : Nat)
  (hm : a.eval m = .map (some b)) (h : Mp kv vv ok f n w b) (key : κ) (hk : ok key) (hx : a.eval x = kv key)
  (hK : ∀ w', Mp kv vv ok (mdel f key) n w' b → Only (fun i => i = b) w w' → w'.heap.size = w.heap.size → wpList P ops Q rest (a.put o.dst (.tuple #[])) w') :
  wpList P ops Q (o :: rest) a w := by
 refine wpList_plain hg fun K' hK' => ?_
 obtain ⟨w', hrun, r1, r2, r3⟩ := h.delete K hinj ht hk o.type
 unfold Oper.wp
 simp [execOp, hop, resolve, invoke, builtin, hm, hx, hrun, Result.andThen]
 exact hK' _ _ (hK w' r1 r2 r3)
theorem perm_of_mem {α : Type} [DecidableEq α] {A B : List α} (hA : A.Nodup) (hB : B.Nodup) (h : ∀ x, x ∈ A ↔ x ∈ B) : A.Perm B := (List.perm_ext_iff_of_nodup hA hB).2 h
theorem MpEnt.count [DecidableEq κ] (hinj : ∀ x y, kv x = kv y → x = y) {es : Array MapEntry} {clock : Nat} (h : MpEnt kv vv ok f n es clock) (ks : List κ) (hn : ks.Nodup) (hk : ∀ x, x ∈ ks ↔ (f x).isSome = true) : es.size = ks.length := by
 have hd := ((stamped_iff es clock).1 h.stamped).2.2
 have h2 : ∃ xs : List κ, xs.length = es.toList.length ∧ es.toList.map (·.key) = xs.map kv ∧ ∀ x ∈ xs, (f x).isSome = true := by
  have go : ∀ L : List MapEntry, (∀ e ∈ L, ∃ x v, ok x ∧ e.key = kv x ∧ e.val = vv v ∧ f x = some v) → ∃ xs : List κ, xs.length = L.length ∧ L.map (·.key) = xs.map kv ∧ ∀ x ∈ xs, (f x).isSome = true := by
   intro L
   induction L with
   | nil => intro _; exact ⟨[], rfl, rfl, by simp⟩
   | cons e L ih =>
    intro hL
    obtain ⟨xs, x1, x2, x3⟩ := ih fun e' he' => hL e' (by simp [he'])
    obtain ⟨x, v, _, e1, _, e3⟩ := hL e (by simp)
    refine ⟨x :: xs, by simp [x1], by simp [x2, e1], fun y hy => ?_⟩
    rcases List.mem_cons.1 hy with rfl | hy
    ·rw [e3]; rfl
    ·exact x3 y hy
  exact go _ h.ent
 obtain ⟨xs, x1, x2, x3⟩ := h2
 have hnx : xs.Nodup := by
  have h3 : (es.toList.map (·.key)).Nodup := by unfold List.Nodup; rw [List.pairwise_map]; exact hd
  rw [x2] at h3
  unfold List.Nodup at h3 ⊢
  rw [List.pairwise_map] at h3
  exact h3.imp fun h g => h (by rw [g])
 have hp : xs.Perm ks := perm_of_mem hnx hn fun x => by
  rw [hk x]
  constructor
  ·exact x3 x
  ·intro hx
   obtain ⟨v, hv⟩ := Option.isSome_iff_exists.1 hx
   obtain ⟨e, he, hke⟩ := h.has x v hv
   have : kv x ∈ xs.map kv := by rw [← x2, ← hke]; exact List.mem_map.2 ⟨e, he, rfl⟩
   obtain ⟨y, hy, hyx⟩ := List.mem_map.1 this
   rw [← hinj y x hyx]; exact hy
 rw [← hp.length_eq, x1]; simp
theorem Mp.len [DecidableEq κ] (h : Mp kv vv ok f n w b) (hinj : ∀ x y, kv x = kv y → x = y) (ht : P.underlying t = some (.map k e)) (ks : List κ) (hn : ks.Nodup) (hk : ∀ x, x ∈ ks ↔ (f x).isSome = true) (ty : TypeId) : (Builtin.len_ #[t] ty #[.map (some b)]).run P w = .ok (.int .i64 ks.length) w := by
 obtain ⟨es, clock, hb, hE⟩ := h
 rw [← hE.count hinj ks hn hk]
 simp [Builtin.len_, run_underlying ht, MapKept.run_getObj_map hb, goInt, Result.andThen]
end
end Go.Proofs.YtffaahipgabkhaaGreat
end
