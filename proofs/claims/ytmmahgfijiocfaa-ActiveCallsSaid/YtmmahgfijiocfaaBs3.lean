/- Joined texts. -/
import Derived.Test.YtmmahgfijiocfaaBs0
import Derived.Test.YtmmahgfijiocfaaBs1
import Derived.Test.YtmmahgfijiocfaaBs2
import Derived.ProofKit
import Derived.OpenShut
import Derived.Below
import Derived.Carry
import Derived.ReadAgain
import Derived.ChangeOld
import Derived.Deep.Slices
import Derived.LoopN
import Derived.Maps.Keyed
import Derived.Maps.Own
import Derived.Maps.OwnOps
import Derived.DeepKeys5
set_option linter.unusedVariables false
set_option linter.unusedSimpArgs false
set_option maxRecDepth 100000
set_option maxHeartbeats 16000000
section
namespace Go.Proofs.Ytmmahgfijiocfaa
open Go.RowKit Fg
namespace Reg2
variable {P : Program} {md : Region.Mode} {ops : Array Oper} {es : List Nat} {Cl : List (Nat × Value) → World → Prop} {Fin : List (Nat × Value) → Act → Prop}
def lineS : List (Nat × Bool) → Tr
 | [] => .done
 | k :: l => .one k.1 k.2 (lineS l)
theorem wp_region_lineS {id : Nat} {Q : Exit → Act → World → Prop} {a : Act} {w : World} {l : List Oper} (os : List (Nat × Bool)) (es : List Nat) (Cl : List (Nat × Value) → World → Prop) (hm : P.follows .mixedOrders = true)
  (hS : Region.noSelect l.toArray = true) (hB : lexT .any l.toArray es l.toArray.size (lineS os) (Array.replicate l.toArray.size false) = true)
  (hC : Cl [] w.drew) (h : wT P l.toArray es Cl (fun ps a' => ∀ w', Cl ps w' → Q .normal a' w') (lineS os) [] a) : (Code.region id l.toArray true).wp P Q a w :=
 wp_region_any hm (anyE_sound (es := es) (Fin := fun ps a' => ∀ w', Cl ps w' → Q .normal a' w') (fun ps a' w' hw' h => h w' hw') _ _ [] _ _ hC (anyE_tree hS _ (lineS os) _ _ _ hB h))
theorem wS_nil {ps : List (Nat × Value)} {a : Act} (h : Fin ps a) : wT P ops es Cl Fin (lineS []) ps a := wT_done h
theorem wS_skip {o : Oper} {k : Nat} {s : Bool} {t : List (Nat × Bool)} {ps : List (Nat × Value)} {a : Act} (hk : ops[k]? = some o) (hw : Region.wanted o (yielded ops a.tmps) = false) (h : wT P ops es Cl Fin (lineS t) ps (a.put o.dst undef)) : wT P ops es Cl Fin (lineS ((k, s) :: t)) ps a := wT_skip hk hw h
theorem wS_open {o : Oper} {k : Nat} {s : Bool} {t : List (Nat × Bool)} {ps : List (Nat × Value)} {a : Act} (hk : ops[k]? = some o) (hw : Region.wanted o (yielded ops a.tmps) = true) (he : es.contains k = false)
  (h : ∃ v, (∀ vs w, Cl (ps ++ vs) w → o.quietAt P a (Cl (ps ++ vs)) w v) ∧ wT P ops es Cl Fin (lineS t) ps (a.put o.dst v)) : wT P ops es Cl Fin (lineS ((k, s) :: t)) ps a := wT_open hk hw he h
theorem wS_eff {o : Oper} {k : Nat} {s : Bool} {t : List (Nat × Bool)} {ps : List (Nat × Value)} {a : Act} (hk : ops[k]? = some o) (hw : Region.wanted o (yielded ops a.tmps) = true) (he : es.contains k = true)
  (h1 : ∀ w, Cl ps w → effUpon P Cl k ps ((execOp a.eval o).run P w)) (h : ∀ u, (∃ w, Cl (ps ++ [(k, u)]) w) → wT P ops es Cl Fin (lineS t) (ps ++ [(k, u)]) (a.put o.dst u)) : wT P ops es Cl Fin (lineS ((k, s) :: t)) ps a := wT_eff hk hw he h1 h
end Reg2
end Go.Proofs.Ytmmahgfijiocfaa
end
section
namespace Go.Proofs.Ytmmahgfijiocfaa
open Go.RowKit Go.ChangeShapes Go.WideShapes
namespace Op
section
variable {H : Type} {enc : TypeId × Value → H} {P : Program}
theorem trod_again {W W' : World} (hb : Below W.heap.size W W') (hl : laidOutB P = true) (hm : mapsRowed P = true)
  (hz : ((List.range P.types.size).all fun t => match P.underlying t with | some (.slice e) => decide (0 < P.cellsOf e) | _ => true) = true)
  {ts : List TypeId} {vs : List Value} {ds : List (DataW H)} {ps : List MemPlace} (hts : ∀ t ∈ ts, t < P.types.size)
  (h : DataW.TrodAll enc P W 0 (fun _ => true) true ts vs ds ps) (hlt : ∀ p ∈ ps, p.block < W.heap.size) :
  DataW.TrodAll enc P W' 0 (fun b => decide (b < W.heap.size)) true ts vs ds ps := by
 have h1 := DataW.TrodAll.respare (spare' := fun b => decide (b < W.heap.size)) (kids_rows hl hm) (slices_full_of P hz) hts h (fun p hp => by simpa using hlt p hp)
 clear h
 induction ts generalizing vs ds ps with
 | nil =>
  cases vs <;> cases ds <;> first | exact h1 | exact h1.elim
 | cons t ts ih =>
  match vs, ds, h1 with
  | v :: vs, d :: ds, ⟨p, q, ⟨n, k1⟩, k2, k3⟩ =>
   refine ⟨p, q, ⟨n, DataW.trod_carry n _ _ _ k1 (fun x hx => hb.same (hlt x (by rw [k3]; exact List.mem_append_left _ hx)))⟩, ?_, k3⟩
   exact ih (fun t ht => hts t (List.mem_cons.2 (Or.inr ht))) (fun x hx => hlt x (by rw [k3]; exact List.mem_append_right _ hx)) k2
theorem post_law {f : Func} {s : ChangeSpec} {apart fresh handsOn : Bool} {W W' : World} {args : Array Value} {ds gs : List (DataW H)} {before : List MemPlace} {tb : TypeId}
  (hW : DataW.Whole enc P f.params.toList s.vars apart W args.toList ds gs before) (hv : s.vars = []) (hr : f.resultTypes = #[tb]) (ht : P.underlying tb = some .bool)
  (hfn : s.fn H (ds ++ gs) = { results := [.lit (.bool true)], args := ds })
  (hl : laidOutB P = true) (hm : mapsRowed P = true)
  (hz : ((List.range P.types.size).all fun t => match P.underlying t with | some (.slice e) => decide (0 < P.cellsOf e) | _ => true) = true)
  (hts : ∀ t ∈ f.params.toList, t < P.types.size)
  (hb : Below W.heap.size W W') : s.post enc P f apart fresh handsOn false W args (.bool true) W' := by
 have hlt := DataW.Whole.lt hW
 have hW0 := hW
 obtain ⟨p, q, h1, h2, h3, h4, h5⟩ := hW
 rw [hv] at h2
 obtain ⟨rfl, rfl⟩ := trodVars_none h2
 refine ⟨ds, [], before, [], p, [], hW0, ?_, ?_, ?_, hb.frame _, fun h => by cases h⟩
 ·rw [hfn, hr]
  exact trodAll_cons_mk (p := []) (p' := []) (shut_bool ht true) trodAll_mk0
 ·rw [hfn]
  exact trod_again hb hl hm hz hts h1 (fun x hx => hlt x (by rw [h3]; exact List.mem_append_left _ hx))
 ·rw [hfn, hv]; exact rfl
end
inductive Leaf where
 | bool
 | int (k : IntKind)
 | str
def leavesFields (P : Program) (g : TypeId → Option (List Leaf)) (total : Nat) : List Field → Nat → Option (List Leaf)
 | [], off => if off = total then some [] else none
 | f :: fs, off => match g f.type with
  | some l => if f.offset = off ∧ l.length = P.cellsOf f.type then (leavesFields P g total fs (off + l.length)).map (l ++ ·) else none
  | none => none
def rep (l : List Leaf) : Nat → List Leaf
 | 0 => []
 | n + 1 => l ++ rep l n
def leavesOf (P : Program) : Nat → TypeId → Option (List Leaf)
 | 0, _ => none
 | f + 1, t => match P.underlying t with
  | some .bool => some [.bool]
  | some (.int k) => some [.int k]
  | some .string => some [.str]
  | some (.struct fs) => leavesFields P (leavesOf P f) (P.cellsOf t) fs.toList 0
  | some (.array n e) => match leavesOf P f e with
   | some l => if l.length = P.cellsOf e ∧ n * l.length = P.cellsOf t then some (rep l n) else none
   | none => none
  | _ => none
def aggTy (P : Program) (t : TypeId) : Bool := match P.underlying t with | some (.struct _) => true | some (.array _ _) => true | _ => false
def Fits1 : Leaf → Value → Prop
 | .bool, v => ∃ b, v = .bool b
 | .int k, v => ∃ n, v = .int k n ∧ (Lit.int k n).wf = true
 | .str, v => ∃ s, v = .string s ∧ s.size ≤ maxLen
def Fits : List Leaf → List Value → Prop
 | [], vs => vs = []
 | k :: ks, vs => ∃ v vs', vs = v :: vs' ∧ Fits1 k v ∧ Fits ks vs'
theorem Fits.append : ∀ {ks ks' : List Leaf} {vs vs' : List Value}, Fits ks vs → Fits ks' vs' → Fits (ks ++ ks') (vs ++ vs')
 | [], _, vs, vs', h, h' => by
  have h : vs = [] := h
  subst h; exact h'
 | k :: ks, ks', vs, vs', h, h' => by
  obtain ⟨v, us, rfl, h1, h2⟩ := h
  exact ⟨v, us ++ vs', rfl, h1, h2.append h'⟩
section
variable {H : Type} {enc : TypeId × Value → H} {P : Program} {w : World} {base : Nat} {spare : Nat → Bool} {held : Bool}
theorem fits_fields {n total : Nat} {g : TypeId → Option (List Leaf)} (hg : ∀ t ks, g t = some ks → ∀ cs x, DataW.trod enc P w base spare held n t cs = some x → Fits ks cs) {cs : List Value} (hlen : cs.length = total) :
  ∀ (fs : List Field) (off : Nat) (ks : List Leaf), leavesFields P g total fs off = some ks →
   (∀ f ∈ fs, ∃ y, DataW.trod enc P w base spare held n f.type ((cs.drop f.offset).take (P.cellsOf f.type)) = some y) → Fits ks (cs.drop off)
 | [], off, ks, h, _ => by
  simp only [leavesFields] at h
  split at h
  ·rename_i he
   obtain rfl := Option.some.inj h
   show cs.drop off = []
   rw [List.drop_eq_nil_iff]; omega
  ·cases h
 | f :: fs, off, ks, h, hf => by
  simp only [leavesFields] at h
  split at h
  ·rename_i l hl
   split at h
   ·rename_i hc
    obtain ⟨ho, hn⟩ := hc
    simp only [Option.map_eq_some_iff] at h
    obtain ⟨ks', h1, rfl⟩ := h
    obtain ⟨y, hy⟩ := hf f (List.mem_cons.2 (Or.inl rfl))
    have a1 := hg _ _ hl _ _ hy
    have a2 := fits_fields hg hlen fs _ _ h1 (fun f' hf' => hf f' (List.mem_cons.2 (Or.inr hf')))
    rw [ho, ← hn] at a1
    have := a1.append a2
    rwa [show (cs.drop off).take l.length ++ cs.drop (off + l.length) = cs.drop off by
     rw [← List.drop_drop]; exact List.take_append_drop _ _] at this
   ·cases h
  ·cases h
theorem fits_rep {n c m : Nat} {e : TypeId} {l : List Leaf} {cs : List Value} (hc : l.length = c) (hlen : cs.length = m * c)
  (h : ∀ i, i < m → Fits l ((cs.drop (i * c)).take c)) : ∀ k, k ≤ m → Fits (rep l k) (cs.drop ((m - k) * c))
 | 0, _ => by
  show cs.drop _ = []
  rw [List.drop_eq_nil_iff, Nat.sub_zero]; omega
 | k + 1, hk => by
  have a1 := h (m - (k + 1)) (by omega)
  have a2 := fits_rep (n := n) (e := e) hc hlen h k (by omega)
  have := a1.append a2
  rwa [show (cs.drop ((m - (k + 1)) * c)).take c ++ cs.drop ((m - k) * c) = cs.drop ((m - (k + 1)) * c) by
   rw [show (m - k) * c = (m - (k + 1)) * c + c by rw [show m - k = (m - (k + 1)) + 1 by omega, Nat.add_mul, Nat.one_mul], ← List.drop_drop]; exact List.take_append_drop _ _] at this
theorem fits_of_trod : ∀ (f : Nat) (t : TypeId) (ks : List Leaf), leavesOf P f t = some ks → ∀ (n : Nat) (cs : List Value) (x : DataW H × List MemPlace), DataW.trod enc P w base spare held n t cs = some x → Fits ks cs
 | 0, _, _, h, _, _, _, _ => by cases h
 | f + 1, t, ks, h, n, cs, x, hx => by
  simp only [leavesOf] at h
  split at h
  case h_1 hu =>
   obtain rfl := Option.some.inj h
   cases n with
   | zero => simp [DataW.trod] at hx
   | succ n =>
    simp only [DataW.trod, hu] at hx
    split at hx <;> simp_all
    exact ⟨_, _, rfl, ⟨_, rfl⟩, rfl⟩
  case h_2 k hu =>
   obtain rfl := Option.some.inj h
   cases n with
   | zero => simp [DataW.trod] at hx
   | succ n =>
    simp only [DataW.trod, hu] at hx
    split at hx <;> simp_all
    exact ⟨_, _, rfl, ⟨_, rfl, hx.1.2⟩, rfl⟩
  case h_3 hu =>
   obtain rfl := Option.some.inj h
   cases n with
   | zero => simp [DataW.trod] at hx
   | succ n =>
    simp only [DataW.trod, hu] at hx
    split at hx <;> simp_all
    exact ⟨_, _, rfl, ⟨_, rfl, hx.1⟩, rfl⟩
  case h_4 fs hu =>
   obtain ⟨xs, m, rfl, rfl, hl, hn, hf⟩ := DataW.trod_struct hu hx
   have := fits_fields (n := m) (fun t ks ht cs x hx => fits_of_trod f t ks ht m cs x hx) hl fs.toList 0 ks h (fun fd hfd => by
    obtain ⟨i, hi, rfl⟩ := List.mem_iff_getElem.1 hfd
    have hi' : i < fs.size := by simpa using hi
    have := hf i (fs.toList[i]) (by simp [hi'])
    rw [List.getElem?_eq_getElem (by omega)] at this
    exact ⟨_, this⟩)
   simpa using this
  case h_5 k e hu =>
   split at h
   ·rename_i l hl
    split at h
    ·rename_i hc
     obtain rfl := Option.some.inj h
     obtain ⟨xs, m, rfl, rfl, hlen, hn, hf⟩ := DataW.trod_array hu hx
     have := fits_rep (n := 0) (e := e) (c := P.cellsOf e) (m := k) (l := l) (cs := cs) hc.1 (by rw [hlen, ← hc.2, hc.1]) (fun i hi => by
      have := hf i hi
      rw [List.getElem?_eq_getElem (by omega)] at this
      exact fits_of_trod f e l hl m _ _ this) k (Nat.le_refl _)
     simpa using this
    ·cases h
   ·cases h
  case h_6 => cases h
theorem open_flats {t e : TypeId} {v : Value} {d : DataW H} {p : List MemPlace} {f : Nat} {ks : List Leaf} (ht : P.underlying t = some (.slice e)) (hl : leavesOf P f e = some ks)
  (h : DataW.Trod enc P w base spare held t v d p) (hone : v.cells.toList = [v]) :
  v = .slice none 0 0 ∨ ∃ (a : Addr) (len cap : Nat), v = .slice (some a) len cap ∧ base ≤ a.block ∧ len ≤ cap ∧ cap ≤ maxLen ∧
   ∀ i, i < len → ∃ cs, w.cells? base (a.add (i * P.cellsOf e)) (P.cellsOf e) = some cs ∧ Fits ks cs := by
 obtain ⟨fuel, hf⟩ := h
 rw [hone] at hf
 rcases Go.Deep.open_slice ht hf with ⟨h1, _⟩ | ⟨a, len, cap, m, n, D, Pl, h1, h2, h3, h4, h5, _, h7⟩
 ·left; simpa using h1
 ·right
  refine ⟨a, len, cap, by simpa using h1, h2, h3, h4, fun i hi => ?_⟩
  obtain ⟨cs, k1, k2⟩ := h7 i (by rw [h5]; split <;> omega)
  exact ⟨cs, k1, fits_of_trod f e ks hl _ _ _ k2⟩
end
end Op
end Go.Proofs.Ytmmahgfijiocfaa
namespace Go.Proofs.Ytmmahgfijiocfaa
open Go.RowKit Go.ChangeShapes Go.WideShapes
namespace Op
theorem Fits.length : ∀ {ks : List Leaf} {cs : List Value}, Fits ks cs → cs.length = ks.length
 | [], cs, h => by have h : cs = [] := h; rw [h]; rfl
 | k :: ks, cs, h => by obtain ⟨v, vs, rfl, _, h2⟩ := h; simp [h2.length]
def ElemAt (w : World) (b o c i : Nat) (cs : List Value) : Prop := ∀ j x, cs[j]? = some x → w.cell? ⟨b, o + i * c + j, none⟩ = some x
def FlatSlice (w : World) (c : Nat) (ks : List Leaf) (v : Value) : Prop :=
 v = .slice none 0 0 ∨ (∃ a cap, v = .slice (some a) 0 cap ∧ cap ≤ maxLen) ∨
 ∃ (b o n cap : Nat) (css : List (List Value)), 0 < n ∧ v = .slice (some ⟨b, o, none⟩) n cap ∧ n ≤ cap ∧ cap ≤ maxLen ∧ b < w.heap.size ∧ css.length = n ∧
  ∀ i (h : i < css.length), Fits ks css[i] ∧ ElemAt w b o c i css[i]
section
variable {H : Type} {enc : TypeId × Value → H} {P : Program} {w : World} {base : Nat} {spare : Nat → Bool} {held : Bool}
theorem slice_one {r : Reach} {b0 : Nat} {t e : TypeId} {v : Value} (ht : P.underlying t = some (.slice e)) (hv : Value.okWide P w r b0 t v) : v.cells.toList = [v] := by
 unfold Value.okWide at hv
 rw [ht] at hv
 cases v <;> simp_all [Value.cells, Cell.okWide, Cell.ok]
theorem open_flat_slice {r : Reach} {b0 : Nat} {t e : TypeId} {v : Value} {d : DataW H} {p : List MemPlace} {f : Nat} {ks : List Leaf} (ht : P.underlying t = some (.slice e)) (hl : leavesOf P f e = some ks) (hk : ks ≠ [])
  (hv : Value.okWide P w r b0 t v) (h : DataW.Trod enc P w base spare held t v d p) : FlatSlice w (P.cellsOf e) ks v := by
 rcases open_flats ht hl h (slice_one ht hv) with h0 | ⟨a, len, cap, rfl, h2, h3, h4, h5⟩
 ·exact .inl h0
 ·right
  rcases Nat.eq_zero_or_pos len with h0 | h0
  ·subst h0; exact .inl ⟨a, cap, rfl, h4⟩
  ·right
   obtain ⟨css, hcss⟩ := Go.Deep.choose_lt (n := len) (p := fun i cs => w.cells? base (a.add (i * P.cellsOf e)) (P.cellsOf e) = some cs ∧ Fits ks cs) h5
   have cell : ∀ i, i < len → ∀ j x, (css i)[j]? = some x → w.cell? ((a.add (i * P.cellsOf e)).add j) = some x := fun i hi j x hj => by
    have h1 := (hcss i hi).1
    unfold World.cells? at h1
    split at h1
    ·have hjl := (List.getElem?_eq_some_iff.1 hj).1
     have hcl : (css i).length = P.cellsOf e := by simpa using mapM_some_length h1
     have hr : (List.range (P.cellsOf e))[j]? = some j := by rw [List.getElem?_range (by omega)]
     have h6 := mapM_some_get h1 j j hr
     rw [h6, hj]
    ·cases h1
   have hc0 : ∃ x, (css 0)[0]? = some x := by
    have := (hcss 0 h0).2.length
    cases hk' : ks with
    | nil => exact absurd hk' hk
    | cons k ks' =>
     rw [hk'] at this
     have hl : 0 < (css 0).length := by rw [this]; simp
     exact ⟨_, List.getElem?_eq_getElem hl⟩
   obtain ⟨x0, hx0⟩ := hc0
   have hc := cell 0 h0 0 x0 hx0
   simp [Addr.add] at hc
   obtain ⟨b, o, s⟩ := a
   have hs : s = none ∧ b < w.heap.size := by
    unfold World.cell? at hc
    split at hc
    ·rename_i hb
     have hlt : b < w.heap.size := by
      rcases Nat.lt_or_ge b w.heap.size with h' | h'
      ·exact h'
      ·rw [Array.getElem?_eq_none h'] at hb; cases hb
     cases s with
     | none => exact ⟨rfl, hlt⟩
     | some _ => simp at hc
    ·cases hc
   obtain ⟨rfl, hlt⟩ := hs
   refine ⟨b, o, len, cap, (List.range len).map css, h0, rfl, h3, h4, hlt, by simp, fun i hi => ?_⟩
   have hi' : i < len := by simpa using hi
   simp only [List.getElem_map, List.getElem_range]
   refine ⟨(hcss i hi').2, fun j x hj => ?_⟩
   have h7 := cell i hi' j x hj
   rw [Go.Deep.add_add] at h7
   unfold Addr.add at h7
   split at h7
   ·rename_i h8
    rw [Nat.add_assoc, h8, Nat.add_zero]; exact h7
   ·rw [Nat.add_assoc]; exact h7
end
end Op
end Go.Proofs.Ytmmahgfijiocfaa
end
section
namespace Go.Proofs.Ytmmahgfijiocfaa
open Go.RowKit Fg Reg
attribute [local irreducible] Reg.wE
structure Cls where
 id : Int
 par : Int
 leaf : Bool
 ra : Int
 rb : Int
 rc : Int
 la : Int
 lb : Int
 lc : Int
 ua : Int
 ub : Int
 uc : Int
 pk : Int
 bt : Int
theorem those_nil (f : Value) (w : World) : Calls Try.prog 43 #[.pointer none, f] w fun ee w' => ee = .returned (.slice none 0 0) ∧ Below w.heap.size w w' := by
 go_enter Try.func43, Try.ntmps43
 go_wp2
 refine bodyPost_ret (v := (.slice none 0 0)) (by simp [results, Try.results43, go_sem, *]) rfl ⟨rfl, ?_⟩
 first | (with_reducible assumption) | exact bub
theorem leaves_nil (w : World) : Calls Try.prog 20 #[.pointer none] w fun ee w' => ee = .returned (.slice none 0 0) ∧ Below w.heap.size w w' := by
 go_enter Try.func20, Try.ntmps20
 go_wp2_with (first | go_guarded | (go_at_call 43; (with_reducible refine (those_nil _ _).mono ?_); rintro _ w1 ⟨rfl, hbel⟩; have hsz1 := hbel.size))
 refine bodyPost_ret (v := (.slice none 0 0)) (by simp [results, Try.results20, go_sem, *]) rfl ⟨rfl, ?_⟩
 first | (with_reducible assumption) | exact bub
end Go.Proofs.Ytmmahgfijiocfaa
end
section
namespace Go.Proofs.Ytmmahgfijiocfaa
open Go.RowKit Fg Reg Go.MapKept Go.Maps
section
variable {P : Program} {κ ν : Type} {k : TypeId} {kv : κ → Value} {vv : ν → Value} {ok : κ → Prop}
structure KeyOk (P : Program) (k : TypeId) (kv : κ → Value) (ok : κ → Prop) : Prop where
 keyed : Keyed P k
 lit : ∀ x, ok x → ∃ l, keyOf P k (kv x) = some l
 inj : ∀ x y, ok x → ok y → kv x = kv y → x = y
structure MpEnt (kv : κ → Value) (vv : ν → Value) (ok : κ → Prop) (f : κ → Option ν) (n : Nat) (es : Array MapEntry) (clock : Nat) : Prop where
 stamped : Stamped es clock
 size : es.size ≤ n
 ent : ∀ e ∈ es.toList, ∃ x v, ok x ∧ e.key = kv x ∧ e.val = vv v ∧ f x = some v
 has : ∀ x v, f x = some v → ∃ e ∈ es.toList, e.key = kv x
def Mp (kv : κ → Value) (vv : ν → Value) (ok : κ → Prop) (f : κ → Option ν) (n : Nat) (w : World) (b : Nat) : Prop :=
 ∃ es clock, w.heap[b]? = some (.map es clock) ∧ MpEnt kv vv ok f n es clock
def upd [DecidableEq κ] (f : κ → Option ν) (x : κ) (v : ν) : κ → Option ν := fun y => if y = x then some v else f y
variable {f : κ → Option ν} {n : Nat} {w : World} {b : Nat}
theorem Mp.frame {w' : World} (h : Mp kv vv ok f n w b) (he : w'.heap[b]? = w.heap[b]?) : Mp kv vv ok f n w' b := by
 obtain ⟨es, clock, hb, hE⟩ := h
 exact ⟨es, clock, by rw [he, hb], hE⟩
theorem Mp.lt (h : Mp kv vv ok f n w b) : b < w.heap.size := by
 obtain ⟨es, clock, hb, hE⟩ := h
 exact (Array.getElem?_eq_some_iff.1 hb).1
theorem Mp.made (kv : κ → Value) (vv : ν → Value) (ok : κ → Prop) (w : World) : Mp kv vv ok (fun _ => none) 0 (w.alloc (.map #[] 0)) w.heap.size :=
 ⟨#[], 0, (MapKept.heap_alloc w _).1, ⟨stamped_empty 0, Nat.le_refl _, by simp, by simp⟩⟩
theorem Mp.mono (h : Mp kv vv ok f n w b) {m : Nat} (hm : n ≤ m) : Mp kv vv ok f m w b := by
 obtain ⟨es, clock, hb, hE⟩ := h
 exact ⟨es, clock, hb, hE.stamped, Nat.le_trans hE.size hm, hE.ent, hE.has⟩
theorem Mp.below {w' : World} {B : Nat} (h : Mp kv vv ok f n w b) (hB : Below B w w') (hb : b < B) : Mp kv vv ok f n w' b := h.frame (hB.block b hb)
theorem Mp.alloc (h : Mp kv vv ok f n w b) (o : Obj) : Mp kv vv ok f n (w.alloc o) b := h.frame (Below.heap_alloc _ _ _ h.lt)
theorem Mp.drew (h : Mp kv vv ok f n w b) : Mp kv vv ok f n w.drew b := h
theorem Mp.setCell (h : Mp kv vv ok f n w b) {p : Addr} (hp : b ≠ p.block) (u : Value) : Mp kv vv ok f n (w.setCell p u) b := h.frame (Below.heap_setCell w p u b hp)
variable {t e : TypeId}
theorem MpEnt.keys {es : Array MapEntry} {clock : Nat} (K : KeyOk P k kv ok) (h : MpEnt kv vv ok f n es clock) : ∀ e ∈ es.toList, ∃ l, keyOf P k e.key = some l := fun e he => by
 obtain ⟨x, v, hx, h1, _⟩ := h.ent e he
 rw [h1]; exact K.lit x hx
theorem MpEnt.val {es : Array MapEntry} {clock : Nat} (K : KeyOk P k kv ok) (h : MpEnt kv vv ok f n es clock) {x : κ} (hx : ok x) {e : MapEntry} (he : e ∈ es.toList) (hk : e.key = kv x) : ∃ v, f x = some v ∧ e.val = vv v := by
 obtain ⟨y, v, hy, h1, h2, h3⟩ := h.ent e he
 obtain rfl := K.inj y x hy hx (by rw [← h1, hk])
 exact ⟨v, h3, h2⟩
def mget (z : Value) (vv : ν → Value) (o : Option ν) : Value := match o with | some v => vv v | none => z
theorem Mp.look (c : Bool) (h : Mp kv vv ok f n w b) (K : KeyOk P k kv ok) (ht : P.underlying t = some (.map k e)) {z : Value} (hz : (zeroValue e).run P w = .ok z w) {x : κ} (hx : ok x) :
  (Instr.lookup t (.map (some b)) (kv x) c).run P w = .ok (if c then .tuple #[mget z vv (f x), .bool (f x).isSome] else mget z vv (f x)) w := by
 obtain ⟨es, clock, hb, hE⟩ := h
 obtain ⟨l, hl⟩ := K.lit x hx
 rcases K.keyed.find w hl es.toList (hE.keys K) with ⟨h1, h2⟩ | ⟨j, e0, h1, h2, h3⟩
 ·have hf : f x = none := by
   cases hf : f x with
   | none => rfl
   | some v =>
    obtain ⟨e, he, hk⟩ := hE.has x v hf
    exact absurd hk (h2 e he)
  rw [hf]
  simp [Instr.lookup, run_underlying ht, MapKept.run_getObj_map hb, K.keyed.check w _ hl, h1, hz, Result.andThen, mget]
 ·obtain ⟨v, hf, hv⟩ := hE.val K hx (List.mem_of_getElem? h2) h3
  rw [hf]
  simp [Instr.lookup, run_underlying ht, MapKept.run_getObj_map hb, K.keyed.check w _ hl, h1, Result.andThen, mget, hv]
theorem Mp.update [DecidableEq κ] (h : Mp kv vv ok f n w b) (K : KeyOk P k kv ok) (ht : P.underlying t = some (.map k e)) {x : κ} (hx : ok x) (v : ν) :
  ∃ w', (Instr.mapUpdate t (.map (some b)) (kv x) (vv v)).run P w = .ok () w' ∧ Mp kv vv ok (upd f x v) (n + 1) w' b ∧ Only (fun i => i = b) w w' ∧ w'.heap.size = w.heap.size := by
 obtain ⟨es, clock, hb, hE⟩ := h
 obtain ⟨l, hl⟩ := K.lit x hx
 have hO : ∀ o, Only (fun i => i = b) w (ChangeMaps.setBlock w b o) := fun o => ⟨rfl, rfl, rfl, by simp [ChangeMaps.setBlock], fun i _ hi => ChangeMaps.heap_setBlock_other hb _ (fun e => hi e)⟩
 rcases K.keyed.find w hl es.toList (hE.keys K) with ⟨h1, h2⟩ | ⟨j, e0, h1, h2, h3⟩
 ·refine ⟨ChangeMaps.setBlock w b (.map (es.push ⟨kv x, vv v, clock⟩) (clock + 1)), ?_, ⟨_, _, ChangeMaps.heap_setBlock_same hb _, stamped_push hE.stamped h2, by simpa using hE.size, ?_, ?_⟩, hO _, by simp [ChangeMaps.setBlock]⟩
  ·simp [Instr.mapUpdate, run_underlying ht, MapKept.run_getObj_map hb, K.keyed.check w false hl, h1, MapKept.run_setObj_map _ hb, Result.andThen, ChangeMaps.setBlock]
  ·intro e he
   simp only [Array.toList_push, List.mem_append, List.mem_singleton] at he
   rcases he with he | rfl
   ·obtain ⟨y, u, hy, e1, e2, e3⟩ := hE.ent e he
    refine ⟨y, u, hy, e1, e2, ?_⟩
    have : y ≠ x := fun hyx => h2 e he (by rw [e1, hyx])
    simp [upd, this, e3]
   ·exact ⟨x, v, hx, rfl, rfl, by simp [upd]⟩
  ·intro y u hu
   by_cases hy : y = x
   ·exact ⟨⟨kv x, vv v, clock⟩, by simp, by rw [hy]⟩
   ·simp only [upd, hy, if_false] at hu
    obtain ⟨e, he, hk⟩ := hE.has y u hu
    exact ⟨e, by simp [Array.toList_push]; exact .inl (by simpa using he), hk⟩
 ·have hj : es[j]? = some e0 := by simpa using h2
  have hkeyf : ∀ e', es[j]? = some e' → ({ e' with key := kv x, val := vv v } : MapEntry).key = e'.key := fun e' he' => by rw [hj] at he'; cases he'; exact h3.symm
  have hlist : (es.modify j (fun e' => { e' with key := kv x, val := vv v })).toList = es.toList.set j { e0 with key := kv x, val := vv v } := by rw [Array.toList_modify, ChangeMaps.modify_eq_set _ _ _ _ h2]
  have hjl : j < es.toList.length := (List.getElem?_eq_some_iff.1 h2).1
  have hd := ((stamped_iff es clock).1 hE.stamped).2.2
  refine ⟨ChangeMaps.setBlock w b (.map (es.modify j (fun e' => { e' with key := kv x, val := vv v })) clock), ?_, ⟨_, _, ChangeMaps.heap_setBlock_same hb _, stamped_modify hE.stamped _ _ (fun _ _ => rfl) (fun e' _ he' => hkeyf e' he'), by simpa using Nat.le_succ_of_le hE.size, ?_, ?_⟩, hO _, by simp [ChangeMaps.setBlock]⟩
  ·simp [Instr.mapUpdate, run_underlying ht, MapKept.run_getObj_map hb, K.keyed.check w false hl, h1, hj, h3, K.keyed.stays w hl, MapKept.run_setObj_map _ hb, Result.andThen, ChangeMaps.setBlock]
  ·intro e he
   rw [hlist] at he
   obtain ⟨i, hi, ex⟩ := List.getElem_of_mem he
   rw [List.getElem_set] at ex
   have hi' : i < es.toList.length := by simpa using hi
   split at ex
   ·exact ⟨x, v, hx, by rw [← ex], by rw [← ex], by simp [upd]⟩
   ·rename_i hne
    have hm : e ∈ es.toList := ex ▸ List.getElem_mem hi'
    obtain ⟨y, u, hy, e1, e2, e3⟩ := hE.ent e hm
    refine ⟨y, u, hy, e1, e2, ?_⟩
    have : y ≠ x := fun hyx => by
     have hk : e.key = e0.key := by rw [e1, hyx, h3]
     have e0j : es.toList[j] = e0 := (List.getElem?_eq_some_iff.1 h2).2
     have hpw := List.pairwise_iff_getElem.1 hd
     rcases Nat.lt_or_gt_of_ne hne with hlt | hlt
     ·exact hpw j i hjl hi' hlt (by rw [e0j, ex, hk])
     ·exact hpw i j hi' hjl hlt (by rw [e0j, ex, hk])
    simp [upd, this, e3]
  ·intro y u hu
   rw [hlist]
   by_cases hy : y = x
   ·exact ⟨{ e0 with key := kv x, val := vv v }, List.mem_iff_getElem.2 ⟨j, by simpa using hjl, by simp⟩, by rw [hy]⟩
   ·simp only [upd, hy, if_false] at hu
    obtain ⟨e, he, hk⟩ := hE.has y u hu
    obtain ⟨i, hi, ex⟩ := List.getElem_of_mem he
    by_cases hij : j = i
    ·subst hij
     obtain ⟨y', u', hy', e1, e2, e3⟩ := hE.ent e he
     have e0j : es.toList[j] = e0 := (List.getElem?_eq_some_iff.1 h2).2
     have hee : e = e0 := by rw [← ex, e0j]
     exact ⟨{ e0 with key := kv x, val := vv v }, List.mem_iff_getElem.2 ⟨j, by simpa using hjl, by simp⟩, by simp; rw [← hk, hee, h3]⟩
    ·exact ⟨e, List.mem_iff_getElem.2 ⟨i, by simpa using hi, by rw [List.getElem_set_ne hij]; exact ex⟩, hk⟩
end
end Go.Proofs.Ytmmahgfijiocfaa
end
section
namespace Go.Proofs.Ytmmahgfijiocfaa
open Go.RowKit Fg Reg Go.Maps
def ikv (x : Int) : Value := .int .i64 x
def iok (x : Int) : Prop := (Lit.int .i64 x).wf = true
theorem ikok : KeyOk Try.prog 3 ikv iok where
 keyed := int_keyed Try.underlying3
 lit x hx := ⟨_, keyOf_int_mk Try.underlying3 hx⟩
 inj x y _ _ h := by simpa [ikv] using h
theorem ikv_inj (x y : Int) (h : ikv x = ikv y) : x = y := by simpa [ikv] using h
end Go.Proofs.Ytmmahgfijiocfaa
end
