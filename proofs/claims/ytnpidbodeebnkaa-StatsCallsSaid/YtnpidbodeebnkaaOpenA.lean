import Derived.ProofKit
import Derived.OpenShut
import Derived.Below
import Derived.Carry
import Derived.ReadAgain
import Derived.ChangeOld
import Derived.Deep.Slices
/- Arguments of whatever type, read again behind a call that has made new blocks alone; and values by value whose cells are all numbers, truth values and strings, opened cell by cell. Nothing of the program is imported here. -/
namespace Go.Proofs.Ytnpidbodeebnkaa
set_option linter.unusedVariables false
set_option linter.unusedSimpArgs false
set_option maxRecDepth 100000
open Go.RowKit Go.ChangeShapes Go.WideShapes
namespace Op

/-! What a law's row asks behind a call that has made new blocks alone, whatever its arguments. -/
section
variable {H : Type} {enc : TypeId × Value → H} {P : Program}
theorem trod_again {W W' : World} (hb : Below W.heap.size W W') (hl : laidOutB P = true) (hm : mapsRowed P = true)
    (hz : ((List.range P.types.size).all fun t => match P.underlying t with | some (.slice e) => decide (0 < P.cellsOf e) | _ => true) = true)
    {ts : List TypeId} {vs : List Value} {ds : List (DataW H)} {ps : List MemPlace} (hts : ∀ t ∈ ts, t < P.types.size)
    (h : DataW.TrodAll enc P W 0 (fun _ => true) true ts vs ds ps) (hlt : ∀ p ∈ ps, p.block < W.heap.size) :
    DataW.TrodAll enc P W' 0 (fun b => decide (b < W.heap.size)) true ts vs ds ps := by
  have h1 := DataW.TrodAll.respare (spare' := fun b => decide (b < W.heap.size)) (kids_rows hl hm) (slices_full_of P hz) hts h (fun p hp => by simpa using hlt p hp)
  clear h
  induction ts generalizing vs ds ps with
  | nil =>
    cases vs <;> cases ds <;> first | exact h1 | exact h1.elim
  | cons t ts ih =>
    match vs, ds, h1 with
    | v :: vs, d :: ds, ⟨p, q, ⟨n, k1⟩, k2, k3⟩ =>
      refine ⟨p, q, ⟨n, DataW.trod_carry n _ _ _ k1 (fun x hx => hb.same (hlt x (by rw [k3]; exact List.mem_append_left _ hx)))⟩, ?_, k3⟩
      exact ih (fun t ht => hts t (List.mem_cons.2 (Or.inr ht))) (fun x hx => hlt x (by rw [k3]; exact List.mem_append_right _ hx)) k2

theorem post_law {f : Func} {s : ChangeSpec} {apart fresh handsOn : Bool} {W W' : World} {args : Array Value} {ds gs : List (DataW H)} {before : List MemPlace} {tb : TypeId}
    (hW : DataW.Whole enc P f.params.toList s.vars apart W args.toList ds gs before) (hv : s.vars = []) (hr : f.resultTypes = #[tb]) (ht : P.underlying tb = some .bool)
    (hfn : s.fn H (ds ++ gs) = { results := [.lit (.bool true)], args := ds })
    (hl : laidOutB P = true) (hm : mapsRowed P = true)
    (hz : ((List.range P.types.size).all fun t => match P.underlying t with | some (.slice e) => decide (0 < P.cellsOf e) | _ => true) = true)
    (hts : ∀ t ∈ f.params.toList, t < P.types.size)
    (hb : Below W.heap.size W W') : s.post enc P f apart fresh handsOn false W args (.bool true) W' := by
  have hlt := DataW.Whole.lt hW
  have hW0 := hW
  obtain ⟨p, q, h1, h2, h3, h4, h5⟩ := hW
  rw [hv] at h2
  obtain ⟨rfl, rfl⟩ := trodVars_none h2
  refine ⟨ds, [], before, [], p, [], hW0, ?_, ?_, ?_, hb.frame _, fun h => by cases h⟩
  · rw [hfn, hr]
    exact trodAll_cons_mk (p := []) (p' := []) (shut_bool ht true) trodAll_mk0
  · rw [hfn]
    exact trod_again hb hl hm hz hts h1 (fun x hx => hlt x (by rw [h3]; exact List.mem_append_left _ hx))
  · rw [hfn, hv]; exact rfl
end

/-! The leaves of a type whose values hold numbers, truth values and strings alone. -/
inductive Leaf where
  | bool
  | int (k : IntKind)
  | str

def leavesFields (P : Program) (g : TypeId → Option (List Leaf)) (total : Nat) : List Field → Nat → Option (List Leaf)
  | [], off => if off = total then some [] else none
  | f :: fs, off => match g f.type with
    | some l => if f.offset = off ∧ l.length = P.cellsOf f.type then (leavesFields P g total fs (off + l.length)).map (l ++ ·) else none
    | none => none
def rep (l : List Leaf) : Nat → List Leaf
  | 0 => []
  | n + 1 => l ++ rep l n
def leavesOf (P : Program) : Nat → TypeId → Option (List Leaf)
  | 0, _ => none
  | f + 1, t => match P.underlying t with
    | some .bool => some [.bool]
    | some (.int k) => some [.int k]
    | some .string => some [.str]
    | some (.struct fs) => leavesFields P (leavesOf P f) (P.cellsOf t) fs.toList 0
    | some (.array n e) => match leavesOf P f e with
      | some l => if l.length = P.cellsOf e ∧ n * l.length = P.cellsOf t then some (rep l n) else none
      | none => none
    | _ => none

/-- Is it a struct, or an array? -/
def aggTy (P : Program) (t : TypeId) : Bool := match P.underlying t with | some (.struct _) => true | some (.array _ _) => true | _ => false

def Fits1 : Leaf → Value → Prop
  | .bool, v => ∃ b, v = .bool b
  | .int k, v => ∃ n, v = .int k n ∧ (Lit.int k n).wf = true
  | .str, v => ∃ s, v = .string s ∧ s.size ≤ maxLen
def Fits : List Leaf → List Value → Prop
  | [], vs => vs = []
  | k :: ks, vs => ∃ v vs', vs = v :: vs' ∧ Fits1 k v ∧ Fits ks vs'
theorem Fits.append : ∀ {ks ks' : List Leaf} {vs vs' : List Value}, Fits ks vs → Fits ks' vs' → Fits (ks ++ ks') (vs ++ vs')
  | [], _, vs, vs', h, h' => by
    have h : vs = [] := h
    subst h; exact h'
  | k :: ks, ks', vs, vs', h, h' => by
    obtain ⟨v, us, rfl, h1, h2⟩ := h
    exact ⟨v, us ++ vs', rfl, h1, h2.append h'⟩

section
variable {H : Type} {enc : TypeId × Value → H} {P : Program} {w : World} {base : Nat} {spare : Nat → Bool} {held : Bool}

theorem fits_fields {n total : Nat} {g : TypeId → Option (List Leaf)} (hg : ∀ t ks, g t = some ks → ∀ cs x, DataW.trod enc P w base spare held n t cs = some x → Fits ks cs) {cs : List Value} (hlen : cs.length = total) :
    ∀ (fs : List Field) (off : Nat) (ks : List Leaf), leavesFields P g total fs off = some ks →
      (∀ f ∈ fs, ∃ y, DataW.trod enc P w base spare held n f.type ((cs.drop f.offset).take (P.cellsOf f.type)) = some y) → Fits ks (cs.drop off)
  | [], off, ks, h, _ => by
    simp only [leavesFields] at h
    split at h
    · rename_i he
      obtain rfl := Option.some.inj h
      show cs.drop off = []
      rw [List.drop_eq_nil_iff]; omega
    · cases h
  | f :: fs, off, ks, h, hf => by
    simp only [leavesFields] at h
    split at h
    · rename_i l hl
      split at h
      · rename_i hc
        obtain ⟨ho, hn⟩ := hc
        simp only [Option.map_eq_some_iff] at h
        obtain ⟨ks', h1, rfl⟩ := h
        obtain ⟨y, hy⟩ := hf f (List.mem_cons.2 (Or.inl rfl))
        have a1 := hg _ _ hl _ _ hy
        have a2 := fits_fields hg hlen fs _ _ h1 (fun f' hf' => hf f' (List.mem_cons.2 (Or.inr hf')))
        rw [ho, ← hn] at a1
        have := a1.append a2
        rwa [show (cs.drop off).take l.length ++ cs.drop (off + l.length) = cs.drop off by
          rw [← List.drop_drop]; exact List.take_append_drop _ _] at this
      · cases h
    · cases h

theorem fits_rep {n c m : Nat} {e : TypeId} {l : List Leaf} {cs : List Value} (hc : l.length = c) (hlen : cs.length = m * c)
    (h : ∀ i, i < m → Fits l ((cs.drop (i * c)).take c)) : ∀ k, k ≤ m → Fits (rep l k) (cs.drop ((m - k) * c))
  | 0, _ => by
    show cs.drop _ = []
    rw [List.drop_eq_nil_iff, Nat.sub_zero]; omega
  | k + 1, hk => by
    have a1 := h (m - (k + 1)) (by omega)
    have a2 := fits_rep (n := n) (e := e) hc hlen h k (by omega)
    have := a1.append a2
    rwa [show (cs.drop ((m - (k + 1)) * c)).take c ++ cs.drop ((m - k) * c) = cs.drop ((m - (k + 1)) * c) by
      rw [show (m - k) * c = (m - (k + 1)) * c + c by rw [show m - k = (m - (k + 1)) + 1 by omega, Nat.add_mul, Nat.one_mul], ← List.drop_drop]; exact List.take_append_drop _ _] at this

theorem fits_of_trod : ∀ (f : Nat) (t : TypeId) (ks : List Leaf), leavesOf P f t = some ks → ∀ (n : Nat) (cs : List Value) (x : DataW H × List MemPlace), DataW.trod enc P w base spare held n t cs = some x → Fits ks cs
  | 0, _, _, h, _, _, _, _ => by cases h
  | f + 1, t, ks, h, n, cs, x, hx => by
    simp only [leavesOf] at h
    split at h
    case h_1 hu =>
      obtain rfl := Option.some.inj h
      cases n with
      | zero => simp [DataW.trod] at hx
      | succ n =>
        simp only [DataW.trod, hu] at hx
        split at hx <;> simp_all
        exact ⟨_, _, rfl, ⟨_, rfl⟩, rfl⟩
    case h_2 k hu =>
      obtain rfl := Option.some.inj h
      cases n with
      | zero => simp [DataW.trod] at hx
      | succ n =>
        simp only [DataW.trod, hu] at hx
        split at hx <;> simp_all
        exact ⟨_, _, rfl, ⟨_, rfl, hx.1.2⟩, rfl⟩
    case h_3 hu =>
      obtain rfl := Option.some.inj h
      cases n with
      | zero => simp [DataW.trod] at hx
      | succ n =>
        simp only [DataW.trod, hu] at hx
        split at hx <;> simp_all
        exact ⟨_, _, rfl, ⟨_, rfl, hx.1⟩, rfl⟩
    case h_4 fs hu =>
      obtain ⟨xs, m, rfl, rfl, hl, hn, hf⟩ := DataW.trod_struct hu hx
      have := fits_fields (n := m) (fun t ks ht cs x hx => fits_of_trod f t ks ht m cs x hx) hl fs.toList 0 ks h (fun fd hfd => by
        obtain ⟨i, hi, rfl⟩ := List.mem_iff_getElem.1 hfd
        have hi' : i < fs.size := by simpa using hi
        have := hf i (fs.toList[i]) (by simp [hi'])
        rw [List.getElem?_eq_getElem (by omega)] at this
        exact ⟨_, this⟩)
      simpa using this
    case h_5 k e hu =>
      split at h
      · rename_i l hl
        split at h
        · rename_i hc
          obtain rfl := Option.some.inj h
          obtain ⟨xs, m, rfl, rfl, hlen, hn, hf⟩ := DataW.trod_array hu hx
          have := fits_rep (n := 0) (e := e) (c := P.cellsOf e) (m := k) (l := l) (cs := cs) hc.1 (by rw [hlen, ← hc.2, hc.1]) (fun i hi => by
            have := hf i hi
            rw [List.getElem?_eq_getElem (by omega)] at this
            exact fits_of_trod f e l hl m _ _ this) k (Nat.le_refl _)
          simpa using this
        · cases h
      · cases h
    case h_6 => cases h

/-- A struct or an array by value, all of whose leaves are numbers, truth values and strings. -/
theorem open_flat {r : Reach} {b0 : Nat} {t : TypeId} {v : Value} {d : DataW H} {p : List MemPlace} {f : Nat} {ks : List Leaf} (hl : leavesOf P f t = some ks) (ha : aggTy P t = true)
    (hv : Value.okWide P w r b0 t v) (h : DataW.Trod enc P w base spare held t v d p) : ∃ cs : List Value, v = .agg cs.toArray ∧ Fits ks cs := by
  obtain ⟨fuel, hf⟩ := h
  have hv' : ∃ cs, v = .agg cs := by
    unfold aggTy at ha
    unfold Value.okWide at hv
    split at hv
    · exact ⟨_, hv.choose_spec.1⟩
    · exact ⟨_, hv.choose_spec.1⟩
    · simp_all
  obtain ⟨cs, rfl⟩ := hv'
  exact ⟨cs.toList, by simp, fits_of_trod f t ks hl _ _ _ hf⟩

/-- A slice that came in, whose elements are flat: nil, or its elements' cells. -/
theorem open_flats {t e : TypeId} {v : Value} {d : DataW H} {p : List MemPlace} {f : Nat} {ks : List Leaf} (ht : P.underlying t = some (.slice e)) (hl : leavesOf P f e = some ks)
    (h : DataW.Trod enc P w base spare held t v d p) (hone : v.cells.toList = [v]) :
    v = .slice none 0 0 ∨ ∃ (a : Addr) (len cap : Nat), v = .slice (some a) len cap ∧ base ≤ a.block ∧ len ≤ cap ∧ cap ≤ maxLen ∧
      ∀ i, i < len → ∃ cs, w.cells? base (a.add (i * P.cellsOf e)) (P.cellsOf e) = some cs ∧ Fits ks cs := by
  obtain ⟨fuel, hf⟩ := h
  rw [hone] at hf
  rcases Go.Deep.open_slice ht hf with ⟨h1, _⟩ | ⟨a, len, cap, m, n, D, Pl, h1, h2, h3, h4, h5, _, h7⟩
  · left; simpa using h1
  · right
    refine ⟨a, len, cap, by simpa using h1, h2, h3, h4, fun i hi => ?_⟩
    obtain ⟨cs, k1, k2⟩ := h7 i (by rw [h5]; split <;> omega)
    exact ⟨cs, k1, fits_of_trod f e ks hl _ _ _ k2⟩
end
end Op
end Go.Proofs.Ytnpidbodeebnkaa

/- Slices that came in, whose elements hold numbers, truth values and strings alone, opened element by element. Nothing of the program is imported here. -/
namespace Go.Proofs.Ytnpidbodeebnkaa
set_option linter.unusedVariables false
set_option linter.unusedSimpArgs false
set_option maxRecDepth 100000
open Go.RowKit Go.ChangeShapes Go.WideShapes
namespace Op
theorem Fits.length : ∀ {ks : List Leaf} {cs : List Value}, Fits ks cs → cs.length = ks.length
  | [], cs, h => by have h : cs = [] := h; rw [h]; rfl
  | k :: ks, cs, h => by obtain ⟨v, vs, rfl, _, h2⟩ := h; simp [h2.length]

/-- Element i of a slice from ⟨b, o⟩ on, its elements being so many cells, holds cs. -/
def ElemAt (w : World) (b o c i : Nat) (cs : List Value) : Prop := ∀ j x, cs[j]? = some x → w.cell? ⟨b, o + i * c + j, none⟩ = some x

def FlatSlice (w : World) (c : Nat) (ks : List Leaf) (v : Value) : Prop :=
  v = .slice none 0 0 ∨ (∃ a cap, v = .slice (some a) 0 cap ∧ cap ≤ maxLen) ∨
  ∃ (b o n cap : Nat) (css : List (List Value)), 0 < n ∧ v = .slice (some ⟨b, o, none⟩) n cap ∧ n ≤ cap ∧ cap ≤ maxLen ∧ b < w.heap.size ∧ css.length = n ∧
    ∀ i (h : i < css.length), Fits ks css[i] ∧ ElemAt w b o c i css[i]

section
variable {H : Type} {enc : TypeId × Value → H} {P : Program} {w : World} {base : Nat} {spare : Nat → Bool} {held : Bool}
theorem slice_one {r : Reach} {b0 : Nat} {t e : TypeId} {v : Value} (ht : P.underlying t = some (.slice e)) (hv : Value.okWide P w r b0 t v) : v.cells.toList = [v] := by
  unfold Value.okWide at hv
  rw [ht] at hv
  cases v <;> simp_all [Value.cells, Cell.okWide, Cell.ok]

theorem open_flat_slice {r : Reach} {b0 : Nat} {t e : TypeId} {v : Value} {d : DataW H} {p : List MemPlace} {f : Nat} {ks : List Leaf} (ht : P.underlying t = some (.slice e)) (hl : leavesOf P f e = some ks) (hk : ks ≠ [])
    (hv : Value.okWide P w r b0 t v) (h : DataW.Trod enc P w base spare held t v d p) : FlatSlice w (P.cellsOf e) ks v := by
  rcases open_flats ht hl h (slice_one ht hv) with h0 | ⟨a, len, cap, rfl, h2, h3, h4, h5⟩
  · exact .inl h0
  · right
    rcases Nat.eq_zero_or_pos len with h0 | h0
    · subst h0; exact .inl ⟨a, cap, rfl, h4⟩
    · right
      obtain ⟨css, hcss⟩ := Go.Deep.choose_lt (n := len) (p := fun i cs => w.cells? base (a.add (i * P.cellsOf e)) (P.cellsOf e) = some cs ∧ Fits ks cs) h5
      have cell : ∀ i, i < len → ∀ j x, (css i)[j]? = some x → w.cell? ((a.add (i * P.cellsOf e)).add j) = some x := fun i hi j x hj => by
        have h1 := (hcss i hi).1
        unfold World.cells? at h1
        split at h1
        · have hjl := (List.getElem?_eq_some_iff.1 hj).1
          have hcl : (css i).length = P.cellsOf e := by simpa using mapM_some_length h1
          have hr : (List.range (P.cellsOf e))[j]? = some j := by rw [List.getElem?_range (by omega)]
          have h6 := mapM_some_get h1 j j hr
          rw [h6, hj]
        · cases h1
      have hc0 : ∃ x, (css 0)[0]? = some x := by
        have := (hcss 0 h0).2.length
        cases hk' : ks with
        | nil => exact absurd hk' hk
        | cons k ks' =>
          rw [hk'] at this
          have hl : 0 < (css 0).length := by rw [this]; simp
          exact ⟨_, List.getElem?_eq_getElem hl⟩
      obtain ⟨x0, hx0⟩ := hc0
      have hc := cell 0 h0 0 x0 hx0
      simp [Addr.add] at hc
      obtain ⟨b, o, s⟩ := a
      have hs : s = none ∧ b < w.heap.size := by
        unfold World.cell? at hc
        split at hc
        · rename_i hb
          have hlt : b < w.heap.size := by
            rcases Nat.lt_or_ge b w.heap.size with h' | h'
            · exact h'
            · rw [Array.getElem?_eq_none h'] at hb; cases hb
          cases s with
          | none => exact ⟨rfl, hlt⟩
          | some _ => simp at hc
        · cases hc
      obtain ⟨rfl, hlt⟩ := hs
      refine ⟨b, o, len, cap, (List.range len).map css, h0, rfl, h3, h4, hlt, by simp, fun i hi => ?_⟩
      have hi' : i < len := by simpa using hi
      simp only [List.getElem_map, List.getElem_range]
      refine ⟨(hcss i hi').2, fun j x hj => ?_⟩
      have h7 := cell i hi' j x hj
      rw [Go.Deep.add_add] at h7
      unfold Addr.add at h7
      split at h7
      · rename_i h8
        rw [Nat.add_assoc, h8, Nat.add_zero]; exact h7
      · rw [Nat.add_assoc]; exact h7
end

/-- A slice of numbers. -/
theorem FlatSlice.ints {w : World} {k : IntKind} {v : Value} (h : FlatSlice w 1 [.int k] v) :
    v = .slice none 0 0 ∨ (∃ a cap, v = .slice (some a) 0 cap ∧ cap ≤ maxLen) ∨
    ∃ (b o cap : Nat) (zs : List Int), 0 < zs.length ∧ v = .slice (some ⟨b, o, none⟩) zs.length cap ∧ zs.length ≤ cap ∧ cap ≤ maxLen ∧ b < w.heap.size ∧
      (∀ i (h : i < zs.length), w.cell? ⟨b, o + i, none⟩ = some (.int k zs[i])) ∧ ∀ i (h : i < zs.length), (Lit.int k zs[i]).wf = true := by
  rcases h with h | h | ⟨b, o, n, cap, css, h0, rfl, h3, h4, hlt, hn, hi⟩
  · exact .inl h
  · exact .inr (.inl h)
  · refine .inr (.inr ?_)
    have h1 : ∀ i, i < n → ∃ z : Int, w.cell? ⟨b, o + i, none⟩ = some (.int k z) ∧ (Lit.int k z).wf = true := fun i hin => by
      obtain ⟨⟨v, vs, e, ⟨z, rfl, hz⟩, e2⟩, h2⟩ := hi i (by omega)
      refine ⟨z, ?_, hz⟩
      have := h2 0 (.int k z) (by rw [e]; rfl)
      simpa using this
    obtain ⟨zs, hzs⟩ := Go.Deep.choose_lt h1
    refine ⟨b, o, cap, (List.range n).map zs, by simpa using h0, by simp, by simpa using h3, h4, hlt, fun i hin => ?_, fun i hin => ?_⟩
    · simpa using (hzs i (by simpa using hin)).1
    · simpa using (hzs i (by simpa using hin)).2
end Op
end Go.Proofs.Ytnpidbodeebnkaa
