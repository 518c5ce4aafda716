/- A map in memory as a function of its keys. -/
import Derived.Test.YtnpidbodeebnkaaBaseA
import Derived.Maps.Keyed
import Derived.Maps.Own
import Derived.Maps.OwnOps
import Derived.DeepKeys5
namespace Go.Proofs.Ytnpidbodeebnkaa
set_option linter.unusedVariables false
set_option linter.unusedSimpArgs false
set_option maxRecDepth 100000
open Go.RowKit Fg Reg Go.MapKept Go.Maps

section
variable {P : Program} {κ ν : Type} {k : TypeId} {kv : κ → Value} {vv : ν → Value} {ok : κ → Prop}

/-- Which values are keys. -/
structure KeyOk (P : Program) (k : TypeId) (kv : κ → Value) (ok : κ → Prop) : Prop where
  keyed : Keyed P k
  lit : ∀ x, ok x → ∃ l, keyOf P k (kv x) = some l
  inj : ∀ x y, ok x → ok y → kv x = kv y → x = y

/-- These entries are f's. -/
structure MpEnt (kv : κ → Value) (vv : ν → Value) (ok : κ → Prop) (f : κ → Option ν) (n : Nat) (es : Array MapEntry) (clock : Nat) : Prop where
  stamped : Stamped es clock
  size : es.size ≤ n
  ent : ∀ e ∈ es.toList, ∃ x v, ok x ∧ e.key = kv x ∧ e.val = vv v ∧ f x = some v
  has : ∀ x v, f x = some v → ∃ e ∈ es.toList, e.key = kv x

/-- Block b is a map that has just f's entries, at most n. -/
def Mp (kv : κ → Value) (vv : ν → Value) (ok : κ → Prop) (f : κ → Option ν) (n : Nat) (w : World) (b : Nat) : Prop :=
  ∃ es clock, w.heap[b]? = some (.map es clock) ∧ MpEnt kv vv ok f n es clock

/-- One entry more. -/
def upd [DecidableEq κ] (f : κ → Option ν) (x : κ) (v : ν) : κ → Option ν := fun y => if y = x then some v else f y

variable {f : κ → Option ν} {n : Nat} {w : World} {b : Nat}
theorem Mp.frame {w' : World} (h : Mp kv vv ok f n w b) (he : w'.heap[b]? = w.heap[b]?) : Mp kv vv ok f n w' b := by
  obtain ⟨es, clock, hb, hE⟩ := h
  exact ⟨es, clock, by rw [he, hb], hE⟩
theorem Mp.lt (h : Mp kv vv ok f n w b) : b < w.heap.size := by
  obtain ⟨es, clock, hb, hE⟩ := h
  exact (Array.getElem?_eq_some_iff.1 hb).1
theorem Mp.made (kv : κ → Value) (vv : ν → Value) (ok : κ → Prop) (w : World) : Mp kv vv ok (fun _ => none) 0 (w.alloc (.map #[] 0)) w.heap.size :=
  ⟨#[], 0, (MapKept.heap_alloc w _).1, ⟨stamped_empty 0, Nat.le_refl _, by simp, by simp⟩⟩
theorem Mp.mono (h : Mp kv vv ok f n w b) {m : Nat} (hm : n ≤ m) : Mp kv vv ok f m w b := by
  obtain ⟨es, clock, hb, hE⟩ := h
  exact ⟨es, clock, hb, hE.stamped, Nat.le_trans hE.size hm, hE.ent, hE.has⟩
theorem Mp.below {w' : World} {B : Nat} (h : Mp kv vv ok f n w b) (hB : Below B w w') (hb : b < B) : Mp kv vv ok f n w' b := h.frame (hB.block b hb)
theorem Mp.alloc (h : Mp kv vv ok f n w b) (o : Obj) : Mp kv vv ok f n (w.alloc o) b := h.frame (Below.heap_alloc _ _ _ h.lt)
theorem Mp.drew (h : Mp kv vv ok f n w b) : Mp kv vv ok f n w.drew b := h
theorem Mp.setCell (h : Mp kv vv ok f n w b) {p : Addr} (hp : b ≠ p.block) (u : Value) : Mp kv vv ok f n (w.setCell p u) b := h.frame (Below.heap_setCell w p u b hp)

variable {t e : TypeId}
theorem MpEnt.keys {es : Array MapEntry} {clock : Nat} (K : KeyOk P k kv ok) (h : MpEnt kv vv ok f n es clock) : ∀ e ∈ es.toList, ∃ l, keyOf P k e.key = some l := fun e he => by
  obtain ⟨x, v, hx, h1, _⟩ := h.ent e he
  rw [h1]; exact K.lit x hx
theorem MpEnt.val {es : Array MapEntry} {clock : Nat} (K : KeyOk P k kv ok) (h : MpEnt kv vv ok f n es clock) {x : κ} (hx : ok x) {e : MapEntry} (he : e ∈ es.toList) (hk : e.key = kv x) : ∃ v, f x = some v ∧ e.val = vv v := by
  obtain ⟨y, v, hy, h1, h2, h3⟩ := h.ent e he
  obtain rfl := K.inj y x hy hx (by rw [← h1, hk])
  exact ⟨v, h3, h2⟩

/-- What a key has. -/
def mget (z : Value) (vv : ν → Value) (o : Option ν) : Value := match o with | some v => vv v | none => z
theorem Mp.look (c : Bool) (h : Mp kv vv ok f n w b) (K : KeyOk P k kv ok) (ht : P.underlying t = some (.map k e)) {z : Value} (hz : (zeroValue e).run P w = .ok z w) {x : κ} (hx : ok x) :
    (Instr.lookup t (.map (some b)) (kv x) c).run P w = .ok (if c then .tuple #[mget z vv (f x), .bool (f x).isSome] else mget z vv (f x)) w := by
  obtain ⟨es, clock, hb, hE⟩ := h
  obtain ⟨l, hl⟩ := K.lit x hx
  rcases K.keyed.find w hl es.toList (hE.keys K) with ⟨h1, h2⟩ | ⟨j, e0, h1, h2, h3⟩
  · have hf : f x = none := by
      cases hf : f x with
      | none => rfl
      | some v =>
        obtain ⟨e, he, hk⟩ := hE.has x v hf
        exact absurd hk (h2 e he)
    rw [hf]
    simp [Instr.lookup, run_underlying ht, MapKept.run_getObj_map hb, K.keyed.check w _ hl, h1, hz, Result.andThen, mget]
  · obtain ⟨v, hf, hv⟩ := hE.val K hx (List.mem_of_getElem? h2) h3
    rw [hf]
    simp [Instr.lookup, run_underlying ht, MapKept.run_getObj_map hb, K.keyed.check w _ hl, h1, Result.andThen, mget, hv]

theorem Mp.update [DecidableEq κ] (h : Mp kv vv ok f n w b) (K : KeyOk P k kv ok) (ht : P.underlying t = some (.map k e)) {x : κ} (hx : ok x) (v : ν) :
    ∃ w', (Instr.mapUpdate t (.map (some b)) (kv x) (vv v)).run P w = .ok () w' ∧ Mp kv vv ok (upd f x v) (n + 1) w' b ∧ Only (fun i => i = b) w w' ∧ w'.heap.size = w.heap.size := by
  obtain ⟨es, clock, hb, hE⟩ := h
  obtain ⟨l, hl⟩ := K.lit x hx
  have hO : ∀ o, Only (fun i => i = b) w (ChangeMaps.setBlock w b o) := fun o => ⟨rfl, rfl, rfl, by simp [ChangeMaps.setBlock], fun i _ hi => ChangeMaps.heap_setBlock_other hb _ (fun e => hi e)⟩
  rcases K.keyed.find w hl es.toList (hE.keys K) with ⟨h1, h2⟩ | ⟨j, e0, h1, h2, h3⟩
  · refine ⟨ChangeMaps.setBlock w b (.map (es.push ⟨kv x, vv v, clock⟩) (clock + 1)), ?_, ⟨_, _, ChangeMaps.heap_setBlock_same hb _, stamped_push hE.stamped h2, by simpa using hE.size, ?_, ?_⟩, hO _, by simp [ChangeMaps.setBlock]⟩
    · simp [Instr.mapUpdate, run_underlying ht, MapKept.run_getObj_map hb, K.keyed.check w false hl, h1, MapKept.run_setObj_map _ hb, Result.andThen, ChangeMaps.setBlock]
    · intro e he
      simp only [Array.toList_push, List.mem_append, List.mem_singleton] at he
      rcases he with he | rfl
      · obtain ⟨y, u, hy, e1, e2, e3⟩ := hE.ent e he
        refine ⟨y, u, hy, e1, e2, ?_⟩
        have : y ≠ x := fun hyx => h2 e he (by rw [e1, hyx])
        simp [upd, this, e3]
      · exact ⟨x, v, hx, rfl, rfl, by simp [upd]⟩
    · intro y u hu
      by_cases hy : y = x
      · exact ⟨⟨kv x, vv v, clock⟩, by simp, by rw [hy]⟩
      · simp only [upd, hy, if_false] at hu
        obtain ⟨e, he, hk⟩ := hE.has y u hu
        exact ⟨e, by simp [Array.toList_push]; exact .inl (by simpa using he), hk⟩
  · have hj : es[j]? = some e0 := by simpa using h2
    have hkeyf : ∀ e', es[j]? = some e' → ({ e' with key := kv x, val := vv v } : MapEntry).key = e'.key := fun e' he' => by rw [hj] at he'; cases he'; exact h3.symm
    have hlist : (es.modify j (fun e' => { e' with key := kv x, val := vv v })).toList = es.toList.set j { e0 with key := kv x, val := vv v } := by rw [Array.toList_modify, ChangeMaps.modify_eq_set _ _ _ _ h2]
    have hjl : j < es.toList.length := (List.getElem?_eq_some_iff.1 h2).1
    have hd := ((stamped_iff es clock).1 hE.stamped).2.2
    refine ⟨ChangeMaps.setBlock w b (.map (es.modify j (fun e' => { e' with key := kv x, val := vv v })) clock), ?_, ⟨_, _, ChangeMaps.heap_setBlock_same hb _, stamped_modify hE.stamped _ _ (fun _ _ => rfl) (fun e' _ he' => hkeyf e' he'), by simpa using Nat.le_succ_of_le hE.size, ?_, ?_⟩, hO _, by simp [ChangeMaps.setBlock]⟩
    · simp [Instr.mapUpdate, run_underlying ht, MapKept.run_getObj_map hb, K.keyed.check w false hl, h1, hj, h3, K.keyed.stays w hl, MapKept.run_setObj_map _ hb, Result.andThen, ChangeMaps.setBlock]
    · intro e he
      rw [hlist] at he
      obtain ⟨i, hi, ex⟩ := List.getElem_of_mem he
      rw [List.getElem_set] at ex
      have hi' : i < es.toList.length := by simpa using hi
      split at ex
      · exact ⟨x, v, hx, by rw [← ex], by rw [← ex], by simp [upd]⟩
      · rename_i hne
        have hm : e ∈ es.toList := ex ▸ List.getElem_mem hi'
        obtain ⟨y, u, hy, e1, e2, e3⟩ := hE.ent e hm
        refine ⟨y, u, hy, e1, e2, ?_⟩
        have : y ≠ x := fun hyx => by
          have hk : e.key = e0.key := by rw [e1, hyx, h3]
          have e0j : es.toList[j] = e0 := (List.getElem?_eq_some_iff.1 h2).2
          have hpw := List.pairwise_iff_getElem.1 hd
          rcases Nat.lt_or_gt_of_ne hne with hlt | hlt
          · exact hpw j i hjl hi' hlt (by rw [e0j, ex, hk])
          · exact hpw i j hi' hjl hlt (by rw [e0j, ex, hk])
        simp [upd, this, e3]
    · intro y u hu
      rw [hlist]
      by_cases hy : y = x
      · exact ⟨{ e0 with key := kv x, val := vv v }, List.mem_iff_getElem.2 ⟨j, by simpa using hjl, by simp⟩, by rw [hy]⟩
      · simp only [upd, hy, if_false] at hu
        obtain ⟨e, he, hk⟩ := hE.has y u hu
        obtain ⟨i, hi, ex⟩ := List.getElem_of_mem he
        by_cases hij : j = i
        · subst hij
          obtain ⟨y', u', hy', e1, e2, e3⟩ := hE.ent e he
          have e0j : es.toList[j] = e0 := (List.getElem?_eq_some_iff.1 h2).2
          have hee : e = e0 := by rw [← ex, e0j]
          exact ⟨{ e0 with key := kv x, val := vv v }, List.mem_iff_getElem.2 ⟨j, by simpa using hjl, by simp⟩, by simp; rw [← hk, hee, h3]⟩
        · exact ⟨e, List.mem_iff_getElem.2 ⟨i, by simpa using hi, by rw [List.getElem_set_ne hij]; exact ex⟩, hk⟩

/-- 'm[k] = v' at the operation, for the walk. -/
theorem wpList_mapUpdate_mp [DecidableEq κ] (w : World) {ops : Array Oper} {rest : List Oper} {o : Oper} {a : Act} {Q : Exit → Act → World → Prop}
    (hg : o.guard = none) (m x v : Operand) (t : TypeId) (hop : o.op = Op.mapUpdate t m x v)
    (K : KeyOk P k kv ok) (ht : P.underlying t = some (.map k e)) (b n : Nat)
    (hm : a.eval m = .map (some b)) (h : Mp kv vv ok f n w b) (key : κ) (val : ν) (hk : ok key) (hx : a.eval x = kv key) (hv : a.eval v = vv val)
    (hK : ∀ w', Mp kv vv ok (upd f key val) (n + 1) w' b → Only (fun i => i = b) w w' → w'.heap.size = w.heap.size → wpList P ops Q rest (a.put o.dst undef) w') :
    wpList P ops Q (o :: rest) a w := by
  refine wpList_plain hg fun K' hK' => ?_
  obtain ⟨w', hrun, r1, r2, r3⟩ := h.update K ht hk val
  unfold Oper.wp
  simp [execOp, hop, hm, hx, hv, hrun, Result.andThen]
  exact hK' _ _ (hK w' r1 r2 r3)
/-- 'm[k]' at the operation. -/
theorem wpList_lookup_mp (w : World) {ops : Array Oper} {rest : List Oper} {o : Oper} {a : Act} {Q : Exit → Act → World → Prop}
    (hg : o.guard = none) (m x : Operand) (t : TypeId) (c : Bool) (hop : o.op = Op.lookup t m x c)
    (K : KeyOk P k kv ok) (ht : P.underlying t = some (.map k e)) {z : Value} (hz : (zeroValue e).run P w = .ok z w) (b n : Nat)
    (hm : a.eval m = .map (some b)) (h : Mp kv vv ok f n w b) (key : κ) (hk : ok key) (hx : a.eval x = kv key)
    (hK : wpList P ops Q rest (a.put o.dst (if c then .tuple #[mget z vv (f key), .bool (f key).isSome] else mget z vv (f key))) w) :
    wpList P ops Q (o :: rest) a w := by
  refine wpList_plain hg fun K' hK' => ?_
  have hrun := h.look c K ht hz hk
  unfold Oper.wp
  simp [execOp, hop, hm, hx, hrun, Result.andThen]
  exact hK' _ _ hK
end
end Go.Proofs.Ytnpidbodeebnkaa
