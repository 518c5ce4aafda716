/- A map in memory as a function of its keys: delete, len. -/
import Derived.Test.YtlenmhbhakeonaaIk0
namespace Go.Proofs.Ytlenmhbhakeonaa
set_option linter.unusedVariables false
set_option linter.unusedSimpArgs false
set_option maxRecDepth 100000
open Go.RowKit Fg Reg Go.MapKept Go.Maps

section
variable {P : Program} {κ ν : Type} {k : TypeId} {kv : κ → Value} {vv : ν → Value} {ok : κ → Prop}
variable {f : κ → Option ν} {n : Nat} {w : World} {b : Nat} {t e : TypeId}
/-- One entry less. -/
def mdel [DecidableEq κ] (f : κ → Option ν) (x : κ) : κ → Option ν := fun y => if y = x then none else f y
theorem Mp.delete [DecidableEq κ] (h : Mp kv vv ok f n w b) (K : KeyOk P k kv ok) (hinj : ∀ x y, kv x = kv y → x = y) (ht : P.underlying t = some (.map k e)) {x : κ} (hx : ok x) (ty : TypeId) :
    ∃ w', (Builtin.delete_ #[t, k] ty #[.map (some b), kv x]).run P w = .ok (.tuple #[]) w' ∧ Mp kv vv ok (mdel f x) n w' b ∧ Only (fun i => i = b) w w' ∧ w'.heap.size = w.heap.size := by
  obtain ⟨es, clock, hb, hE⟩ := h
  obtain ⟨l, hl⟩ := K.lit x hx
  have hO : ∀ o, Only (fun i => i = b) w (ChangeMaps.setBlock w b o) := fun o => ⟨rfl, rfl, rfl, by simp [ChangeMaps.setBlock], fun i _ hi => ChangeMaps.heap_setBlock_other hb _ (fun e => hi e)⟩
  rcases K.keyed.find w hl es.toList (hE.keys K) with ⟨h1, h2⟩ | ⟨j, e0, h1, h2, h3⟩
  · refine ⟨ChangeMaps.setBlock w b (.map es clock), ?_, ⟨_, _, ChangeMaps.heap_setBlock_same hb _, hE.stamped, hE.size, ?_, ?_⟩, hO _, by simp [ChangeMaps.setBlock]⟩
    · simp [Builtin.delete_, run_underlying ht, MapKept.run_getObj_map hb, K.keyed.check w _ hl, h1, MapKept.run_setObj_map _ hb, Result.andThen, ChangeMaps.setBlock]
    · intro e he
      obtain ⟨y, u, hy, e1, e2, e3⟩ := hE.ent e he
      refine ⟨y, u, hy, e1, e2, ?_⟩
      have : y ≠ x := fun hyx => h2 e he (by rw [e1, hyx])
      simp [mdel, this, e3]
    · intro y u hu
      unfold mdel at hu
      split at hu
      · cases hu
      · exact hE.has y u hu
  · have hjl : j < es.toList.length := (List.getElem?_eq_some_iff.1 h2).1
    have hjs : j < es.size := by simpa using hjl
    have hsub : (es.eraseIdxIfInBounds j).toList = es.toList.eraseIdx j := by
      unfold Array.eraseIdxIfInBounds
      rw [dif_pos hjs]
      simp
    have hd := ((stamped_iff es clock).1 hE.stamped).2.2
    have e0j : es.toList[j] = e0 := (List.getElem?_eq_some_iff.1 h2).2
    have hpw := List.pairwise_iff_getElem.1 hd
    have hat : ∀ i (hi : i < es.toList.length), i ≠ j → es.toList[i].key ≠ e0.key := fun i hi hij => by
      rcases Nat.lt_or_gt_of_ne hij with hlt | hlt
      · have := hpw i j hi hjl hlt; rw [e0j] at this; exact this
      · have := hpw j i hjl hi hlt; rw [e0j] at this; exact fun hh => this hh.symm
    refine ⟨ChangeMaps.setBlock w b (.map (es.eraseIdxIfInBounds j) clock), ?_, ⟨_, _, ChangeMaps.heap_setBlock_same hb _, stamped_erase hE.stamped j, Nat.le_trans (MapFrom.size_erase es j) hE.size, ?_, ?_⟩, hO _, by simp [ChangeMaps.setBlock]⟩
    · simp [Builtin.delete_, run_underlying ht, MapKept.run_getObj_map hb, K.keyed.check w _ hl, h1, MapKept.run_setObj_map _ hb, Result.andThen, ChangeMaps.setBlock]
    · intro e he
      rw [hsub] at he
      obtain ⟨i, hi, hne, hee⟩ := List.mem_eraseIdx_iff_getElem.1 he
      have hm : e ∈ es.toList := hee ▸ List.getElem_mem hi
      obtain ⟨y, u, hy, e1, e2, e3⟩ := hE.ent e hm
      refine ⟨y, u, hy, e1, e2, ?_⟩
      have : y ≠ x := fun hyx => hat i hi hne (by rw [hee, e1, hyx, h3])
      simp [mdel, this, e3]
    · intro y u hu
      unfold mdel at hu
      split at hu
      · cases hu
      · rename_i hyx
        obtain ⟨e, he, hk⟩ := hE.has y u hu
        obtain ⟨i, hi, ex⟩ := List.getElem_of_mem he
        by_cases hij : i = j
        · subst hij
          exfalso
          obtain ⟨y', u', hy', e1, e2, e3⟩ := hE.ent e he
          have hee : e = e0 := by rw [← ex, e0j]
          exact hyx (hinj y x (by rw [← hk, hee, h3]))
        · exact ⟨e, by rw [hsub]; exact List.mem_eraseIdx_iff_getElem.2 ⟨i, hi, hij, ex⟩, hk⟩
/-- 'delete(m, k)' at the operation. -/
theorem wpList_delete_mp [DecidableEq κ] (w : World) {ops : Array Oper} {rest : List Oper} {o : Oper} {a : Act} {Q : Exit → Act → World → Prop}
    (hg : o.guard = none) (m x : Operand) (t k : TypeId) (hop : o.op = Op.call { callee := Callee.builtin Builtin.delete, args := #[m, x], argTypes := #[t, k] })
    (K : KeyOk P k kv ok) (hinj : ∀ x y, kv x = kv y → x = y) (ht : P.underlying t = some (.map k e)) (b n : Nat)
    (hm : a.eval m = .map (some b)) (h : Mp kv vv ok f n w b) (key : κ) (hk : ok key) (hx : a.eval x = kv key)
    (hK : ∀ w', Mp kv vv ok (mdel f key) n w' b → Only (fun i => i = b) w w' → w'.heap.size = w.heap.size → wpList P ops Q rest (a.put o.dst (.tuple #[])) w') :
    wpList P ops Q (o :: rest) a w := by
  refine wpList_plain hg fun K' hK' => ?_
  obtain ⟨w', hrun, r1, r2, r3⟩ := h.delete K hinj ht hk o.type
  unfold Oper.wp
  simp [execOp, hop, resolve, invoke, builtin, hm, hx, hrun, Result.andThen]
  exact hK' _ _ (hK w' r1 r2 r3)
theorem perm_of_mem {α : Type} [DecidableEq α] {A B : List α} (hA : A.Nodup) (hB : B.Nodup) (h : ∀ x, x ∈ A ↔ x ∈ B) : A.Perm B := (List.perm_ext_iff_of_nodup hA hB).2 h
/-- How many entries there are. -/
theorem MpEnt.count [DecidableEq κ] (hinj : ∀ x y, kv x = kv y → x = y) {es : Array MapEntry} {clock : Nat} (h : MpEnt kv vv ok f n es clock) (ks : List κ) (hn : ks.Nodup) (hk : ∀ x, x ∈ ks ↔ (f x).isSome = true) : es.size = ks.length := by
  have hd := ((stamped_iff es clock).1 h.stamped).2.2
  have h2 : ∃ xs : List κ, xs.length = es.toList.length ∧ es.toList.map (·.key) = xs.map kv ∧ ∀ x ∈ xs, (f x).isSome = true := by
    have go : ∀ L : List MapEntry, (∀ e ∈ L, ∃ x v, ok x ∧ e.key = kv x ∧ e.val = vv v ∧ f x = some v) → ∃ xs : List κ, xs.length = L.length ∧ L.map (·.key) = xs.map kv ∧ ∀ x ∈ xs, (f x).isSome = true := by
      intro L
      induction L with
      | nil => intro _; exact ⟨[], rfl, rfl, by simp⟩
      | cons e L ih =>
        intro hL
        obtain ⟨xs, x1, x2, x3⟩ := ih fun e' he' => hL e' (by simp [he'])
        obtain ⟨x, v, _, e1, _, e3⟩ := hL e (by simp)
        refine ⟨x :: xs, by simp [x1], by simp [x2, e1], fun y hy => ?_⟩
        rcases List.mem_cons.1 hy with rfl | hy
        · rw [e3]; rfl
        · exact x3 y hy
    exact go _ h.ent
  obtain ⟨xs, x1, x2, x3⟩ := h2
  have hnx : xs.Nodup := by
    have h3 : (es.toList.map (·.key)).Nodup := by unfold List.Nodup; rw [List.pairwise_map]; exact hd
    rw [x2] at h3
    unfold List.Nodup at h3 ⊢
    rw [List.pairwise_map] at h3
    exact h3.imp fun h g => h (by rw [g])
  have hp : xs.Perm ks := perm_of_mem hnx hn fun x => by
    rw [hk x]
    constructor
    · exact x3 x
    · intro hx
      obtain ⟨v, hv⟩ := Option.isSome_iff_exists.1 hx
      obtain ⟨e, he, hke⟩ := h.has x v hv
      have : kv x ∈ xs.map kv := by rw [← x2, ← hke]; exact List.mem_map.2 ⟨e, he, rfl⟩
      obtain ⟨y, hy, hyx⟩ := List.mem_map.1 this
      rw [← hinj y x hyx]; exact hy
  rw [← hp.length_eq, x1]; simp
theorem Mp.fit [DecidableEq κ] (h : Mp kv vv ok f n w b) (hinj : ∀ x y, kv x = kv y → x = y) (ks : List κ) (hn : ks.Nodup) (hk : ∀ x, x ∈ ks ↔ (f x).isSome = true) : Mp kv vv ok f ks.length w b := by
  obtain ⟨es, clock, hb, hE⟩ := h
  exact ⟨es, clock, hb, hE.stamped, Nat.le_of_eq (hE.count hinj ks hn hk), hE.ent, hE.has⟩
theorem Mp.len [DecidableEq κ] (h : Mp kv vv ok f n w b) (hinj : ∀ x y, kv x = kv y → x = y) (ht : P.underlying t = some (.map k e)) (ks : List κ) (hn : ks.Nodup) (hk : ∀ x, x ∈ ks ↔ (f x).isSome = true) (ty : TypeId) : (Builtin.len_ #[t] ty #[.map (some b)]).run P w = .ok (.int .i64 ks.length) w := by
  obtain ⟨es, clock, hb, hE⟩ := h
  rw [← hE.count hinj ks hn hk]
  simp [Builtin.len_, run_underlying ht, MapKept.run_getObj_map hb, goInt, Result.andThen]
end
end Go.Proofs.Ytlenmhbhakeonaa
