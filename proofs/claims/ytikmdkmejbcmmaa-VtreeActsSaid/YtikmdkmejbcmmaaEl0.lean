/- Tables of rows by their numbers: mathematics. -/
import Derived.Test.YtikmdkmejbcmmaaAv20
import Derived.Test.YtikmdkmejbcmmaaMap1
namespace Go.Proofs.Ytikmdkmejbcmmaa
set_option linter.unusedVariables false
set_option linter.unusedSimpArgs false
set_option maxRecDepth 100000
open Go.RowKit Fg Reg

structure Rw where
  id : Int
  a : Int
  b : Int
deriving DecidableEq
instance : Inhabited Rw := ⟨⟨0, 0, 0⟩⟩
def Rw.it (r : Rw) : It := ⟨r.a, r.id, r.b, r.id⟩
def RS (L : List Rw) : Prop := L.Pairwise fun p q => p.id < q.id
def dropL (i : Int) (L : List Rw) : List Rw := L.filter fun r => decide (r.id ≠ i)
def setL (x : Rw) (L : List Rw) : List Rw := L.filter (fun r => decide (r.id < x.id)) ++ x :: L.filter (fun r => decide (x.id < r.id))
def rfd (i : Int) (L : List Rw) : Option Rw := L.find? fun r => decide (r.id = i)
def lookL (L : List Rw) (i : Int) : Option (Int × Int) := (rfd i L).map fun r => (r.a, r.b)
theorem rfd_some {i : Int} {L : List Rw} {r : Rw} (h : rfd i L = some r) : r ∈ L ∧ r.id = i :=
  ⟨List.mem_of_find?_eq_some h, of_decide_eq_true (by simpa using List.find?_some h)⟩
theorem rfd_none {i : Int} {L : List Rw} : rfd i L = none ↔ ∀ r ∈ L, r.id ≠ i := by
  unfold rfd
  rw [List.find?_eq_none]
  exact ⟨fun h r hr e => h r hr (decide_eq_true e), fun h r hr e => h r hr (of_decide_eq_true e)⟩
theorem rs_inj : ∀ {L : List Rw}, RS L → ∀ {r s : Rw}, r ∈ L → s ∈ L → r.id = s.id → r = s
  | [], _, r, s, hr, _, _ => by simp at hr
  | x :: L, h, r, s, hr, hs, he => by
    unfold RS at h
    rw [List.pairwise_cons] at h
    have h1 := h.1
    have h2 := h.2
    clear h
    rcases List.mem_cons.1 hr with e1 | g1 <;> rcases List.mem_cons.1 hs with e2 | g2
    · rw [e1, e2]
    · have := h1 s g2; rw [← e1] at this; omega
    · have := h1 r g1; rw [← e2] at this; omega
    · exact rs_inj h2 g1 g2 he
theorem rfd_mem {L : List Rw} (h : RS L) {r : Rw} (hr : r ∈ L) : rfd r.id L = some r := by
  cases hf : rfd r.id L with
  | none => exact absurd rfl (rfd_none.1 hf r hr)
  | some s =>
    obtain ⟨h1, h2⟩ := rfd_some hf
    rw [rs_inj h h1 hr h2]
theorem look_is {L : List Rw} {i : Int} : (lookL L i).isSome = true ↔ i ∈ L.map Rw.id := by
  unfold lookL
  rw [Option.isSome_map]
  constructor
  · intro h
    obtain ⟨r, hr⟩ := Option.isSome_iff_exists.1 h
    obtain ⟨h1, h2⟩ := rfd_some hr
    exact List.mem_map.2 ⟨r, h1, h2⟩
  · intro h
    obtain ⟨r, h1, h2⟩ := List.mem_map.1 h
    cases hf : rfd i L with
    | none => exact absurd h2 (rfd_none.1 hf r h1)
    | some s => rfl
theorem ids_nodup {L : List Rw} (h : RS L) : (L.map Rw.id).Nodup := by
  unfold List.Nodup
  rw [List.pairwise_map]
  exact h.imp fun h e => by omega
theorem rs_nodup {L : List Rw} (h : RS L) : L.Nodup := h.imp fun h e => by subst e; omega
theorem drop_mem {i : Int} {L : List Rw} {r : Rw} : r ∈ dropL i L ↔ r ∈ L ∧ r.id ≠ i := by
  unfold dropL; rw [List.mem_filter]; simp
theorem set_mem {x : Rw} {L : List Rw} {r : Rw} : r ∈ setL x L ↔ r = x ∨ (r ∈ L ∧ r.id ≠ x.id) := by
  unfold setL
  rw [List.mem_append, List.mem_cons, List.mem_filter, List.mem_filter]
  simp only [decide_eq_true_eq]
  constructor
  · rintro (⟨h1, h2⟩ | h | ⟨h1, h2⟩)
    · exact .inr ⟨h1, by omega⟩
    · exact .inl h
    · exact .inr ⟨h1, by omega⟩
  · rintro (h | ⟨h1, h2⟩)
    · exact .inr (.inl h)
    · rcases Int.lt_or_gt_of_ne h2 with h | h
      · exact .inl ⟨h1, h⟩
      · exact .inr (.inr ⟨h1, h⟩)
theorem drop_rs {i : Int} {L : List Rw} (h : RS L) : RS (dropL i L) := List.Pairwise.filter _ h
theorem set_rs {x : Rw} {L : List Rw} (h : RS L) : RS (setL x L) := by
  unfold setL RS
  rw [List.pairwise_append, List.pairwise_cons]
  refine ⟨List.Pairwise.filter _ h, ⟨fun r hr => ?_, List.Pairwise.filter _ h⟩, fun r hr s hs => ?_⟩
  · rw [List.mem_filter] at hr; exact of_decide_eq_true hr.2
  · rw [List.mem_filter] at hr
    have h1 := of_decide_eq_true hr.2
    rcases List.mem_cons.1 hs with rfl | hs
    · exact h1
    · rw [List.mem_filter] at hs
      have h2 := of_decide_eq_true hs.2
      omega
theorem drop_no {i : Int} {L : List Rw} (h : rfd i L = none) : dropL i L = L := by
  unfold dropL
  rw [List.filter_eq_self]
  intro r hr
  exact decide_eq_true (rfd_none.1 h r hr)
theorem drop_len (i : Int) (L : List Rw) : (dropL i L).length ≤ L.length := List.length_filter_le _ _
theorem set_len (x : Rw) (L : List Rw) (h : RS L) : (setL x L).length ≤ L.length + 1 := by
  unfold setL
  rw [List.length_append, List.length_cons]
  have : ∀ M : List Rw, (M.filter fun r => decide (r.id < x.id)).length + (M.filter fun r => decide (x.id < r.id)).length ≤ M.length := by
    intro M
    induction M with
    | nil => simp
    | cons r M ih =>
      by_cases h1 : r.id < x.id
      · have h2 : ¬ x.id < r.id := by omega
        simp [h1, h2] at ih ⊢; omega
      · by_cases h2 : x.id < r.id
        · simp [h1, h2] at ih ⊢; omega
        · simp [h1, h2] at ih ⊢; omega
  have := this L
  omega
theorem set_drop (x : Rw) (L : List Rw) : setL x (dropL x.id L) = setL x L := by
  unfold setL dropL
  rw [List.filter_filter, List.filter_filter]
  congr 1
  · congr 1; funext r; by_cases h : r.id < x.id
    · have : r.id ≠ x.id := by omega
      simp [h, this]
    · simp [h]
  · congr 2; funext r; by_cases h : x.id < r.id
    · have : r.id ≠ x.id := by omega
      simp [h, this]
    · simp [h]
theorem look_drop (i : Int) (L : List Rw) (h : RS L) : lookL (dropL i L) = mdel (lookL L) i := by
  funext j
  unfold mdel lookL
  by_cases hj : j = i
  · rw [if_pos hj, rfd_none.2 fun r hr e => (drop_mem.1 hr).2 (by omega)]; rfl
  · rw [if_neg hj]
    cases hf : rfd j L with
    | none => rw [rfd_none.2 fun r hr => rfd_none.1 hf r (drop_mem.1 hr).1]
    | some s =>
      obtain ⟨h1, h2⟩ := rfd_some hf
      have := rfd_mem (drop_rs (i := i) h) (drop_mem.2 ⟨h1, by omega⟩)
      rw [h2] at this
      rw [this]
theorem look_set (x : Rw) (L : List Rw) (h : RS L) : lookL (setL x L) = upd (lookL L) x.id (x.a, x.b) := by
  funext j
  unfold upd lookL
  by_cases hj : j = x.id
  · subst hj
    rw [if_pos rfl, rfd_mem (set_rs (x := x) h) (set_mem.2 (.inl rfl))]; rfl
  · rw [if_neg hj]
    cases hf : rfd j L with
    | none => rw [rfd_none.2 fun r hr => by
        rcases set_mem.1 hr with e | ⟨e, _⟩
        · subst e; exact fun e => hj e.symm
        · exact rfd_none.1 hf r e]
    | some s =>
      obtain ⟨h1, h2⟩ := rfd_some hf
      have := rfd_mem (set_rs (x := x) h) (set_mem.2 (.inr ⟨h1, by omega⟩))
      rw [h2] at this
      rw [this]
/-- The tree has the rows. -/
def TM (t : Tr) (L : List Rw) : Prop := ∀ x, x ∈ tl t ↔ ∃ r ∈ L, x = r.it
theorem it_inj {r s : Rw} (h : r.it = s.it) : r = s := by
  cases r; cases s; simp only [Rw.it, It.mk.injEq] at h; obtain ⟨h1, h2, h3, h4⟩ := h; subst h1 h2 h3; rfl
theorem ss_nodup {A : List It} (h : SS A) : A.Nodup := List.Pairwise.imp (fun {a b} h e => by subst e; rw [kl_irr] at h; cases h) h
theorem tm_len {t : Tr} {L : List Rw} (h : TM t L) (hs : SS (tl t)) (hr : RS L) : (tl t).length = L.length := by
  have h1 : (L.map Rw.it).Nodup := by
    unfold List.Nodup
    rw [List.pairwise_map]
    exact hr.imp fun h e => by have := congrArg It.ki e; simp only [Rw.it] at this; omega
  have hp : (tl t).Perm (L.map Rw.it) := (List.perm_ext_iff_of_nodup (ss_nodup hs) h1).2 fun x => by
    rw [h x, List.mem_map]
    exact ⟨fun ⟨r, a, b⟩ => ⟨r, a, b.symm⟩, fun ⟨r, a, b⟩ => ⟨r, a, b.symm⟩⟩
  rw [hp.length_eq, List.length_map]
theorem fnd_selfE {Y : It} {L : List It} (hs : SS L) (hY : Y ∈ L) : fndL Y L = some Y := by
  obtain ⟨A, B, rfl⟩ := List.append_of_mem hY
  obtain ⟨-, -, hA, -, -⟩ := ss_parts hs
  rw [fnd_parts, fnd_no fun a ha => (kl_nke (hA a ha)).1]
  rw [if_pos (ke_iff.2 ⟨rfl, rfl⟩)]
  rfl
theorem tm_fnd {t : Tr} {L : List Rw} (h : TM t L) (hs : SS (tl t)) {r : Rw} (hr : r ∈ L) : fndL r.it (tl t) = some r.it := fnd_selfE hs ((h _).2 ⟨r, hr, rfl⟩)
theorem tm_none {t : Tr} {L : List Rw} (h : TM t L) {x : Rw} (hx : rfd x.id L = none) : fndL x.it (tl t) = none := fnd_no fun y hy => by
  obtain ⟨r, hr, rfl⟩ := (h y).1 hy
  cases hk : ke r.it x.it
  · rfl
  · exact absurd (ke_iff.1 hk).2 (rfd_none.1 hx r hr)
theorem tm_ins {t t' : Tr} {L : List Rw} {x : Rw} (h : TM t L) (hr : RS L) (hx : rfd x.id L = none) (ht : tl t' = insL x.it (tl t)) : TM t' (setL x L) := fun y => by
  rw [ht, insL_mem, h y]
  constructor
  · rintro (rfl | ⟨r, h1, rfl⟩)
    · exact ⟨x, set_mem.2 (.inl rfl), rfl⟩
    · exact ⟨r, set_mem.2 (.inr ⟨h1, rfd_none.1 hx r h1⟩), rfl⟩
  · rintro ⟨r, h1, rfl⟩
    rcases set_mem.1 h1 with rfl | ⟨h2, -⟩
    · exact .inl rfl
    · exact .inr ⟨r, h2, rfl⟩
theorem tm_rem {t t' : Tr} {L : List Rw} {x : Rw} (h : TM t L) (hr : RS L) (hx : x ∈ L) (ht : tl t' = remL x.it (tl t)) : TM t' (dropL x.id L) := fun y => by
  rw [ht]
  unfold remL
  rw [List.mem_filter, h y]
  constructor
  · rintro ⟨⟨r, h1, rfl⟩, hk⟩
    refine ⟨r, drop_mem.2 ⟨h1, fun e => ?_⟩, rfl⟩
    have := rs_inj hr h1 hx e
    subst this
    rw [ke_iff.2 ⟨rfl, rfl⟩] at hk
    exact absurd hk (by simp)
  · rintro ⟨r, h1, rfl⟩
    obtain ⟨h2, h3⟩ := drop_mem.1 h1
    refine ⟨⟨r, h2, rfl⟩, ?_⟩
    cases hk : ke r.it x.it
    · rfl
    · exact absurd (ke_iff.1 hk).2 h3
end Go.Proofs.Ytikmdkmejbcmmaa
