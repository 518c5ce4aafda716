/- Spans do not meet. -/
import Derived.Test.YtdahjhokcjfioaaLp3
namespace Go.Proofs.Ytdahjhokcjfioaa
set_option linter.unusedVariables false
set_option linter.unusedSimpArgs false
set_option maxRecDepth 100000
open Go.RowKit Fg Reg
attribute [local irreducible] Reg.wE

/-- Each begins behind the end of the one ahead of it; only the last one may be open. -/
def chain (es : List Ev) (o : Bool) : Int → List Sp → Prop
  | _, [] => o = false
  | last, x :: l => last < x.fi ∧ (∃ h : x.fi < es.length, x.fr = es[x.fi].tm) ∧
    ((x.op = true ∧ l = [] ∧ o = true) ∨ (x.op = false ∧ x.fi < x.la ∧ (∃ h : x.la < es.length, x.tt = es[x.la].tm) ∧ chain es o x.la l))
def shut (es : List Ev) : Int → List Sp → Prop
  | _, [] => True
  | last, x :: l => last < x.fi ∧ (∃ h : x.fi < es.length, x.fr = es[x.fi].tm) ∧ x.op = false ∧ x.fi < x.la ∧ (∃ h : x.la < es.length, x.tt = es[x.la].tm) ∧ shut es x.la l
def lst : Int → List Sp → Int
  | last, [] => last
  | _, x :: l => lst x.la l
theorem shut_snoc (es : List Ev) (x : Sp) : ∀ (l : List Sp) (last : Int), shut es last l → lst last l < x.fi → (∃ h : x.fi < es.length, x.fr = es[x.fi].tm) → x.op = false → x.fi < x.la → (∃ h : x.la < es.length, x.tt = es[x.la].tm) → shut es last (l ++ [x])
  | [], last, _, h, h1, h2, h3, h4 => ⟨h, h1, h2, h3, h4, trivial⟩
  | y :: l, last, ⟨a1, a2, a3, a4, a5, a6⟩, h, h1, h2, h3, h4 => ⟨a1, a2, a3, a4, a5, shut_snoc es x l _ a6 h h1 h2 h3 h4⟩
theorem lst_snoc (x : Sp) : ∀ (l : List Sp) (last : Int), lst last (l ++ [x]) = x.la
  | [], _ => rfl
  | y :: l, _ => lst_snoc x l _
theorem chain_of (es : List Ev) : ∀ (l : List Sp) (last : Int), shut es last l → chain es false last l
  | [], _, _ => rfl
  | y :: l, last, ⟨a1, a2, a3, a4, a5, a6⟩ => ⟨a1, a2, .inr ⟨a3, a4, a5, chain_of es l _ a6⟩⟩
theorem chain_snoc (es : List Ev) (x : Sp) : ∀ (l : List Sp) (last : Int), shut es last l → lst last l < x.fi → (∃ h : x.fi < es.length, x.fr = es[x.fi].tm) → x.op = true → chain es true last (l ++ [x])
  | [], last, _, h, h1, h2 => ⟨h, h1, .inl ⟨h2, rfl, rfl⟩⟩
  | y :: l, last, ⟨a1, a2, a3, a4, a5, a6⟩, h, h1, h2 => ⟨a1, a2, .inr ⟨a3, a4, a5, chain_snoc es x l _ a6 h h1 h2⟩⟩
theorem spsrun_shut (zs : List Int) (es : List Ev) : ∀ k, k ≤ es.length → shut es (-1) (spsrun zs es k).cl ∧ lst (-1) (spsrun zs es k).cl < k ∧
    (0 < (spsrun zs es k).p → lst (-1) (spsrun zs es k).cl < (spsrun zs es k).fi ∧ (spsrun zs es k).fi < k ∧ (∃ h : (spsrun zs es k).fi < es.length, (spsrun zs es k).fr = es[(spsrun zs es k).fi].tm))
  | 0, _ => ⟨trivial, by simp [spsrun, lst], by simp [spsrun]⟩
  | k + 1, hk => by
    obtain ⟨i1, i2, i3⟩ := spsrun_shut zs es k (by omega)
    rw [spsrun_succ zs es k hk]
    generalize spsrun zs es k = s at i1 i2 i3
    obtain ⟨p, cl, fr, fi⟩ := s
    simp only at i1 i2 i3
    unfold sstep
    simp only
    split
    · split
      · split
        · exact ⟨i1, by simp only; omega, fun _ => ⟨i2, by simp, hk, rfl⟩⟩
        · refine ⟨i1, by simp only; omega, fun _ => ?_⟩
          obtain ⟨j1, j2, j3⟩ := i3 (by omega)
          exact ⟨j1, by simp only; omega, j3⟩
      · split
        · obtain ⟨j1, j2, j3⟩ := i3 (by omega)
          refine ⟨shut_snoc es _ _ _ i1 j1 j3 rfl j2 ⟨hk, rfl⟩, ?_, fun h => absurd h (by simp)⟩
          rw [lst_snoc]; simp; omega
        · refine ⟨i1, by simp only; omega, fun h => ?_⟩
          obtain ⟨j1, j2, j3⟩ := i3 (by simp only at h; omega)
          exact ⟨j1, by simp only; omega, j3⟩
    · refine ⟨i1, by simp only; omega, fun h => ?_⟩
      obtain ⟨j1, j2, j3⟩ := i3 h
      exact ⟨j1, by simp only; omega, j3⟩
theorem spsrun_chain (zs : List Int) (es : List Ev) : chain es (decide (0 < (spsrun zs es es.length).p)) (-1) (spsrun zs es es.length).rows := by
  obtain ⟨i1, i2, i3⟩ := spsrun_shut zs es es.length (Nat.le_refl _)
  generalize spsrun zs es es.length = s at i1 i2 i3
  obtain ⟨p, cl, fr, fi⟩ := s
  by_cases h : p = 0
  · subst h
    have e : (SS.mk 0 cl fr fi).rows = cl := by simp [SS.rows]
    rw [e]
    exact chain_of es _ _ i1
  · have e : (SS.mk p cl fr fi).rows = cl ++ [⟨fr, 0, fi, 0, true⟩] := by simp [SS.rows, h]
    obtain ⟨j1, j2, j3⟩ := i3 (by simp only; omega)
    have hd : decide (0 < (SS.mk p cl fr fi).p) = true := by simp; omega
    rw [e, hd]
    exact chain_snoc es _ _ _ i1 j1 j3 rfl
theorem sp_info5 : (Try.prog.info? 222).map (·.size) = some 5 := by kernel_rfl
theorem rows_len (zs : List Int) (es : List Ev) : (spsrun zs es es.length).rows.length ≤ es.length + 1 := by
  have := (spsrun_p zs es es.length).2
  unfold SS.rows
  split <;> simp <;> omega
end Go.Proofs.Ytdahjhokcjfioaa
