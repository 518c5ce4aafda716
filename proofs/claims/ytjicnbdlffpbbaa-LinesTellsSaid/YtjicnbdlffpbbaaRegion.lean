/- A region that draws its order, some of whose operations have an effect on memory (a store, an alloc, a call that writes), all others being quiet: one walk in the order of the text serves every order. Nothing of the program is imported here. -/
import Derived.StillTail
import Derived.Deep.Quiet
import Derived.Deep.QuietTactic
namespace Go.Proofs.Ytjicnbdlffpbbaa
set_option linter.unusedVariables false
set_option linter.unusedSimpArgs false
set_option maxRecDepth 100000
namespace Reg

section
variable {P : Program} {ops : Array Oper} {md : Region.Mode} {es : List Nat} {Cl : List Value → World → Prop} {Fin : List Value → Act → Prop}

/-- What an operation with an effect must come to: a value, and a world of the next class. -/
def effUpon (P : Program) (Cl : List Value → World → Prop) (ps : List Value) : Result Next → Prop
  | .ok (.value u) w' => Cl (ps ++ [u]) w'
  | .ok .skip w' => Cl (ps ++ [undef]) w'
  | .ok (.enter f args) w' => Calls P f args w' (fun e w'' => ∃ u, e = .returned u ∧ Cl (ps ++ [u]) w'')
  | _ => False

def stepE (P : Program) (ops : Array Oper) (es : List Nat) (Cl : List Value → World → Prop) (i : Nat) (K : List Value → Act → Prop) (ps : List Value) (a : Act) : Prop :=
  match ops[i]? with
  | none => K ps a
  | some o =>
    if Region.wanted o (yielded ops a.tmps) then
      if es.contains i then (∀ w, Cl ps w → effUpon P Cl ps ((execOp a.eval o).run P w)) ∧ ∀ u, (∃ w, Cl (ps ++ [u]) w) → K (ps ++ [u]) (a.put o.dst u)
      else ∃ v, (∀ w, Cl ps w → o.quietAt P a (Cl ps) w v) ∧ K ps (a.put o.dst v)
    else K ps (a.put o.dst undef)

theorem stepE_mono {i : Nat} {K K' : List Value → Act → Prop} {ps : List Value} {a : Act} (h : ∀ ps a, K ps a → K' ps a) (hh : stepE P ops es Cl i K ps a) : stepE P ops es Cl i K' ps a := by
  unfold stepE at *
  split
  · rename_i ho; simp only [ho] at hh; exact h _ _ hh
  · rename_i o ho
    simp only [ho] at hh
    split
    · rename_i hw
      simp only [hw, if_true] at hh
      split
      · rename_i he; simp only [he, if_true] at hh; exact ⟨hh.1, fun u hu => h _ _ (hh.2 u hu)⟩
      · rename_i he; simp only [he] at hh; obtain ⟨v, h1, h2⟩ := hh; exact ⟨v, h1, h _ _ h2⟩
    · rename_i hw; simp only [hw] at hh; exact h _ _ hh

def anyE (P : Program) (md : Region.Mode) (ops : Array Oper) (es : List Nat) (Cl : List Value → World → Prop) (Fin : List Value → Act → Prop) : Nat → Array Bool → List Value → Act → Prop
  | 0, listed, ps, a => Region.ready md ops listed = [] ∧ Fin ps a
  | fuel + 1, listed, ps, a =>
    (Region.ready md ops listed = [] → Fin ps a) ∧
    ∀ i ∈ Region.ready md ops listed, stepE P ops es Cl i (anyE P md ops es Cl Fin fuel (listed.setIfInBounds i true)) ps a

theorem wp_of_eff {o : Oper} {a : Act} {ps : List Value} {K' : Act → World → Prop} {Q' : Exit → Act → World → Prop} {w : World} (h1 : effUpon P Cl ps ((execOp a.eval o).run P w))
    (h2 : ∀ u w', Cl (ps ++ [u]) w' → K' (a.put o.dst u) w') : o.wp P a w K' Q' := by
  unfold Oper.wp
  generalize (execOp a.eval o).run P w = r at *
  cases r with
  | ok n w' =>
    cases n <;> simp only [effUpon] at h1 <;> simp only [Oper.upon]
    case value u => exact h2 _ _ h1
    case skip => exact h2 _ _ h1
    case enter f args => exact h1.mono fun e w'' ⟨u, he, hc⟩ => by subst he; exact h2 _ _ hc
  | halt x w' => simp only [effUpon] at h1

theorem wp_of_quietAt {o : Oper} {a : Act} {C : World → Prop} {v : Value} {K' : Act → World → Prop} {Q' : Exit → Act → World → Prop} {w : World} (hw : C w) (h1 : o.quietAt P a C w v)
    (h2 : ∀ w', C w' → K' (a.put o.dst v) w') : o.wp P a w K' Q' := by
  unfold Oper.quietAt at h1
  unfold Oper.wp
  generalize (execOp a.eval o).run P w = r at *
  cases r with
  | ok n w' =>
    cases n <;> simp only [Oper.quietUpon] at h1 <;> simp only [Oper.upon]
    case value u => obtain ⟨e1, e2⟩ := h1; subst e1; subst e2; exact h2 _ hw
    case skip => obtain ⟨e1, e2⟩ := h1; subst e1; subst e2; exact h2 _ hw
    case enter f args =>
      obtain ⟨e1, hc⟩ := h1
      subst e1
      exact hc.mono fun e w'' ⟨he, hw''⟩ => by subst he; exact h2 _ hw''
  | halt x w' => simp only [Oper.quietUpon] at h1

theorem anyE_sound {Q' : Exit → Act → World → Prop} (hQ : ∀ ps a w, Cl ps w → Fin ps a → Q' .normal a w) : ∀ (fuel : Nat) (listed : Array Bool) (ps : List Value) (a : Act) (w : World), Cl ps w →
    anyE P md ops es Cl Fin fuel listed ps a → wpAny P md ops Q' fuel listed a w
  | 0, _, _, _, _, hw, h => ⟨h.1, hQ _ _ _ hw h.2⟩
  | fuel + 1, listed, ps, a, w, hw, h => ⟨fun h0 => hQ _ _ _ hw (h.1 h0), fun i hi => by
      have h1 := h.2 i hi
      unfold stepE at h1
      unfold wpOp
      split
      · rename_i ho; simp only [ho] at h1; exact anyE_sound hQ fuel _ _ _ _ hw h1
      · rename_i o ho
        simp only [ho] at h1
        split
        · rename_i hwt
          simp only [hwt, if_true] at h1
          split at h1
          · exact .inl (wp_of_eff (h1.1 w hw) fun u w' hc => anyE_sound hQ fuel _ _ _ _ hc (h1.2 u ⟨w', hc⟩))
          · obtain ⟨v, h2, h3⟩ := h1
            exact .inl (wp_of_quietAt hw (h2 w hw) fun w' hc => anyE_sound hQ fuel _ _ _ _ hc h3)
        · rename_i hwt; simp only [hwt] at h1; exact anyE_sound hQ fuel _ _ _ _ hw h1⟩

/-- In state a, whatever effects come first (none, if sealed), the operation yields v. -/
def YE (P : Program) (ops : Array Oper) (Cl : List Value → World → Prop) (o : Oper) (v : Value) (s : Bool) (ps : List Value) (a : Act) : Prop :=
  (Region.wanted o (yielded ops a.tmps) = true ∧ ∀ vs w, (s = true → vs = []) → Cl (ps ++ vs) w → o.quietAt P a (Cl (ps ++ vs)) w v) ∨
  (Region.wanted o (yielded ops a.tmps) = false ∧ v = undef)

theorem YE.step {i : Nat} {o : Oper} {v : Value} {s : Bool} {ps : List Value} {a : Act} (hi : ops[i]? = some o) (hie : es.contains i = false) (hy : YE P ops Cl o v s ps a) {K : List Value → Act → Prop} (h : K ps (a.put o.dst v)) : stepE P ops es Cl i K ps a := by
  unfold stepE
  simp only [hi]
  rcases hy with ⟨hw, hv⟩ | ⟨hw, rfl⟩
  · simp only [hw, if_true, hie, Bool.false_eq_true, if_false]
    exact ⟨v, fun w hc => by have := hv [] w (fun _ => rfl) (by simpa using hc); simpa using this, h⟩
  · simp only [hw, Bool.false_eq_true, if_false]; exact h

theorem YE.of_same {o : Oper} {v : Value} {s : Bool} {ps : List Value} {a a' : Act} (hy : YE P ops Cl o v s ps a) (he : execOp a'.eval o = execOp a.eval o)
    (hw : Region.wanted o (yielded ops a'.tmps) = Region.wanted o (yielded ops a.tmps)) : YE P ops Cl o v s ps a' := by
  unfold YE Oper.quietAt at *
  rw [he, hw]
  exact hy

theorem YE.later {o : Oper} {v : Value} {ps : List Value} {a : Act} (hy : YE P ops Cl o v false ps a) (u : Value) : YE P ops Cl o v false (ps ++ [u]) a := by
  rcases hy with ⟨hw, hv⟩ | h
  · exact .inl ⟨hw, fun vs w _ hc => by
      have e : ps ++ [u] ++ vs = ps ++ (u :: vs) := by simp
      rw [e] at hc ⊢
      exact hv (u :: vs) w (fun h => by cases h) hc⟩
  · exact .inr h

theorem stepE_put {j : Nat} {oi oj : Oper} {v : Value} {s : Bool} (hj : ops[j]? = some oj) (hap : oi.apart ops oj = true)
    (hsi : ∀ cs b, oi.op ≠ .select cs b) (hsj : ∀ cs b, oj.op ≠ .select cs b) (hns : s = true → es.contains j = false) {K : List Value → Act → Prop} {ps : List Value} {a : Act}
    (hy : YE P ops Cl oi v s ps a) (h : stepE P ops es Cl j K ps (a.put oi.dst v)) :
    stepE P ops es Cl j (fun ps' a' => YE P ops Cl oi v s ps' a' ∧ K ps' (a'.put oi.dst v)) ps a := by
  obtain ⟨h1, h2, h3⟩ := Oper.apart_spec hap
  have keep : ∀ (ps : List Value) (a : Act), YE P ops Cl oi v s ps a → ∀ u, YE P ops Cl oi v s ps (a.put oj.dst u) := fun ps a hy u =>
    hy.of_same (execOp_put oi hsi a oj.dst u h3) (wanted_put oi a oj.dst u h3)
  unfold stepE at *
  simp only [hj] at *
  rw [wanted_put oj a oi.dst v h1] at h
  split
  · rename_i hw
    simp only [hw, if_true] at h
    split
    · rename_i he
      simp only [he, if_true] at h
      rw [execOp_put oj hsj a oi.dst v h1] at h
      refine ⟨h.1, fun u hu => ⟨?_, by rw [← Act.put_comm a v u h2]; exact h.2 u hu⟩⟩
      cases s with
      | true => have := hns rfl; rw [he] at this; cases this
      | false => exact keep _ a (hy.later u) u
    · rename_i he
      simp only [he] at h
      obtain ⟨u, hu, hn⟩ := h
      refine ⟨u, fun w hw' => ?_, keep ps a hy u, by rw [← Act.put_comm a v u h2]; exact hn⟩
      have := hu w hw'
      unfold Oper.quietAt at *
      rwa [execOp_put oj hsj a oi.dst v h1] at this
  · rename_i hw
    simp only [hw] at h
    exact ⟨keep ps a hy _, by rw [← Act.put_comm a v undef h2]; exact h⟩

/-- Every effect that has not come up waits for i. -/
def Sealed (md : Region.Mode) (ops : Array Oper) (es : List Nat) (listed : Array Bool) (i : Nat) : Prop := ∀ j, es.contains j = true → listed.getD j true = true ∨ Region.waitsFor md ops j i = true

theorem anyE_first {i : Nat} {oi : Oper} {v : Value} {s : Bool} (hi : ops[i]? = some oi) (hie : es.contains i = false) (hsel : ∀ (j : Nat) (o : Oper) cs b, ops[j]? = some o → o.op ≠ .select cs b) :
    ∀ (fuel : Nat) (listed : Array Bool) (ps : List Value) (a : Act),
      (∀ j oj, ops[j]? = some oj → j ≠ i → listed.getD j true = false → (∀ e ∈ oj.after, Region.binds md e = true → e.on ≠ i) → oi.apart ops oj = true) →
      (s = true → Sealed md ops es listed i) →
      i ∈ Region.ready md ops listed → YE P ops Cl oi v s ps a →
      anyE P md ops es Cl Fin fuel (listed.setIfInBounds i true) ps (a.put oi.dst v) → anyE P md ops es Cl Fin (fuel + 1) listed ps a := by
  intro fuel
  induction fuel with
  | zero =>
    intro listed ps a _ _ hr hy H
    refine ⟨fun h => (by rw [h] at hr; cases hr), fun j hj => ?_⟩
    by_cases hji : j = i
    · subst hji; exact hy.step hi hie H
    · have := ready_mono hj hji
      rw [H.1] at this
      cases this
  | succ fuel ih =>
    intro listed ps a hfree hseal hr hy H
    refine ⟨fun h => (by rw [h] at hr; cases hr), fun j hj => ?_⟩
    by_cases hji : j = i
    · subst hji; exact hy.step hi hie H
    · have h1 := H.2 j (ready_mono hj hji)
      obtain ⟨hjun, oj, hoj, hall⟩ := mem_ready.1 hj
      have hnot : ∀ e ∈ oj.after, Region.binds md e = true → e.on ≠ i := fun e he hb heq => by
        have h1 := hall e he hb
        have h0 := (mem_ready.1 hr).1
        rw [heq, getD_both h0] at h1
        cases h1
      have hns : s = true → es.contains j = false := fun hs => by
        cases hc : es.contains j with
        | false => rfl
        | true =>
          rcases hseal hs j hc with h | h
          · rw [hjun] at h; cases h
          · obtain ⟨o', ho', e, he, hb, hon⟩ := Region.waitsFor_spec h
            have : o' = oj := Option.some.inj (ho'.symm.trans hoj)
            subst this
            exact absurd hon (hnot e he hb)
      have h2 := stepE_put hoj (hfree j oj hoj hji hjun hnot) (fun cs b => hsel i oi cs b hi) (fun cs b => hsel j oj cs b hoj) hns hy h1
      have hfree' : ∀ k ok, ops[k]? = some ok → k ≠ i → (listed.setIfInBounds j true).getD k true = false →
          (∀ e ∈ ok.after, Region.binds md e = true → e.on ≠ i) → oi.apart ops ok = true := fun k ok hk hki hun hno => by
        refine hfree k ok hk hki ?_ hno
        by_cases hjk : j = k
        · subst hjk; exact hjun
        · rw [getD_set_ne true hjk] at hun; exact hun
      have hseal' : s = true → Sealed md ops es (listed.setIfInBounds j true) i := fun hs k hk => by
        rcases hseal hs k hk with h | h
        · refine .inl ?_
          by_cases hjk : j = k
          · subst hjk; rw [hjun] at h; cases h
          · rw [getD_set_ne true hjk]; exact h
        · exact .inr h
      refine stepE_mono (fun ps' a' h3 => ih (listed.setIfInBounds j true) ps' a' hfree' hseal' (ready_mono hr (Ne.symm hji)) h3.1 ?_) h2
      rw [Array.setIfInBounds_comm _ _ hji]
      exact h3.2

/-- Every later effect waits for number k. -/
def sealedAt (md : Region.Mode) (ops : Array Oper) (es : List Nat) (k : Nat) : Bool := es.all fun e => decide (e < k) || Region.waitsFor md ops e k

/-- The walk in the order of the text. -/
def wE (P : Program) (md : Region.Mode) (ops : Array Oper) (es : List Nat) (Cl : List Value → World → Prop) (Fin : List Value → Act → Prop) : List Oper → Nat → List Value → Act → Prop
  | [], _, ps, a => Fin ps a
  | o :: rest, k, ps, a =>
    if Region.wanted o (yielded ops a.tmps) then
      if es.contains k then (∀ w, Cl ps w → effUpon P Cl ps ((execOp a.eval o).run P w)) ∧ ∀ u, (∃ w, Cl (ps ++ [u]) w) → wE P md ops es Cl Fin rest (k + 1) (ps ++ [u]) (a.put o.dst u)
      else ∃ v, (∀ vs w, (sealedAt md ops es k = true → vs = []) → Cl (ps ++ vs) w → o.quietAt P a (Cl (ps ++ vs)) w v) ∧ wE P md ops es Cl Fin rest (k + 1) ps (a.put o.dst v)
    else wE P md ops es Cl Fin rest (k + 1) ps (a.put o.dst undef)

def lexE (md : Region.Mode) (ops : Array Oper) (es : List Nat) : Nat → Nat → Array Bool → Bool
  | 0, _, listed => (Region.ready md ops listed).isEmpty
  | f + 1, k, listed => (Region.ready md ops listed).contains k && Region.free md ops listed k && (!es.contains k || decide (Region.ready md ops listed = [k])) && lexE md ops es f (k + 1) (listed.setIfInBounds k true)

def lexEB (md : Region.Mode) (ops : Array Oper) (es : List Nat) : Bool := Region.noSelect ops && lexE md ops es ops.size 0 (Array.replicate ops.size false)

theorem anyE_lex (hsel : Region.noSelect ops = true) : ∀ (l : List Oper) (k : Nat) (listed : Array Bool) (ps : List Value) (a : Act), (∀ j, l[j]? = ops[k + j]?) → (∀ j, j < k → listed.getD j true = true) →
    lexE md ops es l.length k listed = true → wE P md ops es Cl Fin l k ps a → anyE P md ops es Cl Fin l.length listed ps a
  | [], _, _, _, _, _, _, hB, h => ⟨by simpa [lexE] using hB, h⟩
  | o :: l, k, listed, ps, a, hl, hd, hB, h => by
    have h0 : ops[k]? = some o := by simpa using (hl 0).symm
    simp only [List.length_cons, lexE, Bool.and_eq_true] at hB
    obtain ⟨⟨⟨hr, hf⟩, hone⟩, hB'⟩ := hB
    have hr' : k ∈ Region.ready md ops listed := by simpa using hr
    have hl' : ∀ j, l[j]? = ops[k + 1 + j]? := fun j => by have := hl (j + 1); simpa [Nat.add_assoc, Nat.add_comm 1 j] using this
    have hd' : ∀ j, j < k + 1 → (listed.setIfInBounds k true).getD j true = true := fun j hj => by
      by_cases hkj : k = j
      · subst hkj
        rcases Nat.lt_or_ge k listed.size with h' | h'
        · simp [h']
        · simp [h']
      · rw [getD_set_ne true hkj]; exact hd j (by omega)
    have next := fun ps a => anyE_lex hsel l (k + 1) (listed.setIfInBounds k true) ps a hl' hd' hB'
    unfold wE at h
    by_cases hw : Region.wanted o (yielded ops a.tmps) = true
    · simp only [hw, if_true] at h
      by_cases he : es.contains k = true
      · simp only [he, if_true] at h
        simp only [he, Bool.not_true, Bool.false_or, decide_eq_true_eq] at hone
        refine ⟨fun h0 => (by rw [h0] at hr'; cases hr'), fun i hi => ?_⟩
        rw [hone] at hi
        have hik : i = k := by simpa using hi
        subst hik
        unfold stepE
        simp only [h0, hw, if_true, he]
        exact ⟨h.1, fun u hu => next _ _ (h.2 u hu)⟩
      · have he' : es.contains k = false := by simpa using he
        simp only [he', Bool.false_eq_true, if_false] at h
        obtain ⟨v, h1, h2⟩ := h
        refine anyE_first (s := sealedAt md ops es k) h0 he' (Region.noSelect_spec hsel) l.length listed ps a (Region.free_spec h0 hf) ?_ hr' (.inl ⟨hw, h1⟩) (next _ _ h2)
        intro hs j hj
        have := List.all_eq_true.1 hs j (by simpa using hj)
        simp only [Bool.or_eq_true, decide_eq_true_eq] at this
        rcases this with h | h
        · exact .inl (hd j h)
        · exact .inr h
    · have hw' : Region.wanted o (yielded ops a.tmps) = false := by simpa using hw
      simp only [hw', Bool.false_eq_true, if_false] at h
      by_cases he : es.contains k = true
      · simp only [he, Bool.not_true, Bool.false_or, decide_eq_true_eq] at hone
        refine ⟨fun h0 => (by rw [h0] at hr'; cases hr'), fun i hi => ?_⟩
        rw [hone] at hi
        have hik : i = k := by simpa using hi
        subst hik
        unfold stepE
        simp only [h0, hw', Bool.false_eq_true, if_false]
        exact next _ _ h
      · exact anyE_first (s := false) h0 (by simpa using he) (Region.noSelect_spec hsel) l.length listed ps a (Region.free_spec h0 hf) (fun h => by cases h) hr' (.inr ⟨hw', rfl⟩) (next _ _ h)

/-- One walk of the order of the text serves every order. 'es': the numbers of the operations that have an effect, in order; 'Cl ps': the worlds behind effects that have yielded ps. -/
theorem wp_region_eff {id : Nat} {Q : Exit → Act → World → Prop} {a : Act} {w : World} {l : List Oper} (es : List Nat) (Cl : List Value → World → Prop) (hm : P.follows .mixedOrders = true) (hB : lexEB .any l.toArray es = true)
    (hC : Cl [] w.drew) (h : wE P .any l.toArray es Cl (fun ps a' => ∀ w', Cl ps w' → Q .normal a' w') l 0 [] a) : (Code.region id l.toArray true).wp P Q a w := by
  simp only [lexEB, Bool.and_eq_true] at hB
  refine wp_region_any hm (anyE_sound (es := es) (Fin := fun ps a' => ∀ w', Cl ps w' → Q .normal a' w') (fun ps a' w' hw' h => h w' hw') _ _ [] _ _ hC ?_)
  have := anyE_lex (P := P) (Cl := Cl) (md := .any) (es := es) (Fin := fun ps a' => ∀ w', Cl ps w' → Q .normal a' w') hB.1 l 0 (Array.replicate l.toArray.size false) [] a (by simp) (fun j hj => by omega) (by simpa using hB.2) h
  simpa using this

/-! The moves of the walk. -/
theorem wE_nil {k : Nat} {ps : List Value} {a : Act} (h : Fin ps a) : wE P md ops es Cl Fin [] k ps a := h
theorem wE_skip {o : Oper} {rest : List Oper} {k : Nat} {ps : List Value} {a : Act} (hw : Region.wanted o (yielded ops a.tmps) = false) (h : wE P md ops es Cl Fin rest (k + 1) ps (a.put o.dst undef)) : wE P md ops es Cl Fin (o :: rest) k ps a := by
  unfold wE; simp only [hw, Bool.false_eq_true, if_false]; exact h
theorem wE_seal {o : Oper} {rest : List Oper} {k : Nat} {ps : List Value} {a : Act} (hw : Region.wanted o (yielded ops a.tmps) = true) (he : es.contains k = false) (hs : sealedAt md ops es k = true)
    (h : ∃ v, (∀ w, Cl ps w → o.quietAt P a (Cl ps) w v) ∧ wE P md ops es Cl Fin rest (k + 1) ps (a.put o.dst v)) : wE P md ops es Cl Fin (o :: rest) k ps a := by
  obtain ⟨v, h1, h⟩ := h
  unfold wE; simp only [hw, if_true, he, Bool.false_eq_true, if_false]
  exact ⟨v, fun vs w hv hc => by have := hv hs; subst this; simp only [List.append_nil] at hc ⊢; exact h1 w hc, h⟩
theorem wE_open {o : Oper} {rest : List Oper} {k : Nat} {ps : List Value} {a : Act} (hw : Region.wanted o (yielded ops a.tmps) = true) (he : es.contains k = false)
    (h : ∃ v, (∀ vs w, Cl (ps ++ vs) w → o.quietAt P a (Cl (ps ++ vs)) w v) ∧ wE P md ops es Cl Fin rest (k + 1) ps (a.put o.dst v)) : wE P md ops es Cl Fin (o :: rest) k ps a := by
  obtain ⟨v, h1, h⟩ := h
  unfold wE; simp only [hw, if_true, he, Bool.false_eq_true, if_false]
  exact ⟨v, fun vs w _ hc => h1 vs w hc, h⟩
theorem wE_eff {o : Oper} {rest : List Oper} {k : Nat} {ps : List Value} {a : Act} (hw : Region.wanted o (yielded ops a.tmps) = true) (he : es.contains k = true)
    (h1 : ∀ w, Cl ps w → effUpon P Cl ps ((execOp a.eval o).run P w)) (h : ∀ u, (∃ w, Cl (ps ++ [u]) w) → wE P md ops es Cl Fin rest (k + 1) (ps ++ [u]) (a.put o.dst u)) : wE P md ops es Cl Fin (o :: rest) k ps a := by
  unfold wE; simp only [hw, if_true, he]
  exact ⟨h1, h⟩
end
attribute [go_sem] effUpon
end Reg
end Go.Proofs.Ytjicnbdlffpbbaa
