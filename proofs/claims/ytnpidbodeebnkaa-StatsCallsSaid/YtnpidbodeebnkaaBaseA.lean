import Derived.StillTail
import Derived.Deep.Quiet
import Derived.Deep.QuietTactic
import Derived.Test.YtnpidbodeebnkaaChecked
import Derived.Test.YtnpidbodeebnkaaMathA
import Derived.WalkKit
import Derived.BigQuiet
import Derived.OpenShut
import Derived.Deep.RegionHeld3
import Derived.Deep.RegionWith
import Derived.Deep.DeepCutAuto
import Derived.WalkSpells
import Derived.WalkSmall
import Derived.Lib.Hide
/- A region that draws its order, some of whose operations have an effect on memory (a store, an alloc, a call that writes), all others being quiet: one walk in the order of the text serves every order. Nothing of the program is imported here. -/
namespace Go.Proofs.Ytnpidbodeebnkaa
set_option linter.unusedVariables false
set_option linter.unusedSimpArgs false
set_option maxRecDepth 100000
namespace Reg

section
variable {P : Program} {ops : Array Oper} {md : Region.Mode} {es : List Nat} {Cl : List Value → World → Prop} {Fin : List Value → Act → Prop}

/-- What an operation with an effect must come to: a value, and a world of the next class. -/
def effUpon (P : Program) (Cl : List Value → World → Prop) (ps : List Value) : Result Next → Prop
  | .ok (.value u) w' => Cl (ps ++ [u]) w'
  | .ok .skip w' => Cl (ps ++ [undef]) w'
  | .ok (.enter f args) w' => Calls P f args w' (fun e w'' => ∃ u, e = .returned u ∧ Cl (ps ++ [u]) w'')
  | _ => False

def stepE (P : Program) (ops : Array Oper) (es : List Nat) (Cl : List Value → World → Prop) (i : Nat) (K : List Value → Act → Prop) (ps : List Value) (a : Act) : Prop :=
  match ops[i]? with
  | none => K ps a
  | some o =>
    if Region.wanted o (yielded ops a.tmps) then
      if es.contains i then (∀ w, Cl ps w → effUpon P Cl ps ((execOp a.eval o).run P w)) ∧ ∀ u, (∃ w, Cl (ps ++ [u]) w) → K (ps ++ [u]) (a.put o.dst u)
      else ∃ v, (∀ w, Cl ps w → o.quietAt P a (Cl ps) w v) ∧ K ps (a.put o.dst v)
    else K ps (a.put o.dst undef)

theorem stepE_mono {i : Nat} {K K' : List Value → Act → Prop} {ps : List Value} {a : Act} (h : ∀ ps a, K ps a → K' ps a) (hh : stepE P ops es Cl i K ps a) : stepE P ops es Cl i K' ps a := by
  unfold stepE at *
  split
  · rename_i ho; simp only [ho] at hh; exact h _ _ hh
  · rename_i o ho
    simp only [ho] at hh
    split
    · rename_i hw
      simp only [hw, if_true] at hh
      split
      · rename_i he; simp only [he, if_true] at hh; exact ⟨hh.1, fun u hu => h _ _ (hh.2 u hu)⟩
      · rename_i he; simp only [he] at hh; obtain ⟨v, h1, h2⟩ := hh; exact ⟨v, h1, h _ _ h2⟩
    · rename_i hw; simp only [hw] at hh; exact h _ _ hh

def anyE (P : Program) (md : Region.Mode) (ops : Array Oper) (es : List Nat) (Cl : List Value → World → Prop) (Fin : List Value → Act → Prop) : Nat → Array Bool → List Value → Act → Prop
  | 0, listed, ps, a => Region.ready md ops listed = [] ∧ Fin ps a
  | fuel + 1, listed, ps, a =>
    (Region.ready md ops listed = [] → Fin ps a) ∧
    ∀ i ∈ Region.ready md ops listed, stepE P ops es Cl i (anyE P md ops es Cl Fin fuel (listed.setIfInBounds i true)) ps a

theorem wp_of_eff {o : Oper} {a : Act} {ps : List Value} {K' : Act → World → Prop} {Q' : Exit → Act → World → Prop} {w : World} (h1 : effUpon P Cl ps ((execOp a.eval o).run P w))
    (h2 : ∀ u w', Cl (ps ++ [u]) w' → K' (a.put o.dst u) w') : o.wp P a w K' Q' := by
  unfold Oper.wp
  generalize (execOp a.eval o).run P w = r at *
  cases r with
  | ok n w' =>
    cases n <;> simp only [effUpon] at h1 <;> simp only [Oper.upon]
    case value u => exact h2 _ _ h1
    case skip => exact h2 _ _ h1
    case enter f args => exact h1.mono fun e w'' ⟨u, he, hc⟩ => by subst he; exact h2 _ _ hc
  | halt x w' => simp only [effUpon] at h1

theorem wp_of_quietAt {o : Oper} {a : Act} {C : World → Prop} {v : Value} {K' : Act → World → Prop} {Q' : Exit → Act → World → Prop} {w : World} (hw : C w) (h1 : o.quietAt P a C w v)
    (h2 : ∀ w', C w' → K' (a.put o.dst v) w') : o.wp P a w K' Q' := by
  unfold Oper.quietAt at h1
  unfold Oper.wp
  generalize (execOp a.eval o).run P w = r at *
  cases r with
  | ok n w' =>
    cases n <;> simp only [Oper.quietUpon] at h1 <;> simp only [Oper.upon]
    case value u => obtain ⟨e1, e2⟩ := h1; subst e1; subst e2; exact h2 _ hw
    case skip => obtain ⟨e1, e2⟩ := h1; subst e1; subst e2; exact h2 _ hw
    case enter f args =>
      obtain ⟨e1, hc⟩ := h1
      subst e1
      exact hc.mono fun e w'' ⟨he, hw''⟩ => by subst he; exact h2 _ hw''
  | halt x w' => simp only [Oper.quietUpon] at h1

theorem anyE_sound {Q' : Exit → Act → World → Prop} (hQ : ∀ ps a w, Cl ps w → Fin ps a → Q' .normal a w) : ∀ (fuel : Nat) (listed : Array Bool) (ps : List Value) (a : Act) (w : World), Cl ps w →
    anyE P md ops es Cl Fin fuel listed ps a → wpAny P md ops Q' fuel listed a w
  | 0, _, _, _, _, hw, h => ⟨h.1, hQ _ _ _ hw h.2⟩
  | fuel + 1, listed, ps, a, w, hw, h => ⟨fun h0 => hQ _ _ _ hw (h.1 h0), fun i hi => by
      have h1 := h.2 i hi
      unfold stepE at h1
      unfold wpOp
      split
      · rename_i ho; simp only [ho] at h1; exact anyE_sound hQ fuel _ _ _ _ hw h1
      · rename_i o ho
        simp only [ho] at h1
        split
        · rename_i hwt
          simp only [hwt, if_true] at h1
          split at h1
          · exact .inl (wp_of_eff (h1.1 w hw) fun u w' hc => anyE_sound hQ fuel _ _ _ _ hc (h1.2 u ⟨w', hc⟩))
          · obtain ⟨v, h2, h3⟩ := h1
            exact .inl (wp_of_quietAt hw (h2 w hw) fun w' hc => anyE_sound hQ fuel _ _ _ _ hc h3)
        · rename_i hwt; simp only [hwt] at h1; exact anyE_sound hQ fuel _ _ _ _ hw h1⟩

/-- In state a, whatever effects come first (none, if sealed), the operation yields v. -/
def YE (P : Program) (ops : Array Oper) (Cl : List Value → World → Prop) (o : Oper) (v : Value) (s : Bool) (ps : List Value) (a : Act) : Prop :=
  (Region.wanted o (yielded ops a.tmps) = true ∧ ∀ vs w, (s = true → vs = []) → Cl (ps ++ vs) w → o.quietAt P a (Cl (ps ++ vs)) w v) ∨
  (Region.wanted o (yielded ops a.tmps) = false ∧ v = undef)

theorem YE.step {i : Nat} {o : Oper} {v : Value} {s : Bool} {ps : List Value} {a : Act} (hi : ops[i]? = some o) (hie : es.contains i = false) (hy : YE P ops Cl o v s ps a) {K : List Value → Act → Prop} (h : K ps (a.put o.dst v)) : stepE P ops es Cl i K ps a := by
  unfold stepE
  simp only [hi]
  rcases hy with ⟨hw, hv⟩ | ⟨hw, rfl⟩
  · simp only [hw, if_true, hie, Bool.false_eq_true, if_false]
    exact ⟨v, fun w hc => by have := hv [] w (fun _ => rfl) (by simpa using hc); simpa using this, h⟩
  · simp only [hw, Bool.false_eq_true, if_false]; exact h

theorem YE.of_same {o : Oper} {v : Value} {s : Bool} {ps : List Value} {a a' : Act} (hy : YE P ops Cl o v s ps a) (he : execOp a'.eval o = execOp a.eval o)
    (hw : Region.wanted o (yielded ops a'.tmps) = Region.wanted o (yielded ops a.tmps)) : YE P ops Cl o v s ps a' := by
  unfold YE Oper.quietAt at *
  rw [he, hw]
  exact hy

theorem YE.later {o : Oper} {v : Value} {ps : List Value} {a : Act} (hy : YE P ops Cl o v false ps a) (u : Value) : YE P ops Cl o v false (ps ++ [u]) a := by
  rcases hy with ⟨hw, hv⟩ | h
  · exact .inl ⟨hw, fun vs w _ hc => by
      have e : ps ++ [u] ++ vs = ps ++ (u :: vs) := by simp
      rw [e] at hc ⊢
      exact hv (u :: vs) w (fun h => by cases h) hc⟩
  · exact .inr h

theorem stepE_put {j : Nat} {oi oj : Oper} {v : Value} {s : Bool} (hj : ops[j]? = some oj) (hap : oi.apart ops oj = true)
    (hsi : ∀ cs b, oi.op ≠ .select cs b) (hsj : ∀ cs b, oj.op ≠ .select cs b) (hns : s = true → es.contains j = false) {K : List Value → Act → Prop} {ps : List Value} {a : Act}
    (hy : YE P ops Cl oi v s ps a) (h : stepE P ops es Cl j K ps (a.put oi.dst v)) :
    stepE P ops es Cl j (fun ps' a' => YE P ops Cl oi v s ps' a' ∧ K ps' (a'.put oi.dst v)) ps a := by
  obtain ⟨h1, h2, h3⟩ := Oper.apart_spec hap
  have keep : ∀ (ps : List Value) (a : Act), YE P ops Cl oi v s ps a → ∀ u, YE P ops Cl oi v s ps (a.put oj.dst u) := fun ps a hy u =>
    hy.of_same (execOp_put oi hsi a oj.dst u h3) (wanted_put oi a oj.dst u h3)
  unfold stepE at *
  simp only [hj] at *
  rw [wanted_put oj a oi.dst v h1] at h
  split
  · rename_i hw
    simp only [hw, if_true] at h
    split
    · rename_i he
      simp only [he, if_true] at h
      rw [execOp_put oj hsj a oi.dst v h1] at h
      refine ⟨h.1, fun u hu => ⟨?_, by rw [← Act.put_comm a v u h2]; exact h.2 u hu⟩⟩
      cases s with
      | true => have := hns rfl; rw [he] at this; cases this
      | false => exact keep _ a (hy.later u) u
    · rename_i he
      simp only [he] at h
      obtain ⟨u, hu, hn⟩ := h
      refine ⟨u, fun w hw' => ?_, keep ps a hy u, by rw [← Act.put_comm a v u h2]; exact hn⟩
      have := hu w hw'
      unfold Oper.quietAt at *
      rwa [execOp_put oj hsj a oi.dst v h1] at this
  · rename_i hw
    simp only [hw] at h
    exact ⟨keep ps a hy _, by rw [← Act.put_comm a v undef h2]; exact h⟩

/-- Every effect that has not come up waits for i. -/
def Sealed (md : Region.Mode) (ops : Array Oper) (es : List Nat) (listed : Array Bool) (i : Nat) : Prop := ∀ j, es.contains j = true → listed.getD j true = true ∨ Region.waitsFor md ops j i = true

theorem anyE_first {i : Nat} {oi : Oper} {v : Value} {s : Bool} (hi : ops[i]? = some oi) (hie : es.contains i = false) (hsel : ∀ (j : Nat) (o : Oper) cs b, ops[j]? = some o → o.op ≠ .select cs b) :
    ∀ (fuel : Nat) (listed : Array Bool) (ps : List Value) (a : Act),
      (∀ j oj, ops[j]? = some oj → j ≠ i → listed.getD j true = false → (∀ e ∈ oj.after, Region.binds md e = true → e.on ≠ i) → oi.apart ops oj = true) →
      (s = true → Sealed md ops es listed i) →
      i ∈ Region.ready md ops listed → YE P ops Cl oi v s ps a →
      anyE P md ops es Cl Fin fuel (listed.setIfInBounds i true) ps (a.put oi.dst v) → anyE P md ops es Cl Fin (fuel + 1) listed ps a := by
  intro fuel
  induction fuel with
  | zero =>
    intro listed ps a _ _ hr hy H
    refine ⟨fun h => (by rw [h] at hr; cases hr), fun j hj => ?_⟩
    by_cases hji : j = i
    · subst hji; exact hy.step hi hie H
    · have := ready_mono hj hji
      rw [H.1] at this
      cases this
  | succ fuel ih =>
    intro listed ps a hfree hseal hr hy H
    refine ⟨fun h => (by rw [h] at hr; cases hr), fun j hj => ?_⟩
    by_cases hji : j = i
    · subst hji; exact hy.step hi hie H
    · have h1 := H.2 j (ready_mono hj hji)
      obtain ⟨hjun, oj, hoj, hall⟩ := mem_ready.1 hj
      have hnot : ∀ e ∈ oj.after, Region.binds md e = true → e.on ≠ i := fun e he hb heq => by
        have h1 := hall e he hb
        have h0 := (mem_ready.1 hr).1
        rw [heq, getD_both h0] at h1
        cases h1
      have hns : s = true → es.contains j = false := fun hs => by
        cases hc : es.contains j with
        | false => rfl
        | true =>
          rcases hseal hs j hc with h | h
          · rw [hjun] at h; cases h
          · obtain ⟨o', ho', e, he, hb, hon⟩ := Region.waitsFor_spec h
            have : o' = oj := Option.some.inj (ho'.symm.trans hoj)
            subst this
            exact absurd hon (hnot e he hb)
      have h2 := stepE_put hoj (hfree j oj hoj hji hjun hnot) (fun cs b => hsel i oi cs b hi) (fun cs b => hsel j oj cs b hoj) hns hy h1
      have hfree' : ∀ k ok, ops[k]? = some ok → k ≠ i → (listed.setIfInBounds j true).getD k true = false →
          (∀ e ∈ ok.after, Region.binds md e = true → e.on ≠ i) → oi.apart ops ok = true := fun k ok hk hki hun hno => by
        refine hfree k ok hk hki ?_ hno
        by_cases hjk : j = k
        · subst hjk; exact hjun
        · rw [getD_set_ne true hjk] at hun; exact hun
      have hseal' : s = true → Sealed md ops es (listed.setIfInBounds j true) i := fun hs k hk => by
        rcases hseal hs k hk with h | h
        · refine .inl ?_
          by_cases hjk : j = k
          · subst hjk; rw [hjun] at h; cases h
          · rw [getD_set_ne true hjk]; exact h
        · exact .inr h
      refine stepE_mono (fun ps' a' h3 => ih (listed.setIfInBounds j true) ps' a' hfree' hseal' (ready_mono hr (Ne.symm hji)) h3.1 ?_) h2
      rw [Array.setIfInBounds_comm _ _ hji]
      exact h3.2

/-- Every later effect waits for number k. -/
def sealedAt (md : Region.Mode) (ops : Array Oper) (es : List Nat) (k : Nat) : Bool := es.all fun e => decide (e < k) || Region.waitsFor md ops e k

/-- The walk in the order of the text. -/
def wE (P : Program) (md : Region.Mode) (ops : Array Oper) (es : List Nat) (Cl : List Value → World → Prop) (Fin : List Value → Act → Prop) : List Oper → Nat → List Value → Act → Prop
  | [], _, ps, a => Fin ps a
  | o :: rest, k, ps, a =>
    if Region.wanted o (yielded ops a.tmps) then
      if es.contains k then (∀ w, Cl ps w → effUpon P Cl ps ((execOp a.eval o).run P w)) ∧ ∀ u, (∃ w, Cl (ps ++ [u]) w) → wE P md ops es Cl Fin rest (k + 1) (ps ++ [u]) (a.put o.dst u)
      else ∃ v, (∀ vs w, (sealedAt md ops es k = true → vs = []) → Cl (ps ++ vs) w → o.quietAt P a (Cl (ps ++ vs)) w v) ∧ wE P md ops es Cl Fin rest (k + 1) ps (a.put o.dst v)
    else wE P md ops es Cl Fin rest (k + 1) ps (a.put o.dst undef)

def lexE (md : Region.Mode) (ops : Array Oper) (es : List Nat) : Nat → Nat → Array Bool → Bool
  | 0, _, listed => (Region.ready md ops listed).isEmpty
  | f + 1, k, listed => (Region.ready md ops listed).contains k && Region.free md ops listed k && (!es.contains k || decide (Region.ready md ops listed = [k])) && lexE md ops es f (k + 1) (listed.setIfInBounds k true)

def lexEB (md : Region.Mode) (ops : Array Oper) (es : List Nat) : Bool := Region.noSelect ops && lexE md ops es ops.size 0 (Array.replicate ops.size false)

theorem anyE_lex (hsel : Region.noSelect ops = true) : ∀ (l : List Oper) (k : Nat) (listed : Array Bool) (ps : List Value) (a : Act), (∀ j, l[j]? = ops[k + j]?) → (∀ j, j < k → listed.getD j true = true) →
    lexE md ops es l.length k listed = true → wE P md ops es Cl Fin l k ps a → anyE P md ops es Cl Fin l.length listed ps a
  | [], _, _, _, _, _, _, hB, h => ⟨by simpa [lexE] using hB, h⟩
  | o :: l, k, listed, ps, a, hl, hd, hB, h => by
    have h0 : ops[k]? = some o := by simpa using (hl 0).symm
    simp only [List.length_cons, lexE, Bool.and_eq_true] at hB
    obtain ⟨⟨⟨hr, hf⟩, hone⟩, hB'⟩ := hB
    have hr' : k ∈ Region.ready md ops listed := by simpa using hr
    have hl' : ∀ j, l[j]? = ops[k + 1 + j]? := fun j => by have := hl (j + 1); simpa [Nat.add_assoc, Nat.add_comm 1 j] using this
    have hd' : ∀ j, j < k + 1 → (listed.setIfInBounds k true).getD j true = true := fun j hj => by
      by_cases hkj : k = j
      · subst hkj
        rcases Nat.lt_or_ge k listed.size with h' | h'
        · simp [h']
        · simp [h']
      · rw [getD_set_ne true hkj]; exact hd j (by omega)
    have next := fun ps a => anyE_lex hsel l (k + 1) (listed.setIfInBounds k true) ps a hl' hd' hB'
    unfold wE at h
    by_cases hw : Region.wanted o (yielded ops a.tmps) = true
    · simp only [hw, if_true] at h
      by_cases he : es.contains k = true
      · simp only [he, if_true] at h
        simp only [he, Bool.not_true, Bool.false_or, decide_eq_true_eq] at hone
        refine ⟨fun h0 => (by rw [h0] at hr'; cases hr'), fun i hi => ?_⟩
        rw [hone] at hi
        have hik : i = k := by simpa using hi
        subst hik
        unfold stepE
        simp only [h0, hw, if_true, he]
        exact ⟨h.1, fun u hu => next _ _ (h.2 u hu)⟩
      · have he' : es.contains k = false := by simpa using he
        simp only [he', Bool.false_eq_true, if_false] at h
        obtain ⟨v, h1, h2⟩ := h
        refine anyE_first (s := sealedAt md ops es k) h0 he' (Region.noSelect_spec hsel) l.length listed ps a (Region.free_spec h0 hf) ?_ hr' (.inl ⟨hw, h1⟩) (next _ _ h2)
        intro hs j hj
        have := List.all_eq_true.1 hs j (by simpa using hj)
        simp only [Bool.or_eq_true, decide_eq_true_eq] at this
        rcases this with h | h
        · exact .inl (hd j h)
        · exact .inr h
    · have hw' : Region.wanted o (yielded ops a.tmps) = false := by simpa using hw
      simp only [hw', Bool.false_eq_true, if_false] at h
      by_cases he : es.contains k = true
      · simp only [he, Bool.not_true, Bool.false_or, decide_eq_true_eq] at hone
        refine ⟨fun h0 => (by rw [h0] at hr'; cases hr'), fun i hi => ?_⟩
        rw [hone] at hi
        have hik : i = k := by simpa using hi
        subst hik
        unfold stepE
        simp only [h0, hw', Bool.false_eq_true, if_false]
        exact next _ _ h
      · exact anyE_first (s := false) h0 (by simpa using he) (Region.noSelect_spec hsel) l.length listed ps a (Region.free_spec h0 hf) (fun h => by cases h) hr' (.inr ⟨hw', rfl⟩) (next _ _ h)

/-- One walk of the order of the text serves every order. 'es': the numbers of the operations that have an effect, in order; 'Cl ps': the worlds behind effects that have yielded ps. -/
theorem wp_region_eff {id : Nat} {Q : Exit → Act → World → Prop} {a : Act} {w : World} {l : List Oper} (es : List Nat) (Cl : List Value → World → Prop) (hm : P.follows .mixedOrders = true) (hB : lexEB .any l.toArray es = true)
    (hC : Cl [] w.drew) (h : wE P .any l.toArray es Cl (fun ps a' => ∀ w', Cl ps w' → Q .normal a' w') l 0 [] a) : (Code.region id l.toArray true).wp P Q a w := by
  simp only [lexEB, Bool.and_eq_true] at hB
  refine wp_region_any hm (anyE_sound (es := es) (Fin := fun ps a' => ∀ w', Cl ps w' → Q .normal a' w') (fun ps a' w' hw' h => h w' hw') _ _ [] _ _ hC ?_)
  have := anyE_lex (P := P) (Cl := Cl) (md := .any) (es := es) (Fin := fun ps a' => ∀ w', Cl ps w' → Q .normal a' w') hB.1 l 0 (Array.replicate l.toArray.size false) [] a (by simp) (fun j hj => by omega) (by simpa using hB.2) h
  simpa using this

/-! The moves of the walk. -/
theorem wE_nil {k : Nat} {ps : List Value} {a : Act} (h : Fin ps a) : wE P md ops es Cl Fin [] k ps a := h
theorem wE_skip {o : Oper} {rest : List Oper} {k : Nat} {ps : List Value} {a : Act} (hw : Region.wanted o (yielded ops a.tmps) = false) (h : wE P md ops es Cl Fin rest (k + 1) ps (a.put o.dst undef)) : wE P md ops es Cl Fin (o :: rest) k ps a := by
  unfold wE; simp only [hw, Bool.false_eq_true, if_false]; exact h
theorem wE_seal {o : Oper} {rest : List Oper} {k : Nat} {ps : List Value} {a : Act} (hw : Region.wanted o (yielded ops a.tmps) = true) (he : es.contains k = false) (hs : sealedAt md ops es k = true)
    (h : ∃ v, (∀ w, Cl ps w → o.quietAt P a (Cl ps) w v) ∧ wE P md ops es Cl Fin rest (k + 1) ps (a.put o.dst v)) : wE P md ops es Cl Fin (o :: rest) k ps a := by
  obtain ⟨v, h1, h⟩ := h
  unfold wE; simp only [hw, if_true, he, Bool.false_eq_true, if_false]
  exact ⟨v, fun vs w hv hc => by have := hv hs; subst this; simp only [List.append_nil] at hc ⊢; exact h1 w hc, h⟩
theorem wE_open {o : Oper} {rest : List Oper} {k : Nat} {ps : List Value} {a : Act} (hw : Region.wanted o (yielded ops a.tmps) = true) (he : es.contains k = false)
    (h : ∃ v, (∀ vs w, Cl (ps ++ vs) w → o.quietAt P a (Cl (ps ++ vs)) w v) ∧ wE P md ops es Cl Fin rest (k + 1) ps (a.put o.dst v)) : wE P md ops es Cl Fin (o :: rest) k ps a := by
  obtain ⟨v, h1, h⟩ := h
  unfold wE; simp only [hw, if_true, he, Bool.false_eq_true, if_false]
  exact ⟨v, fun vs w _ hc => h1 vs w hc, h⟩
theorem wE_eff {o : Oper} {rest : List Oper} {k : Nat} {ps : List Value} {a : Act} (hw : Region.wanted o (yielded ops a.tmps) = true) (he : es.contains k = true)
    (h1 : ∀ w, Cl ps w → effUpon P Cl ps ((execOp a.eval o).run P w)) (h : ∀ u, (∃ w, Cl (ps ++ [u]) w) → wE P md ops es Cl Fin rest (k + 1) (ps ++ [u]) (a.put o.dst u)) : wE P md ops es Cl Fin (o :: rest) k ps a := by
  unfold wE; simp only [hw, if_true, he]
  exact ⟨h1, h⟩
end
attribute [go_sem] effUpon
end Reg
end Go.Proofs.Ytnpidbodeebnkaa

namespace Go.Proofs.Ytnpidbodeebnkaa
set_option linter.unusedVariables false
set_option linter.unusedSimpArgs false
set_option maxRecDepth 100000
open Go.RowKit Fg

theorem bcell {W w1 : World} (hb : Below W.heap.size W w1) : (∀ b o, b < W.heap.size → w1.cell? ⟨b, o, none⟩ = W.cell? ⟨b, o, none⟩) ∧ (∀ b o, b < W.heap.size → w1.frozen? ⟨b, o, none⟩ = W.frozen? ⟨b, o, none⟩) :=
  ⟨fun b o h => hb.cell (p := ⟨b, o, none⟩) h, fun b o h => hb.frozen (p := ⟨b, o, none⟩) h⟩
theorem ret_int {k : IntKind} {a b : Int} (h : a = b) : Ending.returned (.int k a) = .returned (.int k b) := by rw [h]
theorem ret_num {a b c d : Int} (h : a = c) (h' : b = d) : Ending.returned (.agg #[.int .u64 a, .int .u64 b]) = .returned (.agg #[.int .u64 c, .int .u64 d]) := by rw [h, h']
theorem and_mask {x : Int} (h : In x) : bits .and .u64 x 4294967295 = x % 4294967296 := by
  unfold In at h
  have := bits_mask .u64 64 (by decide) (fun n h0 h1 => by rw [wrap_u64]; omega) 32 (by decide) x h.1 (by omega)
  simpa using this
theorem and_one {x : Int} (h : In x) : bits .and .u64 x 1 = x % 2 := by
  unfold In at h
  have := bits_mask .u64 64 (by decide) (fun n h0 h1 => by rw [wrap_u64]; omega) 1 (by decide) x h.1 (by omega)
  simpa using this
theorem or_one {x y : Int} (h : In x) (h2 : x % 2 = 0) (hy : y = 0 ∨ y = 1) : bits .or .u64 x y = x + y := by
  unfold In at h
  exact bits_join .u64 64 (by decide) (fun n h0 h1 => by rw [wrap_u64]; omega) 1 x y h.1 (by omega) (by omega) (by omega) (by omega) (by omega)

end Go.Proofs.Ytnpidbodeebnkaa

/- What a call that writes to objects of the law's own leaves as it was: every block but those named. -/
namespace Go.Proofs.Ytnpidbodeebnkaa
set_option linter.unusedVariables false
set_option linter.unusedSimpArgs false
set_option maxRecDepth 100000
open Go.RowKit

/-- Of the blocks that were there, only those of S may have turned. -/
structure Only (S : Nat → Prop) (w w' : World) : Prop where
  os : w'.os = w.os
  tape : w'.tape = w.tape
  output : w'.output = w.output
  size : w.heap.size ≤ w'.heap.size
  block : ∀ k, k < w.heap.size → ¬ S k → w'.heap[k]? = w.heap[k]?

theorem Only.refl (S : Nat → Prop) (w : World) : Only S w w := ⟨rfl, rfl, rfl, Nat.le_refl _, fun _ _ _ => rfl⟩
theorem Only.trans {S : Nat → Prop} {a b c : World} (h : Only S a b) (k : Only S b c) : Only S a c :=
  ⟨k.os.trans h.os, k.tape.trans h.tape, k.output.trans h.output, Nat.le_trans h.size k.size, fun i hi hs => (k.block i (Nat.lt_of_lt_of_le hi h.size) hs).trans (h.block i hi hs)⟩
theorem Only.mono {S T : Nat → Prop} {a b : World} (h : Only S a b) (hST : ∀ k, S k → T k) : Only T a b :=
  ⟨h.os, h.tape, h.output, h.size, fun i hi hs => h.block i hi fun h' => hs (hST i h')⟩
theorem Only.drew {S : Nat → Prop} {a w : World} (h : Only S a w) : Only S a w.drew := ⟨h.os, h.tape, h.output, h.size, h.block⟩
theorem Only.alloc {S : Nat → Prop} {a w : World} (h : Only S a w) (o : Obj) : Only S a (w.alloc o) :=
  h.trans ⟨rfl, rfl, rfl, by simp, fun k hk _ => Below.heap_alloc _ _ _ hk⟩
theorem Only.setCell {S : Nat → Prop} {a w : World} (h : Only S a w) {p : Addr} (hp : S p.block ∨ a.heap.size ≤ p.block) (u : Value) : Only S a (w.setCell p u) :=
  ⟨h.os, h.tape, h.output, by simpa [World.setCell] using h.size, fun k hk hs => by
    rw [Below.heap_setCell w p u k (by rintro rfl; rcases hp with hp | hp; exact hs hp; omega)]
    exact h.block k hk hs⟩
theorem Only.of_below {S : Nat → Prop} {a b : World} (h : Below a.heap.size a b) : Only S a b := ⟨h.os, h.tape, h.output, h.size, fun k hk _ => h.block k hk⟩
theorem Only.below {B : Nat} {S : Nat → Prop} {a w w' : World} (ho : Only S w w') (h : Below B a w) (hB : B ≤ w.heap.size) (hS : ∀ k, S k → B ≤ k) : Below B a w' :=
  h.trans ⟨ho.os, ho.tape, ho.output, ho.size, fun k hk => ho.block k (by omega) fun hk' => by have := hS k hk'; omega⟩
theorem Only.cell {S : Nat → Prop} {w w' : World} (h : Only S w w') {b o : Nat} (hb : b < w.heap.size) (hs : ¬ S b) : w'.cell? ⟨b, o, none⟩ = w.cell? ⟨b, o, none⟩ :=
  World.cell?_of_block (w := w) (h.block b hb hs)
theorem Only.frozen {S : Nat → Prop} {w w' : World} (h : Only S w w') {b o : Nat} (hb : b < w.heap.size) (hs : ¬ S b) : w'.frozen? ⟨b, o, none⟩ = w.frozen? ⟨b, o, none⟩ :=
  World.frozen?_of_block (w := w) (h.block b hb hs)
theorem Only.setOne {x : Nat} {a w : World} (h : Only (fun k => k = x) a w) (o : Nat) (t : Option Nat) (u : Value) : Only (fun k => k = x) a (w.setCell ⟨x, o, t⟩ u) := h.setCell (.inl rfl) u
theorem bone {x : Nat} {W w1 : World} (hb : Only (fun k => k = x) W w1) : (∀ b o, b < W.heap.size → b ≠ x → w1.cell? ⟨b, o, none⟩ = W.cell? ⟨b, o, none⟩) ∧ (∀ b o, b < W.heap.size → b ≠ x → w1.frozen? ⟨b, o, none⟩ = W.frozen? ⟨b, o, none⟩) :=
  ⟨fun b o h hx => hb.cell h hx, fun b o h hx => hb.frozen h hx⟩
end Go.Proofs.Ytnpidbodeebnkaa

/- A region that draws its order, some of whose operations have an effect on memory, where two effects may be ready at once: a tree of walks serves every order. Nothing of the program is imported here. -/
namespace Go.Proofs.Ytnpidbodeebnkaa
set_option linter.unusedVariables false
set_option linter.unusedSimpArgs false
set_option maxRecDepth 100000
namespace Reg2

section
variable {P : Program} {ops : Array Oper} {md : Region.Mode} {es : List Nat} {Cl : List (Nat × Value) → World → Prop} {Fin : List (Nat × Value) → Act → Prop}

/-- What an operation with an effect must come to: a value, and a world of the next class. -/
def effUpon (P : Program) (Cl : List (Nat × Value) → World → Prop) (i : Nat) (ps : List (Nat × Value)) : Result Next → Prop
  | .ok (.value u) w' => Cl (ps ++ [(i, u)]) w'
  | .ok .skip w' => Cl (ps ++ [(i, undef)]) w'
  | .ok (.enter f args) w' => Calls P f args w' (fun e w'' => ∃ u, e = .returned u ∧ Cl (ps ++ [(i, u)]) w'')
  | _ => False

def stepE (P : Program) (ops : Array Oper) (es : List Nat) (Cl : List (Nat × Value) → World → Prop) (i : Nat) (K : List (Nat × Value) → Act → Prop) (ps : List (Nat × Value)) (a : Act) : Prop :=
  match ops[i]? with
  | none => K ps a
  | some o =>
    if Region.wanted o (yielded ops a.tmps) then
      if es.contains i then (∀ w, Cl ps w → effUpon P Cl i ps ((execOp a.eval o).run P w)) ∧ ∀ u, (∃ w, Cl (ps ++ [(i, u)]) w) → K (ps ++ [(i, u)]) (a.put o.dst u)
      else ∃ v, (∀ w, Cl ps w → o.quietAt P a (Cl ps) w v) ∧ K ps (a.put o.dst v)
    else K ps (a.put o.dst undef)

theorem stepE_mono {i : Nat} {K K' : List (Nat × Value) → Act → Prop} {ps : List (Nat × Value)} {a : Act} (h : ∀ ps a, K ps a → K' ps a) (hh : stepE P ops es Cl i K ps a) : stepE P ops es Cl i K' ps a := by
  unfold stepE at *
  split
  · rename_i ho; simp only [ho] at hh; exact h _ _ hh
  · rename_i o ho
    simp only [ho] at hh
    split
    · rename_i hw
      simp only [hw, if_true] at hh
      split
      · rename_i he; simp only [he, if_true] at hh; exact ⟨hh.1, fun u hu => h _ _ (hh.2 u hu)⟩
      · rename_i he; simp only [he] at hh; obtain ⟨v, h1, h2⟩ := hh; exact ⟨v, h1, h _ _ h2⟩
    · rename_i hw; simp only [hw] at hh; exact h _ _ hh

def anyE (P : Program) (md : Region.Mode) (ops : Array Oper) (es : List Nat) (Cl : List (Nat × Value) → World → Prop) (Fin : List (Nat × Value) → Act → Prop) : Nat → Array Bool → List (Nat × Value) → Act → Prop
  | 0, listed, ps, a => Region.ready md ops listed = [] ∧ Fin ps a
  | fuel + 1, listed, ps, a =>
    (Region.ready md ops listed = [] → Fin ps a) ∧
    ∀ i ∈ Region.ready md ops listed, stepE P ops es Cl i (anyE P md ops es Cl Fin fuel (listed.setIfInBounds i true)) ps a

theorem wp_of_eff {i : Nat} {o : Oper} {a : Act} {ps : List (Nat × Value)} {K' : Act → World → Prop} {Q' : Exit → Act → World → Prop} {w : World} (h1 : effUpon P Cl i ps ((execOp a.eval o).run P w))
    (h2 : ∀ u w', Cl (ps ++ [(i, u)]) w' → K' (a.put o.dst u) w') : o.wp P a w K' Q' := by
  unfold Oper.wp
  generalize (execOp a.eval o).run P w = r at *
  cases r with
  | ok n w' =>
    cases n <;> simp only [effUpon] at h1 <;> simp only [Oper.upon]
    case value u => exact h2 _ _ h1
    case skip => exact h2 _ _ h1
    case enter f args => exact h1.mono fun e w'' ⟨u, he, hc⟩ => by subst he; exact h2 _ _ hc
  | halt x w' => simp only [effUpon] at h1

theorem wp_of_quietAt {o : Oper} {a : Act} {C : World → Prop} {v : Value} {K' : Act → World → Prop} {Q' : Exit → Act → World → Prop} {w : World} (hw : C w) (h1 : o.quietAt P a C w v)
    (h2 : ∀ w', C w' → K' (a.put o.dst v) w') : o.wp P a w K' Q' := by
  unfold Oper.quietAt at h1
  unfold Oper.wp
  generalize (execOp a.eval o).run P w = r at *
  cases r with
  | ok n w' =>
    cases n <;> simp only [Oper.quietUpon] at h1 <;> simp only [Oper.upon]
    case value u => obtain ⟨e1, e2⟩ := h1; subst e1; subst e2; exact h2 _ hw
    case skip => obtain ⟨e1, e2⟩ := h1; subst e1; subst e2; exact h2 _ hw
    case enter f args =>
      obtain ⟨e1, hc⟩ := h1
      subst e1
      exact hc.mono fun e w'' ⟨he, hw''⟩ => by subst he; exact h2 _ hw''
  | halt x w' => simp only [Oper.quietUpon] at h1

theorem anyE_sound {Q' : Exit → Act → World → Prop} (hQ : ∀ ps a w, Cl ps w → Fin ps a → Q' .normal a w) : ∀ (fuel : Nat) (listed : Array Bool) (ps : List (Nat × Value)) (a : Act) (w : World), Cl ps w →
    anyE P md ops es Cl Fin fuel listed ps a → wpAny P md ops Q' fuel listed a w
  | 0, _, _, _, _, hw, h => ⟨h.1, hQ _ _ _ hw h.2⟩
  | fuel + 1, listed, ps, a, w, hw, h => ⟨fun h0 => hQ _ _ _ hw (h.1 h0), fun i hi => by
      have h1 := h.2 i hi
      unfold stepE at h1
      unfold wpOp
      split
      · rename_i ho; simp only [ho] at h1; exact anyE_sound hQ fuel _ _ _ _ hw h1
      · rename_i o ho
        simp only [ho] at h1
        split
        · rename_i hwt
          simp only [hwt, if_true] at h1
          split at h1
          · exact .inl (wp_of_eff (h1.1 w hw) fun u w' hc => anyE_sound hQ fuel _ _ _ _ hc (h1.2 u ⟨w', hc⟩))
          · obtain ⟨v, h2, h3⟩ := h1
            exact .inl (wp_of_quietAt hw (h2 w hw) fun w' hc => anyE_sound hQ fuel _ _ _ _ hc h3)
        · rename_i hwt; simp only [hwt] at h1; exact anyE_sound hQ fuel _ _ _ _ hw h1⟩

/-- In state a, whatever effects come first (none, if sealed), the operation yields v. -/
def YE (P : Program) (ops : Array Oper) (Cl : List (Nat × Value) → World → Prop) (o : Oper) (v : Value) (s : Bool) (ps : List (Nat × Value)) (a : Act) : Prop :=
  (Region.wanted o (yielded ops a.tmps) = true ∧ ∀ vs w, (s = true → vs = []) → Cl (ps ++ vs) w → o.quietAt P a (Cl (ps ++ vs)) w v) ∨
  (Region.wanted o (yielded ops a.tmps) = false ∧ v = undef)

theorem YE.step {i : Nat} {o : Oper} {v : Value} {s : Bool} {ps : List (Nat × Value)} {a : Act} (hi : ops[i]? = some o) (hie : es.contains i = false) (hy : YE P ops Cl o v s ps a) {K : List (Nat × Value) → Act → Prop} (h : K ps (a.put o.dst v)) : stepE P ops es Cl i K ps a := by
  unfold stepE
  simp only [hi]
  rcases hy with ⟨hw, hv⟩ | ⟨hw, rfl⟩
  · simp only [hw, if_true, hie, Bool.false_eq_true, if_false]
    exact ⟨v, fun w hc => by have := hv [] w (fun _ => rfl) (by simpa using hc); simpa using this, h⟩
  · simp only [hw, Bool.false_eq_true, if_false]; exact h

theorem YE.of_same {o : Oper} {v : Value} {s : Bool} {ps : List (Nat × Value)} {a a' : Act} (hy : YE P ops Cl o v s ps a) (he : execOp a'.eval o = execOp a.eval o)
    (hw : Region.wanted o (yielded ops a'.tmps) = Region.wanted o (yielded ops a.tmps)) : YE P ops Cl o v s ps a' := by
  unfold YE Oper.quietAt at *
  rw [he, hw]
  exact hy

theorem YE.later {o : Oper} {v : Value} {ps : List (Nat × Value)} {a : Act} (hy : YE P ops Cl o v false ps a) (u : Nat × Value) : YE P ops Cl o v false (ps ++ [u]) a := by
  rcases hy with ⟨hw, hv⟩ | h
  · exact .inl ⟨hw, fun vs w _ hc => by
      have e : ps ++ [u] ++ vs = ps ++ (u :: vs) := by simp
      rw [e] at hc ⊢
      exact hv (u :: vs) w (fun h => by cases h) hc⟩
  · exact .inr h

theorem stepE_put {j : Nat} {oi oj : Oper} {v : Value} {s : Bool} (hj : ops[j]? = some oj) (hap : oi.apart ops oj = true)
    (hsi : ∀ cs b, oi.op ≠ .select cs b) (hsj : ∀ cs b, oj.op ≠ .select cs b) (hns : s = true → es.contains j = false) {K : List (Nat × Value) → Act → Prop} {ps : List (Nat × Value)} {a : Act}
    (hy : YE P ops Cl oi v s ps a) (h : stepE P ops es Cl j K ps (a.put oi.dst v)) :
    stepE P ops es Cl j (fun ps' a' => YE P ops Cl oi v s ps' a' ∧ K ps' (a'.put oi.dst v)) ps a := by
  obtain ⟨h1, h2, h3⟩ := Oper.apart_spec hap
  have keep : ∀ (ps : List (Nat × Value)) (a : Act), YE P ops Cl oi v s ps a → ∀ u, YE P ops Cl oi v s ps (a.put oj.dst u) := fun ps a hy u =>
    hy.of_same (execOp_put oi hsi a oj.dst u h3) (wanted_put oi a oj.dst u h3)
  unfold stepE at *
  simp only [hj] at *
  rw [wanted_put oj a oi.dst v h1] at h
  split
  · rename_i hw
    simp only [hw, if_true] at h
    split
    · rename_i he
      simp only [he, if_true] at h
      rw [execOp_put oj hsj a oi.dst v h1] at h
      refine ⟨h.1, fun u hu => ⟨?_, by rw [← Act.put_comm a v u h2]; exact h.2 u hu⟩⟩
      cases s with
      | true => have := hns rfl; rw [he] at this; cases this
      | false => exact keep _ a (hy.later (j, u)) u
    · rename_i he
      simp only [he] at h
      obtain ⟨u, hu, hn⟩ := h
      refine ⟨u, fun w hw' => ?_, keep ps a hy u, by rw [← Act.put_comm a v u h2]; exact hn⟩
      have := hu w hw'
      unfold Oper.quietAt at *
      rwa [execOp_put oj hsj a oi.dst v h1] at this
  · rename_i hw
    simp only [hw] at h
    exact ⟨keep ps a hy _, by rw [← Act.put_comm a v undef h2]; exact h⟩

/-- Every effect that has not come up waits for i. -/
def Sealed (md : Region.Mode) (ops : Array Oper) (es : List Nat) (listed : Array Bool) (i : Nat) : Prop := ∀ j, es.contains j = true → listed.getD j true = true ∨ Region.waitsFor md ops j i = true

theorem anyE_first {i : Nat} {oi : Oper} {v : Value} {s : Bool} (hi : ops[i]? = some oi) (hie : es.contains i = false) (hsel : ∀ (j : Nat) (o : Oper) cs b, ops[j]? = some o → o.op ≠ .select cs b) :
    ∀ (fuel : Nat) (listed : Array Bool) (ps : List (Nat × Value)) (a : Act),
      (∀ j oj, ops[j]? = some oj → j ≠ i → listed.getD j true = false → (∀ e ∈ oj.after, Region.binds md e = true → e.on ≠ i) → oi.apart ops oj = true) →
      (s = true → Sealed md ops es listed i) →
      i ∈ Region.ready md ops listed → YE P ops Cl oi v s ps a →
      anyE P md ops es Cl Fin fuel (listed.setIfInBounds i true) ps (a.put oi.dst v) → anyE P md ops es Cl Fin (fuel + 1) listed ps a := by
  intro fuel
  induction fuel with
  | zero =>
    intro listed ps a _ _ hr hy H
    refine ⟨fun h => (by rw [h] at hr; cases hr), fun j hj => ?_⟩
    by_cases hji : j = i
    · subst hji; exact hy.step hi hie H
    · have := ready_mono hj hji
      rw [H.1] at this
      cases this
  | succ fuel ih =>
    intro listed ps a hfree hseal hr hy H
    refine ⟨fun h => (by rw [h] at hr; cases hr), fun j hj => ?_⟩
    by_cases hji : j = i
    · subst hji; exact hy.step hi hie H
    · have h1 := H.2 j (ready_mono hj hji)
      obtain ⟨hjun, oj, hoj, hall⟩ := mem_ready.1 hj
      have hnot : ∀ e ∈ oj.after, Region.binds md e = true → e.on ≠ i := fun e he hb heq => by
        have h1 := hall e he hb
        have h0 := (mem_ready.1 hr).1
        rw [heq, getD_both h0] at h1
        cases h1
      have hns : s = true → es.contains j = false := fun hs => by
        cases hc : es.contains j with
        | false => rfl
        | true =>
          rcases hseal hs j hc with h | h
          · rw [hjun] at h; cases h
          · obtain ⟨o', ho', e, he, hb, hon⟩ := Region.waitsFor_spec h
            have : o' = oj := Option.some.inj (ho'.symm.trans hoj)
            subst this
            exact absurd hon (hnot e he hb)
      have h2 := stepE_put hoj (hfree j oj hoj hji hjun hnot) (fun cs b => hsel i oi cs b hi) (fun cs b => hsel j oj cs b hoj) hns hy h1
      have hfree' : ∀ k ok, ops[k]? = some ok → k ≠ i → (listed.setIfInBounds j true).getD k true = false →
          (∀ e ∈ ok.after, Region.binds md e = true → e.on ≠ i) → oi.apart ops ok = true := fun k ok hk hki hun hno => by
        refine hfree k ok hk hki ?_ hno
        by_cases hjk : j = k
        · subst hjk; exact hjun
        · rw [getD_set_ne true hjk] at hun; exact hun
      have hseal' : s = true → Sealed md ops es (listed.setIfInBounds j true) i := fun hs k hk => by
        rcases hseal hs k hk with h | h
        · refine .inl ?_
          by_cases hjk : j = k
          · subst hjk; rw [hjun] at h; cases h
          · rw [getD_set_ne true hjk]; exact h
        · exact .inr h
      refine stepE_mono (fun ps' a' h3 => ih (listed.setIfInBounds j true) ps' a' hfree' hseal' (ready_mono hr (Ne.symm hji)) h3.1 ?_) h2
      rw [Array.setIfInBounds_comm _ _ hji]
      exact h3.2

/-- In which order the operations are taken: one that may come first (s: every effect that has not come up waits for it), or one of two effects that are ready at once. -/
inductive Tr where
  | done : Tr
  | one : Nat → Bool → Tr → Tr
  | two : Nat → Tr → Nat → Tr → Tr

def sealedL (md : Region.Mode) (ops : Array Oper) (es : List Nat) (listed : Array Bool) (k : Nat) : Bool := es.all fun e => listed.getD e true || Region.waitsFor md ops e k

/-- Does the tree serve every order? -/
def lexT (md : Region.Mode) (ops : Array Oper) (es : List Nat) : Nat → Tr → Array Bool → Bool
  | _, .done, listed => (Region.ready md ops listed).isEmpty
  | 0, _, _ => false
  | f + 1, .one k s t, listed => (Region.ready md ops listed).contains k && Region.free md ops listed k && (if es.contains k then decide (Region.ready md ops listed = [k]) else (!s || sealedL md ops es listed k)) && lexT md ops es f t (listed.setIfInBounds k true)
  | f + 1, .two k1 t1 k2 t2, listed => decide (Region.ready md ops listed = [k1, k2]) && lexT md ops es f t1 (listed.setIfInBounds k1 true) && lexT md ops es f t2 (listed.setIfInBounds k2 true)

/-- The walk. -/
def wT (P : Program) (ops : Array Oper) (es : List Nat) (Cl : List (Nat × Value) → World → Prop) (Fin : List (Nat × Value) → Act → Prop) : Tr → List (Nat × Value) → Act → Prop
  | .done, ps, a => Fin ps a
  | .one k s t, ps, a =>
    match ops[k]? with
    | none => False
    | some o =>
      if Region.wanted o (yielded ops a.tmps) then
        if es.contains k then (∀ w, Cl ps w → effUpon P Cl k ps ((execOp a.eval o).run P w)) ∧ ∀ u, (∃ w, Cl (ps ++ [(k, u)]) w) → wT P ops es Cl Fin t (ps ++ [(k, u)]) (a.put o.dst u)
        else ∃ v, (∀ vs w, (s = true → vs = []) → Cl (ps ++ vs) w → o.quietAt P a (Cl (ps ++ vs)) w v) ∧ wT P ops es Cl Fin t ps (a.put o.dst v)
      else wT P ops es Cl Fin t ps (a.put o.dst undef)
  | .two k1 t1 k2 t2, ps, a =>
    match ops[k1]?, ops[k2]? with
    | some o1, some o2 =>
      (Region.wanted o1 (yielded ops a.tmps) = true ∧ es.contains k1 = true ∧ (∀ w, Cl ps w → effUpon P Cl k1 ps ((execOp a.eval o1).run P w)) ∧ ∀ u, (∃ w, Cl (ps ++ [(k1, u)]) w) → wT P ops es Cl Fin t1 (ps ++ [(k1, u)]) (a.put o1.dst u)) ∧
      (Region.wanted o2 (yielded ops a.tmps) = true ∧ es.contains k2 = true ∧ (∀ w, Cl ps w → effUpon P Cl k2 ps ((execOp a.eval o2).run P w)) ∧ ∀ u, (∃ w, Cl (ps ++ [(k2, u)]) w) → wT P ops es Cl Fin t2 (ps ++ [(k2, u)]) (a.put o2.dst u))
    | _, _ => False

theorem anyE_tree (hsel : Region.noSelect ops = true) : ∀ (f : Nat) (t : Tr) (listed : Array Bool) (ps : List (Nat × Value)) (a : Act),
    lexT md ops es f t listed = true → wT P ops es Cl Fin t ps a → anyE P md ops es Cl Fin f listed ps a
  | 0, .done, listed, ps, a, hB, h => ⟨by simpa [lexT] using hB, h⟩
  | f + 1, .done, listed, ps, a, hB, h => by
    have hr : Region.ready md ops listed = [] := by simpa [lexT] using hB
    exact ⟨fun _ => h, fun i hi => by rw [hr] at hi; cases hi⟩
  | 0, .one _ _ _, _, _, _, hB, _ => by simp [lexT] at hB
  | 0, .two _ _ _ _, _, _, _, hB, _ => by simp [lexT] at hB
  | f + 1, .one k s t, listed, ps, a, hB, h => by
    simp only [lexT, Bool.and_eq_true] at hB
    obtain ⟨⟨⟨hr, hf⟩, hone⟩, hB'⟩ := hB
    have hr' : k ∈ Region.ready md ops listed := by simpa using hr
    have next := fun ps a => anyE_tree hsel f t (listed.setIfInBounds k true) ps a hB'
    unfold wT at h
    cases h0 : ops[k]? with
    | none => simp only [h0] at h
    | some o =>
      simp only [h0] at h
      by_cases hw : Region.wanted o (yielded ops a.tmps) = true
      · simp only [hw, if_true] at h
        by_cases he : es.contains k = true
        · simp only [he, if_true] at h
          simp only [he, if_true, decide_eq_true_eq] at hone
          refine ⟨fun h0 => (by rw [h0] at hr'; cases hr'), fun i hi => ?_⟩
          rw [hone] at hi
          have hik : i = k := by simpa using hi
          subst hik
          unfold stepE
          simp only [h0, hw, if_true, he]
          exact ⟨h.1, fun u hu => next _ _ (h.2 u hu)⟩
        · have he' : es.contains k = false := by simpa using he
          simp only [he', Bool.false_eq_true, if_false] at h hone
          obtain ⟨v, h1, h2⟩ := h
          refine anyE_first (s := s) h0 he' (Region.noSelect_spec hsel) f listed ps a (Region.free_spec h0 hf) ?_ hr' (.inl ⟨hw, h1⟩) (next _ _ h2)
          intro hs j hj
          subst hs
          simp only [Bool.not_true, Bool.false_or] at hone
          have := List.all_eq_true.1 hone j (by simpa using hj)
          simpa only [Bool.or_eq_true] using this
      · have hw' : Region.wanted o (yielded ops a.tmps) = false := by simpa using hw
        simp only [hw', Bool.false_eq_true, if_false] at h
        by_cases he : es.contains k = true
        · simp only [he, if_true, decide_eq_true_eq] at hone
          refine ⟨fun h0 => (by rw [h0] at hr'; cases hr'), fun i hi => ?_⟩
          rw [hone] at hi
          have hik : i = k := by simpa using hi
          subst hik
          unfold stepE
          simp only [h0, hw', Bool.false_eq_true, if_false]
          exact next _ _ h
        · exact anyE_first (s := false) h0 (by simpa using he) (Region.noSelect_spec hsel) f listed ps a (Region.free_spec h0 hf) (fun h => by cases h) hr' (.inr ⟨hw', rfl⟩) (next _ _ h)
  | f + 1, .two k1 t1 k2 t2, listed, ps, a, hB, h => by
    simp only [lexT, Bool.and_eq_true, decide_eq_true_eq] at hB
    obtain ⟨⟨hr, hB1⟩, hB2⟩ := hB
    have next1 := fun ps a => anyE_tree hsel f t1 (listed.setIfInBounds k1 true) ps a hB1
    have next2 := fun ps a => anyE_tree hsel f t2 (listed.setIfInBounds k2 true) ps a hB2
    unfold wT at h
    split at h
    · rename_i o1 o2 h1 h2
      obtain ⟨⟨w1, e1, f1, g1⟩, w2, e2, f2, g2⟩ := h
      refine ⟨fun h0 => (by rw [h0] at hr; cases hr), fun i hi => ?_⟩
      rw [hr] at hi
      rcases List.mem_cons.1 hi with rfl | hi
      · unfold stepE
        simp only [h1, w1, if_true, e1]
        exact ⟨f1, fun u hu => next1 _ _ (g1 u hu)⟩
      · have hik : i = k2 := by simpa using hi
        subst hik
        unfold stepE
        simp only [h2, w2, if_true, e2]
        exact ⟨f2, fun u hu => next2 _ _ (g2 u hu)⟩
    · exact h.elim

/-- A tree of walks serves every order; all ways meet at the end in what two numbers, the new blocks', say. -/
theorem wp_region_tree {id : Nat} {Q : Exit → Act → World → Prop} {a : Act} {w : World} {l : List Oper} (t : Tr) (es : List Nat) (Cl : List (Nat × Value) → World → Prop) (F : Nat → Nat → World → Prop) (hm : P.follows .mixedOrders = true)
    (hS : Region.noSelect l.toArray = true) (hB : lexT .any l.toArray es l.toArray.size t (Array.replicate l.toArray.size false) = true)
    (hC : Cl [] w.drew) (h : ∃ A : Nat → Nat → Act, wT P l.toArray es Cl (fun ps a' => ∃ b b', a' = A b b' ∧ ∀ w', Cl ps w' → F b b' w') t [] a ∧ ∀ b b' w', F b b' w' → Q .normal (A b b') w') : (Code.region id l.toArray true).wp P Q a w := by
  obtain ⟨A, h, hJ⟩ := h
  refine wp_region_any hm (anyE_sound (es := es) (Fin := fun ps a' => ∃ b b', a' = A b b' ∧ ∀ w', Cl ps w' → F b b' w') (fun ps a' w' hw' h => ?_) _ _ [] _ _ hC (anyE_tree hS _ t _ _ _ hB h))
  obtain ⟨b, b', rfl, hF⟩ := h
  exact hJ b b' w' (hF w' hw')

/-! The moves of the walk. -/
theorem wT_done {ps : List (Nat × Value)} {a : Act} (h : Fin ps a) : wT P ops es Cl Fin .done ps a := h
theorem wT_skip {o : Oper} {k : Nat} {s : Bool} {t : Tr} {ps : List (Nat × Value)} {a : Act} (hk : ops[k]? = some o) (hw : Region.wanted o (yielded ops a.tmps) = false) (h : wT P ops es Cl Fin t ps (a.put o.dst undef)) : wT P ops es Cl Fin (.one k s t) ps a := by
  unfold wT; simp only [hk, hw, Bool.false_eq_true, if_false]; exact h
theorem wT_seal {o : Oper} {k : Nat} {t : Tr} {ps : List (Nat × Value)} {a : Act} (hk : ops[k]? = some o) (hw : Region.wanted o (yielded ops a.tmps) = true) (he : es.contains k = false)
    (h : ∃ v, (∀ w, Cl ps w → o.quietAt P a (Cl ps) w v) ∧ wT P ops es Cl Fin t ps (a.put o.dst v)) : wT P ops es Cl Fin (.one k true t) ps a := by
  obtain ⟨v, h1, h⟩ := h
  unfold wT; simp only [hk, hw, if_true, he, Bool.false_eq_true, if_false]
  exact ⟨v, fun vs w hv hc => by have := hv (by trivial); subst this; simp only [List.append_nil] at hc ⊢; exact h1 w hc, h⟩
theorem wT_open {o : Oper} {k : Nat} {s : Bool} {t : Tr} {ps : List (Nat × Value)} {a : Act} (hk : ops[k]? = some o) (hw : Region.wanted o (yielded ops a.tmps) = true) (he : es.contains k = false)
    (h : ∃ v, (∀ vs w, Cl (ps ++ vs) w → o.quietAt P a (Cl (ps ++ vs)) w v) ∧ wT P ops es Cl Fin t ps (a.put o.dst v)) : wT P ops es Cl Fin (.one k s t) ps a := by
  obtain ⟨v, h1, h⟩ := h
  unfold wT; simp only [hk, hw, if_true, he, Bool.false_eq_true, if_false]
  exact ⟨v, fun vs w _ hc => h1 vs w hc, h⟩
theorem wT_eff {o : Oper} {k : Nat} {s : Bool} {t : Tr} {ps : List (Nat × Value)} {a : Act} (hk : ops[k]? = some o) (hw : Region.wanted o (yielded ops a.tmps) = true) (he : es.contains k = true)
    (h1 : ∀ w, Cl ps w → effUpon P Cl k ps ((execOp a.eval o).run P w)) (h : ∀ u, (∃ w, Cl (ps ++ [(k, u)]) w) → wT P ops es Cl Fin t (ps ++ [(k, u)]) (a.put o.dst u)) : wT P ops es Cl Fin (.one k s t) ps a := by
  unfold wT; simp only [hk, hw, if_true, he]
  exact ⟨h1, h⟩
theorem wT_two {o1 o2 : Oper} {k1 k2 : Nat} {t1 t2 : Tr} {ps : List (Nat × Value)} {a : Act} (hk1 : ops[k1]? = some o1) (hk2 : ops[k2]? = some o2) (hw1 : Region.wanted o1 (yielded ops a.tmps) = true) (he1 : es.contains k1 = true) (hw2 : Region.wanted o2 (yielded ops a.tmps) = true) (he2 : es.contains k2 = true)
    (h1 : ∀ w, Cl ps w → effUpon P Cl k1 ps ((execOp a.eval o1).run P w)) (g1 : ∀ u, (∃ w, Cl (ps ++ [(k1, u)]) w) → wT P ops es Cl Fin t1 (ps ++ [(k1, u)]) (a.put o1.dst u))
    (h2 : ∀ w, Cl ps w → effUpon P Cl k2 ps ((execOp a.eval o2).run P w)) (g2 : ∀ u, (∃ w, Cl (ps ++ [(k2, u)]) w) → wT P ops es Cl Fin t2 (ps ++ [(k2, u)]) (a.put o2.dst u)) : wT P ops es Cl Fin (.two k1 t1 k2 t2) ps a := by
  unfold wT; simp only [hk1, hk2]
  exact ⟨⟨hw1, he1, h1, g1⟩, hw2, he2, h2, g2⟩
end
attribute [go_sem] effUpon
end Reg2
end Go.Proofs.Ytnpidbodeebnkaa
