/- A region that draws its order, whose effects do not all wait at once for what is read: how many of them may come first is counted. -/
import Derived.Test.YtnpidbodeebnkaaBaseA
namespace Go.Proofs.Ytnpidbodeebnkaa
namespace Reg
set_option linter.unusedVariables false
set_option linter.unusedSimpArgs false
set_option maxRecDepth 100000
open Go.RowKit
variable {P : Program} {md : Region.Mode} {ops : Array Oper} {es : List Nat} {Cl : List Value → World → Prop} {Fin : List Value → Act → Prop}

/-- In state a, whatever effects come first, no more than N, the operation yields v. -/
def YN (P : Program) (ops : Array Oper) (Cl : List Value → World → Prop) (o : Oper) (v : Value) (N : Nat) (ps : List Value) (a : Act) : Prop :=
  (Region.wanted o (yielded ops a.tmps) = true ∧ ∀ vs w, vs.length ≤ N → Cl (ps ++ vs) w → o.quietAt P a (Cl (ps ++ vs)) w v) ∨
  (Region.wanted o (yielded ops a.tmps) = false ∧ v = undef)
theorem YN.step {i : Nat} {o : Oper} {v : Value} {N : Nat} {ps : List Value} {a : Act} (hi : ops[i]? = some o) (hie : es.contains i = false) (hy : YN P ops Cl o v N ps a) {K : List Value → Act → Prop} (h : K ps (a.put o.dst v)) : stepE P ops es Cl i K ps a := by
  unfold stepE
  simp only [hi]
  rcases hy with ⟨hw, hv⟩ | ⟨hw, rfl⟩
  · simp only [hw, if_true, hie, Bool.false_eq_true, if_false]
    exact ⟨v, fun w hc => by have := hv [] w (Nat.zero_le _) (by simpa using hc); simpa using this, h⟩
  · simp only [hw, Bool.false_eq_true, if_false]; exact h
theorem YN.of_same {o : Oper} {v : Value} {N : Nat} {ps : List Value} {a a' : Act} (hy : YN P ops Cl o v N ps a) (he : execOp a'.eval o = execOp a.eval o)
    (hw : Region.wanted o (yielded ops a'.tmps) = Region.wanted o (yielded ops a.tmps)) : YN P ops Cl o v N ps a' := by
  unfold YN Oper.quietAt at *
  rw [he, hw]
  exact hy
theorem YN.later {o : Oper} {v : Value} {N : Nat} {ps : List Value} {a : Act} (hy : YN P ops Cl o v (N + 1) ps a) (u : Value) : YN P ops Cl o v N (ps ++ [u]) a := by
  rcases hy with ⟨hw, hv⟩ | h
  · exact .inl ⟨hw, fun vs w hl hc => by
      have e : ps ++ [u] ++ vs = ps ++ (u :: vs) := by simp
      rw [e] at hc ⊢
      exact hv (u :: vs) w (by simpa using hl) hc⟩
  · exact .inr h
theorem YN.mono {o : Oper} {v : Value} {N M : Nat} {ps : List Value} {a : Act} (hy : YN P ops Cl o v N ps a) (h : M ≤ N) : YN P ops Cl o v M ps a := by
  rcases hy with ⟨hw, hv⟩ | h'
  · exact .inl ⟨hw, fun vs w hl hc => hv vs w (Nat.le_trans hl h) hc⟩
  · exact .inr h'
theorem stepN_put {j : Nat} {oi oj : Oper} {v : Value} {N : Nat} (hj : ops[j]? = some oj) (hap : oi.apart ops oj = true)
    (hsi : ∀ cs b, oi.op ≠ .select cs b) (hsj : ∀ cs b, oj.op ≠ .select cs b) (hns : es.contains j = true → 1 ≤ N) {K : List Value → Act → Prop} {ps : List Value} {a : Act}
    (hy : YN P ops Cl oi v N ps a) (h : stepE P ops es Cl j K ps (a.put oi.dst v)) :
    stepE P ops es Cl j (fun ps' a' => YN P ops Cl oi v (if es.contains j = true then N - 1 else N) ps' a' ∧ K ps' (a'.put oi.dst v)) ps a := by
  obtain ⟨h1, h2, h3⟩ := Oper.apart_spec hap
  have keep : ∀ (M : Nat) (ps : List Value) (a : Act), YN P ops Cl oi v M ps a → ∀ u, YN P ops Cl oi v M ps (a.put oj.dst u) := fun M ps a hy u =>
    hy.of_same (execOp_put oi hsi a oj.dst u h3) (wanted_put oi a oj.dst u h3)
  have hle : (if es.contains j = true then N - 1 else N) ≤ N := by split <;> omega
  unfold stepE at *
  simp only [hj] at *
  rw [wanted_put oj a oi.dst v h1] at h
  split
  · rename_i hw
    simp only [hw, if_true] at h
    split
    · rename_i he
      simp only [he, if_true] at h
      rw [execOp_put oj hsj a oi.dst v h1] at h
      refine ⟨h.1, fun u hu => ⟨?_, by rw [← Act.put_comm a v u h2]; exact h.2 u hu⟩⟩
      have hN := hns he
      obtain ⟨M, rfl⟩ : ∃ M, N = M + 1 := ⟨N - 1, by omega⟩
      exact keep _ _ a (hy.later u) u
    · rename_i he
      simp only [he] at h
      obtain ⟨u, hu, hn⟩ := h
      refine ⟨u, fun w hw' => ?_, keep _ ps a (hy.mono (by first | (split <;> omega) | exact Nat.le_refl _)) u, by rw [← Act.put_comm a v u h2]; exact hn⟩
      have := hu w hw'
      unfold Oper.quietAt at *
      rwa [execOp_put oj hsj a oi.dst v h1] at this
  · rename_i hw
    simp only [hw] at h
    exact ⟨keep _ ps a (hy.mono hle) _, by rw [← Act.put_comm a v undef h2]; exact h⟩

/-- How many effects have not come up, and do not wait for i. -/
def pendN (md : Region.Mode) (ops : Array Oper) (es : List Nat) (listed : Array Bool) (i : Nat) : Nat := es.countP fun j => !(listed.getD j true) && !(Region.waitsFor md ops j i)
theorem countP_le {α : Type} {p q : α → Bool} : ∀ l : List α, (∀ x ∈ l, p x = true → q x = true) → l.countP p ≤ l.countP q
  | [], _ => Nat.le_refl _
  | x :: l, h => by
    have ih := countP_le l (fun y hy => h y (List.mem_cons_of_mem _ hy))
    have hx := h x (List.mem_cons_self ..)
    rw [List.countP_cons, List.countP_cons]
    cases hp : p x <;> cases hq : q x <;> simp_all <;> omega
theorem countP_lt {α : Type} {p q : α → Bool} : ∀ l : List α, (∀ x ∈ l, p x = true → q x = true) → (∃ x ∈ l, q x = true ∧ p x = false) → l.countP p + 1 ≤ l.countP q
  | [], _, ⟨x, hx, _⟩ => by cases hx
  | x :: l, h, ⟨y, hy, hq, hp⟩ => by
    have hl := fun z hz => h z (List.mem_cons_of_mem x hz)
    have hx := h x (List.mem_cons_self ..)
    rw [List.countP_cons, List.countP_cons]
    rcases List.mem_cons.1 hy with rfl | hy
    · have := countP_le l hl
      simp [hp, hq]; omega
    · have := countP_lt l hl ⟨y, hy, hq, hp⟩
      cases hp' : p x <;> cases hq' : q x <;> simp_all <;> omega
theorem anyN_first {i : Nat} {oi : Oper} {v : Value} (hi : ops[i]? = some oi) (hie : es.contains i = false) (hsel : ∀ (j : Nat) (o : Oper) cs b, ops[j]? = some o → o.op ≠ .select cs b) :
    ∀ (fuel N : Nat) (listed : Array Bool) (ps : List Value) (a : Act),
      (∀ j oj, ops[j]? = some oj → j ≠ i → listed.getD j true = false → (∀ e ∈ oj.after, Region.binds md e = true → e.on ≠ i) → oi.apart ops oj = true) →
      pendN md ops es listed i ≤ N →
      i ∈ Region.ready md ops listed → YN P ops Cl oi v N ps a →
      anyE P md ops es Cl Fin fuel (listed.setIfInBounds i true) ps (a.put oi.dst v) → anyE P md ops es Cl Fin (fuel + 1) listed ps a := by
  intro fuel
  induction fuel with
  | zero =>
    intro N listed ps a _ _ hr hy H
    refine ⟨fun h => (by rw [h] at hr; cases hr), fun j hj => ?_⟩
    by_cases hji : j = i
    · subst hji; exact hy.step hi hie H
    · have := ready_mono hj hji
      rw [H.1] at this
      cases this
  | succ fuel ih =>
    intro N listed ps a hfree hN hr hy H
    refine ⟨fun h => (by rw [h] at hr; cases hr), fun j hj => ?_⟩
    by_cases hji : j = i
    · subst hji; exact hy.step hi hie H
    · have h1 := H.2 j (ready_mono hj hji)
      obtain ⟨hjun, oj, hoj, hall⟩ := mem_ready.1 hj
      have hnot : ∀ e ∈ oj.after, Region.binds md e = true → e.on ≠ i := fun e he hb heq => by
        have h1 := hall e he hb
        have h0 := (mem_ready.1 hr).1
        rw [heq, getD_both h0] at h1
        cases h1
      have hnw : Region.waitsFor md ops j i = false := by
        cases h : Region.waitsFor md ops j i with
        | false => rfl
        | true =>
          obtain ⟨o', ho', e, he, hb, hon⟩ := Region.waitsFor_spec h
          have : o' = oj := Option.some.inj (ho'.symm.trans hoj)
          subst this
          exact absurd hon (hnot e he hb)
      have hmono : ∀ x ∈ es, (!((listed.setIfInBounds j true).getD x true) && !(Region.waitsFor md ops x i)) = true → (!(listed.getD x true) && !(Region.waitsFor md ops x i)) = true := fun x _ hx => by
        by_cases hjx : j = x
        · subst hjx; simp [hjun, hnw]
        · rwa [getD_set_ne true hjx] at hx
      have hjs : (listed.setIfInBounds j true).getD j true = true := by
        rcases Nat.lt_or_ge j listed.size with h' | h'
        · simp [h']
        · simp [h']
      have hpe : es.contains j = true → pendN md ops es (listed.setIfInBounds j true) i + 1 ≤ pendN md ops es listed i := fun hc =>
        countP_lt es hmono ⟨j, by simpa using hc, by simp [hjun, hnw], by simp [hjs]⟩
      have hpl : pendN md ops es (listed.setIfInBounds j true) i ≤ pendN md ops es listed i := countP_le es hmono
      have h2 := stepN_put hoj (hfree j oj hoj hji hjun hnot) (fun cs b => hsel i oi cs b hi) (fun cs b => hsel j oj cs b hoj) (fun hc => by have := hpe hc; omega) hy h1
      have hfree' : ∀ k ok, ops[k]? = some ok → k ≠ i → (listed.setIfInBounds j true).getD k true = false →
          (∀ e ∈ ok.after, Region.binds md e = true → e.on ≠ i) → oi.apart ops ok = true := fun k ok hk hki hun hno => by
        refine hfree k ok hk hki ?_ hno
        by_cases hjk : j = k
        · subst hjk; exact hjun
        · rw [getD_set_ne true hjk] at hun; exact hun
      have hN' : pendN md ops es (listed.setIfInBounds j true) i ≤ if es.contains j = true then N - 1 else N := by
        split
        · rename_i hc; have := hpe hc; omega
        · omega
      refine stepE_mono (fun ps' a' h3 => ih _ (listed.setIfInBounds j true) ps' a' hfree' hN' (ready_mono hr (Ne.symm hji)) h3.1 ?_) h2
      rw [Array.setIfInBounds_comm _ _ hji]
      exact h3.2

/-- How many later effects do not wait for number k. -/
def bndN (md : Region.Mode) (ops : Array Oper) (es : List Nat) (k : Nat) : Nat := es.countP fun e => !(decide (e < k)) && !(Region.waitsFor md ops e k)
def wN (P : Program) (md : Region.Mode) (ops : Array Oper) (es : List Nat) (Cl : List Value → World → Prop) (Fin : List Value → Act → Prop) : List Oper → Nat → List Value → Act → Prop
  | [], _, ps, a => Fin ps a
  | o :: rest, k, ps, a =>
    if Region.wanted o (yielded ops a.tmps) then
      if es.contains k then (∀ w, Cl ps w → effUpon P Cl ps ((execOp a.eval o).run P w)) ∧ ∀ u, (∃ w, Cl (ps ++ [u]) w) → wN P md ops es Cl Fin rest (k + 1) (ps ++ [u]) (a.put o.dst u)
      else ∃ v, (∀ vs w, vs.length ≤ bndN md ops es k → Cl (ps ++ vs) w → o.quietAt P a (Cl (ps ++ vs)) w v) ∧ wN P md ops es Cl Fin rest (k + 1) ps (a.put o.dst v)
    else wN P md ops es Cl Fin rest (k + 1) ps (a.put o.dst undef)
theorem anyN_lex (hsel : Region.noSelect ops = true) : ∀ (l : List Oper) (k : Nat) (listed : Array Bool) (ps : List Value) (a : Act), (∀ j, l[j]? = ops[k + j]?) → (∀ j, j < k → listed.getD j true = true) →
    lexE md ops es l.length k listed = true → wN P md ops es Cl Fin l k ps a → anyE P md ops es Cl Fin l.length listed ps a
  | [], _, _, _, _, _, _, hB, h => ⟨by simpa [lexE] using hB, h⟩
  | o :: l, k, listed, ps, a, hl, hd, hB, h => by
    have h0 : ops[k]? = some o := by simpa using (hl 0).symm
    simp only [List.length_cons, lexE, Bool.and_eq_true] at hB
    obtain ⟨⟨⟨hr, hf⟩, hone⟩, hB'⟩ := hB
    have hr' : k ∈ Region.ready md ops listed := by simpa using hr
    have hl' : ∀ j, l[j]? = ops[k + 1 + j]? := fun j => by have := hl (j + 1); simpa [Nat.add_assoc, Nat.add_comm 1 j] using this
    have hd' : ∀ j, j < k + 1 → (listed.setIfInBounds k true).getD j true = true := fun j hj => by
      by_cases hkj : k = j
      · subst hkj
        rcases Nat.lt_or_ge k listed.size with h' | h'
        · simp [h']
        · simp [h']
      · rw [getD_set_ne true hkj]; exact hd j (by omega)
    have next := fun ps a => anyN_lex hsel l (k + 1) (listed.setIfInBounds k true) ps a hl' hd' hB'
    have hpb : pendN md ops es listed k ≤ bndN md ops es k := countP_le es (fun x _ hx => by
      have h2 : Region.waitsFor md ops x k = false := by
        cases h : Region.waitsFor md ops x k with
        | false => rfl
        | true => rw [h] at hx; simp at hx
      by_cases hlt : x < k
      · rw [hd x hlt] at hx; simp at hx
      · simp [hlt, h2])
    unfold wN at h
    by_cases hw : Region.wanted o (yielded ops a.tmps) = true
    · simp only [hw, if_true] at h
      by_cases he : es.contains k = true
      · simp only [he, if_true] at h
        simp only [he, Bool.not_true, Bool.false_or, decide_eq_true_eq] at hone
        refine ⟨fun h0 => (by rw [h0] at hr'; cases hr'), fun i hi => ?_⟩
        rw [hone] at hi
        have hik : i = k := by simpa using hi
        subst hik
        unfold stepE
        simp only [h0, hw, if_true, he]
        exact ⟨h.1, fun u hu => next _ _ (h.2 u hu)⟩
      · have he' : es.contains k = false := by simpa using he
        simp only [he', Bool.false_eq_true, if_false] at h
        obtain ⟨v, h1, h2⟩ := h
        exact anyN_first h0 he' (Region.noSelect_spec hsel) l.length _ listed ps a (Region.free_spec h0 hf) hpb hr' (.inl ⟨hw, h1⟩) (next _ _ h2)
    · have hw' : Region.wanted o (yielded ops a.tmps) = false := by simpa using hw
      simp only [hw', Bool.false_eq_true, if_false] at h
      by_cases he : es.contains k = true
      · simp only [he, Bool.not_true, Bool.false_or, decide_eq_true_eq] at hone
        refine ⟨fun h0 => (by rw [h0] at hr'; cases hr'), fun i hi => ?_⟩
        rw [hone] at hi
        have hik : i = k := by simpa using hi
        subst hik
        unfold stepE
        simp only [h0, hw', Bool.false_eq_true, if_false]
        exact next _ _ h
      · exact anyN_first h0 (by simpa using he) (Region.noSelect_spec hsel) l.length _ listed ps a (Region.free_spec h0 hf) hpb hr' (.inr ⟨hw', rfl⟩) (next _ _ h)
theorem wp_region_effN {id : Nat} {Q : Exit → Act → World → Prop} {a : Act} {w : World} {l : List Oper} (es : List Nat) (Cl : List Value → World → Prop) (hm : P.follows .mixedOrders = true) (hB : lexEB .any l.toArray es = true)
    (hC : Cl [] w.drew) (h : wN P .any l.toArray es Cl (fun ps a' => ∀ w', Cl ps w' → Q .normal a' w') l 0 [] a) : (Code.region id l.toArray true).wp P Q a w := by
  simp only [lexEB, Bool.and_eq_true] at hB
  refine wp_region_any hm (anyE_sound (es := es) (Fin := fun ps a' => ∀ w', Cl ps w' → Q .normal a' w') (fun ps a' w' hw' h => h w' hw') _ _ [] _ _ hC ?_)
  have := anyN_lex (P := P) (Cl := Cl) (md := .any) (es := es) (Fin := fun ps a' => ∀ w', Cl ps w' → Q .normal a' w') hB.1 l 0 (Array.replicate l.toArray.size false) [] a (by simp) (fun j hj => by omega) (by simpa using hB.2) h
  simpa using this
theorem wN_nil {k : Nat} {ps : List Value} {a : Act} (h : Fin ps a) : wN P md ops es Cl Fin [] k ps a := h
theorem wN_skip {o : Oper} {rest : List Oper} {k : Nat} {ps : List Value} {a : Act} (hw : Region.wanted o (yielded ops a.tmps) = false) (h : wN P md ops es Cl Fin rest (k + 1) ps (a.put o.dst undef)) : wN P md ops es Cl Fin (o :: rest) k ps a := by
  unfold wN; simp only [hw, Bool.false_eq_true, if_false]; exact h
theorem wN_at (n : Nat) {o : Oper} {rest : List Oper} {k : Nat} {ps : List Value} {a : Act} (hw : Region.wanted o (yielded ops a.tmps) = true) (he : es.contains k = false) (hb : decide (bndN md ops es k ≤ n) = true)
    (h : ∃ v, (∀ vs w, vs.length ≤ n → Cl (ps ++ vs) w → o.quietAt P a (Cl (ps ++ vs)) w v) ∧ wN P md ops es Cl Fin rest (k + 1) ps (a.put o.dst v)) : wN P md ops es Cl Fin (o :: rest) k ps a := by
  unfold wN
  simp only [hw, if_true, he, Bool.false_eq_true, if_false]
  obtain ⟨v, h1, h2⟩ := h
  exact ⟨v, fun vs w hl hc => h1 vs w (Nat.le_trans hl (of_decide_eq_true hb)) hc, h2⟩
theorem wN_open {o : Oper} {rest : List Oper} {k : Nat} {ps : List Value} {a : Act} (hw : Region.wanted o (yielded ops a.tmps) = true) (he : es.contains k = false)
    (h : ∃ v, (∀ vs w, Cl (ps ++ vs) w → o.quietAt P a (Cl (ps ++ vs)) w v) ∧ wN P md ops es Cl Fin rest (k + 1) ps (a.put o.dst v)) : wN P md ops es Cl Fin (o :: rest) k ps a := by
  unfold wN
  simp only [hw, if_true, he, Bool.false_eq_true, if_false]
  obtain ⟨v, h1, h2⟩ := h
  exact ⟨v, fun vs w _ hc => h1 vs w hc, h2⟩
theorem wN_eff {o : Oper} {rest : List Oper} {k : Nat} {ps : List Value} {a : Act} (hw : Region.wanted o (yielded ops a.tmps) = true) (he : es.contains k = true)
    (h1 : ∀ w, Cl ps w → effUpon P Cl ps ((execOp a.eval o).run P w)) (h2 : ∀ u, (∃ w, Cl (ps ++ [u]) w) → wN P md ops es Cl Fin rest (k + 1) (ps ++ [u]) (a.put o.dst u)) : wN P md ops es Cl Fin (o :: rest) k ps a := by
  unfold wN
  simp only [hw, if_true, he]
  exact ⟨h1, h2⟩
theorem eff_append {o : Oper} {ρ : Act} {w w' : World} {ps : List Value} {v y v' : Value} (s x : Operand) (t : TypeId)
    (ho : o.op = .call { callee := .builtin .append, args := #[s, x], argTypes := #[t, t] }) (hs : ρ.eval s = v) (hx : ρ.eval x = y) (hr : (Builtin.append_ #[t, t] o.type #[v, y]).run P w = .ok v' w') (h : Cl (ps ++ [v']) w') :
    effUpon P Cl ps ((execOp ρ.eval o).run P w) := by
  unfold execOp
  simp only [ho, resolve, invoke, builtin, Sem.run_bind, Sem.run_pure, Result.andThen_ok, List.map_toArray, List.map_cons, List.map_nil, hs, hx, hr]
  exact h
end Reg
end Go.Proofs.Ytnpidbodeebnkaa
