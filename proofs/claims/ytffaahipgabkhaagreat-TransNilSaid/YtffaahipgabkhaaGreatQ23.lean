/- Joined texts. -/
import Derived.Test.YtffaahipgabkhaaGreatQ16
import Derived.Test.YtffaahipgabkhaaGreatQ22
import Derived.Lib.SlicesCompact
section
namespace Go.Proofs.YtffaahipgabkhaaGreat
set_option linter.unusedVariables false
set_option linter.unusedSimpArgs false
set_option maxRecDepth 100000
open Go.RowKit Fg Reg Go.Maps
attribute [local irreducible] Reg.wE VR
theorem tss_eq : ∀ (a b : List Int), a.Pairwise (· < ·) → b.Pairwise (· < ·) → (∀ x, x ∈ a ↔ x ∈ b) → a = b
  | [], [], _, _, _ => rfl
  | [], y :: b, _, _, h => by have := (h y).2 (by simp); simp at this
  | x :: a, [], _, _, h => by have := (h x).1 (by simp); simp at this
  | x :: a, y :: b, ha, hb, h => by
    rw [List.pairwise_cons] at ha hb
    have hxy : x = y := by
      have h1 : x ∈ y :: b := (h x).1 (by simp)
      have h2 : y ∈ x :: a := (h y).2 (by simp)
      rw [List.mem_cons] at h1 h2
      rcases h1 with h1 | h1
      · exact h1
      · rcases h2 with h2 | h2
        · exact h2.symm
        · have := hb.1 x h1; have := ha.1 y h2; omega
    subst hxy
    congr 1
    refine tss_eq a b ha.2 hb.2 fun z => ?_
    constructor
    · intro hz
      have h1 : z ∈ x :: b := (h z).1 (by simp [hz])
      rw [List.mem_cons] at h1
      rcases h1 with h1 | h1
      · have := ha.1 z hz; omega
      · exact h1
    · intro hz
      have h1 : z ∈ x :: a := (h z).2 (by simp [hz])
      rw [List.mem_cons] at h1
      rcases h1 with h1 | h1
      · have := hb.1 z hz; omega
      · exact h1
theorem tcompact_ss (D : Array Int) (hs : ∀ i j, i ≤ j → j < D.size → D[i]! ≤ D[j]!) : ∀ m, m ≤ D.size → (Go.Lib.compactUpTo D m).Pairwise (· < ·) ∧ ∀ x, x ∈ Go.Lib.compactUpTo D m ↔ ∃ i, i < m ∧ D[i]! = x
  | 0, _ => by simp [Go.Lib.compactUpTo]
  | m + 1, hm => by
    obtain ⟨h1, h2⟩ := tcompact_ss D hs m (by omega)
    rw [Go.Lib.compactUpTo_succ]
    cases hk : Go.Lib.keeps D m
    · simp only [Bool.false_eq_true, if_false, List.append_nil]
      refine ⟨h1, fun x => ?_⟩
      rw [h2 x]
      have hk2 : ¬ (m = 0 ∨ D[m]! ≠ D[m - 1]!) := by simpa [Go.Lib.keeps] using hk
      have hm0 : m ≠ 0 := fun h => hk2 (.inl h)
      have hme : D[m]! = D[m - 1]! := Classical.byContradiction fun h => hk2 (.inr h)
      constructor
      · rintro ⟨i, h, e⟩; exact ⟨i, by omega, e⟩
      · rintro ⟨i, h, e⟩
        by_cases him : i = m
        · subst him; exact ⟨i - 1, by omega, by rw [← hme]; exact e⟩
        · exact ⟨i, by omega, e⟩
    · simp only [if_true]
      refine ⟨?_, fun x => ?_⟩
      · rw [List.pairwise_append]
        refine ⟨h1, by simp, fun x hx y hy => ?_⟩
        simp at hy
        subst hy
        obtain ⟨i, hi, rfl⟩ := (h2 x).1 hx
        have hk2 : m = 0 ∨ D[m]! ≠ D[m - 1]! := by simpa [Go.Lib.keeps] using hk
        have a1 := hs i (m - 1) (by omega) (by omega)
        have a2 := hs (m - 1) m (by omega) (by omega)
        rcases hk2 with hk2 | hk2 <;> omega
      · rw [List.mem_append, h2 x]
        constructor
        · rintro (⟨i, h, e⟩ | h)
          · exact ⟨i, by omega, e⟩
          · simp at h; exact ⟨m, by omega, h.symm⟩
        · rintro ⟨i, h, e⟩
          by_cases him : i = m
          · subst him; exact .inr (by simp [e])
          · exact .inl ⟨i, by omega, e⟩
def clEq (c d : Cls) : Bool := (c.id == d.id) && (c.par == d.par) && (c.leaf == d.leaf) && (c.ra == d.ra) && (c.rb == d.rb) && (c.rc == d.rc) && (c.la == d.la) && (c.lb == d.lb) && (c.lc == d.lc) && (c.ua == d.ua) && (c.ub == d.ub) && (c.uc == d.uc) && (c.pk == d.pk) && (c.bt == d.bt)
theorem clEq_iff (c d : Cls) : clEq c d = true ↔ c = d := by
  unfold clEq
  cases c; cases d
  simp only [Bool.and_eq_true, beq_iff_eq, Cls.mk.injEq]
  constructor
  · rintro ⟨⟨⟨⟨⟨⟨⟨⟨⟨⟨⟨⟨⟨h1, h2⟩, h3⟩, h4⟩, h5⟩, h6⟩, h7⟩, h8⟩, h9⟩, h10⟩, h11⟩, h12⟩, h13⟩, h14⟩
    exact ⟨h1, h2, h3, h4, h5, h6, h7, h8, h9, h10, h11, h12, h13, h14⟩
  · rintro ⟨h1, h2, h3, h4, h5, h6, h7, h8, h9, h10, h11, h12, h13, h14⟩
    exact ⟨⟨⟨⟨⟨⟨⟨⟨⟨⟨⟨⟨⟨h1, h2⟩, h3⟩, h4⟩, h5⟩, h6⟩, h7⟩, h8⟩, h9⟩, h10⟩, h11⟩, h12⟩, h13⟩, h14⟩
theorem eqCvD (n : Nat) (a b d a' b' d' : Int) (w : World) : (Op.equalIn (n + 2) 46 (.agg #[.int .u64 a, .int .u64 b, .int .u64 d]) (.agg #[.int .u64 a', .int .u64 b', .int .u64 d'])).run Tryz.prog w = .ok ((a == a') && (b == b') && (d == d')) w := by
  have hz1 : ∀ w, (sizeOf 44).run Tryz.prog w = .ok 1 w := fun w => by kernel_rfl
  have ha1 : ∀ w, (isAgg 44).run Tryz.prog w = .ok false w := fun w => by kernel_rfl
  have u1 := Tryz.underlying44
  have hS : Tryz.prog.underlying 46 = some (.struct (Tryz.prog.fieldsOf 46)) := by kernel_rfl
  have hp : Tryz.prog.stoodInHeld 46 = false := by kernel_rfl
  rw [show n + 2 = (n + 1) + 1 from rfl, run_equalIn_agg w (n + 1) 46 _ _ hS hp]
  simp only [Program.fieldsOf, Tryz.underlying46]
  cases g1 : (a == a')
  · go_simp
  · cases g2 : (b == b')
    · go_simp
    · cases g3 : (d == d') <;> go_simp
theorem eqClD (c d : Cls) (w : World) : (Op.equalIn 10000 48 (.agg #[.int .i64 (c).id, .int .i64 (c).par, .bool (c).leaf, .int .u64 (c).ra, .int .u64 (c).rb, .int .u64 (c).rc, .int .u64 (c).la, .int .u64 (c).lb, .int .u64 (c).lc, .int .u64 (c).ua, .int .u64 (c).ub, .int .u64 (c).uc, .int .i64 (c).pk, .int .i64 (c).bt]) (.agg #[.int .i64 (d).id, .int .i64 (d).par, .bool (d).leaf, .int .u64 (d).ra, .int .u64 (d).rb, .int .u64 (d).rc, .int .u64 (d).la, .int .u64 (d).lb, .int .u64 (d).lc, .int .u64 (d).ua, .int .u64 (d).ub, .int .u64 (d).uc, .int .i64 (d).pk, .int .i64 (d).bt])).run Tryz.prog w = .ok (clEq c d) w := by
  have hz1 : ∀ w, (sizeOf 3).run Tryz.prog w = .ok 1 w := fun w => by kernel_rfl
  have ha1 : ∀ w, (isAgg 3).run Tryz.prog w = .ok false w := fun w => by kernel_rfl
  have hz2 : ∀ w, (sizeOf 4).run Tryz.prog w = .ok 1 w := fun w => by kernel_rfl
  have ha2 : ∀ w, (isAgg 4).run Tryz.prog w = .ok false w := fun w => by kernel_rfl
  have hz3 : ∀ w, (sizeOf 46).run Tryz.prog w = .ok 3 w := fun w => by kernel_rfl
  have ha3 : ∀ w, (isAgg 46).run Tryz.prog w = .ok true w := fun w => by kernel_rfl
  have u1 := Tryz.underlying3
  have u2 := Tryz.underlying4
  have e1 := eqCvD 9997 c.ra c.rb c.rc d.ra d.rb d.rc
  have e2 := eqCvD 9997 c.la c.lb c.lc d.la d.lb d.lc
  have e3 := eqCvD 9997 c.ua c.ub c.uc d.ua d.ub d.uc
  have hS : Tryz.prog.underlying 48 = some (.struct (Tryz.prog.fieldsOf 48)) := by kernel_rfl
  have hp : Tryz.prog.stoodInHeld 48 = false := by kernel_rfl
  have hcl : clEq c d = ((c.id == d.id) && (c.par == d.par) && (c.leaf == d.leaf) && ((c.ra == d.ra) && (c.rb == d.rb) && (c.rc == d.rc)) && ((c.la == d.la) && (c.lb == d.lb) && (c.lc == d.lc)) && ((c.ua == d.ua) && (c.ub == d.ub) && (c.uc == d.uc)) && (c.pk == d.pk) && (c.bt == d.bt)) := by unfold clEq; simp only [Bool.and_assoc]
  rw [hcl, show (10000 : Nat) = 9999 + 1 from rfl, run_equalIn_agg w 9999 48 _ _ hS hp]
  simp only [Program.fieldsOf, Tryz.underlying48]
  generalize ((c.ra == d.ra) && (c.rb == d.rb) && (c.rc == d.rc)) = r1 at *
  generalize ((c.la == d.la) && (c.lb == d.lb) && (c.lc == d.lc)) = r2 at *
  generalize ((c.ua == d.ua) && (c.ub == d.ub) && (c.uc == d.uc)) = r3 at *
  clear hcl
  cases g1 : (c.id == d.id)
  · go_simp
  · cases g2 : (c.par == d.par)
    · go_simp
    · cases g3 : (c.leaf == d.leaf)
      · go_simp
      · cases r1
        · go_simp
        · cases r2
          · go_simp
          · cases r3
            · go_simp
            · cases g4 : (c.pk == d.pk)
              · go_simp
              · cases g5 : (c.bt == d.bt) <;> go_simp
def TV (z : World) (v : Value) (f : Int → Option Cls) (L : List Int) : Prop := (v = .pointer none ∧ f = (fun _ => none) ∧ L = []) ∨ ∃ tb mb, v = .pointer (some ⟨tb, 0, none⟩) ∧ HT z tb mb f
theorem TV.below {z z' : World} {v : Value} {f : Int → Option Cls} {L : List Int} (h : TV z v f L) (hb : Below z.heap.size z z') : TV z' v f L := by
  rcases h with h | ⟨tb, mb, h1, h2⟩
  · exact .inl h
  · exact .inr ⟨tb, mb, h1, h2.below hb⟩
theorem tget_c {z : World} {v : Value} {f : Int → Option Cls} {L : List Int} (h : TV z v f L) {x : Int} (hx : iok x) : Calls Tryz.prog 30 #[v, .int .i64 x] z fun e z' => ∃ er : Int, e = .returned (.tuple #[.agg #[.int .i64 ((gcl (f x))).id, .int .i64 ((gcl (f x))).par, .bool ((gcl (f x))).leaf, .int .u64 ((gcl (f x))).ra, .int .u64 ((gcl (f x))).rb, .int .u64 ((gcl (f x))).rc, .int .u64 ((gcl (f x))).la, .int .u64 ((gcl (f x))).lb, .int .u64 ((gcl (f x))).lc, .int .u64 ((gcl (f x))).ua, .int .u64 ((gcl (f x))).ub, .int .u64 ((gcl (f x))).uc, .int .i64 ((gcl (f x))).pk, .int .i64 ((gcl (f x))).bt], .int .i64 er]) ∧ (er == 0) = (f x).isSome ∧ Below z.heap.size z z' := by
  rcases h with ⟨rfl, rfl, rfl⟩ | ⟨tb, mb, rfl, h⟩
  · refine (get_nil x z).mono ?_
    rintro e z' ⟨rfl, hb⟩
    exact ⟨7, rfl, rfl, hb⟩
  · refine (hget_c h hx).mono ?_
    rintro e z' ⟨rfl, hb⟩
    refine ⟨_, rfl, ?_, hb⟩
    cases f x <;> rfl
theorem tids_c {z : World} {v : Value} {f : Int → Option Cls} {L : List Int} (h : TV z v f L) (I : TI f L) : Calls Tryz.prog 18 #[v] z fun e z' => ∃ r, e = .returned r ∧ z'.ownsRow z.heap.size 3 1 r L.length (L.map (Value.int .i64)) ∧ Below z.heap.size z z' := by
  rcases h with ⟨rfl, rfl, rfl⟩ | ⟨tb, mb, rfl, h⟩
  · refine (ids_nil z).mono ?_
    rintro e z' ⟨rfl, hb⟩
    exact ⟨_, rfl, World.ownsRow_nil _ _ _ _, hb⟩
  · refine (ids_c h L I.srt I.mem (Nat.le_trans I.len (by decide)) I.iok).mono ?_
    rintro e z' ⟨r, rfl, hr, hb⟩
    exact ⟨r, rfl, hr.mono (by omega), hb⟩
def tsm (f g : Int → Option Cls) (x : Int) : Bool := match f x, g x with | some c, some d => clEq c d | _, _ => false
theorem tsm_iff {f g : Int → Option Cls} {x : Int} (h : (f x).isSome = true ∨ (g x).isSome = true) : tsm f g x = false ↔ f x ≠ g x := by
  unfold tsm
  cases hf : f x with
  | none =>
    rw [hf] at h
    cases hg : g x with
    | none => rw [hg] at h; simp at h
    | some d => simp
  | some c =>
    cases hg : g x with
    | none => simp
    | some d =>
      simp only [ne_eq, Option.some.injEq]
      rw [← clEq_iff c d]
      simp
structure Tch (f g : Int → Option Cls) (T : List Int) : Prop where
  srt : T.Pairwise (· < ·)
  mem : ∀ x, x ∈ T ↔ f x ≠ g x
theorem Tch.uniq {f g : Int → Option Cls} {A B : List Int} (h : Tch f g A) (k : Tch f g B) : A = B := tss_eq A B h.srt k.srt fun x => (h.mem x).trans (k.mem x).symm
theorem Tch.swap {f g : Int → Option Cls} {A : List Int} (h : Tch f g A) : Tch g f A := ⟨h.srt, fun x => (h.mem x).trans ⟨Ne.symm, Ne.symm⟩⟩
theorem msort_le (M : List Int) : (M.mergeSort (fun x y => decide (x ≤ y))).Pairwise (· ≤ ·) := by
  refine List.Pairwise.imp ?_ (List.pairwise_mergeSort (le := fun x y => decide ((x : Int) ≤ y)) (fun a b c h1 h2 => ?_) (fun a b => ?_) M)
  · intro a b h; exact of_decide_eq_true h
  · have h1 := of_decide_eq_true h1; have h2 := of_decide_eq_true h2; exact decide_eq_true (by omega)
  · simp only [Bool.or_eq_true, decide_eq_true_eq]; omega
def unl (M : List Int) : List Int := Go.Lib.compactUpTo (M.mergeSort (fun x y => decide (x ≤ y))).toArray (M.mergeSort (fun x y => decide (x ≤ y))).toArray.size
theorem unl_ss (M : List Int) : (unl M).Pairwise (· < ·) ∧ ∀ x, x ∈ unl M ↔ x ∈ M := by
  obtain ⟨D, hD⟩ : ∃ D, M.mergeSort (fun x y => decide (x ≤ y)) = D := ⟨_, rfl⟩
  have hp : D.Perm M := by rw [← hD]; exact List.mergeSort_perm _ _
  have hs : ∀ i j, i ≤ j → j < D.toArray.size → D.toArray[i]! ≤ D.toArray[j]! := fun i j hij hj => by
    have hj' : j < D.length := by simpa using hj
    have hi' : i < D.length := by omega
    rw [getElem!_pos D.toArray j hj, getElem!_pos D.toArray i (by simpa using hi')]
    by_cases he : i = j
    · subst he; exact Int.le_refl _
    · have := List.pairwise_iff_getElem.1 (msort_le M)
      rw [hD] at this
      simpa using this i j hi' hj' (by omega)
  have h := tcompact_ss D.toArray hs D.toArray.size (Nat.le_refl _)
  unfold unl
  rw [hD]
  refine ⟨h.1, fun x => ?_⟩
  rw [h.2 x, ← hp.mem_iff]
  constructor
  · rintro ⟨i, hi, rfl⟩
    rw [getElem!_pos D.toArray i hi]
    simp
  · intro hx
    obtain ⟨i, hi, rfl⟩ := List.getElem_of_mem hx
    exact ⟨i, by simpa using hi, by rw [getElem!_pos D.toArray i (by simpa using hi)]; simp⟩
theorem unl_len (M : List Int) : (unl M).length ≤ M.length := by
  unfold unl Go.Lib.compactUpTo
  have := List.length_filter_le (Go.Lib.keeps (M.mergeSort (fun x y => decide (x ≤ y))).toArray) (List.range (M.mergeSort (fun x y => decide (x ≤ y))).toArray.size)
  simpa using this
theorem tch_of {f g : Int → Option Cls} {L M : List Int} (I : TI f L) (J : TI g M) : Tch f g ((unl (L ++ M)).filter (fun x => !tsm f g x)) := by
  have h := unl_ss (L ++ M)
  refine ⟨h.1.filter _, fun x => ?_⟩
  rw [List.mem_filter, h.2 x, List.mem_append, ← I.mem, ← J.mem]
  constructor
  · rintro ⟨h1, h2⟩
    exact (tsm_iff h1).1 (by simpa using h2)
  · intro hne
    have h1 : (f x).isSome = true ∨ (g x).isSome = true := by
      cases hf : f x with
      | some c => exact .inl rfl
      | none =>
        cases hg : g x with
        | some d => exact .inr rfl
        | none => rw [hf, hg] at hne; exact absurd rfl hne
    exact ⟨h1, by rw [(tsm_iff h1).2 hne]; rfl⟩
end Go.Proofs.YtffaahipgabkhaaGreat
end
section
namespace Go.Proofs.YtffaahipgabkhaaGreat
set_option linter.unusedVariables false
set_option linter.unusedSimpArgs false
set_option maxRecDepth 100000
open Go.RowKit Fg Reg
theorem own_rwv {α : Type} {cells : α → List Value} {s : Nat} (hs : ∀ x, (cells x).length = s) {w : World} {base n c : Nat} {e : TypeId} {ao : Option Addr} {X : List α} (h : w.ownsRow base e s (.slice ao n c) n (X.flatMap cells)) (hn : X.length = n) : RwV cells s w ao X := fun k hk => by
  rcases h.2 with ⟨_, h0⟩ | ⟨g, cap, cur, hv, hb, hg, hc, hm, hz, ht⟩
  · omega
  · simp only [Value.slice.injEq] at hv
    obtain ⟨rfl, -, -⟩ := hv
    refine ⟨g, 0, rfl, (Array.getElem?_eq_some_iff.1 hg).1, fun j v hj => ?_⟩
    rw [cell_of_row w g (0 + k * s + j) cur _ _ hg, Nat.zero_add, ← Array.getElem?_toList]
    have hjl : j < s := by rw [← hs X[k]]; exact (List.getElem?_eq_some_iff.1 hj).1
    have hks : k * s + j < n * s := by
      have : (k + 1) * s ≤ n * s := Nat.mul_le_mul_right s (by omega)
      rw [Nat.add_mul] at this
      omega
    have h1 : (cur.toList.take (n * s))[k * s + j]? = cur.toList[k * s + j]? := by rw [List.getElem?_take, if_pos hks]
    rw [← h1, ht]
    clear h1 ht hz hg hks
    induction X generalizing k n with
    | nil => exact absurd hk (Nat.not_lt_zero _)
    | cons x X ih =>
      rw [List.flatMap_cons]
      cases k with
      | zero => rw [List.getElem?_append_left (by rw [hs]; omega), Nat.zero_mul, Nat.zero_add]; exact hj
      | succ k =>
        rw [List.getElem?_append_right (by rw [hs, Nat.add_mul]; omega), hs, show (k + 1) * s + j - s = k * s + j by rw [Nat.add_mul]; omega]
        have hk2 : k < X.length := by simpa using hk
        have go : ∀ (Y : List α) (i : Nat) (hi : i < Y.length), (cells Y[i])[j]? = some v → (Y.flatMap cells)[i * s + j]? = some v := by
          intro Y
          induction Y with
          | nil => intro i hi; exact absurd hi (Nat.not_lt_zero _)
          | cons y Y ih2 =>
            intro i hi hv2
            rw [List.flatMap_cons]
            cases i with
            | zero => rw [List.getElem?_append_left (by rw [hs]; omega), Nat.zero_mul, Nat.zero_add]; exact hv2
            | succ i =>
              rw [List.getElem?_append_right (by rw [hs, Nat.add_mul]; omega), hs, show (i + 1) * s + j - s = i * s + j by rw [Nat.add_mul]; omega]
              exact ih2 i (by simpa using hi) (by simpa using hv2)
        exact go X k hk2 (by simpa using hj)
end Go.Proofs.YtffaahipgabkhaaGreat
end
