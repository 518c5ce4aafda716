/- Packets that came and went, and their sums (mathematics). -/
import Derived.Test.YtnpidbodeebnkaaSg1
namespace Go.Proofs.Ytnpidbodeebnkaa
set_option linter.unusedVariables false
set_option linter.unusedSimpArgs false
set_option maxRecDepth 100000
open Go.RowKit Fg Reg Go.Maps
attribute [local irreducible] Reg.wN Reg.wE QR

structure PK where
  cl : Int
  ta : Int
  dn : Int
  ln : Int
  rl : Bool
  gn : Bool
instance : Inhabited PK := ⟨⟨0, 0, 0, 0, false, false⟩⟩
def PK.cells (q : PK) : List Value := [.int .i64 q.cl, .int .u64 q.ta, .int .u64 q.dn, .int .i64 q.ln, .bool q.rl, .bool q.gn]
theorem pkcC : CellsOf PK.cells 6 := ⟨fun _ => rfl, fun x v hv => by simp [PK.cells] at hv; rcases hv with rfl | rfl | rfl | rfl | rfl | rfl <;> rfl, by decide⟩
/-- A packet's row. -/
def PK.row (q : PK) : R5 := ⟨1, IntKind.u64.wrap q.ln, if q.rl = true then 1 else 0, IntKind.u64.wrap (q.dn - q.ta), IntKind.u64.wrap (q.dn - q.ta)⟩
structure NR (r : R5) : Prop where
  a : 0 ≤ r.a ∧ r.a < 18446744073709551616
  b : 0 ≤ r.b ∧ r.b < 18446744073709551616
  c : 0 ≤ r.c ∧ r.c < 18446744073709551616
  d : 0 ≤ r.d ∧ r.d < 18446744073709551616
  e : 0 ≤ r.e ∧ r.e < 18446744073709551616
theorem wrap_rng (x : Int) : 0 ≤ IntKind.u64.wrap x ∧ IntKind.u64.wrap x < 18446744073709551616 := by rw [wrap_u64]; omega
theorem mxx_rng {a b : Int} (ha : 0 ≤ a ∧ a < 18446744073709551616) (hb : 0 ≤ b ∧ b < 18446744073709551616) : 0 ≤ mxx a b ∧ mxx a b < 18446744073709551616 := by unfold mxx; split <;> assumption
theorem r50_nr : NR r50 := ⟨by decide, by decide, by decide, by decide, by decide⟩
theorem row_nr (q : PK) : NR q.row := ⟨by unfold PK.row; simp, wrap_rng _, by unfold PK.row; dsimp only; split <;> omega, wrap_rng _, wrap_rng _⟩
theorem tog_nr {x y : R5} (hx : NR x) (hy : NR y) : NR (tog x y) := ⟨wrap_rng _, wrap_rng _, wrap_rng _, wrap_rng _, mxx_rng hx.e hy.e⟩
theorem R5.ext' {x y : R5} (a : x.a = y.a) (b : x.b = y.b) (c : x.c = y.c) (d : x.d = y.d) (e : x.e = y.e) : x = y := by cases x; cases y; simp_all
theorem wrap_rc (x a b : Int) : IntKind.u64.wrap (IntKind.u64.wrap (x + a) + b) = IntKind.u64.wrap (IntKind.u64.wrap (x + b) + a) := by simp only [wrap_u64]; omega
theorem wrap_as (x a b : Int) : IntKind.u64.wrap (x + IntKind.u64.wrap (a + b)) = IntKind.u64.wrap (IntKind.u64.wrap (x + a) + b) := by simp only [wrap_u64]; omega
theorem mxx_rc (x a b : Int) : mxx (mxx x a) b = mxx (mxx x b) a := by unfold mxx; repeat' split <;> omega
theorem mxx_as (x a b : Int) : mxx x (mxx a b) = mxx (mxx x a) b := by unfold mxx; repeat' split <;> omega
theorem tog_rc (x a b : R5) : tog (tog x a) b = tog (tog x b) a := R5.ext' (wrap_rc _ _ _) (wrap_rc _ _ _) (wrap_rc _ _ _) (wrap_rc _ _ _) (mxx_rc _ _ _)
theorem tog_as (x a b : R5) : tog x (tog a b) = tog (tog x a) b := R5.ext' (wrap_as _ _ _) (wrap_as _ _ _) (wrap_as _ _ _) (wrap_as _ _ _) (mxx_as _ _ _)
theorem wrap_id {x : Int} (h : 0 ≤ x ∧ x < 18446744073709551616) : IntKind.u64.wrap x = x := by rw [wrap_u64]; omega
theorem mxx_z {x : Int} (h : 0 ≤ x) : mxx x 0 = x := by unfold mxx; rw [if_neg (by omega)]
theorem tog_z {x : R5} (h : NR x) : tog x r50 = x := R5.ext' (by show IntKind.u64.wrap (x.a + 0) = _; rw [Int.add_zero, wrap_id h.a]) (by show IntKind.u64.wrap (x.b + 0) = _; rw [Int.add_zero, wrap_id h.b]) (by show IntKind.u64.wrap (x.c + 0) = _; rw [Int.add_zero, wrap_id h.c]) (by show IntKind.u64.wrap (x.d + 0) = _; rw [Int.add_zero, wrap_id h.d]) (mxx_z h.e.1)
def sums (x : R5) (l : List R5) : R5 := l.foldl tog x
theorem sums_perm {l m : List R5} (h : l.Perm m) : ∀ x, sums x l = sums x m := by
  induction h with
  | nil => exact fun x => rfl
  | cons a _ ih => exact fun x => ih (tog x a)
  | swap a b l => exact fun x => by unfold sums; rw [List.foldl_cons, List.foldl_cons, List.foldl_cons, List.foldl_cons, tog_rc]
  | trans _ _ h1 h2 => exact fun x => (h1 x).trans (h2 x)
theorem sums_nr : ∀ (l : List R5) {x : R5}, NR x → (∀ r ∈ l, NR r) → NR (sums x l)
  | [], x, hx, _ => hx
  | a :: l, x, hx, h => sums_nr l (tog_nr hx (h a List.mem_cons_self)) fun r hr => h r (List.mem_cons_of_mem _ hr)
theorem sums_as : ∀ (l : List R5) (x y : R5), tog x (sums y l) = sums (tog x y) l
  | [], x, y => rfl
  | a :: l, x, y => by
    show tog x (sums (tog y a) l) = sums (tog (tog x y) a) l
    rw [sums_as l x (tog y a), tog_as]
theorem sums_app (x : R5) (l m : List R5) : sums x (l ++ m) = sums (sums x l) m := by unfold sums; rw [List.foldl_append]
/-- All rows that are sums, together. -/
theorem sums_flat {α : Type} (g : α → List R5) (hg : ∀ k, ∀ r ∈ g k, NR r) : ∀ (ks : List α) {x : R5}, NR x → sums x (ks.map (fun k => sums r50 (g k))) = sums x (ks.flatMap g)
  | [], x, _ => rfl
  | k :: ks, x, hx => by
    rw [List.flatMap_cons, sums_app, List.map_cons]
    show sums (tog x (sums r50 (g k))) _ = _
    have e : tog x (sums r50 (g k)) = sums x (g k) := by rw [sums_as, tog_z hx]
    have hn : NR (tog x (sums r50 (g k))) := tog_nr hx (sums_nr (g k) r50_nr (hg k))
    rw [sums_flat g hg ks hn, e]
theorem part_perm {α : Type} (key : α → Int) : ∀ (ks : List Int) (L : List α), ks.Nodup → (∀ q ∈ L, key q ∈ ks) → (ks.flatMap (fun c => L.filter (fun q => key q == c))).Perm L
  | [], L, _, h => by
    cases L with
    | nil => exact List.Perm.refl _
    | cons q L => exact absurd (h q List.mem_cons_self) (by simp)
  | c :: ks, L, hn, h => by
    rw [List.nodup_cons] at hn
    rw [List.flatMap_cons]
    have ih := part_perm key ks (L.filter (fun q => !(key q == c))) hn.2 (fun q hq => by
      obtain ⟨h1, h2⟩ := List.mem_filter.1 hq
      rcases List.mem_cons.1 (h q h1) with g | g
      · simp [g] at h2
      · exact g)
    have e : ks.flatMap (fun d => (L.filter (fun q => !(key q == c))).filter (fun q => key q == d)) = ks.flatMap (fun d => L.filter (fun q => key q == d)) := by
      rw [List.flatMap_def, List.flatMap_def]
      congr 1
      refine List.map_congr_left fun d hd => ?_
      rw [List.filter_filter]
      refine List.filter_congr fun q _ => ?_
      by_cases hq : key q = d
      · have : d ≠ c := fun g => hn.1 (g ▸ hd)
        simp [hq, this]
      · simp [hq]
    rw [e] at ih
    exact (List.Perm.append_left _ ih).trans (List.filter_append_perm (fun q => key q == c) L)
/-- The rows of those of a class that went. -/
def goneC (c : Int) (l : List PK) : List PK := l.filter (fun q => q.gn && q.cl == c)
def goneA (l : List PK) : List PK := l.filter (fun q => q.gn)
def cntC (c : Int) (l : List PK) : R5 := sums r50 ((goneC c l).map PK.row)
def cntA (l : List PK) : R5 := sums r50 ((goneA l).map PK.row)
/-- Those of a class that wait. -/
def waitC (c : Int) (l : List PK) : List PK := l.filter (fun q => q.cl == c && !q.gn)
/-- The place of the first of a class that waits. -/
def fstI (c : Int) (l : List PK) : Option Nat := l.findIdx? (fun q => q.cl == c && !q.gn)
theorem all_parts (l : List PK) (ks : List Int) (hn : ks.Nodup) (h : ∀ q ∈ goneA l, q.cl ∈ ks) : sums r50 (ks.map (fun c => cntC c l)) = cntA l := by
  unfold cntC cntA
  have h1 := sums_flat (fun c => (goneC c l).map PK.row) (fun c r hr => by obtain ⟨q, _, rfl⟩ := List.mem_map.1 hr; exact row_nr q) ks r50_nr
  rw [h1]
  refine sums_perm ?_ r50
  have h2 := (part_perm PK.cl ks (goneA l) hn h).map PK.row
  have e : (ks.flatMap (fun c => (goneA l).filter (fun q => q.cl == c))).map PK.row = ks.flatMap (fun c => (goneC c l).map PK.row) := by
    rw [List.map_flatMap]
    congr 1
    funext c
    unfold goneA goneC
    rw [List.filter_filter]
    congr 1
    exact List.filter_congr fun q _ => by cases q.gn <;> simp
  rw [e] at h2
  exact h2
theorem fst_some {c : Int} {l : List PK} {i : Nat} (h : fstI c l = some i) : ∃ (hi : i < l.length), l[i].cl = c ∧ l[i].gn = false ∧ ∀ q ∈ l.take i, (q.cl == c && !q.gn) = false := by
  unfold fstI at h
  rw [List.findIdx?_eq_some_iff_getElem] at h
  obtain ⟨hi, h1, h2⟩ := h
  simp only [Bool.and_eq_true, beq_iff_eq, Bool.not_eq_true'] at h1
  refine ⟨hi, h1.1, h1.2, fun q hq => ?_⟩
  obtain ⟨j, hj, rfl⟩ := List.mem_take_iff_getElem.1 hq
  have := h2 j (by omega)
  simpa using this
theorem fst_none {c : Int} {l : List PK} (h : fstI c l = none) : waitC c l = [] := by
  unfold fstI at h
  rw [List.findIdx?_eq_none_iff] at h
  unfold waitC
  rw [List.filter_eq_nil_iff]
  intro q hq
  simpa using h q hq
def gone1 (q : PK) (dn ln : Int) (rl : Bool) : PK := ⟨q.cl, q.ta, dn, ln, rl, true⟩
theorem split_at {l : List PK} {i : Nat} (hi : i < l.length) : l = l.take i ++ l[i] :: l.drop (i + 1) := by rw [← List.drop_eq_getElem_cons hi, List.take_append_drop]
theorem wait_split {c : Int} {l : List PK} {i : Nat} (h : fstI c l = some i) (hi : i < l.length) : waitC c l = l[i] :: waitC c (l.drop (i + 1)) := by
  obtain ⟨_, h1, h2, h3⟩ := fst_some h
  unfold waitC
  conv => lhs; rw [split_at hi]
  rw [List.filter_append, List.filter_eq_nil_iff.2 (fun q hq => by simpa using h3 q hq), List.nil_append, List.filter_cons_of_pos (by simp [h1, h2])]
/-- All packets, of which one went. -/
def goneL (l : List PK) (i : Nat) (q : PK) : List PK := l.take i ++ q :: l.drop (i + 1)
theorem wait_gone {c d : Int} {l : List PK} {i : Nat} (h : fstI c l = some i) (hi : i < l.length) (dn ln : Int) (rl : Bool) : waitC d (goneL l i (gone1 l[i] dn ln rl)) = if d = c then (waitC c l).tail else waitC d l := by
  obtain ⟨_, h1, h2, h3⟩ := fst_some h
  have e : waitC d (goneL l i (gone1 l[i] dn ln rl)) = waitC d (l.take i) ++ waitC d (l.drop (i + 1)) := by
    unfold goneL waitC
    rw [List.filter_append, List.filter_cons_of_neg (by simp [gone1])]
  rw [e]
  by_cases hd : d = c
  · subst hd
    rw [if_pos rfl, wait_split h hi, List.tail_cons]
    have : waitC d (l.take i) = [] := by unfold waitC; exact List.filter_eq_nil_iff.2 (fun q hq => by simpa using h3 q hq)
    rw [this, List.nil_append]
  · rw [if_neg hd]
    conv => rhs; unfold waitC; rw [split_at hi]
    rw [List.filter_append, List.filter_cons_of_neg (by simp [h1, Ne.symm hd])]
    rfl
theorem goneC_gone {c d : Int} {l : List PK} {i : Nat} (h : fstI c l = some i) (hi : i < l.length) (dn ln : Int) (rl : Bool) : (goneC d (goneL l i (gone1 l[i] dn ln rl))).Perm (if d = c then goneC d l ++ [gone1 l[i] dn ln rl] else goneC d l) := by
  obtain ⟨_, h1, h2, h3⟩ := fst_some h
  have e : goneC d l = goneC d (l.take i) ++ goneC d (l.drop (i + 1)) := by
    conv => lhs; unfold goneC; rw [split_at hi]
    rw [List.filter_append, List.filter_cons_of_neg (by simp [h2])]
    rfl
  by_cases hd : d = c
  · subst hd
    rw [if_pos rfl, e]
    unfold goneL goneC
    rw [List.filter_append, List.filter_cons_of_pos (by simp [gone1, h1])]
    exact List.perm_middle.trans (List.perm_append_singleton _ _).symm
  · rw [if_neg hd, e]
    unfold goneL goneC
    rw [List.filter_append, List.filter_cons_of_neg (by simp [gone1, h1, Ne.symm hd])]
theorem cnt_gone {c d : Int} {l : List PK} {i : Nat} (h : fstI c l = some i) (hi : i < l.length) (dn ln : Int) (rl : Bool) : cntC d (goneL l i (gone1 l[i] dn ln rl)) = if d = c then tog (cntC d l) (gone1 l[i] dn ln rl).row else cntC d l := by
  unfold cntC
  rw [sums_perm ((goneC_gone h hi dn ln rl).map PK.row) r50]
  by_cases hd : d = c
  · rw [if_pos hd, if_pos hd, List.map_append, sums_app]; rfl
  · rw [if_neg hd, if_neg hd]
theorem wait_came (c d ta : Int) (l : List PK) : waitC d (l ++ [⟨c, ta, 0, 0, false, false⟩]) = if d = c then waitC d l ++ [⟨c, ta, 0, 0, false, false⟩] else waitC d l := by
  unfold waitC
  rw [List.filter_append]
  by_cases hd : d = c
  · rw [if_pos hd, List.filter_cons_of_pos (by simp [hd])]; rfl
  · rw [if_neg hd, List.filter_cons_of_neg (by simp [Ne.symm hd]), List.filter_nil, List.append_nil]
theorem cnt_came (c d ta : Int) (l : List PK) : cntC d (l ++ [⟨c, ta, 0, 0, false, false⟩]) = cntC d l := by
  unfold cntC goneC
  rw [List.filter_append, List.filter_cons_of_neg (by simp), List.filter_nil, List.append_nil]
end Go.Proofs.Ytnpidbodeebnkaa
