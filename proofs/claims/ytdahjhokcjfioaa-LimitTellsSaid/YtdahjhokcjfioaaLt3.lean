/- limit.Broken. -/
import Derived.Test.YtdahjhokcjfioaaLt2
import Derived.Test.YtdahjhokcjfioaaRows0
namespace Go.Proofs.Ytdahjhokcjfioaa
set_option linter.unusedVariables false
set_option linter.unusedSimpArgs false
set_option maxRecDepth 100000
open Go.RowKit Fg Reg
attribute [local irreducible] Reg.wE

theorem spC : CellsOf Sp.cells 5 := ⟨fun _ => rfl, fun x v hv => by
  unfold Sp.cells at hv
  simp only [List.mem_cons, List.not_mem_nil, or_false] at hv
  rcases hv with rfl | rfl | rfl | rfl | rfl <;> rfl, by decide⟩
theorem sp5_info : (Try.prog.info? 222).map (·.size) = some 5 := by kernel_rfl
theorem mx34_c (a : Int) (w : World) : (Builtin.max_ #[3, 3] 3 #[.int .i64 a, .int .i64 0]).run Try.prog w = .ok (.int .i64 (if a < 0 then 0 else a)) w := by
  simp [Builtin.max_, Builtin.max2]
/-- What Broken answers. -/
def Brk (c1 cd c2 lm : Int) (zs : List Int) (es : List Ev) (w : World) (ee : Ending) (w' : World) : Prop :=
  ∃ (p : Int) (no : Bool), ee = .returned (.tuple #[.int .i64 p, .bool no]) ∧ Ans c1 cd c2 lm zs es (spsrun zs es es.length).rows p no ∧ Below w.heap.size w w'
theorem brk_mk {c1 cd c2 lm : Int} {zs : List Int} {es : List Ev} {w w' : World} {ee : Ending} {p : Int} {no : Bool} (h1 : ee = .returned (.tuple #[.int .i64 p, .bool no])) (h2 : Ans c1 cd c2 lm zs es (spsrun zs es es.length).rows p no) (h3 : Below w.heap.size w w') : Brk c1 cd c2 lm zs es w ee w' := ⟨p, no, h1, h2, h3⟩
/-- The spans before the a-th aren't broken. -/
def Nob (c1 cd c2 lm : Int) (zs : List Int) (es : List Ev) (rs : List Sp) (a : Nat) : Prop := ∀ b (h : b < rs.length), b < a → ∀ j, hb c1 cd c2 lm zs es rs[b] j = false
/-- The events before the i-th don't break the span. -/
def Nof (c1 cd c2 lm : Int) (zs : List Int) (es : List Ev) (x : Sp) (i : Nat) : Prop := ∀ j, j < i → hb c1 cd c2 lm zs es x j = false
theorem nof_start {c1 cd c2 lm : Int} {zs : List Int} {es : List Ev} {x : Sp} : Nof c1 cd c2 lm zs es x (x.fi + 1) := fun j hj => by
  unfold hb
  split
  · rfl
  · rw [show decide (x.fi < j) = false by simp; omega]; simp
theorem nof_succ {c1 cd c2 lm : Int} {zs : List Int} {es : List Ev} {x : Sp} {i : Nat} (h : Nof c1 cd c2 lm zs es x i) (hi : hb c1 cd c2 lm zs es x i = false) : Nof c1 cd c2 lm zs es x (i + 1) := fun j hj => by
  rcases Nat.lt_or_ge j i with h2 | h2
  · exact h j h2
  · obtain rfl : j = i := by omega
    exact hi
theorem nob_zero {c1 cd c2 lm : Int} {zs : List Int} {es : List Ev} {rs : List Sp} : Nob c1 cd c2 lm zs es rs 0 := fun b h hb => absurd hb (Nat.not_lt_zero _)
theorem nob_succ {c1 cd c2 lm : Int} {zs : List Int} {es : List Ev} {rs : List Sp} {a i : Nat} (ha : a < rs.length) (h : Nob c1 cd c2 lm zs es rs a) (g : Nof c1 cd c2 lm zs es rs[a] i) (hi : es.length ≤ i ∨ (rs[a].op = false ∧ rs[a].la < i)) : Nob c1 cd c2 lm zs es rs (a + 1) := fun b hb' hlt j => by
  rcases Nat.lt_or_ge b a with h2 | h2
  · exact h b hb' h2 j
  · obtain rfl : b = a := by omega
    rcases Nat.lt_or_ge j i with h3 | h3
    · exact g j h3
    · unfold hb
      rcases hi with hi | ⟨ho, hl⟩
      · rw [List.getElem?_eq_none (by omega)]
      · split
        · rfl
        · rw [ho, show decide (j ≤ rs[b].la) = false by simp; omega]; simp
/-- An event in the span. -/
theorem hb_at {c1 cd c2 lm : Int} {zs : List Int} {es : List Ev} {x : Sp} {i : Nat} (hi : i < es.length) (hf : x.fi < i) (hl : x.op = true ∨ i ≤ x.la) :
    hb c1 cd c2 lm zs es x i = (!es[i].inn && has zs es[i].cls && decide (mostv (srv c1 cd c2 (tks x.fr es[i].tm)) lm < pks zs es (x.fi + 1) es.length (i + 1))) := by
  unfold hb
  rw [List.getElem?_eq_getElem hi]
  dsimp only
  rw [pks_cut zs es (x.fi + 1) i es.length (by omega) es.length, show min es.length (i + 1) = i + 1 by omega, show decide (x.fi < i) = true by simpa using hf, show (x.op || decide (i ≤ x.la)) = true by rcases hl with h | h <;> simp [h]]
  simp
theorem pks_step {zs : List Int} {es : List Ev} {x : Nat} {i : Nat} (hi : i < es.length) (hf : x < i) :
    pks zs es (x + 1) es.length (i + 1) = if es[i].inn = false ∧ has zs es[i].cls = true then (pks zs es (x + 1) es.length i + (if es[i].ln < 0 then 0 else es[i].ln)) % 18446744073709551616 else pks zs es (x + 1) es.length i := by
  have hin := pks_in zs es (x + 1) es.length i
  rw [pks_succ zs es (x + 1) es.length i hi]
  unfold pkc
  rw [show decide ((x : Int) + 1 ≤ i) = true by simp; omega, show decide ((i : Int) ≤ es.length) = true by simp; omega]
  cases es[i].inn <;> cases has zs es[i].cls <;> simp
  by_cases h : 0 < es[i].ln
  · rw [if_pos h, if_neg (show ¬ es[i].ln < 0 by omega)]
  · rw [if_neg h]
    split <;> omega
theorem ans_none {c1 cd c2 lm : Int} {zs : List Int} {es : List Ev} {rs : List Sp} (h : Nob c1 cd c2 lm zs es rs rs.length) : Ans c1 cd c2 lm zs es rs 0 false := .inr ⟨rfl, rfl, fun a ha j => h a ha ha j⟩
theorem ans_some {c1 cd c2 lm : Int} {zs : List Int} {es : List Ev} {rs : List Sp} {a i : Nat} (ha : a < rs.length) (h : Nob c1 cd c2 lm zs es rs a) (g : Nof c1 cd c2 lm zs es rs[a] i) (hi : hb c1 cd c2 lm zs es rs[a] i = true) : Ans c1 cd c2 lm zs es rs i true := .inl ⟨rfl, i, rfl, a, ha, h, hi, g⟩
/-- Each span's bounds. -/
theorem chain_at (es : List Ev) (o : Bool) : ∀ (l : List Sp) (last : Int), chain es o last l → ∀ a (h : a < l.length), l[a].fi < es.length ∧ l[a].fr = es[l[a].fi]!.tm ∧ (l[a].op = true ∨ (l[a].fi < l[a].la ∧ l[a].la < es.length))
  | [], _, _, a, h => absurd h (Nat.not_lt_zero _)
  | x :: l, last, hc, a, h => by
    obtain ⟨_, ⟨h1, h2⟩, h3⟩ := hc
    cases a with
    | zero =>
      refine ⟨h1, ?_, ?_⟩
      · simp [h1, h2]
      · rcases h3 with ⟨h4, _⟩ | ⟨_, h5, ⟨h6, _⟩, _⟩
        · exact .inl h4
        · exact .inr ⟨h5, h6⟩
    | succ a =>
      rcases h3 with ⟨_, rfl, _⟩ | ⟨_, _, _, h7⟩
      · exact absurd h (by simp)
      · exact chain_at es o l x.la h7 a (by simpa using h)
end Go.Proofs.Ytdahjhokcjfioaa
