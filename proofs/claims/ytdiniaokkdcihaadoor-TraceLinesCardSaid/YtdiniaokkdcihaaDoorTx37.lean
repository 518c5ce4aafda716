/- trace.Parse's next. -/
import Derived.Test.YtdiniaokkdcihaaDoorTx36
namespace Go.Proofs.YtdiniaokkdcihaaDoor
set_option linter.unusedVariables false
set_option linter.unusedSimpArgs false
set_option maxRecDepth 100000
open Go.RowKit Fg Reg
attribute [local irreducible] Reg.wE

/-- The error and what is left of the words. -/
structure NP (z : World) (eb rb g : Nat) (E : Int) (ws : List (List UInt8)) : Prop where
  err : z.cell? ⟨eb, 0, none⟩ = some (.int .i64 E)
  errf : z.frozen? ⟨eb, 0, none⟩ = false
  restf : z.frozen? ⟨rb, 0, none⟩ = false
  rest : E = 0 → ∃ o c, z.cell? ⟨rb, 0, none⟩ = some (.slice (some ⟨g, o, none⟩) ws.length c) ∧ ws.length < c ∧ c ≤ 1000 ∧ WR z g o ws
  l1 : eb < z.heap.size
  l2 : rb < z.heap.size
  l3 : g < z.heap.size
  n1 : eb ≠ rb
  n2 : g ≠ eb
  n3 : g ≠ rb
def nv (E : Int) (x : List UInt8) (most : Int) : Int := if E = 0 then numV x most else 0
def ne (E : Int) (x : List UInt8) (most : Int) : Int := if E = 0 then numE x most else E
theorem WR.only {S : Nat → Prop} {z z' : World} {g o : Nat} {ls : List (List UInt8)} (h : WR z g o ls) (ho : Only S z z') (hg : g < z.heap.size) (hs : ¬ S g) : WR z' g o ls := fun j x hj => (ho.cell hg hs).trans (h j x hj)
theorem NP.only {S : Nat → Prop} {z z' : World} {eb rb g : Nat} {E : Int} {ws : List (List UInt8)} (h : NP z eb rb g E ws) (ho : Only S z z') (h1 : ¬ S eb) (h2 : ¬ S rb) (h3 : ¬ S g) : NP z' eb rb g E ws :=
  ⟨(ho.cell h.l1 h1).trans h.err, (ho.frozen h.l1 h1).trans h.errf, (ho.frozen h.l2 h2).trans h.restf, fun e => by
    obtain ⟨o, c, a, b, c', d⟩ := h.rest e
    exact ⟨o, c, (ho.cell h.l2 h2).trans a, b, c', d.only ho h.l3 h3⟩, Nat.lt_of_lt_of_le h.l1 ho.size, Nat.lt_of_lt_of_le h.l2 ho.size, Nat.lt_of_lt_of_le h.l3 ho.size, h.n1, h.n2, h.n3⟩
set_option maxHeartbeats 2000000 in
theorem next_c (z : World) (eb rb g : Nat) (E : Int) (x : List UInt8) (t : List (List UInt8)) (h : NP z eb rb g E (x :: t)) (hx : x.length ≤ 1000) (most : Int) (hm0 : 9 ≤ most) (hm : most < 18446744073709551616) :
    Calls Tryd.prog 71 #[.int .u64 most, .pointer (some ⟨eb, 0, none⟩), .pointer (some ⟨rb, 0, none⟩)] z fun ee z' => ee = .returned (.int .u64 (nv E x most)) ∧ NP z' eb rb g (ne E x most) t ∧ Only (fun k => k = eb ∨ k = rb) z z' := by
  unfold nv ne
  have h1 := h.err
  have h2 := h.errf
  have h3 := h.restf
  have l1 := h.l1
  have l2 := h.l2
  have l3 := h.l3
  have n1 := h.n1
  have n2 := h.n2
  have n3 := h.n3
  by_cases hE : E = 0
  · obtain ⟨o, c, r1, r2, r3, r4⟩ := h.rest hE
    subst hE
    rw [if_pos rfl, if_pos rfl]
    simp only [List.length_cons] at r1 r2
    have r5 := r4 0 x rfl
    rw [Nat.add_zero] at r5
    have HWR := Lib.hid (show WR z g (o + 1) t from fun j y hj => by
      have := r4 (j + 1) y (by simpa using hj)
      rw [← this]; congr 2; omega)
    have K := Lib.hid (fun w => tnum_c ⟨x.toArray⟩ (by show x.toArray.size < _; simp only [List.size_toArray]; omega) most hm0 hm w)
    have d1 : (0 : Int) < (t.length : Int) + 1 := by omega
    have n1' : ¬ rb = eb := fun e => n1 e.symm
    clear r4 h
    go_enter Tryd.func71, Tryd.ntmps71
    go_wp2_with (go_at_call 72; (with_reducible refine (K.out _).mono ?_); rintro e w1 ⟨rfl, hb1⟩; have q1 := (hb1.cell (p := ⟨eb, 0, none⟩) l1).trans h1; have q2 := ((bcell hb1).2 eb 0 l1).trans h2; have q3 := (hb1.cell (p := ⟨rb, 0, none⟩) l2).trans r1; have q4 := ((bcell hb1).2 rb 0 l2).trans h3; have s1 := hb1.size)
    go_ret
    have hO : Only (fun k => k = eb ∨ k = rb) z ((w1.setCell ⟨eb, 0, none⟩ (.int .i64 (numE x most))).setCell ⟨rb, 0, none⟩ (.slice (some ⟨g, o + 1, none⟩) t.length (c - 1))) :=
      ((Only.of_below hb1).setCell (.inl (.inl rfl)) _).setCell (.inl (.inr rfl)) _
    have m1 := Nat.lt_of_lt_of_le l1 hO.size
    have m2 := Nat.lt_of_lt_of_le l2 hO.size
    have m3 := Nat.lt_of_lt_of_le l3 hO.size
    have hW := HWR.out.only hO l3 (fun e => e.elim n2 n3)
    refine ⟨rfl, ⟨?_, ?_, ?_, fun _ => ⟨o + 1, c - 1, ?_, by omega, by omega, hW⟩, m1, m2, m3, n1, n2, n3⟩, hO⟩
    · clear hW hO m1 m2 m3
      simp [go_sem, *]
    · clear hW hO m1 m2 m3
      simp [go_sem, *]
    · clear hW hO m1 m2 m3
      simp [go_sem, *]
    · clear hW hO m1 m2 m3
      simp [go_sem, *]
  · have d1 : (E == 0) = false := by simpa using hE
    rw [if_neg hE, if_neg hE]
    go_enter Tryd.func71, Tryd.ntmps71
    go_wp2
    all_goals (go_ret; exact ⟨rfl, ⟨h1, h2, h3, fun e => absurd e hE, l1, l2, l3, n1, n2, n3⟩, Only.refl _ _⟩)
end Go.Proofs.YtdiniaokkdcihaaDoor
