/- What Parse knows while it reads the numbers. -/
import Derived.Test.YtdiniaokkdcihaaDoorTx38
import Derived.Test.YtdiniaokkdcihaaDoorRegion3
namespace Go.Proofs.YtdiniaokkdcihaaDoor
set_option linter.unusedVariables false
set_option linter.unusedSimpArgs false
set_option maxRecDepth 100000
set_option linter.unnecessarySimpa false
open Go.RowKit Fg Reg
attribute [local irreducible] Reg.wE

theorem shrunk2 {G : World → Prop} {w : World} (F : World → Prop) (hF : F w) (h : ∀ n, F n → G n) : G w := h w hF
def zer12 : List Value := [.int .i64 0, .bool false, .bool false, .int .u64 0, .int .u64 0, .int .i64 0, .int .u64 0, .int .i64 0, .int .u16 0, .int .u16 0, .int .u16 0, .int .u16 0]
structure P0 (w z : World) (ls : List (List UInt8)) : Prop where
  wr : WR z (w.heap.size + 1) 0 ls
  wf : ∀ j, j < ls.length → z.frozen? ⟨w.heap.size + 1, j, none⟩ = false
  sz : z.heap.size = w.heap.size + 2
  bel : Below w.heap.size w z
  rc : ∀ j, j < 12 → z.cell? ⟨w.heap.size, j, none⟩ = some (zer12.getD j undef)
  rf : ∀ j, j < 12 → z.frozen? ⟨w.heap.size, j, none⟩ = false
theorem p0_start (w : World) (S : ByteArray) (ls : List (List UInt8)) (h : cutL 32 S.data.toList = ls) : P0 w ((w.alloc (.cells zer12.toArray 38)).alloc (.cells ((pcs32 S).map Value.string).toArray 9)) ls := by
  subst h
  refine ⟨wr_at _ _, fun j hj => ?_, by simp, ((Below.refl _ _).alloc (Nat.le_refl _) _).alloc (by simp) _, fun j hj => ?_, fun j hj => ?_⟩
  · have hj2 : j < (pcs32 S).length := by rw [pcs_len]; exact hj
    have e : (w.alloc (.cells zer12.toArray 38)).heap.size = w.heap.size + 1 := by simp
    have := frozen_of_row ((w.alloc (.cells zer12.toArray 38)).alloc (.cells ((pcs32 S).map Value.string).toArray 9)) (w.heap.size + 1) j _ _ (by rw [← e]; exact heap_alloc_new _ _)
    simpa using this
  · have h0 : (w.alloc (.cells zer12.toArray 38)).cell? ⟨w.heap.size, j, none⟩ = some (zer12.getD j undef) := by
      rw [cell_of_row (w.alloc (.cells zer12.toArray 38)) w.heap.size j _ _ (0, 0) (heap_alloc_new _ _)]
      have : zer12.toArray[j]? = zer12[j]? := by simp
      rw [this, List.getD_eq_getElem?_getD]
      have hl : j < zer12.length := hj
      rw [List.getElem?_eq_getElem hl]; rfl
    rw [← h0]
    exact ((Below.refl _ _).alloc (Nat.le_refl _) _).cell (p := ⟨w.heap.size, j, none⟩) (by simp)
  · have h0 : (w.alloc (.cells zer12.toArray 38)).frozen? ⟨w.heap.size, j, none⟩ = false := by
      have := frozen_of_row (w.alloc (.cells zer12.toArray 38)) w.heap.size j _ _ (heap_alloc_new _ _)
      simpa using this
    rw [← h0]
    exact (bcell ((Below.refl _ _).alloc (Nat.le_refl _) _)).2 _ _ (by simp)
structure PS (w z : World) (q eb rb g : Nat) (cs : List Value) (E : Int) (ws : List (List UInt8)) : Prop where
  np : NP z eb rb g E ws
  ev : ∀ j, j < 12 → z.cell? ⟨q, j, none⟩ = some (cs.getD j undef)
  evf : ∀ j, j < 12 → z.frozen? ⟨q, j, none⟩ = false
  len : cs.length = 12
  rc : ∀ j, j < 12 → z.cell? ⟨w.heap.size, j, none⟩ = some (zer12.getD j undef)
  rf : ∀ j, j < 12 → z.frozen? ⟨w.heap.size, j, none⟩ = false
  ql : q < z.heap.size
  rl : w.heap.size < z.heap.size
  q1 : ¬ q = eb
  q2 : ¬ q = rb
  q3 : ¬ q = g
  o0 : ¬ w.heap.size = q
  o1 : ¬ w.heap.size = eb
  o2 : ¬ w.heap.size = rb
  b0 : w.heap.size ≤ q
  b1 : w.heap.size ≤ eb
  b2 : w.heap.size ≤ rb
  bel : Below w.heap.size w z
theorem pnext (w z : World) (q eb rb g : Nat) (cs : List Value) (E : Int) (x : List UInt8) (t : List (List UInt8)) (most : Int) (hx : x.length ≤ 1000) (hm0 : 9 ≤ most) (hm : most < 18446744073709551616) (h : PS w z q eb rb g cs E (x :: t)) :
    Calls Tryd.prog 71 #[.int .u64 most, .pointer (some ⟨eb, 0, none⟩), .pointer (some ⟨rb, 0, none⟩)] z fun ee z' => ee = .returned (.int .u64 (nv E x most)) ∧ PS w z' q eb rb g cs (ne E x most) t := by
  refine (next_c z eb rb g E x t h.np hx most hm0 hm).mono ?_
  rintro e z' ⟨rfl, hn, ho⟩
  refine ⟨rfl, hn, fun j hj => ?_, fun j hj => ?_, h.len, fun j hj => ?_, fun j hj => ?_, Nat.lt_of_lt_of_le h.ql ho.size, Nat.lt_of_lt_of_le h.rl ho.size, h.q1, h.q2, h.q3, h.o0, h.o1, h.o2, h.b0, h.b1, h.b2, ho.below h.bel (Nat.le_of_lt h.rl) (fun k hk => hk.elim (fun e => e ▸ h.b1) (fun e => e ▸ h.b2))⟩
  · exact (ho.cell h.ql (fun e => e.elim h.q1 h.q2)).trans (h.ev j hj)
  · exact (ho.frozen h.ql (fun e => e.elim h.q1 h.q2)).trans (h.evf j hj)
  · exact (ho.cell h.rl (fun e => e.elim h.o1 h.o2)).trans (h.rc j hj)
  · exact (ho.frozen h.rl (fun e => e.elim h.o1 h.o2)).trans (h.rf j hj)
theorem cell_set_same {z : World} {q j : Nat} {u v : Value} (h : z.cell? ⟨q, j, none⟩ = some u) : (z.setCell ⟨q, j, none⟩ v).cell? ⟨q, j, none⟩ = some v := by simp [go_sem, h]
theorem cell_set_other {z : World} {q j k : Nat} {v : Value} (h : ¬ k = j) : (z.setCell ⟨q, j, none⟩ v).cell? ⟨q, k, none⟩ = z.cell? ⟨q, k, none⟩ := by simp [go_sem, h]
theorem PS.put {w z : World} {q eb rb g : Nat} {cs : List Value} {E : Int} {ws : List (List UInt8)} (h : PS w z q eb rb g cs E ws) (j : Nat) (v : Value) : PS w (z.setCell ⟨q, j, none⟩ v) q eb rb g (cs.set j v) E ws := by
  have ho : Only (fun k => k = q) z (z.setCell ⟨q, j, none⟩ v) := (Only.refl (fun k => k = q) z).setCell (.inl rfl) v
  refine ⟨h.np.only ho (fun e => h.q1 e.symm) (fun e => h.q2 e.symm) (fun e => h.q3 e.symm), fun k hk => ?_, fun k hk => ?_, by rw [List.length_set]; exact h.len, fun k hk => ?_, fun k hk => ?_, Nat.lt_of_lt_of_le h.ql ho.size, Nat.lt_of_lt_of_le h.rl ho.size, h.q1, h.q2, h.q3, h.o0, h.o1, h.o2, h.b0, h.b1, h.b2, ho.below h.bel (Nat.le_of_lt h.rl) (fun k hk => hk ▸ h.b0)⟩
  · by_cases e : k = j
    · subst e
      rw [cell_set_same (h.ev k hk)]
      have hl := h.len
      simp [List.getD, List.getElem?_set, hl, hk]
    · rw [cell_set_other e, h.ev k hk]
      have e2 : ¬ j = k := fun x => e x.symm
      simp [List.getD, List.getElem?_set, e2]
  · have := h.evf k hk
    simp [go_sem, this]
  · exact (ho.cell h.rl h.o0).trans (h.rc k hk)
  · exact (ho.frozen h.rl h.o0).trans (h.rf k hk)
theorem ps_start {w W0 w2 : World} {ls rest : List (List UInt8)} {ev : List Value} {n c : Nat} (hl : ev.length = 12) (h : P0 w W0 ls) (hr : WR w2 (w.heap.size + 1) 0 rest)
    (ho : Only (fun k => k = w.heap.size + 1) ((W0.drew.alloc (.cells ev.toArray 38)).alloc (.cells #[.int .i64 0] 39)) w2) (hn : n = rest.length) (hc : n < c) (hc2 : c ≤ 1000) :
    PS w (w2.alloc (.cells #[.slice (some ⟨w.heap.size + 1, 0, none⟩) n c] 96)) (w.heap.size + 2) (w.heap.size + 3) w2.heap.size (w.heap.size + 1) ev 0 rest := by
  subst hn
  have hs := ho.size
  have hz := h.sz
  have hd : W0.drew.heap.size = W0.heap.size := rfl
  have s1 : (W0.drew.alloc (.cells ev.toArray 38)).heap.size = w.heap.size + 3 := by simp; omega
  have s2 : ((W0.drew.alloc (.cells ev.toArray 38)).alloc (.cells #[.int .i64 0] 39)).heap.size = w.heap.size + 4 := by simp; omega
  rw [s2] at hs
  have hb1 : Below w2.heap.size w2 (w2.alloc (.cells #[.slice (some ⟨w.heap.size + 1, 0, none⟩) rest.length c] 96)) := (Below.refl _ _).alloc (Nat.le_refl _) _
  have bA : Below W0.heap.size W0 ((W0.drew.alloc (.cells ev.toArray 38)).alloc (.cells #[.int .i64 0] 39)) := (((Below.refl _ _).drew).alloc (Nat.le_refl _) _).alloc (by rw [s1]; omega) _
  have cE : ∀ j, j < 12 → (W0.drew.alloc (.cells ev.toArray 38)).cell? ⟨w.heap.size + 2, j, none⟩ = some (ev.getD j undef) ∧ (W0.drew.alloc (.cells ev.toArray 38)).frozen? ⟨w.heap.size + 2, j, none⟩ = false := fun j hj => by
    have hb : (W0.drew.alloc (.cells ev.toArray 38)).heap[w.heap.size + 2]? = some (.cells ev.toArray 38 (0, 0)) := by rw [← hz]; exact heap_alloc_new W0.drew _
    constructor
    · rw [cell_of_row _ (w.heap.size + 2) j _ _ (0, 0) hb]
      have : ev.toArray[j]? = ev[j]? := by simp
      rw [this, List.getD_eq_getElem?_getD, List.getElem?_eq_getElem (by omega)]; rfl
    · have := frozen_of_row _ (w.heap.size + 2) j _ _ hb
      simpa using this
  have bE : Below (W0.drew.alloc (.cells ev.toArray 38)).heap.size (W0.drew.alloc (.cells ev.toArray 38)) ((W0.drew.alloc (.cells ev.toArray 38)).alloc (.cells #[.int .i64 0] 39)) := (Below.refl _ _).alloc (Nat.le_refl _) _
  have hF : ((W0.drew.alloc (.cells ev.toArray 38)).alloc (.cells #[.int .i64 0] 39)).heap[w.heap.size + 3]? = some (.cells #[.int .i64 0] 39 (0, 0)) := by rw [← s1]; exact heap_alloc_new _ _
  have cF : ((W0.drew.alloc (.cells ev.toArray 38)).alloc (.cells #[.int .i64 0] 39)).cell? ⟨w.heap.size + 3, 0, none⟩ = some (.int .i64 0) := by rw [cell_of_row _ _ 0 _ _ (0, 0) hF]; rfl
  have fF : ((W0.drew.alloc (.cells ev.toArray 38)).alloc (.cells #[.int .i64 0] 39)).frozen? ⟨w.heap.size + 3, 0, none⟩ = false := by
    have := frozen_of_row _ (w.heap.size + 3) 0 _ _ hF
    simpa using this
  have hR : (w2.alloc (.cells #[.slice (some ⟨w.heap.size + 1, 0, none⟩) rest.length c] 96)).heap[w2.heap.size]? = some (.cells #[.slice (some ⟨w.heap.size + 1, 0, none⟩) rest.length c] 96 (0, 0)) := heap_alloc_new _ _
  have up : ∀ b o, b < w.heap.size + 4 → ¬ b = w.heap.size + 1 → (w2.alloc (.cells #[.slice (some ⟨w.heap.size + 1, 0, none⟩) rest.length c] 96)).cell? ⟨b, o, none⟩ = ((W0.drew.alloc (.cells ev.toArray 38)).alloc (.cells #[.int .i64 0] 39)).cell? ⟨b, o, none⟩ ∧ (w2.alloc (.cells #[.slice (some ⟨w.heap.size + 1, 0, none⟩) rest.length c] 96)).frozen? ⟨b, o, none⟩ = ((W0.drew.alloc (.cells ev.toArray 38)).alloc (.cells #[.int .i64 0] 39)).frozen? ⟨b, o, none⟩ := fun b o hb hne =>
    ⟨((bcell hb1).1 b o (by omega)).trans (ho.cell (by rw [s2]; omega) hne), ((bcell hb1).2 b o (by omega)).trans (ho.frozen (by rw [s2]; omega) hne)⟩
  refine ⟨⟨(up _ _ (by omega) (by omega)).1.trans cF, (up _ _ (by omega) (by omega)).2.trans fF, ?_, fun _ => ⟨0, c, ?_, hc, hc2, fun j x hj => ((bcell hb1).1 _ _ (by omega)).trans (hr j x hj)⟩, by simp; omega, by simp, by simp; omega, by omega, by omega, by omega⟩, fun j hj => ?_, fun j hj => ?_, hl, fun j hj => ?_, fun j hj => ?_, by simp; omega, by simp; omega, by omega, by omega, by omega, by omega, by omega, by omega, by omega, by omega, by omega, ?_⟩
  · have := frozen_of_row _ w2.heap.size 0 _ _ hR
    simpa using this
  · rw [cell_of_row _ w2.heap.size 0 _ _ (0, 0) hR]; rfl
  · exact (up _ _ (by omega) (by omega)).1.trans (((bcell bE).1 _ _ (by rw [s1]; omega)).trans (cE j hj).1)
  · exact (up _ _ (by omega) (by omega)).2.trans (((bcell bE).2 _ _ (by rw [s1]; omega)).trans (cE j hj).2)
  · exact (up _ _ (by omega) (by omega)).1.trans (((bcell bA).1 _ _ (by omega)).trans (h.rc j hj))
  · exact (up _ _ (by omega) (by omega)).2.trans (((bcell bA).2 _ _ (by omega)).trans (h.rf j hj))
  · refine Below.trans ?_ (hb1.mono (by omega))
    exact ho.below (h.bel.trans (bA.mono (by omega))) (by rw [s2]; omega) (fun k hk => by omega)
theorem eff_store {P : Program} {Cl : List Value → World → Prop} {ps : List Value} {o : Oper} {ρ : Act} {w w' : World} {X Y : Value} (ty : TypeId) (x y : Operand) (ho : o.op = .store ty x y) (hx : ρ.eval x = X) (hy : ρ.eval y = Y)
    (hr : (Instr.storeAt ty X Y).run P w = .ok () w') (h : Cl (ps ++ [undef]) w') : Reg.effUpon P Cl ps ((execOp ρ.eval o).run P w) := by
  unfold execOp
  simp only [ho, hx, hy, Sem.run_bind, Sem.run_pure, Result.andThen_ok, hr]
  exact h
end Go.Proofs.YtdiniaokkdcihaaDoor
