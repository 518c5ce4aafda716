/- A variable of many cells as a function's result; beside rows that grow; new rows. -/
import Derived.Test.YtnpidbodeebnkaaVarRow
namespace Go.Proofs.Ytnpidbodeebnkaa
set_option linter.unusedVariables false
set_option linter.unusedSimpArgs false
set_option maxRecDepth 100000
open Go.RowKit Fg Reg

theorem results_var {P : Program} {fn : Func} {s : Nat} {T : TypeId} {w : World} (hr : fn.results = #[.cell s T]) (tmps : Array Value) (g : Nat) (hs : tmps.getD s undef = .pointer (some ⟨g, 0, none⟩)) (cells : Array Value) (d : TypeDesc) (hv : VR w g T cells)
    (hu : P.underlying T = some d) (hd : d.isRow = true) (hi : (P.info? T).map (·.size) = some cells.size) : (results fn tmps).run P w = .ok (.agg cells) w := by
  have h := run_loadVar_mid (P := P) w g 0 T cells.toList d hv.range hu hd (by simpa using hi)
  have hs' : tmps[s]?.getD undef = .pointer (some ⟨g, 0, none⟩) := by simpa using hs
  unfold results
  rw [hr]
  simp [Sem.run_bind, Sem.run_pure, Result.andThen_ok, asAddr, hs', h]
theorem VR.grown2 {z z' : World} {p : Nat} {ty : TypeId} {cs : Array Value} {row : Option Nat} (h : VR z p ty cs) (hg : z.grownBy z' row) (hne : row ≠ some p) : VR z' p ty cs := h.frame (hg.block p h.lt fun e => hne e.symm)
theorem news_new (w : World) (cs : List Value) (t : TypeId) : ∀ (j : Nat) (u : Value), cs[j]? = some u → (w.alloc (.cells cs.toArray t)).cell? ((⟨w.heap.size, 0, none⟩ : Addr).add j) = some u := fun j u hu => by
  rw [Addr.add_mid, Nat.zero_add]
  exact (VR.new w cs.toArray t).cell j (by simpa using hu)
/-- A row that may be read, whatever its base. -/
theorem own_rwv {α : Type} {cells : α → List Value} {s : Nat} (hs : ∀ x, (cells x).length = s) {w : World} {base n c : Nat} {e : TypeId} {ao : Option Addr} {X : List α} (h : w.ownsRow base e s (.slice ao n c) n (X.flatMap cells)) (hn : X.length = n) : RwV cells s w ao X := fun k hk => by
  rcases h.2 with ⟨_, h0⟩ | ⟨g, cap, cur, hv, hb, hg, hc, hm, hz, ht⟩
  · omega
  · simp only [Value.slice.injEq] at hv
    obtain ⟨rfl, -, -⟩ := hv
    refine ⟨g, 0, rfl, (Array.getElem?_eq_some_iff.1 hg).1, fun j v hj => ?_⟩
    rw [cell_of_row w g (0 + k * s + j) cur _ _ hg, Nat.zero_add, ← Array.getElem?_toList]
    have hjl : j < s := by rw [← hs X[k]]; exact (List.getElem?_eq_some_iff.1 hj).1
    have hks : k * s + j < n * s := by
      have : (k + 1) * s ≤ n * s := Nat.mul_le_mul_right s (by omega)
      rw [Nat.add_mul] at this
      omega
    have h1 : (cur.toList.take (n * s))[k * s + j]? = cur.toList[k * s + j]? := by rw [List.getElem?_take, if_pos hks]
    rw [← h1, ht]
    clear h1 ht hz hg hks
    induction X generalizing k n with
    | nil => exact absurd hk (Nat.not_lt_zero _)
    | cons x X ih =>
      rw [List.flatMap_cons]
      cases k with
      | zero => rw [List.getElem?_append_left (by rw [hs]; omega), Nat.zero_mul, Nat.zero_add]; exact hj
      | succ k =>
        rw [List.getElem?_append_right (by rw [hs, Nat.add_mul]; omega), hs, show (k + 1) * s + j - s = k * s + j by rw [Nat.add_mul]; omega]
        have hk2 : k < X.length := by simpa using hk
        have go : ∀ (Y : List α) (i : Nat) (hi : i < Y.length), (cells Y[i])[j]? = some v → (Y.flatMap cells)[i * s + j]? = some v := by
          intro Y
          induction Y with
          | nil => intro i hi; exact absurd hi (Nat.not_lt_zero _)
          | cons y Y ih2 =>
            intro i hi hv2
            rw [List.flatMap_cons]
            cases i with
            | zero => rw [List.getElem?_append_left (by rw [hs]; omega), Nat.zero_mul, Nat.zero_add]; exact hv2
            | succ i =>
              rw [List.getElem?_append_right (by rw [hs, Nat.add_mul]; omega), hs, show (i + 1) * s + j - s = i * s + j by rw [Nat.add_mul]; omega]
              exact ih2 i (by simpa using hi) (by simpa using hv2)
        exact go X k hk2 (by simpa using hj)
/-- Rows that may be read stay when a map alone turns. -/
theorem RwV.map_only {α : Type} {cells : α → List Value} {s : Nat} (hs : ∀ x, 0 < (cells x).length) {z z' : World} {ao : Option Addr} {X : List α} (h : RwV cells s z ao X) {mb : Nat} (hm : ∃ es ck, z.heap[mb]? = some (.map es ck)) (ho : Only (fun k => k = mb) z z') : RwV cells s z' ao X := fun k hk => by
  obtain ⟨b, o, e, h1, h2⟩ := h k hk
  have hne : b ≠ mb := by
    rintro rfl
    obtain ⟨es, ck, hb⟩ := hm
    have := h2 0 _ (List.getElem?_eq_getElem (hs _))
    simp [World.cell?, hb] at this
  exact ⟨b, o, e, Nat.lt_of_lt_of_le h1 ho.size, fun j v hv => by rw [World.cell?_of_block (ho.block b h1 hne)]; exact h2 j v hv⟩
end Go.Proofs.Ytnpidbodeebnkaa
