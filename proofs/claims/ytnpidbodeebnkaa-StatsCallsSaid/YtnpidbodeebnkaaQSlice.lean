/- A slice that a law gathers by append and takes away from the front of: elements of one cell. Nothing of the program is imported here but by name. -/
import Derived.Test.YtnpidbodeebnkaaBaseA
import Derived.Deep.OwnRows
import Derived.ArgAppend
namespace Go.Proofs.Ytnpidbodeebnkaa
set_option linter.unusedVariables false
set_option linter.unusedSimpArgs false
set_option maxRecDepth 100000
open Go.RowKit

/-- The cells of such a slice from an address on. -/
def QC (z : World) (B b o cap m : Nat) (g : Nat → Value) : Prop :=
  B ≤ b ∧ b < z.heap.size ∧ (∀ j, j < cap → (z.cell? ⟨b, o + j, none⟩).isSome = true ∧ z.frozen? ⟨b, o + j, none⟩ = false) ∧ ∀ j, j < m → z.cell? ⟨b, o + j, none⟩ = some (g j)
def QS (z : World) (B : Nat) (v : Value) (m : Nat) (g : Nat → Value) : Prop :=
  (v = .slice none 0 0 ∧ m = 0) ∨ ∃ b o cap, v = .slice (some ⟨b, o, none⟩) m cap ∧ m ≤ cap ∧ cap ≤ maxLen ∧ QC z B b o cap m g
theorem QC.only {S : Nat → Prop} {z z' : World} {B b o cap m : Nat} {g : Nat → Value} (h : QC z B b o cap m g) (ho : Only S z z') (hS : ∀ k, S k → k < B) : QC z' B b o cap m g := by
  obtain ⟨h1, h2, h3, h4⟩ := h
  have hn : ¬ S b := fun h => by have := hS b h; omega
  exact ⟨h1, Nat.lt_of_lt_of_le h2 ho.size, fun j hj => ⟨by rw [ho.cell h2 hn]; exact (h3 j hj).1, by rw [ho.frozen h2 hn]; exact (h3 j hj).2⟩, fun j hj => by rw [ho.cell h2 hn]; exact h4 j hj⟩
theorem QS.only {S : Nat → Prop} {z z' : World} {B m : Nat} {v : Value} {g : Nat → Value} (h : QS z B v m g) (ho : Only S z z') (hS : ∀ k, S k → k < B) : QS z' B v m g := by
  rcases h with h | ⟨b, o, cap, e, h1, h2, h3⟩
  · exact .inl h
  · exact .inr ⟨b, o, cap, e, h1, h2, h3.only ho hS⟩
theorem QS.below {z z' : World} {B m : Nat} {v : Value} {g : Nat → Value} (h : QS z B v m g) (hb : Below z.heap.size z z') : QS z' B v m g :=
  h.only (Only.of_below (S := fun _ => False) hb) (fun _ h => h.elim)
theorem QS.congr {z : World} {B m : Nat} {v : Value} {g g' : Nat → Value} (h : QS z B v m g) (e : ∀ j, j < m → g j = g' j) : QS z B v m g' := by
  rcases h with h | ⟨b, o, cap, h0, h1, h2, h3, h4, h5, h6⟩
  · exact .inl h
  · exact .inr ⟨b, o, cap, h0, h1, h2, h3, h4, h5, fun j hj => by rw [← e j hj]; exact h6 j hj⟩
theorem QS.nil (z : World) (B : Nat) (g : Nat → Value) : QS z B (.slice none 0 0) 0 g := .inl ⟨rfl, rfl⟩
/-- Taking the first one away. -/
theorem QC.tail {z : World} {B b o cap m : Nat} {g : Nat → Value} (h : QC z B b o cap m g) (hm : 0 < m) (hc : m ≤ cap) (hcm : cap ≤ maxLen) :
    QS z B (.slice (if cap = 1 then some ⟨b, o, none⟩ else some ⟨b, o + 1, none⟩) (m - 1) (cap - 1)) (m - 1) (fun j => g (j + 1)) := by
  obtain ⟨h1, h2, h3, h4⟩ := h
  by_cases hc1 : cap = 1
  · rw [if_pos hc1]
    exact .inr ⟨b, o, cap - 1, rfl, by omega, by omega, h1, h2, fun j hj => by omega, fun j hj => by omega⟩
  · rw [if_neg hc1]
    refine .inr ⟨b, o + 1, cap - 1, rfl, by omega, by omega, h1, h2, fun j hj => ?_, fun j hj => ?_⟩
    · rw [Nat.add_assoc, Nat.add_comm 1 j]
      exact h3 (j + 1) (by omega)
    · rw [Nat.add_assoc, Nat.add_comm 1 j]
      exact h4 (j + 1) (by omega)
theorem Only.of_grown {w w' : World} {row : Option Nat} {B : Nat} (h : w.grownBy w' row) (hr : ∀ k, row = some k → B ≤ k) : Only (fun k => B ≤ k) w w' :=
  ⟨h.os, h.tape, h.output, h.size, fun k hk hn => h.block k hk fun e => hn (hr k e.symm)⟩
theorem QS.of_own {w : World} {B n : Nat} {e : TypeId} {v : Value} {xs : List Value} (h : w.ownsRow B e 1 v n xs) (hn : 0 < n) : QS w B v n (fun j => xs.getD j undef) := by
  obtain ⟨hl, h⟩ := h
  rcases h with ⟨_, rfl⟩ | ⟨g, cap, cur, rfl, hg, hh, hnc, hcm, hsz, ht⟩
  · omega
  · have hlt : g < w.heap.size := by
      rcases Nat.lt_or_ge g w.heap.size with h' | h'
      · exact h'
      · rw [Array.getElem?_eq_none h'] at hh; cases hh
    refine .inr ⟨g, 0, cap, rfl, hnc, hcm, hg, hlt, fun j hj => ?_, fun j hj => ?_⟩
    · have hj' : j < cur.size := by omega
      constructor
      · simp [World.cell?, hh, hj']
      · simp [World.frozen?, hh]
    · have hj' : j < cur.size := by omega
      have hjl : j < xs.length := by omega
      have : xs[j]? = some cur[j] := by rw [← ht, List.getElem?_take, if_pos (by omega)]; simp [hj']
      simp [World.cell?, hh, hj', List.getD, this]

section
variable {P : Program} (w : World)
theorem run_append_q (B : Nat) (t ty e : TypeId) (i : TypeInfo) (z : Value) (bytes : Nat) (ht : P.underlying t = some (.slice e)) (hi : P.info? e = some i) (hz : i.zero = some z)
    (hsize : i.size = 1) (hby : i.bytes = bytes) (hzs : z.cells.size = 1) (v : Value) (m : Nat) (g : Nat → Value) (hq : QS w B v m g)
    (a : Addr) (c : Nat) (u : Value) (hu : w.cell? a = some u) (h1 : u.oneCell' = true) (h63 : m + 1 ≤ maxLen) (hbytes : (m + 1) * bytes ≤ 140737488355328) (hB : B ≤ w.heap.size) :
    ∃ v' w', (Builtin.append_ #[t, t] ty #[v, .slice (some a) 1 c]).run P w = .ok v' w' ∧ QS w' B v' (m + 1) (fun j => if j = m then u else g j) ∧ Only (fun k => B ≤ k) w w' := by
  have hnews : ∀ j x, [u][j]? = some x → w.cell? (a.add j) = some x := fun j x hj => by
    match j, hj with
    | 0, hj => simp at hj; subst hj; simpa [Addr.add] using hu
  rcases hq with ⟨rfl, rfl⟩ | ⟨b, o, cap, rfl, hmc, hcm, hBb, hbs, hcells, hg⟩
  · obtain ⟨v', w', hr, h2, h3, _⟩ := run_append_own (P := P) w B t ty e i z 1 bytes ht hi hz hsize hby hzs (by omega) (.slice none 0 0) 0 [] (World.ownsRow_nil w B e 1) a 1 c [u] rfl hnews (by simpa using h1) h63 hbytes hB
    refine ⟨v', w', hr, (QS.of_own h2 (by omega)).congr fun j hj => ?_, Only.of_grown h3 (fun k hk => by simp [Value.ownBlock] at hk)⟩
    have : j = 0 := by omega
    subst this; simp
  · by_cases hroom : m + 1 ≤ cap
    · have hcj := hcells m (by omega)
      have hr := run_append_room_cells (P := P) w t ty e i ht hi b o m cap a 1 c [u] (by rw [hsize]; rfl) hnews (by simpa using h1) hroom
        (fun j hj => by have : j = 0 := by simpa using hj
                        subst this; rw [hsize, Nat.mul_one, Nat.add_zero]; exact hcj.1)
        (fun j hj => by have : j = 0 := by simpa using hj
                        subst this; rw [hsize, Nat.mul_one, Nat.add_zero]; exact hcj.2)
      rw [hsize, Nat.mul_one] at hr
      have es : w.setCells b (o + m) [u] = w.setCell ⟨b, o + m, none⟩ u := rfl
      rw [es] at hr
      have hin := World.cell?_setCells_in b [u] (o + m) w (fun j hj => by have : j = 0 := by simpa using hj
                                                                          subst this; exact hcj.1) 0 (by simp)
      rw [es] at hin
      have hout : ∀ j, j ≠ m → (w.setCell ⟨b, o + m, none⟩ u).cell? ⟨b, o + j, none⟩ = w.cell? ⟨b, o + j, none⟩ := fun j hj => by
        rw [← es]
        exact World.cell?_setCells_out b [u] (o + m) w ⟨b, o + j, none⟩ (fun _ _ => by simp; omega)
      have hfz : ∀ j, (w.setCell ⟨b, o + m, none⟩ u).frozen? ⟨b, o + j, none⟩ = w.frozen? ⟨b, o + j, none⟩ := fun j => by
        rw [← es]; exact World.frozen?_setCells b [u] (o + m) w _
      refine ⟨_, _, hr, .inr ⟨b, o, cap, rfl, hroom, hcm, hBb, by simpa [World.setCell] using hbs, fun j hj => ⟨?_, by rw [hfz]; exact (hcells j hj).2⟩, fun j hj => ?_⟩, (Only.refl _ w).setCell (.inl hBb) u⟩
      · by_cases hjm : j = m
        · subst hjm; simp only [Nat.add_zero] at hin; rw [hin]; rfl
        · rw [hout j hjm]; exact (hcells j hj).1
      · by_cases hjm : j = m
        · subst hjm; simp only [Nat.add_zero] at hin; rw [hin]; simp
        · rw [hout j hjm, hg j (by omega)]; show some (g j) = some (if j = m then u else g j); rw [if_neg hjm]
    · have holds : ∀ j x, ((List.range m).map g)[j]? = some x → w.cell? ((⟨b, o, none⟩ : Addr).add j) = some x := fun j x hj => by
        have hjm : j < m := by
          rcases Nat.lt_or_ge j m with h' | h'
          · exact h'
          · rw [List.getElem?_eq_none (by simpa using h')] at hj; cases hj
        have e2 : x = g j := by simp [hjm] at hj; exact hj.symm
        subst e2
        have hadd : (⟨b, o, none⟩ : Addr).add j = ⟨b, o + j, none⟩ := by unfold Addr.add; split <;> simp_all
        rw [hadd]; exact hg j hjm
      obtain ⟨v', w', hr, h2, h3⟩ := run_append_arg_grows (P := P) w t ty e i z 1 bytes ht hi hz hsize hby hzs (by omega) ⟨b, o, none⟩ m cap ((List.range m).map g) (by simp) holds a 1 c [u] rfl hnews (by omega) h63 hbytes
      refine ⟨v', w', hr, ?_, Only.of_grown h3 (fun k hk => by cases hk)⟩
      have h4 := QS.of_own h2 (by omega)
      rcases h4 with ⟨_, h⟩ | ⟨b', o', cap', e', q1, q2, q3, q4, q5, q6⟩
      · omega
      · refine .inr ⟨b', o', cap', e', q1, q2, by omega, q4, q5, fun j hj => ?_⟩
        rw [q6 j hj]
        congr 1
        by_cases hjm : j = m
        · subst hjm; simp [List.getD]
        · have hj' : j < m := by omega
          simp [List.getD, hj', hjm, List.getElem?_append]
end

theorem wp_append_q {P : Program} {w : World} {o : Oper} {a : Act} {K : Act → World → Prop} {Q : Exit → Act → World → Prop} (s x : Operand) (t : TypeId)
    (ho : o.op = .call { callee := .builtin .append, args := #[s, x], argTypes := #[t, t] })
    (B : Nat) (e : TypeId) (i : TypeInfo) (z : Value) (bytes : Nat) (ht : P.underlying t = some (.slice e)) (hi : P.info? e = some i) (hz : i.zero = some z)
    (hsize : i.size = 1) (hby : i.bytes = bytes) (hzs : z.cells.size = 1) (v : Value) (m : Nat) (g : Nat → Value) (hs : a.eval s = v) (hq : QS w B v m g)
    (ad : Addr) (c : Nat) (u : Value) (hx : a.eval x = .slice (some ad) 1 c) (hu : w.cell? ad = some u) (h1 : u.oneCell' = true) (h63 : m + 1 ≤ maxLen) (hbytes : (m + 1) * bytes ≤ 140737488355328) (hB : B ≤ w.heap.size)
    (h : ∀ v' w', QS w' B v' (m + 1) (fun j => if j = m then u else g j) → Only (fun k => B ≤ k) w w' → K (a.put o.dst v') w') : o.wp P a w K Q := by
  obtain ⟨v', w', hr, h2, h3⟩ := run_append_q (P := P) w B t o.type e i z bytes ht hi hz hsize hby hzs v m g hq ad c u hu h1 h63 hbytes hB
  unfold Oper.wp execOp
  simp only [ho, resolve, invoke, builtin, Sem.run_bind, Sem.run_pure, Result.andThen_ok, List.map_toArray, List.map_cons, List.map_nil, hs, hx, hr]
  exact h v' w' h2 h3
theorem wpList_append_q {P : Program} {w : World} {ops : Array Oper} {rest : List Oper} {o : Oper} {a : Act} {Q : Exit → Act → World → Prop} (hgd : o.guard = none) (s x : Operand) (t : TypeId)
    (ho : o.op = .call { callee := .builtin .append, args := #[s, x], argTypes := #[t, t] })
    (B : Nat) (e : TypeId) (i : TypeInfo) (z : Value) (bytes : Nat) (ht : P.underlying t = some (.slice e)) (hi : P.info? e = some i) (hz : i.zero = some z)
    (hsize : i.size = 1) (hby : i.bytes = bytes) (hzs : z.cells.size = 1) (v : Value) (m : Nat) (g : Nat → Value) (hs : a.eval s = v) (hq : QS w B v m g)
    (ad : Addr) (c : Nat) (u : Value) (hx : a.eval x = .slice (some ad) 1 c) (hu : w.cell? ad = some u) (h1 : u.oneCell' = true) (h63 : m + 1 ≤ maxLen) (hbytes : (m + 1) * bytes ≤ 140737488355328) (hB : B ≤ w.heap.size)
    (h : ∀ v' w', QS w' B v' (m + 1) (fun j => if j = m then u else g j) → Only (fun k => B ≤ k) w w' → wpList P ops Q rest (a.put o.dst v') w') : wpList P ops Q (o :: rest) a w :=
  wpList_plain hgd fun _ hK => wp_append_q s x t ho B e i z bytes ht hi hz hsize hby hzs v m g hs hq ad c u hx hu h1 h63 hbytes hB fun v' w' h2 h3 => hK _ _ (h v' w' h2 h3)
end Go.Proofs.Ytnpidbodeebnkaa
