/- Joined texts. -/
import Derived.Test.YtffaahipgabkhaaGreatJn0
import Derived.Test.YtffaahipgabkhaaGreatJn2
import Derived.Test.YtffaahipgabkhaaGreatJn4
import Derived.Deep.OwnRows
import Derived.ArgAppend
import Derived.Laws.AppendOwn
import Derived.Laws.AppendOwnNone
set_option linter.unusedVariables false
set_option linter.unusedSimpArgs false
set_option maxRecDepth 100000
set_option maxHeartbeats 16000000
section
namespace Go.Proofs.YtffaahipgabkhaaGreat
open Go.RowKit
def QC (z : World) (B b o cap m : Nat) (g : Nat → Value) : Prop :=
 B ≤ b ∧ b < z.heap.size ∧ (∀ j, j < cap → (z.cell? ⟨b, o + j, none⟩).isSome = true ∧ z.frozen? ⟨b, o + j, none⟩ = false) ∧ ∀ j, j < m → z.cell? ⟨b, o + j, none⟩ = some (g j)
def QS (z : World) (B : Nat) (v : Value) (m : Nat) (g : Nat → Value) : Prop :=
 (v = .slice none 0 0 ∧ m = 0) ∨ ∃ b o cap, v = .slice (some ⟨b, o, none⟩) m cap ∧ m ≤ cap ∧ cap ≤ maxLen ∧ QC z B b o cap m g
theorem QC.only {S : Nat → Prop} {z z' : World} {B b o cap m : Nat} {g : Nat → Value} (h : QC z B b o cap m g) (ho : Only S z z') (hS : ∀ k, S k → k < B) : QC z' B b o cap m g := by
 obtain ⟨h1, h2, h3, h4⟩ := h
 have hn : ¬ S b := fun h => by have := hS b h; omega
 exact ⟨h1, Nat.lt_of_lt_of_le h2 ho.size, fun j hj => ⟨by rw [ho.cell h2 hn]; exact (h3 j hj).1, by rw [ho.frozen h2 hn]; exact (h3 j hj).2⟩, fun j hj => by rw [ho.cell h2 hn]; exact h4 j hj⟩
theorem QS.only {S : Nat → Prop} {z z' : World} {B m : Nat} {v : Value} {g : Nat → Value} (h : QS z B v m g) (ho : Only S z z') (hS : ∀ k, S k → k < B) : QS z' B v m g := by
 rcases h with h | ⟨b, o, cap, e, h1, h2, h3⟩
 ·exact .inl h
 ·exact .inr ⟨b, o, cap, e, h1, h2, h3.only ho hS⟩
theorem QS.below {z z' : World} {B m : Nat} {v : Value} {g : Nat → Value} (h : QS z B v m g) (hb : Below z.heap.size z z') : QS z' B v m g :=
 h.only (Only.of_below (S := fun _ => False) hb) (fun _ h => h.elim)
theorem QS.congr {z : World} {B m : Nat} {v : Value} {g g' : Nat → Value} (h : QS z B v m g) (e : ∀ j, j < m → g j = g' j) : QS z B v m g' := by
 rcases h with h | ⟨b, o, cap, h0, h1, h2, h3, h4, h5, h6⟩
 ·exact .inl h
 ·exact .inr ⟨b, o, cap, h0, h1, h2, h3, h4, h5, fun j hj => by rw [← e j hj]; exact h6 j hj⟩
theorem QS.nil (z : World) (B : Nat) (g : Nat → Value) : QS z B (.slice none 0 0) 0 g := .inl ⟨rfl, rfl⟩
theorem Only.of_grown {w w' : World} {row : Option Nat} {B : Nat} (h : w.grownBy w' row) (hr : ∀ k, row = some k → B ≤ k) : Only (fun k => B ≤ k) w w' :=
 ⟨h.os, h.tape, h.output, h.size, fun k hk hn => h.block k hk fun e => hn (hr k e.symm)⟩
theorem QS.of_own {w : World} {B n : Nat} {e : TypeId} {v : Value} {xs : List Value} (h : w.ownsRow B e 1 v n xs) (hn : 0 < n) : QS w B v n (fun j => xs.getD j undef) := by
 obtain ⟨hl, h⟩ := h
 rcases h with ⟨_, rfl⟩ | ⟨g, cap, cur, rfl, hg, hh, hnc, hcm, hsz, ht⟩
 ·omega
 ·have hlt : g < w.heap.size := by
   rcases Nat.lt_or_ge g w.heap.size with h' | h'
   ·exact h'
   ·rw [Array.getElem?_eq_none h'] at hh; cases hh
  refine .inr ⟨g, 0, cap, rfl, hnc, hcm, hg, hlt, fun j hj => ?_, fun j hj => ?_⟩
  ·have hj' : j < cur.size := by omega
   constructor
   ·simp [World.cell?, hh, hj']
   ·simp [World.frozen?, hh]
  ·have hj' : j < cur.size := by omega
   have hjl : j < xs.length := by omega
   have : xs[j]? = some cur[j] := by rw [← ht, List.getElem?_take, if_pos (by omega)]; simp [hj']
   simp [World.cell?, hh, hj', List.getD, this]
section
variable {P : Program} (w : World)
theorem run_append_q (B : Nat) (t ty e : TypeId) (i : TypeInfo) (z : Value) (bytes : Nat) (ht : P.underlying t = some (.slice e)) (hi : P.info? e = some i) (hz : i.zero = some z)
  (hsize : i.size = 1) (hby : i.bytes = bytes) (hzs : z.cells.size = 1) (v : Value) (m : Nat) (g : Nat → Value) (hq : QS w B v m g)
  (a : Addr) (c : Nat) (u : Value) (hu : w.cell? a = some u) (h1 : u.oneCell' = true) (h63 : m + 1 ≤ maxLen) (hbytes : (m + 1) * bytes ≤ 140737488355328) (hB : B ≤ w.heap.size) :
  ∃ v' w', (Builtin.append_ #[t, t] ty #[v, .slice (some a) 1 c]).run P w = .ok v' w' ∧ QS w' B v' (m + 1) (fun j => if j = m then u else g j) ∧ Only (fun k => B ≤ k) w w' := by
 have hnews : ∀ j x, [u][j]? = some x → w.cell? (a.add j) = some x := fun j x hj => by
  match j, hj with
  | 0, hj => simp at hj; subst hj; simpa [Addr.add] using hu
 rcases hq with ⟨rfl, rfl⟩ | ⟨b, o, cap, rfl, hmc, hcm, hBb, hbs, hcells, hg⟩
 ·obtain ⟨v', w', hr, h2, h3, _⟩ := run_append_own (P := P) w B t ty e i z 1 bytes ht hi hz hsize hby hzs (by omega) (.slice none 0 0) 0 [] (World.ownsRow_nil w B e 1) a 1 c [u] rfl hnews (by simpa using h1) h63 hbytes hB
  refine ⟨v', w', hr, (QS.of_own h2 (by omega)).congr fun j hj => ?_, Only.of_grown h3 (fun k hk => by simp [Value.ownBlock] at hk)⟩
  have : j = 0 := by omega
  subst this; simp
 ·by_cases hroom : m + 1 ≤ cap
  ·have hcj := hcells m (by omega)
   have hr := run_append_room_cells (P := P) w t ty e i ht hi b o m cap a 1 c [u] (by rw [hsize]; rfl) hnews (by simpa using h1) hroom
    (fun j hj => by have : j = 0 := by simpa using hj
                    subst this; rw [hsize, Nat.mul_one, Nat.add_zero]; exact hcj.1)
    (fun j hj => by have : j = 0 := by simpa using hj
                    subst this; rw [hsize, Nat.mul_one, Nat.add_zero]; exact hcj.2)
   rw [hsize, Nat.mul_one] at hr
   have es : w.setCells b (o + m) [u] = w.setCell ⟨b, o + m, none⟩ u := rfl
   rw [es] at hr
   have hin := World.cell?_setCells_in b [u] (o + m) w (fun j hj => by have : j = 0 := by simpa using hj
                                                                       subst this; exact hcj.1) 0 (by simp)
   rw [es] at hin
   have hout : ∀ j, j ≠ m → (w.setCell ⟨b, o + m, none⟩ u).cell? ⟨b, o + j, none⟩ = w.cell? ⟨b, o + j, none⟩ := fun j hj => by
    rw [← es]
    exact World.cell?_setCells_out b [u] (o + m) w ⟨b, o + j, none⟩ (fun _ _ => by simp; omega)
   have hfz : ∀ j, (w.setCell ⟨b, o + m, none⟩ u).frozen? ⟨b, o + j, none⟩ = w.frozen? ⟨b, o + j, none⟩ := fun j => by
    rw [← es]; exact World.frozen?_setCells b [u] (o + m) w _
   refine ⟨_, _, hr, .inr ⟨b, o, cap, rfl, hroom, hcm, hBb, by simpa [World.setCell] using hbs, fun j hj => ⟨?_, by rw [hfz]; exact (hcells j hj).2⟩, fun j hj => ?_⟩, (Only.refl _ w).setCell (.inl hBb) u⟩
   ·by_cases hjm : j = m
    ·subst hjm; simp only [Nat.add_zero] at hin; rw [hin]; rfl
    ·rw [hout j hjm]; exact (hcells j hj).1
   ·by_cases hjm : j = m
    ·subst hjm; simp only [Nat.add_zero] at hin; rw [hin]; simp
    ·rw [hout j hjm, hg j (by omega)]; show some (g j) = some (if j = m then u else g j); rw [if_neg hjm]
  ·have holds : ∀ j x, ((List.range m).map g)[j]? = some x → w.cell? ((⟨b, o, none⟩ : Addr).add j) = some x := fun j x hj => by
    have hjm : j < m := by
     rcases Nat.lt_or_ge j m with h' | h'
     ·exact h'
     ·rw [List.getElem?_eq_none (by simpa using h')] at hj; cases hj
    have e2 : x = g j := by simp [hjm] at hj; exact hj.symm
    subst e2
    have hadd : (⟨b, o, none⟩ : Addr).add j = ⟨b, o + j, none⟩ := by unfold Addr.add; split <;> simp_all
    rw [hadd]; exact hg j hjm
   obtain ⟨v', w', hr, h2, h3⟩ := run_append_arg_grows (P := P) w t ty e i z 1 bytes ht hi hz hsize hby hzs (by omega) ⟨b, o, none⟩ m cap ((List.range m).map g) (by simp) holds a 1 c [u] rfl hnews (by omega) h63 hbytes
   refine ⟨v', w', hr, ?_, Only.of_grown h3 (fun k hk => by cases hk)⟩
   have h4 := QS.of_own h2 (by omega)
   rcases h4 with ⟨_, h⟩ | ⟨b', o', cap', e', q1, q2, q3, q4, q5, q6⟩
   ·omega
   ·refine .inr ⟨b', o', cap', e', q1, q2, by omega, q4, q5, fun j hj => ?_⟩
    rw [q6 j hj]
    congr 1
    by_cases hjm : j = m
    ·subst hjm; simp [List.getD]
    ·have hj' : j < m := by omega
     simp [List.getD, hj', hjm, List.getElem?_append]
end
theorem wp_append_q {P : Program} {w : World} {o : Oper} {a : Act} {K : Act → World → Prop} {Q : Exit → Act → World → Prop} (s x : Operand) (t : TypeId)
  (ho : o.op = .call { callee := .builtin .append, args := #[s, x], argTypes := #[t, t] })
  (B : Nat) (e : TypeId) (i : TypeInfo) (z : Value) (bytes : Nat) (ht : P.underlying t = some (.slice e)) (hi : P.info? e = some i) (hz : i.zero = some z)
  (hsize : i.size = 1) (hby : i.bytes = bytes) (hzs : z.cells.size = 1) (v : Value) (m : Nat) (g : Nat → Value) (hs : a.eval s = v) (hq : QS w B v m g)
  (ad : Addr) (c : Nat) (u : Value) (hx : a.eval x = .slice (some ad) 1 c) (hu : w.cell? ad = some u) (h1 : u.oneCell' = true) (h63 : m + 1 ≤ maxLen) (hbytes : (m + 1) * bytes ≤ 140737488355328) (hB : B ≤ w.heap.size)
  (h : ∀ v' w', QS w' B v' (m + 1) (fun j => if j = m then u else g j) → Only (fun k => B ≤ k) w w' → K (a.put o.dst v') w') : o.wp P a w K Q := by
 obtain ⟨v', w', hr, h2, h3⟩ := run_append_q (P := P) w B t o.type e i z bytes ht hi hz hsize hby hzs v m g hq ad c u hu h1 h63 hbytes hB
 unfold Oper.wp execOp
 simp only [ho, resolve, invoke, builtin, Sem.run_bind, Sem.run_pure, Result.andThen_ok, List.map_toArray, List.map_cons, List.map_nil, hs, hx, hr]
 exact h v' w' h2 h3
theorem wpList_append_q {P : Program} {w : World} {ops : Array Oper} {rest : List Oper} {o : Oper} {a : Act} {Q : Exit → Act → World → Prop} (hgd : o.guard = none) (s x : Operand) (t : TypeId)
  (ho : o.op = .call { callee := .builtin .append, args := #[s, x], argTypes := #[t, t] })
  (B : Nat) (e : TypeId) (i : TypeInfo) (z : Value) (bytes : Nat) (ht : P.underlying t = some (.slice e)) (hi : P.info? e = some i) (hz : i.zero = some z)
  (hsize : i.size = 1) (hby : i.bytes = bytes) (hzs : z.cells.size = 1) (v : Value) (m : Nat) (g : Nat → Value) (hs : a.eval s = v) (hq : QS w B v m g)
  (ad : Addr) (c : Nat) (u : Value) (hx : a.eval x = .slice (some ad) 1 c) (hu : w.cell? ad = some u) (h1 : u.oneCell' = true) (h63 : m + 1 ≤ maxLen) (hbytes : (m + 1) * bytes ≤ 140737488355328) (hB : B ≤ w.heap.size)
  (h : ∀ v' w', QS w' B v' (m + 1) (fun j => if j = m then u else g j) → Only (fun k => B ≤ k) w w' → wpList P ops Q rest (a.put o.dst v') w') : wpList P ops Q (o :: rest) a w :=
 wpList_plain hgd fun _ hK => wp_append_q s x t ho B e i z bytes ht hi hz hsize hby hzs v m g hs hq ad c u hx hu h1 h63 hbytes hB fun v' w' h2 h3 => hK _ _ (h v' w' h2 h3)
end Go.Proofs.YtffaahipgabkhaaGreat
end
section
namespace Go.Proofs.YtffaahipgabkhaaGreat
open Go.RowKit Fg Reg
section
variable {α : Type} {cells : α → List Value} {s : Nat}
structure CellsOf (cells : α → List Value) (s : Nat) : Prop where
 len : ∀ x, (cells x).length = s
 one : ∀ x, ∀ v ∈ cells x, v.oneCell' = true
 pos : 0 < s
def RwV (cells : α → List Value) (s : Nat) (w : World) (a : Option Addr) (l : List α) : Prop := ∀ k (h : k < l.length), ∃ b o, a = some ⟨b, o, none⟩ ∧ b < w.heap.size ∧ w.rangeAt b (o + k * s) (cells l[k])
theorem RwV.nil (w : World) (a : Option Addr) : RwV cells s w a [] := fun k h => absurd h (Nat.not_lt_zero _)
theorem RwV.below {w w' : World} {a : Option Addr} {l : List α} (h : RwV cells s w a l) (hb : Below w.heap.size w w') : RwV cells s w' a l := fun k hk => by
 obtain ⟨b, o, e, h1, h2⟩ := h k hk
 exact ⟨b, o, e, Nat.lt_of_lt_of_le h1 hb.size, fun j v hv => (hb.cell (p := ⟨b, o + k * s + j, none⟩) h1).trans (h2 j v hv)⟩
theorem RwV.only {S : Nat → Prop} {w w' : World} {a : Option Addr} {l : List α} (h : RwV cells s w a l) (hb : Only S w w') (hS : ∀ ad, a = some ad → ¬ S ad.block) : RwV cells s w' a l := fun k hk => by
 obtain ⟨b, o, e, h1, h2⟩ := h k hk
 exact ⟨b, o, e, Nat.lt_of_lt_of_le h1 hb.size, fun j v hv => (hb.cell h1 (hS _ e)).trans (h2 j v hv)⟩
theorem flat_get (C : CellsOf cells s) (l : List α) (k j : Nat) (hk : k < l.length) (hj : j < s) : (l.flatMap cells)[k * s + j]? = (cells l[k])[j]? := by
 induction l generalizing k with
 | nil => exact absurd hk (Nat.not_lt_zero _)
 | cons x l ih =>
  have hl := C.len x
  rw [List.flatMap_cons]
  cases k with
  | zero => rw [List.getElem?_append_left (by omega), Nat.zero_mul, Nat.zero_add]; rfl
  | succ k =>
   rw [List.getElem?_append_right (by rw [Nat.succ_mul]; omega), hl, show (k + 1) * s + j - s = k * s + j by rw [Nat.succ_mul]; omega]
   exact ih k (by simpa using hk)
theorem RwV.of_own (C : CellsOf cells s) {z : World} {B : Nat} {v : Value} {t : TypeId} {l : List α} (h : z.ownsRow B t s v l.length (l.flatMap cells)) :
  ∃ a cap, v = .slice a l.length cap ∧ RwV cells s z a l ∧ l.length ≤ cap ∧ cap ≤ maxLen ∧ ∀ ad, a = some ad → B ≤ ad.block ∧ ad.block < z.heap.size := by
 rcases h.2 with ⟨h1, h2⟩ | ⟨b, cap, cur, rfl, h2, h3, h4, h5, h6⟩
 ·exact ⟨none, 0, by rw [h2]; exact h1, fun k hk => absurd hk (by omega), by omega, by omega, fun ad h => by cases h⟩
 ·refine ⟨_, cap, rfl, fun k hk => ⟨b, 0, rfl, (h.lt b rfl).2, fun j v hv => ?_⟩, h4, h5, fun ad hd => by cases hd; exact ⟨h2, (h.lt b rfl).2⟩⟩
  have hj : j < s := by have := (List.getElem?_eq_some_iff.1 hv).1; rwa [C.len] at this
  have hkj : k * s + j < l.length * s := by
   have : (k + 1) * s ≤ l.length * s := Nat.mul_le_mul_right s hk
   rw [Nat.succ_mul] at this
   omega
  rw [Nat.zero_add, h.cellAt _ hkj, flat_get C l k j hk hj]
  exact hv
theorem RwV.snoc {w : World} {a : Option Addr} {l : List α} {k : Nat} (h : RwV cells s w a l) : RwV cells s w a (l.take k) := fun i hi => by
 have hi' : i < l.length := by simp at hi; omega
 obtain ⟨b, o, e, h1, h2⟩ := h i hi'
 exact ⟨b, o, e, h1, by simpa using h2⟩
end
theorem row_only {S : Nat → Prop} {w w' : World} {base : Nat} {e : TypeId} {size n : Nat} {v : Value} {xs : List Value} (h : w.ownsRow base e size v n xs) (ho : Only S w w') (hS : ∀ k, S k → base ≤ k → False) : w'.ownsRow base e size v n xs := by
 refine ⟨h.1, ?_⟩
 rcases h.2 with h' | ⟨g, cap, cur, h1, h2, h3, h4⟩
 ·exact .inl h'
 ·refine .inr ⟨g, cap, cur, h1, h2, ?_, h4⟩
  have hlt : g < w.heap.size := by
   rcases Nat.lt_or_ge g w.heap.size with h | h
   ·exact h
   ·rw [Array.getElem?_eq_none h] at h3; cases h3
  exact (ho.block g hlt (fun e => hS g e h2)).trans h3
theorem row_bel {w w' : World} {base : Nat} {e : TypeId} {size n : Nat} {v : Value} {xs : List Value} (h : w.ownsRow base e size v n xs) (hb : Below w.heap.size w w') : w'.ownsRow base e size v n xs :=
 row_only (S := fun _ => False) h (Only.of_below hb) (fun _ h => h.elim)
theorem row_form {z : World} {B m size : Nat} {e : TypeId} {v : Value} {xs : List Value} (h : z.ownsRow B e size v m xs) : ∃ ao cap, v = .slice ao m cap := by
 rcases h.2 with ⟨rfl, rfl⟩ | ⟨b, cap, cur, rfl, _⟩
 ·exact ⟨none, 0, rfl⟩
 ·exact ⟨_, cap, rfl⟩
theorem only_grown' {w w' : World} {row : Option Nat} (h : w.grownBy w' row) : Only (fun k => row = some k) w w' :=
 ⟨h.os, h.tape, h.output, h.size, fun k hk hn => h.block k hk fun e => hn e.symm⟩
end Go.Proofs.YtffaahipgabkhaaGreat
end
section
namespace Go.Proofs.YtffaahipgabkhaaGreat
open Go.RowKit Fg Reg
theorem grown_refl (w : World) (row : Option Nat) : w.grownBy w row := ⟨rfl, rfl, rfl, Nat.le_refl _, fun _ _ _ => rfl⟩
end Go.Proofs.YtffaahipgabkhaaGreat
end
section
namespace Go.Proofs.YtffaahipgabkhaaGreat
open Go.RowKit Fg Reg Go.Maps
attribute [local irreducible] Reg.wE
theorem ids1_c (c : Cls) (w : World) : Calls Tryz.prog 43 #[.agg #[.int .i64 c.id, .int .i64 c.par, .bool c.leaf, .int .u64 c.ra, .int .u64 c.rb, .int .u64 c.rc, .int .u64 c.la, .int .u64 c.lb, .int .u64 c.lc, .int .u64 c.ua, .int .u64 c.ub, .int .u64 c.uc, .int .i64 c.pk, .int .i64 c.bt]] w fun ee w' => ee = .returned (.bool true) ∧ Below w.heap.size w w' := by
 go_enter Tryz.func43, Tryz.ntmps43
 go_wp2
 refine bodyPost_ret (v := (.bool true)) (by simp [results, Tryz.results43, go_sem, *]) rfl ⟨rfl, ?_⟩
 exact bub
theorem int_partsH : ∃ i, Tryz.prog.info? 3 = some i ∧ i.zero = some (.int .i64 0) ∧ i.size = 1 ∧ i.bytes = 8 := ⟨_, rfl, rfl, rfl, rfl⟩
theorem len_sub : ∀ {A L : List Int}, A.Nodup → (∀ x ∈ A, x ∈ L) → A.length ≤ L.length
 | [], L, _, _ => Nat.zero_le _
 | a :: A, L, h, hs => by
  rw [List.nodup_cons] at h
  have ha : a ∈ L := hs a List.mem_cons_self
  have := len_sub (L := L.erase a) h.2 fun x hx => (List.mem_erase_of_ne (fun e => h.1 (by rw [← e]; exact hx))).2 (hs x (List.mem_cons_of_mem _ hx))
  rw [List.length_erase_of_mem ha] at this
  have hp := List.length_pos_of_mem ha
  rw [List.length_cons]
  omega
theorem thoseAll_c {w : World} {tb mb : Nat} {f : Int → Option Cls} (h : HT w tb mb f) (L : List Int) (hL : L.Nodup) (hm : ∀ x, (f x).isSome = true ↔ x ∈ L) (hn : L.length ≤ 1000) (hok : ∀ x ∈ L, iok x) :
  Calls Tryz.prog 42 #[.pointer (some ⟨tb, 0, none⟩), .func (.func 43) #[] #[]] w fun e w' => ∃ (v : Value) (M : List Int), e = .returned v ∧ M.Perm L ∧ w'.ownsRow (w.heap.size + 1) 3 1 v M.length ((M.mergeSort (fun x y => decide (x ≤ y))).map (Value.int .i64)) ∧ Below w.heap.size w w' := by
 obtain ⟨n0, hmp⟩ := h.mp
 obtain ⟨ii, ci0, cz0, cz1, cz2⟩ := int_partsH
 have CI0 := Lib.hid ci0
 have CZ0 := Lib.hid cz0
 have CZ1 := Lib.hid cz1
 have CZ2 := Lib.hid cz2
 have HMP := Lib.hid hmp
 have HMB := Lib.hid h.mlt
 have HL := Lib.hid hL
 have HM := Lib.hid hm
 have HOK := Lib.hid hok
 have c0 := h.c0
 have lt := h.lt
 obtain ⟨base, hbase⟩ : ∃ base, w.heap.size + 1 = base := ⟨_, rfl⟩
 rw [hbase]
 have HBA := Lib.hid hbase
 clear h hmp hL hm hok hbase ci0 cz0 cz1 cz2
 go_enter Tryz.func42, Tryz.ntmps42
 go_wp2_with (first | go_guarded | (refine wpList_range_itm rfl _ 77 _ _ rfl Tryz.underlying77 mb n0 _ rfl HMP.out rfl ?_; intro w1 hI hbel hs1; have HI0 := Lib.hid hI; have HB0 := Lib.hid hbel; clear hI hbel))
 go_frame
 go_loopg [5] L.length (fun k9 s5 wr => ∃ (ks : List Int) (m : Nat) (ao : Option Addr) (c : Nat), s5 = .slice ao m c ∧ ks.length = m ∧ ks.Nodup ∧ (∀ x ∈ ks, x ∈ L) ∧ L.length - m ≤ k9 ∧ ItM ikv clv iok f ks wr w.heap.size mb ∧ wr.ownsRow base 3 1 (.slice ao m c) m (ks.map (Value.int .i64)) ∧ base ≤ wr.heap.size ∧ Below w.heap.size w wr)
 case atStart => exact ⟨[], 0, none, 0, rfl, rfl, List.nodup_nil, fun x hx => by simp at hx, by simp, HI0.out, World.ownsRow_nil _ _ _ _, by rw [hs1]; exact Nat.le_of_eq HBA.out.symm, HB0.out⟩
 case round =>
  obtain ⟨ks, m, ao, c, rfl, hkm, hnd, hsub, hk, hI, hO, hbs, hB⟩ := hrel
  have HI := Lib.hid hI
  have HO := Lib.hid hO
  have HB := Lib.hid hB
  have HND := Lib.hid hnd
  have HSUB := Lib.hid hsub
  have HKM := Lib.hid hkm
  have hml : m ≤ L.length := by rw [← hkm]; exact len_sub hnd hsub
  clear hI hO hnd hsub hkm
  by_cases hall : ∃ x v, iok x ∧ f x = some v ∧ x ∉ ks
  ·have HALL := Lib.hid hall
   clear hall
   go_wp2_with (first
    | go_guarded
    | (refine wpList_next_more rfl _ rfl w.heap.size mb rfl HI.out HALL.out (fun a b _ _ h => by simpa [ikv] using h) ?_; intro x cl w3 hx hnx hf hen hI3 ho3 hs3; (simp only [ikv, clv] at hen ⊢); have HI3 := Lib.hid hI3; have HO3 := Lib.hid (row_only HO.out ho3 (fun k hk hb => by have := HBA.out; omega)); have HON := Lib.hid ho3; have HX := Lib.hid hx; have HNX := Lib.hid hnx; have HF := Lib.hid hf; clear hI3 ho3 hx hnx hf)
    | (go_at_call 43; (with_reducible refine (ids1_c _ _).mono ?_); rintro _ w5 ⟨rfl, hbel⟩; have hs5 := hbel.size; (try simp at hs5); have HI5 := Lib.hid ((HI3.out.frame (heap_alloc_old _ _ HI3.out.lt.1) (heap_alloc_old _ _ HI3.out.lt.2)).below hbel); have HO5 := Lib.hid (row_bel (World.ownsRow.alloc HO3.out _) hbel); have HB5 : Hid (Below base w3 w5) := Lib.hid ((Below.alloc (Below.refl _ _) (by omega) _).trans (hbel.mono (by simp; omega))); clear hbel)
    | (at_builtin; refine wpList_append_own _ rfl _ _ 36 rfl base 3 ii (.int .i64 0) 1 8 Tryz.underlying36 CI0.out CZ0.out CZ1.out CZ2.out rfl (by decide) (.slice ao m c) _ _ rfl (World.ownsRow.alloc HO5.out _) ⟨_, 0, none⟩ 1 1 [Value.int .i64 x] rfl rfl ?c1 ?c2 ?c3 ?c4 ?c5 ?_; (case c1 => (intro q u hu; rcases q with _ | q <;> simp at hu <;> (try subst hu) <;> simp [Addr.add, go_sem, *])); (case c2 => (intro v hv; simp at hv; subst hv; rfl)); (case c3 => (unfold maxLen; omega)); (case c4 => omega); (case c5 => (simp; omega)); intro v2 z2 hown2 hg2 _; (have hb2 : Below base w5 z2 := (Below.alloc (Below.refl _ _) (by omega) _).grown hg2 (by simp; omega) (fun q hq => (HO5.out.lt q hq).1)); obtain ⟨a2, c2, rfl⟩ := row_form hown2; (have HO2 := Lib.hid hown2); (have HB2 := Lib.hid hb2); clear hown2 hg2 hb2))
   have hnd2 : (ks ++ [x]).Nodup := List.nodup_append.2 ⟨HND.out, by simp, fun a ha b hb => by rw [List.mem_singleton] at hb; subst hb; rintro rfl; exact HNX.out ha⟩
   have hsub2 : ∀ y ∈ ks ++ [x], y ∈ L := fun y hy => by
    rcases List.mem_append.1 hy with g | g
    ·exact HSUB.out y g
    ·rw [List.mem_singleton] at g; subst g; exact (HM.out y).1 (by rw [HF.out]; rfl)
   have hm1 := len_sub hnd2 hsub2
   rw [List.length_append, List.length_singleton, HKM.out] at hm1
   go_roundg (L.length - (m + 1))
   case rel =>
    refine ⟨ks ++ [x], m + 1, a2, c2, rfl, by rw [List.length_append, List.length_singleton, HKM.out], hnd2, hsub2, Nat.le_refl _, ?_, ?_, ?_, ?_⟩
    ·exact HI5.out.frame (HB2.out.block _ (by have := HBA.out; omega)) (HB2.out.block _ (by have := HBA.out; have := HMB.out; omega))
    ·rw [List.map_append]; exact HO2.out
    ·have h5 := HB5.out.size
     have h2 := HB2.out.size
     omega
    ·have hbw := HB.out.size
     have h1 : Below w.heap.size wr w3 := ⟨HON.out.1, HON.out.2, HON.out.3, HON.out.4, fun k hk => HON.out.5 k (by omega) (by omega)⟩
     have hba := HBA.out
     exact HB.out.trans (h1.trans ((HB5.out.mono (by omega)).trans (HB2.out.mono (by omega))))
   case measure => omega
  ·have hd : ∀ x v, iok x → f x = some v → x ∈ ks := fun x v hx hf => Classical.byContradiction fun hn => hall ⟨x, v, hx, hf, hn⟩
   have hpm : ks.Perm L := (List.perm_ext_iff_of_nodup HND.out HL.out).2 fun x => ⟨HSUB.out x, fun hx => by
    obtain ⟨v, hv⟩ := Option.isSome_iff_exists.1 ((HM.out x).2 hx)
    exact hd x v (HOK.out x hx) hv⟩
   have HD := Lib.hid hd
   have HPM := Lib.hid hpm
   clear hd hpm hall
   have hkm := HKM.out
   subst hkm
   go_wp2_with (first
    | go_guarded
    | (refine wpList_next_end rfl _ rfl w.heap.size mb rfl HI.out HD.out ?_)
    | (go_at_call 32; (with_reducible refine (sortI_c HO.out (by omega)).mono ?_); rintro _ w5 ⟨rfl, hrow, hbel⟩; have HR5 := Lib.hid hrow; have HO5 := Lib.hid hbel; clear hrow hbel))
   go_ret
   have hbw := HB.out.size
   have hba := HBA.out
   have h1 : Below w.heap.size wr w5 := ⟨HO5.out.1, HO5.out.2, HO5.out.3, HO5.out.4, fun k hk => HO5.out.5 k (by omega) (by omega)⟩
   exact ⟨_, ks, rfl, HPM.out, HR5.out, HB.out.trans h1⟩
end Go.Proofs.YtffaahipgabkhaaGreat
end
section
namespace Go.Proofs.YtffaahipgabkhaaGreat
open Go.RowKit Fg Reg Go.Maps
attribute [local irreducible] Reg.wE
theorem ms_eq {L M : List Int} (h : L.Pairwise (· < ·)) (hp : M.Perm L) : M.mergeSort (fun x y => decide (x ≤ y)) = L := by
 refine List.Perm.eq_of_pairwise (le := fun x y : Int => x ≤ y) (fun a b _ _ h1 h2 => by omega) ?_ ?_ ((List.mergeSort_perm _ _).trans hp)
 ·refine List.Pairwise.imp ?_ (List.pairwise_mergeSort (le := fun x y => decide ((x : Int) ≤ y)) (fun a b c h1 h2 => ?_) (fun a b => ?_) M)
  ·intro a b h; exact of_decide_eq_true h
  ·have h1 := of_decide_eq_true h1; have h2 := of_decide_eq_true h2; exact decide_eq_true (by omega)
  ·simp only [Bool.or_eq_true, decide_eq_true_eq]; omega
 ·exact h.imp fun h => by omega
theorem nd_lt {L : List Int} (h : L.Pairwise (· < ·)) : L.Nodup := h.imp fun h => by omega
theorem ids_c {w : World} {tb mb : Nat} {f : Int → Option Cls} (h : HT w tb mb f) (L : List Int) (hL : L.Pairwise (· < ·)) (hm : ∀ x, (f x).isSome = true ↔ x ∈ L) (hn : L.length ≤ 1000) (hok : ∀ x ∈ L, iok x) :
  Calls Tryz.prog 18 #[.pointer (some ⟨tb, 0, none⟩)] w fun e w' => ∃ v, e = .returned v ∧ w'.ownsRow (w.heap.size + 1) 3 1 v L.length (L.map (Value.int .i64)) ∧ Below w.heap.size w w' := by
 have K : Hid (Calls Tryz.prog 42 #[.pointer (some ⟨tb, 0, none⟩), .func (.func 43) #[] #[]] w fun e w' => ∃ v : Value, e = .returned v ∧ w'.ownsRow (w.heap.size + 1) 3 1 v L.length (L.map (Value.int .i64)) ∧ Below w.heap.size w w') := Lib.hid (by
  refine (thoseAll_c h L (nd_lt hL) hm hn hok).mono ?_
  rintro e w' ⟨v, M, rfl, hp, hr, hb⟩
  rw [ms_eq hL hp, hp.length_eq] at hr
  exact ⟨v, rfl, hr, hb⟩)
 clear h hm hok
 go_enter Tryz.func18, Tryz.ntmps18
 go_wp2_with (first | go_guarded | (go_at_call 42; (with_reducible refine K.out.mono ?_); rintro _ w1 ⟨v, rfl, hr, hb⟩))
 go_ret
 exact ⟨v, rfl, hr, hb⟩
end Go.Proofs.YtffaahipgabkhaaGreat
end
