/- Packets of each class that wait: a map of rows. -/
import Derived.Test.YtlenmhbhakeonaaIk0
import Derived.Test.YtlenmhbhakeonaaMr0
import Derived.Test.YtlenmhbhakeonaaEv1
import Derived.Test.YtlenmhbhakeonaaRegS
import Derived.OpenShut
namespace Go.Proofs.Ytlenmhbhakeonaa
set_option linter.unusedVariables false
set_option linter.unusedSimpArgs false
set_option maxRecDepth 100000
open Go.RowKit Fg Reg
attribute [local irreducible] Reg.wE

structure Pk where
  i : Int
  n : Int
  a : Int
  b : Int
  c : Int
  d : Int
deriving DecidableEq
instance : Inhabited Pk := ⟨⟨0, 0, 0, 0, 0, 0⟩⟩
def Pk.cells (p : Pk) : List Value := [.int .u64 p.i, .int .i64 p.n, .int .u16 p.a, .int .u16 p.b, .int .u16 p.c, .int .u16 p.d]
theorem pkC : CellsOf Pk.cells 6 := ⟨fun _ => rfl, fun x v hv => by simp [Pk.cells] at hv; rcases hv with rfl | rfl | rfl | rfl | rfl | rfl <;> rfl, by decide⟩
def Ev.pk (e : Ev) : Pk := ⟨e.id, e.ln, e.a, e.b, e.c, e.d⟩
theorem pk_info : (Try.prog.info? 94).map (fun i => (i.zero, i.size, i.bytes)) = some (some (.agg #[.int .u64 ((default : Pk)).i, .int .i64 ((default : Pk)).n, .int .u16 ((default : Pk)).a, .int .u16 ((default : Pk)).b, .int .u16 ((default : Pk)).c, .int .u16 ((default : Pk)).d]), 6, 24) := by kernel_rfl
theorem pk_parts : ∃ i, Try.prog.info? 94 = some i ∧ i.zero = some (.agg #[.int .u64 0, .int .i64 0, .int .u16 0, .int .u16 0, .int .u16 0, .int .u16 0]) ∧ i.size = 6 ∧ i.bytes = 24 := by
  obtain ⟨i, hi, h⟩ := Option.map_eq_some_iff.1 pk_info
  injection h with h1 h2
  injection h2 with h2 h3
  exact ⟨i, hi, h1, h2, h3⟩
/-- What waits behind an event. -/
def wlearn (W : Int → List Pk) (e : Ev) : Int → List Pk := fun c => if c = e.cls then (if e.inn = true then W c ++ [e.pk] else (W c).tail) else W c
/-- A map of rows of packets: the slice of a class, its packets, its block. -/
structure MW (z : World) (mw B : Nat) (f : Int → Option Value) (W : Int → List Pk) (bk : Int → Option Nat) : Prop where
  mp : ∃ n, Mp ikv (fun v : Value => v) iok f n z mw
  lt : mw < B
  rows : ∀ c, QR z B 6 ((f c).getD (.slice none 0 0)) (W c).length ((W c).flatMap Pk.cells) (bk c)
  ap : ∀ c c' b, c ≠ c' → bk c = some b → bk c' ≠ some b
theorem MW.only {S : Nat → Prop} {z z' : World} {mw B : Nat} {f : Int → Option Value} {W : Int → List Pk} {bk : Int → Option Nat} (h : MW z mw B f W bk) (ho : Only S z z') (h1 : ¬ S mw) (h2 : ∀ c b, bk c = some b → ¬ S b) : MW z' mw B f W bk := by
  obtain ⟨n, hn⟩ := h.mp
  exact ⟨⟨n, hn.frame (ho.block mw hn.lt h1)⟩, h.lt, fun c => (h.rows c).only ho (h2 c), h.ap⟩
theorem MW.below {z z' : World} {mw B : Nat} {f : Int → Option Value} {W : Int → List Pk} {bk : Int → Option Nat} (h : MW z mw B f W bk) (hb : Below z.heap.size z z') : MW z' mw B f W bk := h.only (Only.of_below (S := fun _ => False) hb) (fun h => h) (fun _ _ _ h => h)
theorem wz0 (z : World) : (zeroValue 86).run Try.prog z = .ok (.slice none 0 0) z := by kernel_rfl
theorem MW.look {z : World} {mw B : Nat} {f : Int → Option Value} {W : Int → List Pk} {bk : Int → Option Nat} (h : MW z mw B f W bk) {c : Int} (hc : iok c) : (Instr.lookup 132 (.map (some mw)) (.int .i64 c) false).run Try.prog z = .ok ((f c).getD (.slice none 0 0)) z := by
  obtain ⟨n, hn⟩ := h.mp
  have := Mp.look false hn ikok Try.underlying132 (wz0 z) hc
  have e : mget (.slice none 0 0) (fun v : Value => v) (f c) = (f c).getD (.slice none 0 0) := by cases f c <;> rfl
  rw [e] at this
  exact this
def updW {α : Type} (f : Int → α) (c : Int) (v : α) : Int → α := fun x => if x = c then v else f x
/-- One class's row is another one. -/
theorem MW.put {z z1 z2 : World} {mw B : Nat} {f : Int → Option Value} {W : Int → List Pk} {bk : Int → Option Nat} {c : Int} {v : Value} {L : List Pk} {bc : Option Nat} {n : Nat} (h : MW z mw B f W bk)
    (ho : Only (fun k => bk c = some k) z z1) (hq : QR z1 B 6 v L.length (L.flatMap Pk.cells) bc) (hbc : ∀ b, bc = some b → bk c = some b ∨ z.heap.size ≤ b) (hm : Mp ikv (fun v : Value => v) iok (upd f c v) n z2 mw) (ho2 : Only (fun k => k = mw) z1 z2) :
    MW z2 mw B (upd f c v) (updW W c L) (updW bk c bc) := by
  have hlt := h.lt
  have hne : ∀ b, ¬ (b = mw ∧ B ≤ b) := fun b g => by have := g.1; have := g.2; omega
  refine ⟨⟨n, hm⟩, hlt, fun x => ?_, fun x y b hxy hb => ?_⟩
  · by_cases hx : x = c
    · subst hx
      have e1 : (upd f x v x).getD (.slice none 0 0) = v := by simp [upd]
      rw [e1, show updW W x L x = L by simp [updW], show updW bk x bc x = bc by simp [updW]]
      exact hq.only ho2 fun b hb g => by have := (hq.lt b hb).1; omega
    · rw [show upd f c v x = f x by simp [upd, hx], show updW W c L x = W x by simp [updW, hx], show updW bk c bc x = bk x by simp [updW, hx]]
      refine ((h.rows x).only ho fun b hb g => h.ap x c b hx hb g).only ho2 fun b hb g => ?_
      have := ((h.rows x).lt b hb).1
      omega
  · by_cases hx : x = c
    · subst hx
      rw [show updW bk x bc x = bc by simp [updW]] at hb
      rw [show updW bk x bc y = bk y by simp [updW, Ne.symm hxy]]
      rcases hbc b hb with g | g
      · exact h.ap x y b hxy g
      · intro g2
        have := ((h.rows y).lt b g2).2
        omega
    · rw [show updW bk c bc x = bk x by simp [updW, hx]] at hb
      by_cases hy : y = c
      · subst hy
        rw [show updW bk y bc y = bc by simp [updW]]
        intro g
        rcases hbc b g with g2 | g2
        · exact h.ap x y b hxy hb g2
        · have := ((h.rows x).lt b hb).2; omega
      · rw [show updW bk c bc y = bk y by simp [updW, hy]]
        exact h.ap x y b hxy hb
theorem wlearn_in (W : Int → List Pk) (e : Ev) (h : e.inn = true) : wlearn W e = updW W e.cls (W e.cls ++ [e.pk]) := by
  funext x; unfold wlearn updW; by_cases hx : x = e.cls
  · subst hx; simp [h]
  · simp [hx]
theorem wlearn_out (W : Int → List Pk) (e : Ev) (h : e.inn = false) : wlearn W e = updW W e.cls (W e.cls).tail := by
  funext x; unfold wlearn updW; by_cases hx : x = e.cls
  · subst hx; simp [h]
  · simp [hx]
end Go.Proofs.Ytlenmhbhakeonaa
