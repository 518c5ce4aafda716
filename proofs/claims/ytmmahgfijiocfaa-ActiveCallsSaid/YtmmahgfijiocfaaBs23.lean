/- Joined texts. -/
import Derived.Test.YtmmahgfijiocfaaBs0
import Derived.Test.YtmmahgfijiocfaaBs12
import Derived.Test.YtmmahgfijiocfaaBs13
set_option linter.unusedVariables false
set_option linter.unusedSimpArgs false
set_option maxRecDepth 100000
set_option maxHeartbeats 16000000
section
namespace Go.Proofs.Ytmmahgfijiocfaa
open Go.RowKit Fg Reg Go.Maps Go.Shelf
attribute [local irreducible] Reg.wE VR
structure TC where
 k : Int
 c : Cls
instance : Inhabited TC := ⟨⟨0, clz⟩⟩
def TC.cells (a : TC) : List Value := (#[.int .i64 (a.k), .int .i64 (a.c).id, .int .i64 (a.c).par, .bool (a.c).leaf, .int .u64 (a.c).ra, .int .u64 (a.c).rb, .int .u64 (a.c).rc, .int .u64 (a.c).la, .int .u64 (a.c).lb, .int .u64 (a.c).lc, .int .u64 (a.c).ua, .int .u64 (a.c).ub, .int .u64 (a.c).uc, .int .i64 (a.c).pk, .int .i64 (a.c).bt] : Array Value).toList
theorem chgs_of {w : World} {v : Value} (h : Op.FlatSlice w 15 [.int .i64, .int .i64, .int .i64, .bool, .int .u64, .int .u64, .int .u64, .int .u64, .int .u64, .int .u64, .int .u64, .int .u64, .int .u64, .int .i64, .int .i64] v) :
  ∃ a es cap, v = .slice a es.length cap ∧ es.length ≤ cap ∧ cap ≤ maxLen ∧ RwV TC.cells 15 w a es ∧ ∀ k (h : k < es.length), CIn es[k].c := by
 rcases h with h | ⟨a, cap, h, hc⟩ | ⟨b, o, n, cap, css, h0, rfl, h3, h4, hlt, hn, hi⟩
 ·exact ⟨none, [], 0, h, Nat.le_refl _, Nat.zero_le _, fun k h => absurd h (Nat.not_lt_zero _), fun k h => absurd h (Nat.not_lt_zero _)⟩
 ·exact ⟨some a, [], cap, h, Nat.zero_le _, hc, fun k h => absurd h (Nat.not_lt_zero _), fun k h => absurd h (Nat.not_lt_zero _)⟩
 ·have h1 : ∀ i, i < n → ∃ e : TC, w.rangeAt b (o + i * 15) e.cells ∧ CIn e.c := fun i hin => by
   obtain ⟨hf, he⟩ := hi i (by omega)
   obtain ⟨_, _, e0, ⟨x0, rfl, w0⟩, _, _, rfl, ⟨x1, rfl, w1⟩, _, _, rfl, ⟨x2, rfl, w2⟩, _, _, rfl, ⟨x3, rfl⟩, _, _, rfl, ⟨x4, rfl, w4⟩, _, _, rfl, ⟨x5, rfl, w5⟩, _, _, rfl, ⟨x6, rfl, w6⟩, _, _, rfl, ⟨x7, rfl, w7⟩, _, _, rfl, ⟨x8, rfl, w8⟩, _, _, rfl, ⟨x9, rfl, w9⟩, _, _, rfl, ⟨x10, rfl, w10⟩, _, _, rfl, ⟨x11, rfl, w11⟩, _, _, rfl, ⟨x12, rfl, w12⟩, _, _, rfl, ⟨x13, rfl, w13⟩, _, _, rfl, ⟨x14, rfl, w14⟩, rfl⟩ := hf
   rw [e0] at he
   have bu := fun {x : Int} (h : (Lit.int .u64 x).wf = true) => (show In x from ⟨(bounds_u64 h).1, by have := (bounds_u64 h).2; omega⟩)
   exact ⟨⟨x0, x1, x2, x3, x4, x5, x6, x7, x8, x9, x10, x11, x12, x13, x14⟩, fun j x hx => he j x hx, ⟨w1, w2, bu w4, bu w5, bu w6, bu w7, bu w8, bu w9, bu w10, bu w11, bu w12, w13, w14⟩⟩
  obtain ⟨es, hes⟩ := Go.Deep.choose_lt h1
  refine ⟨some ⟨b, o, none⟩, (List.range n).map es, cap, by simp, by simpa using h3, h4, fun k hk => ?_, fun k hk => ?_⟩
  ·have := hes k (by simpa using hk)
   exact ⟨b, o, rfl, hlt, by simpa using this.1⟩
  ·have := hes k (by simpa using hk)
   simpa using this.2
def chE (k : Int) (f : Int → Option Cls) (L : List Int) (c : Cls) : Int := if k = 1 then addE f L c else if k = 2 then delE f L c.id else if k = 3 then setE f L c else 1
def chF (k : Int) (f : Int → Option Cls) (L : List Int) (c : Cls) : Int → Option Cls := if k = 1 then addF f L c else if k = 2 then delF f L c.id else if k = 3 then setF f L c else f
def chL (k : Int) (f : Int → Option Cls) (L : List Int) (c : Cls) : List Int := if k = 1 then addL f L c else if k = 2 then delL f L c.id else L
theorem TI.chF {f : Int → Option Cls} {L : List Int} (I : TI f L) (k : Int) {c : Cls} (hi : CIn c) : TI (chF k f L c) (chL k f L c) := by
 unfold Go.Proofs.Ytmmahgfijiocfaa.chF Go.Proofs.Ytmmahgfijiocfaa.chL
 by_cases h0 : k = 1
 ·rw [if_pos h0, if_pos h0]; exact I.addF hi
 ·rw [if_neg h0, if_neg h0]
  by_cases h1 : k = 2
  ·rw [if_pos h1, if_pos h1]; exact I.delF c.id
  ·rw [if_neg h1, if_neg h1]
   by_cases h2 : k = 3
   ·rw [if_pos h2]; exact I.setF hi
   ·rw [if_neg h2]; exact I
theorem cg_part {z : World} {p : Nat} {k : Int} {c : Cls} (h : VR z p 56 #[.int .i64 (k), .int .i64 c.id, .int .i64 c.par, .bool c.leaf, .int .u64 c.ra, .int .u64 c.rb, .int .u64 c.rc, .int .u64 c.la, .int .u64 c.lb, .int .u64 c.lc, .int .u64 c.ua, .int .u64 c.ub, .int .u64 c.uc, .int .i64 c.pk, .int .i64 c.bt]) : z.rangeAt p 1 (#[.int .i64 c.id, .int .i64 c.par, .bool c.leaf, .int .u64 c.ra, .int .u64 c.rb, .int .u64 c.rc, .int .u64 c.la, .int .u64 c.lb, .int .u64 c.lc, .int .u64 c.ua, .int .u64 c.ub, .int .u64 c.uc, .int .i64 c.pk, .int .i64 c.bt] : Array Value).toList := h.part 1 _ (fun j v hv => by
 (rcases j with _ | _ | _ | _ | _ | _ | _ | _ | _ | _ | _ | _ | _ | _ | j) <;> first | exact hv | (simp at hv))
theorem cg_info : (Try.prog.info? 56).map (·.size) = some 15 := by kernel_rfl
theorem cg_one (k : Int) (c : Cls) : (#[.int .i64 (k), .int .i64 c.id, .int .i64 c.par, .bool c.leaf, .int .u64 c.ra, .int .u64 c.rb, .int .u64 c.rc, .int .u64 c.la, .int .u64 c.lb, .int .u64 c.lc, .int .u64 c.ua, .int .u64 c.ub, .int .u64 c.uc, .int .i64 c.pk, .int .i64 c.bt] : Array Value).all (·.oneCell') = true := by kernel_rfl
theorem cg_alloc (w : World) : (Instr.alloc 56 true (.tuple #[])).run Try.prog w = .ok (.pointer (some ⟨w.heap.size, 0, none⟩)) (w.alloc (.cells #[.int .i64 0, .int .i64 0, .int .i64 0, .bool false, .int .u64 0, .int .u64 0, .int .u64 0, .int .u64 0, .int .u64 0, .int .u64 0, .int .u64 0, .int .u64 0, .int .u64 0, .int .i64 0, .int .i64 0] 56)) := by kernel_rfl
end Go.Proofs.Ytmmahgfijiocfaa
end
