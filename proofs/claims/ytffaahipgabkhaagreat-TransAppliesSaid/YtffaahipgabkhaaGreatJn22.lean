/- Joined texts. -/
import Derived.Test.YtffaahipgabkhaaGreatJn0
import Derived.Test.YtffaahipgabkhaaGreatJn18
import Derived.Test.YtffaahipgabkhaaGreatJn21
set_option linter.unusedVariables false
set_option linter.unusedSimpArgs false
set_option maxRecDepth 100000
set_option maxHeartbeats 16000000
section
namespace Go.Proofs.YtffaahipgabkhaaGreat
open Go.RowKit Fg Reg Go.Maps Go.Shelf
attribute [local irreducible] Reg.wE VR
theorem quiet_part {P : Program} {a : Act} {w : World} {op : Oper} {C : World → Prop} (ty : TypeId) (x : Operand) (ho : op.op = .load ty x) (p q : Nat) (cells : Array Value) (d : TypeDesc) (hr : w.rangeAt p q cells.toList)
  (hx : a.eval x = .pointer (some ⟨p, q, none⟩)) (hu : P.underlying ty = some d) (hd : d.isRow = true) (hi : (P.info? ty).map (·.size) = some cells.size) : op.quietAt P a C w (.agg cells) := by
 have h := run_loadVar_mid (P := P) w p q ty cells.toList d hr hu hd (by simpa using hi)
 unfold Oper.quietAt execOp
 simp only [ho, hx, Instr.loadAt, Instr.sureAddr, Sem.run_bind, Sem.run_pure, Result.andThen_ok, h]
 exact ⟨by simp, rfl⟩
structure TC where
 k : Int
 c : Cls
instance : Inhabited TC := ⟨⟨0, clz⟩⟩
def TC.cells (a : TC) : List Value := (#[.int .i64 (a.k), .int .i64 (a.c).id, .int .i64 (a.c).par, .bool (a.c).leaf, .int .u64 (a.c).ra, .int .u64 (a.c).rb, .int .u64 (a.c).rc, .int .u64 (a.c).la, .int .u64 (a.c).lb, .int .u64 (a.c).lc, .int .u64 (a.c).ua, .int .u64 (a.c).ub, .int .u64 (a.c).uc, .int .i64 (a.c).pk, .int .i64 (a.c).bt] : Array Value).toList
theorem chgs_of {w : World} {v : Value} (h : Op.FlatSlice w 15 [.int .i64, .int .i64, .int .i64, .bool, .int .u64, .int .u64, .int .u64, .int .u64, .int .u64, .int .u64, .int .u64, .int .u64, .int .u64, .int .i64, .int .i64] v) :
  ∃ a es cap, v = .slice a es.length cap ∧ es.length ≤ cap ∧ cap ≤ maxLen ∧ RwV TC.cells 15 w a es ∧ ∀ k (h : k < es.length), CIn es[k].c := by
 rcases h with h | ⟨a, cap, h, hc⟩ | ⟨b, o, n, cap, css, h0, rfl, h3, h4, hlt, hn, hi⟩
 ·exact ⟨none, [], 0, h, Nat.le_refl _, Nat.zero_le _, fun k h => absurd h (Nat.not_lt_zero _), fun k h => absurd h (Nat.not_lt_zero _)⟩
 ·exact ⟨some a, [], cap, h, Nat.zero_le _, hc, fun k h => absurd h (Nat.not_lt_zero _), fun k h => absurd h (Nat.not_lt_zero _)⟩
 ·have h1 : ∀ i, i < n → ∃ e : TC, w.rangeAt b (o + i * 15) e.cells ∧ CIn e.c := fun i hin => by
   obtain ⟨hf, he⟩ := hi i (by omega)
   obtain ⟨_, _, e0, ⟨x0, rfl, w0⟩, _, _, rfl, ⟨x1, rfl, w1⟩, _, _, rfl, ⟨x2, rfl, w2⟩, _, _, rfl, ⟨x3, rfl⟩, _, _, rfl, ⟨x4, rfl, w4⟩, _, _, rfl, ⟨x5, rfl, w5⟩, _, _, rfl, ⟨x6, rfl, w6⟩, _, _, rfl, ⟨x7, rfl, w7⟩, _, _, rfl, ⟨x8, rfl, w8⟩, _, _, rfl, ⟨x9, rfl, w9⟩, _, _, rfl, ⟨x10, rfl, w10⟩, _, _, rfl, ⟨x11, rfl, w11⟩, _, _, rfl, ⟨x12, rfl, w12⟩, _, _, rfl, ⟨x13, rfl, w13⟩, _, _, rfl, ⟨x14, rfl, w14⟩, rfl⟩ := hf
   rw [e0] at he
   have bu := fun {x : Int} (h : (Lit.int .u64 x).wf = true) => (show In x from ⟨(bounds_u64 h).1, by have := (bounds_u64 h).2; omega⟩)
   exact ⟨⟨x0, x1, x2, x3, x4, x5, x6, x7, x8, x9, x10, x11, x12, x13, x14⟩, fun j x hx => he j x hx, ⟨w1, w2, bu w4, bu w5, bu w6, bu w7, bu w8, bu w9, bu w10, bu w11, bu w12, w13, w14⟩⟩
  obtain ⟨es, hes⟩ := Go.Deep.choose_lt h1
  refine ⟨some ⟨b, o, none⟩, (List.range n).map es, cap, by simp, by simpa using h3, h4, fun k hk => ?_, fun k hk => ?_⟩
  ·have := hes k (by simpa using hk)
   exact ⟨b, o, rfl, hlt, by simpa using this.1⟩
  ·have := hes k (by simpa using hk)
   simpa using this.2
def chE (k : Int) (f : Int → Option Cls) (L : List Int) (c : Cls) : Int := if k = 1 then addE f L c else if k = 2 then delE f L c.id else if k = 3 then setE f L c else 1
def chF (k : Int) (f : Int → Option Cls) (L : List Int) (c : Cls) : Int → Option Cls := if k = 1 then addF f L c else if k = 2 then delF f L c.id else if k = 3 then setF f L c else f
def chL (k : Int) (f : Int → Option Cls) (L : List Int) (c : Cls) : List Int := if k = 1 then addL f L c else if k = 2 then delL f L c.id else L
theorem TI.chF {f : Int → Option Cls} {L : List Int} (I : TI f L) (k : Int) {c : Cls} (hi : CIn c) : TI (chF k f L c) (chL k f L c) := by
 unfold Go.Proofs.YtffaahipgabkhaaGreat.chF Go.Proofs.YtffaahipgabkhaaGreat.chL
 by_cases h0 : k = 1
 ·rw [if_pos h0, if_pos h0]; exact I.addF hi
 ·rw [if_neg h0, if_neg h0]
  by_cases h1 : k = 2
  ·rw [if_pos h1, if_pos h1]; exact I.delF c.id
  ·rw [if_neg h1, if_neg h1]
   by_cases h2 : k = 3
   ·rw [if_pos h2]; exact I.setF hi
   ·rw [if_neg h2]; exact I
theorem cg_part {z : World} {p : Nat} {k : Int} {c : Cls} (h : VR z p 50 #[.int .i64 (k), .int .i64 c.id, .int .i64 c.par, .bool c.leaf, .int .u64 c.ra, .int .u64 c.rb, .int .u64 c.rc, .int .u64 c.la, .int .u64 c.lb, .int .u64 c.lc, .int .u64 c.ua, .int .u64 c.ub, .int .u64 c.uc, .int .i64 c.pk, .int .i64 c.bt]) : z.rangeAt p 1 (#[.int .i64 c.id, .int .i64 c.par, .bool c.leaf, .int .u64 c.ra, .int .u64 c.rb, .int .u64 c.rc, .int .u64 c.la, .int .u64 c.lb, .int .u64 c.lc, .int .u64 c.ua, .int .u64 c.ub, .int .u64 c.uc, .int .i64 c.pk, .int .i64 c.bt] : Array Value).toList := h.part 1 _ (fun j v hv => by
 (rcases j with _ | _ | _ | _ | _ | _ | _ | _ | _ | _ | _ | _ | _ | _ | j) <;> first | exact hv | (simp at hv))
theorem cg_info : (Tryz.prog.info? 50).map (·.size) = some 15 := by kernel_rfl
theorem cg_one (k : Int) (c : Cls) : (#[.int .i64 (k), .int .i64 c.id, .int .i64 c.par, .bool c.leaf, .int .u64 c.ra, .int .u64 c.rb, .int .u64 c.rc, .int .u64 c.la, .int .u64 c.lb, .int .u64 c.lc, .int .u64 c.ua, .int .u64 c.ub, .int .u64 c.uc, .int .i64 c.pk, .int .i64 c.bt] : Array Value).all (·.oneCell') = true := by kernel_rfl
theorem cg_alloc (w : World) : (Instr.alloc 50 true (.tuple #[])).run Tryz.prog w = .ok (.pointer (some ⟨w.heap.size, 0, none⟩)) (w.alloc (.cells #[.int .i64 0, .int .i64 0, .int .i64 0, .bool false, .int .u64 0, .int .u64 0, .int .u64 0, .int .u64 0, .int .u64 0, .int .u64 0, .int .u64 0, .int .u64 0, .int .u64 0, .int .i64 0, .int .i64 0] 50)) := by kernel_rfl
def wfv (p tb : Nat) (k : Int) : Value := if k = 1 then .func (.func 20) #[.pointer (some ⟨tb, 0, none⟩)] #[] else if k = 2 then .func (.func 55) #[] #[.pointer (some ⟨p, 0, none⟩)] else if k = 3 then .func (.func 22) #[.pointer (some ⟨tb, 0, none⟩)] #[] else .func (.func 56) #[] #[]
theorem work_c (tb : Nat) (k : Int) (w : World) : Calls Tryz.prog 25 #[.pointer (some ⟨tb, 0, none⟩), .int .i64 k] w fun e w' => e = .returned (wfv w.heap.size tb k) ∧ Below w.heap.size w w' ∧ w'.cell? ⟨w.heap.size, 0, none⟩ = some (.pointer (some ⟨tb, 0, none⟩)) ∧ w.heap.size < w'.heap.size := by
 have hb : Below w.heap.size w (w.alloc (.cells #[.pointer (some ⟨tb, 0, none⟩)] 24)) := bub
 have hc : (w.alloc (.cells #[.pointer (some ⟨tb, 0, none⟩)] 24)).cell? ⟨w.heap.size, 0, none⟩ = some (.pointer (some ⟨tb, 0, none⟩)) := by simp [go_sem]
 by_cases h1 : k = 1
 ·subst h1
  go_enter Tryz.func25, Tryz.ntmps25
  go_wp2
  go_ret
  exact ⟨rfl, hb, hc, by simp⟩
 ·by_cases h2 : k = 2
  ·subst h2
   go_enter Tryz.func25, Tryz.ntmps25
   go_wp2
   go_ret
   exact ⟨rfl, hb, hc, by simp⟩
  ·by_cases h3 : k = 3
   ·subst h3
    go_enter Tryz.func25, Tryz.ntmps25
    go_wp2
    go_ret
    exact ⟨rfl, hb, hc, by simp⟩
   ·have e : ∀ p, wfv p tb k = .func (.func 56) #[] #[] := fun p => by unfold wfv; rw [if_neg h1, if_neg h2, if_neg h3]
    rw [e]
    have q1 : (k == 1) = false := by simpa using h1
    have q2 : (k == 2) = false := by simpa using h2
    have q3 : (k == 3) = false := by simpa using h3
    clear e
    go_enter Tryz.func25, Tryz.ntmps25
    go_wp2
    go_ret
    exact ⟨rfl, hb, hc, by simp⟩
theorem w2_c (c : Cls) (z : World) : Calls Tryz.prog 56 #[.agg #[.int .i64 c.id, .int .i64 c.par, .bool c.leaf, .int .u64 c.ra, .int .u64 c.rb, .int .u64 c.rc, .int .u64 c.la, .int .u64 c.lb, .int .u64 c.lc, .int .u64 c.ua, .int .u64 c.ub, .int .u64 c.uc, .int .i64 c.pk, .int .i64 c.bt]] z fun ee w' => ee = .returned (.int .i64 1) ∧ Below z.heap.size z w' := by
 have hB0 : Below z.heap.size z (z.alloc (.cells #[.int .i64 c.id, .int .i64 c.par, .bool c.leaf, .int .u64 c.ra, .int .u64 c.rb, .int .u64 c.rc, .int .u64 c.la, .int .u64 c.lb, .int .u64 c.lc, .int .u64 c.ua, .int .u64 c.ub, .int .u64 c.uc, .int .i64 c.pk, .int .i64 c.bt] 48)) := bub
 have HB0 := Lib.hid hB0
 clear hB0
 go_enter Tryz.func56, Tryz.ntmps56
 go_wp2
 go_ret
 exact ⟨rfl, HB0.out⟩
theorem w1_c {z : World} {tb mb p : Nat} {f : Int → Option Cls} {L : List Int} (h : HT z tb mb f) (I : TI f L) {c : Cls} (hi : CIn c) (hp : z.cell? ⟨p, 0, none⟩ = some (.pointer (some ⟨tb, 0, none⟩))) (hl : p < z.heap.size) :
  Calls Tryz.prog 55 #[.agg #[.int .i64 c.id, .int .i64 c.par, .bool c.leaf, .int .u64 c.ra, .int .u64 c.rb, .int .u64 c.rc, .int .u64 c.la, .int .u64 c.lb, .int .u64 c.lc, .int .u64 c.ua, .int .u64 c.ub, .int .u64 c.uc, .int .i64 c.pk, .int .i64 c.bt], .pointer (some ⟨p, 0, none⟩)] z fun e w' => e = .returned (.int .i64 (delE f L c.id)) ∧ HT w' tb mb (delF f L c.id) ∧ Only (fun k => k = mb) z w' := by
 have hB0 : Below z.heap.size z (z.alloc (.cells #[.int .i64 c.id, .int .i64 c.par, .bool c.leaf, .int .u64 c.ra, .int .u64 c.rb, .int .u64 c.rc, .int .u64 c.la, .int .u64 c.lb, .int .u64 c.lc, .int .u64 c.ua, .int .u64 c.ub, .int .u64 c.uc, .int .i64 c.pk, .int .i64 c.bt] 48)) := bub
 have hV := VR.new z #[.int .i64 c.id, .int .i64 c.par, .bool c.leaf, .int .u64 c.ra, .int .u64 c.rb, .int .u64 c.rc, .int .u64 c.la, .int .u64 c.lb, .int .u64 c.lc, .int .u64 c.ua, .int .u64 c.ub, .int .u64 c.uc, .int .i64 c.pk, .int .i64 c.bt] 48
 have hT0 := h.below hB0
 have p0 := (hB0.cell (p := ⟨p, 0, none⟩) hl).trans hp
 have HB0 := Lib.hid hB0
 have K := Lib.hid (hdel_c hT0 I hi.id)
 have a0 := hV.cell 0 rfl
 clear h hT0 I hi hB0
 go_enter Tryz.func55, Tryz.ntmps55
 go_wp2_with (first
  | go_guarded
  | (go_at_call 21; (with_reducible refine K.out.mono ?_); rintro _ w1 ⟨rfl, hT, hO⟩; have HT1 := Lib.hid hT; have HO1 := Lib.hid hO; clear hT hO))
 go_ret
 exact ⟨rfl, HT1.out, (Only.of_below HB0.out).trans HO1.out⟩
end Go.Proofs.YtffaahipgabkhaaGreat
end
