/- Joined texts. -/
import Derived.Test.YtffaahipgabkhaaGreatQ22
import Derived.Test.YtffaahipgabkhaaGreatQ26
section
namespace Go.Proofs.YtffaahipgabkhaaGreat
set_option linter.unusedVariables false
set_option linter.unusedSimpArgs false
set_option maxRecDepth 100000
open Go.RowKit Fg Reg Go.Maps Go.Shelf
attribute [local irreducible] Reg.wE VR
theorem quiet_part {P : Program} {a : Act} {w : World} {op : Oper} {C : World → Prop} (ty : TypeId) (x : Operand) (ho : op.op = .load ty x) (p q : Nat) (cells : Array Value) (d : TypeDesc) (hr : w.rangeAt p q cells.toList)
    (hx : a.eval x = .pointer (some ⟨p, q, none⟩)) (hu : P.underlying ty = some d) (hd : d.isRow = true) (hi : (P.info? ty).map (·.size) = some cells.size) : op.quietAt P a C w (.agg cells) := by
  have h := run_loadVar_mid (P := P) w p q ty cells.toList d hr hu hd (by simpa using hi)
  unfold Oper.quietAt execOp
  simp only [ho, hx, Instr.loadAt, Instr.sureAddr, Sem.run_bind, Sem.run_pure, Result.andThen_ok, h]
  exact ⟨by simp, rfl⟩
structure TC where
  k : Int
  c : Cls
instance : Inhabited TC := ⟨⟨0, clz⟩⟩
def TC.cells (a : TC) : List Value := (#[.int .i64 (a.k), .int .i64 (a.c).id, .int .i64 (a.c).par, .bool (a.c).leaf, .int .u64 (a.c).ra, .int .u64 (a.c).rb, .int .u64 (a.c).rc, .int .u64 (a.c).la, .int .u64 (a.c).lb, .int .u64 (a.c).lc, .int .u64 (a.c).ua, .int .u64 (a.c).ub, .int .u64 (a.c).uc, .int .i64 (a.c).pk, .int .i64 (a.c).bt] : Array Value).toList
def chE (k : Int) (f : Int → Option Cls) (L : List Int) (c : Cls) : Int := if k = 1 then addE f L c else if k = 2 then delE f L c.id else if k = 3 then setE f L c else 1
def chF (k : Int) (f : Int → Option Cls) (L : List Int) (c : Cls) : Int → Option Cls := if k = 1 then addF f L c else if k = 2 then delF f L c.id else if k = 3 then setF f L c else f
def chL (k : Int) (f : Int → Option Cls) (L : List Int) (c : Cls) : List Int := if k = 1 then addL f L c else if k = 2 then delL f L c.id else L
theorem TI.chF {f : Int → Option Cls} {L : List Int} (I : TI f L) (k : Int) {c : Cls} (hi : CIn c) : TI (chF k f L c) (chL k f L c) := by
  unfold Go.Proofs.YtffaahipgabkhaaGreat.chF Go.Proofs.YtffaahipgabkhaaGreat.chL
  by_cases h0 : k = 1
  · rw [if_pos h0, if_pos h0]; exact I.addF hi
  · rw [if_neg h0, if_neg h0]
    by_cases h1 : k = 2
    · rw [if_pos h1, if_pos h1]; exact I.delF c.id
    · rw [if_neg h1, if_neg h1]
      by_cases h2 : k = 3
      · rw [if_pos h2]; exact I.setF hi
      · rw [if_neg h2]; exact I
theorem cg_part {z : World} {p : Nat} {k : Int} {c : Cls} (h : VR z p 50 #[.int .i64 (k), .int .i64 (c).id, .int .i64 (c).par, .bool (c).leaf, .int .u64 (c).ra, .int .u64 (c).rb, .int .u64 (c).rc, .int .u64 (c).la, .int .u64 (c).lb, .int .u64 (c).lc, .int .u64 (c).ua, .int .u64 (c).ub, .int .u64 (c).uc, .int .i64 (c).pk, .int .i64 (c).bt]) : z.rangeAt p 1 (#[.int .i64 (c).id, .int .i64 (c).par, .bool (c).leaf, .int .u64 (c).ra, .int .u64 (c).rb, .int .u64 (c).rc, .int .u64 (c).la, .int .u64 (c).lb, .int .u64 (c).lc, .int .u64 (c).ua, .int .u64 (c).ub, .int .u64 (c).uc, .int .i64 (c).pk, .int .i64 (c).bt] : Array Value).toList := h.part 1 _ (fun j v hv => by
  (rcases j with _ | _ | _ | _ | _ | _ | _ | _ | _ | _ | _ | _ | _ | _ | j) <;> first | exact hv | (simp at hv))
theorem cg_info : (Tryz.prog.info? 50).map (·.size) = some 15 := by kernel_rfl
theorem cg_one (k : Int) (c : Cls) : (#[.int .i64 (k), .int .i64 (c).id, .int .i64 (c).par, .bool (c).leaf, .int .u64 (c).ra, .int .u64 (c).rb, .int .u64 (c).rc, .int .u64 (c).la, .int .u64 (c).lb, .int .u64 (c).lc, .int .u64 (c).ua, .int .u64 (c).ub, .int .u64 (c).uc, .int .i64 (c).pk, .int .i64 (c).bt] : Array Value).all (·.oneCell') = true := by kernel_rfl
theorem cg_alloc (w : World) : (Instr.alloc 50 true (.tuple #[])).run Tryz.prog w = .ok (.pointer (some ⟨w.heap.size, 0, none⟩)) (w.alloc (.cells #[.int .i64 0, .int .i64 0, .int .i64 0, .bool false, .int .u64 0, .int .u64 0, .int .u64 0, .int .u64 0, .int .u64 0, .int .u64 0, .int .u64 0, .int .u64 0, .int .u64 0, .int .i64 0, .int .i64 0] 50)) := by kernel_rfl
def wfv (p tb : Nat) (k : Int) : Value := if k = 1 then .func (.func 20) #[.pointer (some ⟨tb, 0, none⟩)] #[] else if k = 2 then .func (.func 55) #[] #[.pointer (some ⟨p, 0, none⟩)] else if k = 3 then .func (.func 22) #[.pointer (some ⟨tb, 0, none⟩)] #[] else .func (.func 56) #[] #[]
theorem work_c (tb : Nat) (k : Int) (w : World) : Calls Tryz.prog 25 #[.pointer (some ⟨tb, 0, none⟩), .int .i64 k] w fun e w' => e = .returned (wfv w.heap.size tb k) ∧ Below w.heap.size w w' ∧ w'.cell? ⟨w.heap.size, 0, none⟩ = some (.pointer (some ⟨tb, 0, none⟩)) ∧ w.heap.size < w'.heap.size := by
  have hb : Below w.heap.size w (w.alloc (.cells #[.pointer (some ⟨tb, 0, none⟩)] 24)) := by (repeat' (first | assumption | exact Below.refl _ _ | refine Below.setCell ?_ (by first | (simp; done) | omega | (simp; omega)) _ | refine Below.alloc ?_ (by first | (simp; done) | omega | (simp; omega)) _ | refine Below.drew ?_ | refine below_drewN ?_ _))
  have hc : (w.alloc (.cells #[.pointer (some ⟨tb, 0, none⟩)] 24)).cell? ⟨w.heap.size, 0, none⟩ = some (.pointer (some ⟨tb, 0, none⟩)) := by simp [go_sem]
  by_cases h1 : k = 1
  · subst h1
    go_enter Tryz.func25, Tryz.ntmps25
    go_wp2
    go_ret
    exact ⟨rfl, hb, hc, by simp⟩
  · by_cases h2 : k = 2
    · subst h2
      go_enter Tryz.func25, Tryz.ntmps25
      go_wp2
      go_ret
      exact ⟨rfl, hb, hc, by simp⟩
    · by_cases h3 : k = 3
      · subst h3
        go_enter Tryz.func25, Tryz.ntmps25
        go_wp2
        go_ret
        exact ⟨rfl, hb, hc, by simp⟩
      · have e : ∀ p, wfv p tb k = .func (.func 56) #[] #[] := fun p => by unfold wfv; rw [if_neg h1, if_neg h2, if_neg h3]
        rw [e]
        have q1 : (k == 1) = false := by simpa using h1
        have q2 : (k == 2) = false := by simpa using h2
        have q3 : (k == 3) = false := by simpa using h3
        clear e
        go_enter Tryz.func25, Tryz.ntmps25
        go_wp2
        go_ret
        exact ⟨rfl, hb, hc, by simp⟩
theorem w2_c (c : Cls) (z : World) : Calls Tryz.prog 56 #[.agg #[.int .i64 (c).id, .int .i64 (c).par, .bool (c).leaf, .int .u64 (c).ra, .int .u64 (c).rb, .int .u64 (c).rc, .int .u64 (c).la, .int .u64 (c).lb, .int .u64 (c).lc, .int .u64 (c).ua, .int .u64 (c).ub, .int .u64 (c).uc, .int .i64 (c).pk, .int .i64 (c).bt]] z fun ee w' => ee = .returned (.int .i64 1) ∧ Below z.heap.size z w' := by
  have hB0 : Below z.heap.size z (z.alloc (.cells #[.int .i64 (c).id, .int .i64 (c).par, .bool (c).leaf, .int .u64 (c).ra, .int .u64 (c).rb, .int .u64 (c).rc, .int .u64 (c).la, .int .u64 (c).lb, .int .u64 (c).lc, .int .u64 (c).ua, .int .u64 (c).ub, .int .u64 (c).uc, .int .i64 (c).pk, .int .i64 (c).bt] 48)) := by (repeat' (first | assumption | exact Below.refl _ _ | refine Below.setCell ?_ (by first | (simp; done) | omega | (simp; omega)) _ | refine Below.alloc ?_ (by first | (simp; done) | omega | (simp; omega)) _ | refine Below.drew ?_ | refine below_drewN ?_ _))
  have HB0 := Lib.hid hB0
  clear hB0
  go_enter Tryz.func56, Tryz.ntmps56
  go_wp2
  go_ret
  exact ⟨rfl, HB0.out⟩
theorem w1_c {z : World} {tb mb p : Nat} {f : Int → Option Cls} {L : List Int} (h : HT z tb mb f) (I : TI f L) {c : Cls} (hi : CIn c) (hp : z.cell? ⟨p, 0, none⟩ = some (.pointer (some ⟨tb, 0, none⟩))) (hl : p < z.heap.size) :
    Calls Tryz.prog 55 #[.agg #[.int .i64 (c).id, .int .i64 (c).par, .bool (c).leaf, .int .u64 (c).ra, .int .u64 (c).rb, .int .u64 (c).rc, .int .u64 (c).la, .int .u64 (c).lb, .int .u64 (c).lc, .int .u64 (c).ua, .int .u64 (c).ub, .int .u64 (c).uc, .int .i64 (c).pk, .int .i64 (c).bt], .pointer (some ⟨p, 0, none⟩)] z fun e w' => e = .returned (.int .i64 (delE f L c.id)) ∧ HT w' tb mb (delF f L c.id) ∧ Only (fun k => k = mb) z w' := by
  have hB0 : Below z.heap.size z (z.alloc (.cells #[.int .i64 (c).id, .int .i64 (c).par, .bool (c).leaf, .int .u64 (c).ra, .int .u64 (c).rb, .int .u64 (c).rc, .int .u64 (c).la, .int .u64 (c).lb, .int .u64 (c).lc, .int .u64 (c).ua, .int .u64 (c).ub, .int .u64 (c).uc, .int .i64 (c).pk, .int .i64 (c).bt] 48)) := by (repeat' (first | assumption | exact Below.refl _ _ | refine Below.setCell ?_ (by first | (simp; done) | omega | (simp; omega)) _ | refine Below.alloc ?_ (by first | (simp; done) | omega | (simp; omega)) _ | refine Below.drew ?_ | refine below_drewN ?_ _))
  have hV := VR.new z #[.int .i64 (c).id, .int .i64 (c).par, .bool (c).leaf, .int .u64 (c).ra, .int .u64 (c).rb, .int .u64 (c).rc, .int .u64 (c).la, .int .u64 (c).lb, .int .u64 (c).lc, .int .u64 (c).ua, .int .u64 (c).ub, .int .u64 (c).uc, .int .i64 (c).pk, .int .i64 (c).bt] 48
  have hT0 := h.below hB0
  have p0 := (hB0.cell (p := ⟨p, 0, none⟩) hl).trans hp
  have HB0 := Lib.hid hB0
  have K := Lib.hid (hdel_c hT0 I hi.id)
  have a0 := hV.cell 0 rfl
  clear h hT0 I hi hB0
  go_enter Tryz.func55, Tryz.ntmps55
  go_wp2_with (first
    | go_guarded
    | (go_at_call 21; (with_reducible refine K.out.mono ?_); rintro _ w1 ⟨rfl, hT, hO⟩; have HT1 := Lib.hid hT; have HO1 := Lib.hid hO; clear hT hO))
  go_ret
  exact ⟨rfl, HT1.out, (Only.of_below HB0.out).trans HO1.out⟩
end Go.Proofs.YtffaahipgabkhaaGreat
end
