/- Statistics of one class. -/
import Derived.Test.YtnpidbodeebnkaaSrt2
import Derived.Test.YtnpidbodeebnkaaRegion3
import Derived.Test.YtnpidbodeebnkaaQSlice
import Derived.Test.YtnpidbodeebnkaaRows0
namespace Go.Proofs.Ytnpidbodeebnkaa
set_option linter.unusedVariables false
set_option linter.unusedSimpArgs false
set_option maxRecDepth 100000
open Go.RowKit Fg Reg
attribute [local irreducible] Reg.wN Reg.wE

structure R5 where
  a : Int
  b : Int
  c : Int
  d : Int
  e : Int
def r5v (r : R5) : Value := .agg #[.int .u64 (r).a, .int .u64 (r).b, .int .u64 (r).c, .int .u64 (r).d, .int .u64 (r).e]
def r50 : R5 := ⟨0, 0, 0, 0, 0⟩
/-- One key alone. -/
def one {α : Type} (cl : Int) (o : Option α) : Int → Option α := fun x => if x = cl then o else none
theorem upd_one {α : Type} (cl : Int) (o : Option α) (v : α) : upd (one cl o) cl v = one cl (some v) := by
  funext x; unfold upd one; split <;> rfl
theorem one_at {α : Type} (cl : Int) (o : Option α) : one cl o cl = o := by unfold one; rw [if_pos rfl]
/-- A map of one key has one entry. -/
theorem Mp.single {ν : Type} {vv : ν → Value} {cl : Int} {o : Option ν} {n : Nat} {w : World} {b : Nat} (h : Mp ikv vv iok (one cl o) n w b) : Mp ikv vv iok (one cl o) 1 w b := by
  obtain ⟨es, clock, hb, hE⟩ := h
  refine ⟨es, clock, hb, hE.stamped, ?_, hE.ent, hE.has⟩
  have hd := ((MapKept.stamped_iff es clock).1 hE.stamped).2.2
  have hk : ∀ e ∈ es.toList, e.key = ikv cl := fun e he => by
    obtain ⟨x, v, _, h1, _, h3⟩ := hE.ent e he
    unfold one at h3
    split at h3
    · rename_i hx; rw [h1, hx]
    · cases h3
  rcases Nat.lt_or_ge 1 es.size with hl | hl
  · exfalso
    have h0 : 0 < es.toList.length := by simp; omega
    have h1 : 1 < es.toList.length := by simpa using hl
    exact List.pairwise_iff_getElem.1 hd 0 1 h0 h1 (by omega) (by rw [hk _ (List.getElem_mem h0), hk _ (List.getElem_mem h1)])
  · exact hl
/-- Statistics in memory, but for the row of those who wait. -/
structure S0 (w z : World) (p mw mr : Nat) (cl : Int) (wv : Option Value) (row : Option R5) : Prop where
  c0 : z.cell? ⟨p, 0, none⟩ = some (.map (some mw))
  c1 : z.cell? ⟨p, 1, none⟩ = some (.map (some mr))
  plt : p < z.heap.size
  o1 : w.heap.size ≤ mw
  o2 : mw < mr
  o3 : mr < p
  mpw : Mp ikv (fun v : Value => v) iok (one cl wv) 1 z mw
  mpr : Mp ikv r5v iok (one cl row) 1 z mr
  bel : Below w.heap.size w z
theorem S0.only {w z : World} {p mw mr : Nat} {cl : Int} {wv : Option Value} {row : Option R5} {z' : World} (h : S0 w z p mw mr cl wv row) (ho : Only (fun k => p + 1 ≤ k) z z') : S0 w z' p mw mr cl wv row := by
  have hp : ¬ p + 1 ≤ p := by omega
  have o2 := h.o2
  have o3 := h.o3
  have o1 := h.o1
  exact ⟨(ho.cell h.plt hp).trans h.c0, (ho.cell h.plt hp).trans h.c1, Nat.lt_of_lt_of_le h.plt ho.size, o1, o2, o3, h.mpw.frame (ho.block _ h.mpw.lt (by omega)), h.mpr.frame (ho.block _ h.mpr.lt (by omega)), ho.below h.bel h.bel.size (fun k hk => by omega)⟩
theorem S0.below {w z : World} {p mw mr : Nat} {cl : Int} {wv : Option Value} {row : Option R5} {z' : World} (h : S0 w z p mw mr cl wv row) (hb : Below z.heap.size z z') : S0 w z' p mw mr cl wv row := h.only ((Only.of_below (S := fun _ => False) hb).mono (fun _ h => h.elim))
theorem S0.putw {w z : World} {p mw mr : Nat} {cl : Int} {wv : Option Value} {row : Option R5} {z' : World} {v : Value} {n : Nat} (h : S0 w z p mw mr cl wv row) (hm : Mp ikv (fun v : Value => v) iok (one cl (some v)) n z' mw) (ho : Only (fun k => k = mw) z z') : S0 w z' p mw mr cl (some v) row := by
  have o2 := h.o2
  have o3 := h.o3
  have o1 := h.o1
  exact ⟨(ho.cell h.plt (by omega)).trans h.c0, (ho.cell h.plt (by omega)).trans h.c1, Nat.lt_of_lt_of_le h.plt ho.size, o1, o2, o3, hm.single, h.mpr.frame (ho.block _ h.mpr.lt (by omega)), ho.below h.bel h.bel.size (fun k hk => by omega)⟩
theorem S0.putr {w z : World} {p mw mr : Nat} {cl : Int} {wv : Option Value} {row : Option R5} {z' : World} {r : R5} {n : Nat} (h : S0 w z p mw mr cl wv row) (hm : Mp ikv r5v iok (one cl (some r)) n z' mr) (ho : Only (fun k => k = mr) z z') : S0 w z' p mw mr cl wv (some r) := by
  have o2 := h.o2
  have o3 := h.o3
  have o1 := h.o1
  exact ⟨(ho.cell h.plt (by omega)).trans h.c0, (ho.cell h.plt (by omega)).trans h.c1, Nat.lt_of_lt_of_le h.plt ho.size, o1, o2, o3, h.mpw.frame (ho.block _ h.mpw.lt (by omega)), hm.single, ho.below h.bel h.bel.size (fun k hk => by omega)⟩
/-- The row of those who wait. -/
def wrow (wv : Option Value) : Value := wv.getD (.slice none 0 0)
theorem wz0 (z : World) : (zeroValue 56).run Try.prog z = .ok (.slice none 0 0) z := by kernel_rfl
theorem rz0 (z : World) : (zeroValue 39).run Try.prog z = .ok (r5v r50) z := by kernel_rfl
theorem S0.lookw {w z : World} {p mw mr : Nat} {cl : Int} {wv : Option Value} {row : Option R5} (h : S0 w z p mw mr cl wv row) (hc : iok cl) : (Instr.lookup 52 (.map (some mw)) (.int .i64 cl) false).run Try.prog z = .ok (wrow wv) z := by
  have := Mp.look false h.mpw ikok Try.underlying52 (wz0 z) hc
  rw [one_at] at this
  have e : mget (.slice none 0 0) (fun v : Value => v) wv = wrow wv := by cases wv <;> rfl
  rw [e] at this
  exact this
theorem S0.lookr {w z : World} {p mw mr : Nat} {cl : Int} {wv : Option Value} {row : Option R5} (h : S0 w z p mw mr cl wv row) (hc : iok cl) : (Instr.lookup 53 (.map (some mr)) (.int .i64 cl) false).run Try.prog z = .ok (r5v (row.getD r50)) z := by
  have := Mp.look false h.mpr ikok Try.underlying53 (rz0 z) hc
  rw [one_at] at this
  have e : mget (r5v r50) r5v row = r5v (row.getD r50) := by cases row <;> rfl
  rw [e] at this
  exact this
theorem QS.form {z : World} {B m : Nat} {v : Value} {g : Nat → Value} (h : QS z B v m g) : ∃ ao cp, v = .slice ao m cp := by
  rcases h with ⟨rfl, rfl⟩ | ⟨b, o, cap, rfl, _⟩
  · exact ⟨none, 0, rfl⟩
  · exact ⟨_, cap, rfl⟩
theorem map_nil (t : TypeId) (m : Nat) (w : World) (ht : Try.prog.underlying t = some (.map 3 56)) : True := trivial
set_option maxHeartbeats 4000000 in
theorem snew_c (cl : Int) (w : World) : Calls Try.prog 5 #[] w fun e w' => e = .returned (.pointer (some ⟨w.heap.size + 2, 0, none⟩)) ∧ S0 w w' (w.heap.size + 2) w.heap.size (w.heap.size + 1) cl none none := by
  have hmm := @run_makeMap Try.prog
  go_enter Try.func5, Try.ntmps5
  go_wp2
  go_ret
  refine ⟨by simp, by simp [go_sem], by simp [go_sem], by simp, by omega, by omega, by omega, ?_, ?_, (by repeat' (first | with_reducible exact Below.refl _ _ | with_reducible assumption | ((with_reducible refine Below.drew ?_)) | ((with_reducible refine below_drewN ?_ _)) | ((with_reducible refine Below.alloc ?_ ?_ _); rotate_left; focus (first | omega | (simp; done) | (simp; omega))) | ((with_reducible refine Below.setCell ?_ ?_ _); rotate_left; focus (first | omega | (simp; done) | (simp; omega))) | ((with_reducible refine Below.trans ?_ (Below.mono (by with_reducible assumption) ?_)); rotate_left; focus (first | omega | (simp; done) | (simp; omega)))))⟩
  · have h := (((Mp.made (κ := Int) ikv (fun v : Value => v) iok w).mono (m := 1) (by omega)).alloc (.map #[] 0)).alloc (.cells #[.map (some w.heap.size), .map (some (w.heap.size + 1))] 55)
    have e : one cl (none : Option Value) = fun _ => none := by funext x; unfold one; split <;> rfl
    rw [e]
    simpa using h
  · have h := ((Mp.made (κ := Int) ikv r5v iok (w.alloc (.map #[] 0))).mono (m := 1) (by omega)).alloc (.cells #[.map (some w.heap.size), .map (some (w.heap.size + 1))] 55)
    have e : one cl (none : Option R5) = fun _ => none := by funext x; unfold one; split <;> rfl
    rw [e]
    simpa using h
end Go.Proofs.Ytnpidbodeebnkaa
