/- A table of flows: a new one, with one flow, a nil one. -/
import Derived.Test.YtnfhiagbbmaobaaMap0
import Derived.Test.YtnfhiagbbmaobaaFk3
namespace Go.Proofs.Ytnfhiagbbmaobaa
set_option linter.unusedVariables false
set_option linter.unusedSimpArgs false
set_option maxRecDepth 100000
open Go.RowKit Fg Reg Go.MapKept Go.Maps
attribute [local irreducible] Reg.wE Reg2.wT

theorem hd_keyed : Maps.Keyed Try.prog 25 := Maps.Keyed.of_law (deep_law_gate (P := Try.prog) (by kernel_rfl) (of_decide_eq_true (by kernel_rfl)) (of_decide_eq_true (by kernel_rfl)) (by kernel_rfl) (by kernel_rfl))
theorem kn_lit : ∃ l, keyOf Try.prog 25 (Value.agg #[.int .u16 4398, .int .u16 53, .int .u16 1000, .int .u16 3]) = some l := by
  obtain ⟨l, h⟩ := Option.isSome_iff_exists.1 (show (keyOf Try.prog 25 (Value.agg #[.int .u16 4398, .int .u16 53, .int .u16 1000, .int .u16 3])).isSome = true by kernel_rfl)
  exact ⟨l, h⟩
theorem cz0 : ∀ z, (zeroValue 116).run Try.prog z = .ok (Value.agg #[.int .u64 (0), .int .u64 (0)]) z := fun z => by kernel_rfl
section
variable {z : World} {mb : Nat}
theorem look0 (c : Bool) (hb : z.heap[mb]? = some (.map #[] 0)) : (Instr.lookup 112 (.map (some mb)) (Value.agg #[.int .u16 4398, .int .u16 53, .int .u16 1000, .int .u16 3]) c).run Try.prog z = .ok (if c then .tuple #[Value.agg #[.int .u64 (0), .int .u64 (0)], .bool false] else Value.agg #[.int .u64 (0), .int .u64 (0)]) z := by
  obtain ⟨l, hl⟩ := kn_lit
  rcases hd_keyed.find z hl [] (fun e he => by cases he) with ⟨h1, h2⟩ | ⟨j, e0, h1, h2, h3⟩
  · simp [Instr.lookup, run_underlying Try.underlying112, MapKept.run_getObj_map hb, hd_keyed.check z _ hl, h1, cz0 z, Result.andThen]
  · simp at h2
theorem look1 (v : Value) (hb : z.heap[mb]? = some (.map #[⟨Value.agg #[.int .u16 4398, .int .u16 53, .int .u16 1000, .int .u16 3], v, 0⟩] 1)) : (Instr.lookup 112 (.map (some mb)) (Value.agg #[.int .u16 4398, .int .u16 53, .int .u16 1000, .int .u16 3]) false).run Try.prog z = .ok v z := by
  obtain ⟨l, hl⟩ := kn_lit
  rcases hd_keyed.find z hl [⟨Value.agg #[.int .u16 4398, .int .u16 53, .int .u16 1000, .int .u16 3], v, 0⟩] (fun e he => by simp at he; subst he; exact ⟨l, hl⟩) with ⟨h1, h2⟩ | ⟨j, e0, h1, h2, h3⟩
  · exact absurd rfl (h2 ⟨Value.agg #[.int .u16 4398, .int .u16 53, .int .u16 1000, .int .u16 3], v, 0⟩ (by simp))
  · have hj : e0 = ⟨Value.agg #[.int .u16 4398, .int .u16 53, .int .u16 1000, .int .u16 3], v, 0⟩ := by
      rcases j with _ | j
      · simpa using h2.symm
      · simp at h2
    subst hj
    simp [Instr.lookup, run_underlying Try.underlying112, MapKept.run_getObj_map hb, hd_keyed.check z _ hl, h1, Result.andThen]
theorem upd0 (v : Value) (hb : z.heap[mb]? = some (.map #[] 0)) : (Instr.mapUpdate 112 (.map (some mb)) (Value.agg #[.int .u16 4398, .int .u16 53, .int .u16 1000, .int .u16 3]) v).run Try.prog z = .ok () (ChangeMaps.setBlock z mb (.map #[⟨Value.agg #[.int .u16 4398, .int .u16 53, .int .u16 1000, .int .u16 3], v, 0⟩] 1)) := by
  obtain ⟨l, hl⟩ := kn_lit
  rcases hd_keyed.find z hl [] (fun e he => by cases he) with ⟨h1, h2⟩ | ⟨j, e0, h1, h2, h3⟩
  · simp [Instr.mapUpdate, run_underlying Try.underlying112, MapKept.run_getObj_map hb, hd_keyed.check z false hl, h1, MapKept.run_setObj_map _ hb, Result.andThen, ChangeMaps.setBlock]
  · simp at h2
theorem mlen (t : TypeId) (es : Array MapEntry) (clock : Nat) (hb : z.heap[mb]? = some (.map es clock)) : (Builtin.len_ #[112] t #[.map (some mb)]).run Try.prog z = .ok (.int .i64 es.size) z := by
  simp [Builtin.len_, run_underlying Try.underlying112, MapKept.run_getObj_map hb]
  rfl
end
/-- A new table. -/
theorem fnew_c (w : World) : Calls Try.prog 18 #[] w fun e w' => e = .returned (Value.pointer (some ⟨w.heap.size + 1, 0, none⟩)) ∧ w'.cell? ⟨w.heap.size + 1, 0, none⟩ = some (.map (some w.heap.size)) ∧ w'.heap[w.heap.size]? = some (.map #[] 0) ∧ w.heap.size + 1 < w'.heap.size ∧ Below w.heap.size w w' := by
  have hmm := @run_makeMap Try.prog
  go_enter Try.func18, Try.ntmps18
  go_wp2
  go_ret
  refine ⟨rfl, by simp [go_sem], ?_, by simp, (by repeat' (first | with_reducible exact Below.refl _ _ | with_reducible assumption | ((with_reducible refine Below.drew ?_)) | ((with_reducible refine below_drewN ?_ _)) | ((with_reducible refine Below.alloc ?_ ?_ _); rotate_left; focus (first | omega | (simp; done) | (simp; omega))) | ((with_reducible refine Below.setCell ?_ ?_ _); rotate_left; focus (first | omega | (simp; done) | (simp; omega))) | ((with_reducible refine Below.trans ?_ (Below.mono (by with_reducible assumption) ?_)); rotate_left; focus (first | omega | (simp; done) | (simp; omega)))))⟩
  have h := (MapKept.heap_alloc w (.map #[] 0)).1
  exact (Below.heap_alloc (w.alloc (.map #[] 0)) _ w.heap.size (by simp)).trans h
theorem tadd_nil (k : Value) (b : Int) (hk : ∃ a c d e : Int, k = .agg #[.int .u16 (a), .int .u16 (c), .int .u16 (d), .int .u16 (e)]) (w : World) : Calls Try.prog 19 #[.pointer none, k, .int .i64 b] w fun ee w' => ee = .returned (.int .i64 7) ∧ Below w.heap.size w w' := by
  obtain ⟨a, c, d, e, rfl⟩ := hk
  go_enter Try.func19, Try.ntmps19
  go_wp2
  (go_ret; refine ⟨?_, ?_⟩; (focus (exact rfl)); ((repeat' (first | with_reducible exact Below.refl _ _ | with_reducible assumption | ((with_reducible refine Below.drew ?_)) | ((with_reducible refine below_drewN ?_ _)) | ((with_reducible refine Below.alloc ?_ ?_ _); rotate_left; focus (first | omega | (simp; done) | (simp; omega))) | ((with_reducible refine Below.setCell ?_ ?_ _); rotate_left; focus (first | omega | (simp; done) | (simp; omega))) | ((with_reducible refine Below.trans ?_ (Below.mono (by with_reducible assumption) ?_)); rotate_left; focus (first | omega | (simp; done) | (simp; omega))))); done))
theorem theavy_nil (n : Int) (w : World) : Calls Try.prog 21 #[.pointer none, .int .i64 n] w fun ee w' => ee = .returned (.slice none 0 0) ∧ Below w.heap.size w w' := by
  go_enter Try.func21, Try.ntmps21
  go_wp2
  (go_ret; refine ⟨?_, ?_⟩; (focus (exact rfl)); ((repeat' (first | with_reducible exact Below.refl _ _ | with_reducible assumption | ((with_reducible refine Below.drew ?_)) | ((with_reducible refine below_drewN ?_ _)) | ((with_reducible refine Below.alloc ?_ ?_ _); rotate_left; focus (first | omega | (simp; done) | (simp; omega))) | ((with_reducible refine Below.setCell ?_ ?_ _); rotate_left; focus (first | omega | (simp; done) | (simp; omega))) | ((with_reducible refine Below.trans ?_ (Below.mono (by with_reducible assumption) ?_)); rotate_left; focus (first | omega | (simp; done) | (simp; omega))))); done))
theorem tlen_nil (w : World) : Calls Try.prog 22 #[.pointer none] w fun ee w' => ee = .returned (.int .i64 0) ∧ Below w.heap.size w w' := by
  go_enter Try.func22, Try.ntmps22
  go_wp2
  (go_ret; refine ⟨?_, ?_⟩; (focus (exact rfl)); ((repeat' (first | with_reducible exact Below.refl _ _ | with_reducible assumption | ((with_reducible refine Below.drew ?_)) | ((with_reducible refine below_drewN ?_ _)) | ((with_reducible refine Below.alloc ?_ ?_ _); rotate_left; focus (first | omega | (simp; done) | (simp; omega))) | ((with_reducible refine Below.setCell ?_ ?_ _); rotate_left; focus (first | omega | (simp; done) | (simp; omega))) | ((with_reducible refine Below.trans ?_ (Below.mono (by with_reducible assumption) ?_)); rotate_left; focus (first | omega | (simp; done) | (simp; omega))))); done))
theorem tget_nil (a b c d : Int) (w : World) : Calls Try.prog 26 #[.pointer none, .agg #[.int .u16 (a), .int .u16 (b), .int .u16 (c), .int .u16 (d)]] w fun ee w' => ee = .returned (.agg #[.int .u16 a, .int .u16 b, .int .u16 c, .int .u16 d, .int .u64 0, .int .u64 0]) ∧ Below w.heap.size w w' := by
  go_enter Try.func26, Try.ntmps26
  go_wp2
  refine bodyPost_ret (v := .agg #[.int .u16 a, .int .u16 b, .int .u16 c, .int .u16 d, .int .u64 0, .int .u64 0]) (by simp [results, Try.results26, go_sem, *]) rfl ⟨rfl, (by repeat' (first | with_reducible exact Below.refl _ _ | with_reducible assumption | ((with_reducible refine Below.drew ?_)) | ((with_reducible refine below_drewN ?_ _)) | ((with_reducible refine Below.alloc ?_ ?_ _); rotate_left; focus (first | omega | (simp; done) | (simp; omega))) | ((with_reducible refine Below.setCell ?_ ?_ _); rotate_left; focus (first | omega | (simp; done) | (simp; omega))) | ((with_reducible refine Below.trans ?_ (Below.mono (by with_reducible assumption) ?_)); rotate_left; focus (first | omega | (simp; done) | (simp; omega)))))⟩
theorem tlen_one (p mb : Nat) (v : Value) (w : World) (hp : w.cell? ⟨p, 0, none⟩ = some (.map (some mb))) (hm : w.heap[mb]? = some (.map #[⟨Value.agg #[.int .u16 4398, .int .u16 53, .int .u16 1000, .int .u16 3], v, 0⟩] 1)) : Calls Try.prog 22 #[Value.pointer (some ⟨p, 0, none⟩)] w fun ee w' => ee = .returned (.int .i64 1) ∧ Below w.heap.size w w' := by
  have hl := fun t => mlen t _ _ hm
  clear hm
  simp at hl
  go_enter Try.func22, Try.ntmps22
  go_wp2
  (go_ret; refine ⟨?_, ?_⟩; (focus (exact rfl)); ((repeat' (first | with_reducible exact Below.refl _ _ | with_reducible assumption | ((with_reducible refine Below.drew ?_)) | ((with_reducible refine below_drewN ?_ _)) | ((with_reducible refine Below.alloc ?_ ?_ _); rotate_left; focus (first | omega | (simp; done) | (simp; omega))) | ((with_reducible refine Below.setCell ?_ ?_ _); rotate_left; focus (first | omega | (simp; done) | (simp; omega))) | ((with_reducible refine Below.trans ?_ (Below.mono (by with_reducible assumption) ?_)); rotate_left; focus (first | omega | (simp; done) | (simp; omega))))); done))
end Go.Proofs.Ytnfhiagbbmaobaa
