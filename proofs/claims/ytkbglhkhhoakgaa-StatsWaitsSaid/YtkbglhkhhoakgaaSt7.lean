/- StatsWaits. -/
import Derived.Test.YtkbglhkhhoakgaaSt6
import Derived.Test.YtkbglhkhhoakgaaOpenA
namespace Go.Proofs.Ytkbglhkhhoakgaa
set_option linter.unusedVariables false
set_option linter.unusedSimpArgs false
set_option maxRecDepth 100000
open Go.RowKit Fg Reg
attribute [local irreducible] Reg.wN Reg.wE QS QC

set_option maxHeartbeats 4000000 in
theorem total_none {w z : World} {p mw mr : Nat} {cl : Int} {wv : Option Value} {row : Option R5} (h : S0 w z p mw mr cl wv none) : Calls Try.prog 26 #[.pointer (some ⟨p, 0, none⟩)] z fun e z' => e = .returned (r5v r50) ∧ Below z.heap.size z z' := by
  obtain ⟨ck, hb⟩ := h.mpr.empty
  have c1 := h.c1
  have plt := h.plt
  have o3 := h.o3
  have hml : mr < z.heap.size := by omega
  clear h
  have HB2 := Lib.hid (fun o1 o2 => (show ((z.alloc o1).alloc o2).heap[mr]? = some (.map #[] ck) from (Below.heap_alloc _ _ _ (by simp; omega)).trans ((Below.heap_alloc _ _ _ hml).trans hb)))
  have HN2 := Lib.hid (fun o1 o2 => (show ((z.alloc o1).alloc o2).heap.size = z.heap.size + 2 by simp))
  clear hb
  unfold r5v r50
  dsimp only
  go_enter Try.func26, Try.ntmps26
  go_wp2_with (at_range; refine wpList_range_map rfl _ 109 _ _ rfl Try.underlying109 mr rfl #[] ck (z.heap.size + 2) (HB2.out _ _) (HN2.out _ _) ?_; intro hr1 hm1)
  go_frame
  have hD : ItD _ (z.heap.size + 2) mr := ⟨_, _, _, _, _, hr1, hm1, by simp [leftOf], by simp, Nat.le_refl _⟩
  clear hr1 hm1
  refine wp_loop_rounds 3 ?_
  rw [rounds_succ]
  go_wp2_with (at_next; refine wpList_next_done rfl _ rfl (z.heap.size + 2) mr rfl (by (repeat (first | with_reducible assumption | (refine ItD.set ?_ (by simp; try omega) (by simp; try omega) _) | (refine ItD.alloc ?_ _)))) ?_)
  refine bodyPost_ret (v := .agg #[.int .u64 0, .int .u64 0, .int .u64 0, .int .u64 0, .int .u64 0]) (by simp [results, Try.results26, go_sem, *]) rfl ⟨rfl, (by repeat' (first | with_reducible exact Below.refl _ _ | with_reducible assumption | ((with_reducible refine Below.drew ?_)) | ((with_reducible refine below_drewN ?_ _)) | ((with_reducible refine Below.alloc ?_ ?_ _); rotate_left; focus (first | omega | (simp; done) | (simp; omega))) | ((with_reducible refine Below.setCell ?_ ?_ _); rotate_left; focus (first | omega | (simp; done) | (simp; omega))) | ((with_reducible refine Below.trans ?_ (Below.mono (by with_reducible assumption) ?_)); rotate_left; focus (first | omega | (simp; done) | (simp; omega)))))⟩
/-- A row whose numbers are numbers. -/
structure R5.ok (r : R5) : Prop where
  a : 0 ≤ r.a ∧ r.a ≤ 18446744073709551615
  b : 0 ≤ r.b ∧ r.b ≤ 18446744073709551615
  c : 0 ≤ r.c ∧ r.c ≤ 18446744073709551615
  d : 0 ≤ r.d ∧ r.d ≤ 18446744073709551615
  e : 0 ≤ r.e ∧ r.e ≤ 18446744073709551615
theorem tog_0 {r : R5} (h : r.ok) : tog r50 r = r := by
  obtain ⟨a, b, c, d, e⟩ := r
  have h1 := h.a
  have h2 := h.b
  have h3 := h.c
  have h4 := h.d
  have h5 := h.e
  dsimp only at h1 h2 h3 h4 h5
  have e5 : mxx 0 e = e := by unfold mxx; split <;> omega
  unfold tog r50
  simp only [wrap_u64, e5, R5.mk.injEq]
  refine ⟨?_, ?_, ?_, ?_, trivial⟩ <;> omega
theorem total_c {w z : World} {p mw mr : Nat} {cl : Int} {wv : Option Value} {row : Option R5} (h : S0 w z p mw mr cl wv row) {R : R5} (hr : row.getD r50 = R) (ho : R.ok) : Calls Try.prog 26 #[.pointer (some ⟨p, 0, none⟩)] z fun e z' => e = .returned (r5v R) ∧ Below z.heap.size z z' := by
  cases row with
  | none => subst hr; exact total_none (row := none) h
  | some r =>
    subst hr
    have := total_some (row := none) h
    rw [show tog r50 r = r from tog_0 ho] at this
    exact this
/-- A row held against itself. -/
theorem eqR5S (a b c d e : Int) (w : World) : (Op.equalIn 10000 49 (.agg #[.int .u64 a, .int .u64 b, .int .u64 c, .int .u64 d, .int .u64 e]) (.agg #[.int .u64 a, .int .u64 b, .int .u64 c, .int .u64 d, .int .u64 e])).run Try.prog w = .ok true w := by
  have hz : ∀ w, (sizeOf 45).run Try.prog w = .ok 1 w := fun w => by kernel_rfl
  have ha : ∀ w, (isAgg 45).run Try.prog w = .ok false w := fun w => by kernel_rfl
  have u1 := Try.underlying45
  have hS : Try.prog.underlying 49 = some (.struct (Try.prog.fieldsOf 49)) := by kernel_rfl
  have hp : Try.prog.stoodInHeld 49 = false := by kernel_rfl
  rw [show (10000 : Nat) = 9999 + 1 from rfl, run_equalIn_agg w 9999 49 _ _ hS hp]
  simp only [Program.fieldsOf, Try.underlying49]
  go_simp
set_option maxHeartbeats 4000000 in
theorem waits_out (cl : Int) (a1 a2 : Option Addr) (n1 n2 c1 c2 : Nat) (hn : ¬ n1 = n2 ∨ (n1 = n2 ∧ 100 < n1)) (w : World) :
    Calls Try.prog 6 #[.slice a1 n1 c1, .slice a2 n2 c2, .int .i64 cl] w fun e w' => e = .returned (.bool true) ∧ Below w.heap.size w w' := by
  have K7 := Lib.hid fifteen_c
  rcases hn with hn | ⟨rfl, hn⟩
  · have d1 : ((n1 : Int) == (n2 : Int)) = false := by simp; omega
    go_enter Try.func6, Try.ntmps6
    go_wp2_with (go_at_call 21; ((with_reducible refine (K7.out _).mono ?_); rintro e w7 ⟨rfl, hbel⟩; obtain ⟨hcc, hff⟩ := bcell hbel; have hsz := hbel.size; (try simp at hsz); have hF : Below w.heap.size w w7 := (by ((repeat' apply And.intro) <;> first | (simp [go_sem, *]; done) | omega | (repeat' (first | with_reducible exact Below.refl _ _ | with_reducible assumption | ((with_reducible refine Below.drew ?_)) | ((with_reducible refine below_drewN ?_ _)) | ((with_reducible refine Below.alloc ?_ ?_ _); rotate_left; focus (first | omega | (simp; done) | (simp; omega))) | ((with_reducible refine Below.setCell ?_ ?_ _); rotate_left; focus (first | omega | (simp; done) | (simp; omega))) | ((with_reducible refine Below.trans ?_ (Below.mono (by with_reducible assumption) ?_)); rotate_left; focus (first | omega | (simp; done) | (simp; omega))))))); go_split_ands; clear hcc hff hbel))
    (go_ret; refine ⟨?_, ?_⟩; (focus (exact rfl)); ((repeat' (first | with_reducible exact Below.refl _ _ | with_reducible assumption | ((with_reducible refine Below.drew ?_)) | ((with_reducible refine below_drewN ?_ _)) | ((with_reducible refine Below.alloc ?_ ?_ _); rotate_left; focus (first | omega | (simp; done) | (simp; omega))) | ((with_reducible refine Below.setCell ?_ ?_ _); rotate_left; focus (first | omega | (simp; done) | (simp; omega))) | ((with_reducible refine Below.trans ?_ (Below.mono (by with_reducible assumption) ?_)); rotate_left; focus (first | omega | (simp; done) | (simp; omega))))); done))
  · have d1 : decide (100 < (n1 : Int)) = true := by simp; omega
    go_enter Try.func6, Try.ntmps6
    go_wp2_with (go_at_call 21; ((with_reducible refine (K7.out _).mono ?_); rintro e w7 ⟨rfl, hbel⟩; obtain ⟨hcc, hff⟩ := bcell hbel; have hsz := hbel.size; (try simp at hsz); have hF : Below w.heap.size w w7 := (by ((repeat' apply And.intro) <;> first | (simp [go_sem, *]; done) | omega | (repeat' (first | with_reducible exact Below.refl _ _ | with_reducible assumption | ((with_reducible refine Below.drew ?_)) | ((with_reducible refine below_drewN ?_ _)) | ((with_reducible refine Below.alloc ?_ ?_ _); rotate_left; focus (first | omega | (simp; done) | (simp; omega))) | ((with_reducible refine Below.setCell ?_ ?_ _); rotate_left; focus (first | omega | (simp; done) | (simp; omega))) | ((with_reducible refine Below.trans ?_ (Below.mono (by with_reducible assumption) ?_)); rotate_left; focus (first | omega | (simp; done) | (simp; omega))))))); go_split_ands; clear hcc hff hbel))
    (go_ret; refine ⟨?_, ?_⟩; (focus (exact rfl)); ((repeat' (first | with_reducible exact Below.refl _ _ | with_reducible assumption | ((with_reducible refine Below.drew ?_)) | ((with_reducible refine below_drewN ?_ _)) | ((with_reducible refine Below.alloc ?_ ?_ _); rotate_left; focus (first | omega | (simp; done) | (simp; omega))) | ((with_reducible refine Below.setCell ?_ ?_ _); rotate_left; focus (first | omega | (simp; done) | (simp; omega))) | ((with_reducible refine Below.trans ?_ (Below.mono (by with_reducible assumption) ?_)); rotate_left; focus (first | omega | (simp; done) | (simp; omega))))); done))
end Go.Proofs.Ytkbglhkhhoakgaa
