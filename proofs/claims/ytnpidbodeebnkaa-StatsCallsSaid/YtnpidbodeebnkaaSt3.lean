/- Statistics: what is told; two rows together. -/
import Derived.Test.YtnpidbodeebnkaaSt2
namespace Go.Proofs.Ytnpidbodeebnkaa
set_option linter.unusedVariables false
set_option linter.unusedSimpArgs false
set_option maxRecDepth 100000
open Go.RowKit Fg Reg
attribute [local irreducible] Reg.wN Reg.wE QS

theorem waiting_c {w z : World} {p mw mr : Nat} {cl : Int} {wv : Option Value} {row : Option R5} {m : Nat} {g : Nat → Value} (h : S0 w z p mw mr cl wv row) (hq : QS z (p + 1) (wrow wv) m g) (hc : iok cl) : Calls Try.prog 14 #[.pointer (some ⟨p, 0, none⟩), .int .i64 cl] z fun e z' => e = .returned (.int .i64 m) ∧ Below z.heap.size z z' := by
  obtain ⟨ao, cp, hv⟩ := QS.form hq
  have hl := h.lookw hc
  rw [hv] at hl
  have c0 := h.c0
  have plt := h.plt
  clear h hq
  go_enter Try.func14, Try.ntmps14
  go_wp2
  go_ret
  exact ⟨rfl, Below.refl _ _⟩
set_option maxHeartbeats 4000000 in
theorem row_c {w z : World} {p mw mr : Nat} {cl : Int} {wv : Option Value} {row : Option R5} (h : S0 w z p mw mr cl wv row) (hc : iok cl) : Calls Try.prog 11 #[.pointer (some ⟨p, 0, none⟩), .int .i64 cl] z fun e z' => e = .returned (r5v (row.getD r50)) ∧ Below z.heap.size z z' := by
  have hb : Below z.heap.size z (z.alloc (.cells #[.int .u64 0, .int .u64 0, .int .u64 0, .int .u64 0, .int .u64 0] 39)) := Below.alloc (Below.refl _ _) (Nat.le_refl _) _
  have hl := (h.below hb).lookr hc
  have c1 := h.c1
  have plt := h.plt
  clear h hb
  generalize row.getD r50 = r at *
  unfold r5v at hl ⊢
  go_enter Try.func11, Try.ntmps11
  go_wp2
  refine bodyPost_ret (v := .agg #[.int .u64 (r).a, .int .u64 (r).b, .int .u64 (r).c, .int .u64 (r).d, .int .u64 (r).e]) (by simp [results, Try.results11, go_sem, *]) rfl ⟨rfl, (by repeat' (first | with_reducible exact Below.refl _ _ | with_reducible assumption | ((with_reducible refine Below.drew ?_)) | ((with_reducible refine below_drewN ?_ _)) | ((with_reducible refine Below.alloc ?_ ?_ _); rotate_left; focus (first | omega | (simp; done) | (simp; omega))) | ((with_reducible refine Below.setCell ?_ ?_ _); rotate_left; focus (first | omega | (simp; done) | (simp; omega))) | ((with_reducible refine Below.trans ?_ (Below.mono (by with_reducible assumption) ?_)); rotate_left; focus (first | omega | (simp; done) | (simp; omega)))))⟩
def mxx (a b : Int) : Int := if b > a then b else a
theorem run_mxx (a b : Int) (w : World) : (Builtin.max_ #[27, 27] 27 #[.int .u64 a, .int .u64 b]).run Try.prog w = .ok (.int .u64 (mxx a b)) w := by
  unfold mxx; simp [Builtin.max_, Builtin.max2]
/-- Two rows as one. -/
def tog (x y : R5) : R5 := ⟨IntKind.u64.wrap (x.a + y.a), IntKind.u64.wrap (x.b + y.b), IntKind.u64.wrap (x.c + y.c), IntKind.u64.wrap (x.d + y.d), mxx x.e y.e⟩
set_option maxHeartbeats 4000000 in
theorem tog_c (x y : R5) (z : World) : Calls Try.prog 20 #[r5v x, r5v y] z fun e z' => e = .returned (r5v (tog x y)) ∧ Below z.heap.size z z' := by
  have hmx := run_mxx x.e y.e
  unfold r5v tog
  dsimp only
  go_enter Try.func20, Try.ntmps20
  go_wp2
  refine bodyPost_ret (v := .agg #[.int .u64 (IntKind.u64.wrap (x.a + y.a)), .int .u64 (IntKind.u64.wrap (x.b + y.b)), .int .u64 (IntKind.u64.wrap (x.c + y.c)), .int .u64 (IntKind.u64.wrap (x.d + y.d)), .int .u64 (mxx x.e y.e)]) (by simp [results, Try.results20, go_sem, *]) rfl ⟨rfl, (by repeat' (first | with_reducible exact Below.refl _ _ | with_reducible assumption | ((with_reducible refine Below.drew ?_)) | ((with_reducible refine below_drewN ?_ _)) | ((with_reducible refine Below.alloc ?_ ?_ _); rotate_left; focus (first | omega | (simp; done) | (simp; omega))) | ((with_reducible refine Below.setCell ?_ ?_ _); rotate_left; focus (first | omega | (simp; done) | (simp; omega))) | ((with_reducible refine Below.trans ?_ (Below.mono (by with_reducible assumption) ?_)); rotate_left; focus (first | omega | (simp; done) | (simp; omega)))))⟩
theorem intkeys_one {D : DataW Unit} {cl : Int} {α : Type} {v : α} (h : ∀ x, x ∈ intKeys D ↔ (one cl (some v) x).isSome = true) (hn : (intKeys D).Nodup) : intKeys D = [cl] := by
  have h1 : ∀ x, x ∈ intKeys D ↔ x = cl := fun x => by
    rw [h x]; unfold one; split <;> simp_all
  match hk : intKeys D with
  | [] => have := (h1 cl).2 rfl; rw [hk] at this; cases this
  | [a] => have := (h1 a).1 (by rw [hk]; simp); rw [this]
  | a :: b :: l =>
    have ha := (h1 a).1 (by rw [hk]; simp)
    have hb := (h1 b).1 (by rw [hk]; simp)
    rw [hk, ha, hb] at hn
    simp at hn
theorem icl_of : CellsOf (fun x : Int => [Value.int .i64 x]) 1 := ⟨fun _ => rfl, fun x v hv => by simp at hv; subst hv; rfl, by decide⟩
set_option maxHeartbeats 4000000 in
theorem classes_c {w z : World} {p mw mr : Nat} {cl : Int} {wv : Option Value} {row : Option R5} {v : Value} (h : S0 w z p mw mr cl (some v) row) : Calls Try.prog 18 #[.pointer (some ⟨p, 0, none⟩)] z fun e z' => (∃ a c, e = .returned (.slice a 1 c) ∧ RwV (fun x : Int => [Value.int .i64 x]) 1 z' a [cl]) ∧ Below z.heap.size z z' := by
  obtain ⟨D, hown, hsz, hmem, hnd⟩ := Mp.owns (n := 1) (by unfold maxLen; omega) h.mpw
  have hk := intkeys_one hmem hnd
  have K1 := Lib.hid keys_c
  have K2 := Lib.hid (sorted_c mw 1 D _ z hown (by unfold maxLen; omega) (by omega))
  have c0 := h.c0
  have plt := h.plt
  clear h hown hsz hmem hnd
  go_enter Try.func18, Try.ntmps18
  go_wp2_with (first
    | (go_at_call 22; ((with_reducible refine (K1.out _ _).mono ?_); rintro e w1 ⟨rfl, rfl⟩))
    | (go_at_call 21; ((with_reducible refine (K2.out).mono ?_); rintro e w2 ⟨v2, ss, rfl, hS, hrow, -, hb⟩)))
  go_ret
  rw [hk] at hS
  have hss : ss = [cl] := List.perm_singleton.1 hS
  subst hss
  have hr2 : w2.ownsRow z.heap.size 3 1 v2 [cl].length ([cl].flatMap (fun x : Int => [Value.int .i64 x])) := by
    rw [List.mergeSort_singleton] at hrow
    exact hrow
  obtain ⟨a, c, rfl, hR, -⟩ := RwV.of_own icl_of hr2
  exact ⟨⟨a, c, rfl, hR⟩, hb⟩
set_option maxHeartbeats 4000000 in
theorem ints_same (zs : List Int) (a1 a2 : Option Addr) (c1 c2 : Nat) (hn : zs.length ≤ 100000) (w : World) (h1 : RwV (fun x : Int => [Value.int .i64 x]) 1 w a1 zs) (h2 : RwV (fun x : Int => [Value.int .i64 x]) 1 w a2 zs) : Calls Try.prog 17 #[.slice a1 zs.length c1, .slice a2 zs.length c2] w fun ee w' => ee = .returned (.bool true) ∧ Below w.heap.size w w' := by
  have H1 := Lib.hid h1
  have H2 := Lib.hid h2
  clear h1 h2
  go_enter Try.func17, Try.ntmps17
  go_wp2_with fail
  go_loopw [13] (fun ii wr => ∃ k : Nat, k ≤ zs.length ∧ ii = .int .i64 k ∧ Below w.heap.size w wr) (fun ii _ => zs.length - (intOf ii).toNat)
  case atStart => exact ⟨0, Nat.zero_le _, rfl, Below.refl _ _⟩
  case round =>
    obtain ⟨k, hk, rfl, hB⟩ := hrel
    have hsz := hB.size
    by_cases hlt : k < zs.length
    · obtain ⟨b1, o1, rfl, hb1, hr1⟩ := (H1.out.below hB) k hlt
      obtain ⟨b2, o2, rfl, hb2, hr2⟩ := (H2.out.below hB) k hlt
      have e1 : wr.cell? ⟨b1, o1 + k, none⟩ = some (.int .i64 zs[k]) := by have := hr1 0 _ rfl; simpa using this
      have e2 : wr.cell? ⟨b2, o2 + k, none⟩ = some (.int .i64 zs[k]) := by have := hr2 0 _ rfl; simpa using this
      clear hr1 hr2
      generalize zs[k] = y at *
      go_wp2
      go_quiet (fail)
      go_wp2
      go_roundw
      case rel => exact ⟨k + 1, by omega, by go_num, by ((repeat' apply And.intro) <;> first | (simp [go_sem, *]; done) | omega | (repeat' (first | with_reducible exact Below.refl _ _ | with_reducible assumption | ((with_reducible refine Below.drew ?_)) | ((with_reducible refine below_drewN ?_ _)) | ((with_reducible refine Below.alloc ?_ ?_ _); rotate_left; focus (first | omega | (simp; done) | (simp; omega))) | ((with_reducible refine Below.setCell ?_ ?_ _); rotate_left; focus (first | omega | (simp; done) | (simp; omega))) | ((with_reducible refine Below.trans ?_ (Below.mono (by with_reducible assumption) ?_)); rotate_left; focus (first | omega | (simp; done) | (simp; omega))))))⟩
      case measure => simp [intOf]; omega
    · obtain rfl : k = zs.length := by omega
      go_wp2
      go_ret
      exact ⟨rfl, hB⟩
end Go.Proofs.Ytnpidbodeebnkaa
