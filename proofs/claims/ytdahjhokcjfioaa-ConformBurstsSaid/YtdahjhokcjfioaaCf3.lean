/- conform.check's closure. -/
import Derived.Test.YtdahjhokcjfioaaCf2
namespace Go.Proofs.Ytdahjhokcjfioaa
set_option linter.unusedVariables false
set_option linter.unusedSimpArgs false
set_option maxRecDepth 100000
open Go.RowKit Fg Reg
attribute [local irreducible] Reg.wE

def cerr (last err : Int) (e : Ev) : Int := if e.tm < last then 27 else err
def cbyt (bytes : Int) (e : Ev) : Int := if bytes ≤ 1099511627776 then bytes + cb e else bytes
set_option maxHeartbeats 2000000 in
theorem chk1_c (e : Ev) (hw : e.wf3) (w z0 : World) (x1 x2 x3 cx dx : Nat) (c last err bytes : Int) (dv : Value) (hby : 0 ≤ bytes)
    (hM : M3 w z0 x1 x2 x3 (.int .u64 last) (.int .i64 err) (.int .u64 bytes) cx c dx dv) :
    Calls Try.prog 167 #[.agg #[.int .i64 (e).op, .bool (e).inn, .bool (e).real, .int .u64 (e).tm, .int .u64 (e).dn, .int .i64 (e).cls, .int .u64 (e).id, .int .i64 (e).ln, .int .u16 (e).a, .int .u16 (e).b, .int .u16 (e).c, .int .u16 (e).d], .pointer (some ⟨x1, 0, none⟩), .pointer (some ⟨x2, 0, none⟩), .pointer (some ⟨x3, 0, none⟩)] z0 fun r z' => r = .returned (.tuple #[]) ∧ M3 w z' x1 x2 x3 (.int .u64 e.tm) (.int .i64 (cerr last err e)) (.int .u64 (cbyt bytes e)) cx c dx dv := by
  have hcb := cb_bd e hw
  have k3 := fun w => bytesOf_c e hw w
  unfold cerr cbyt
  obtain ⟨B, hB⟩ : ∃ B, cb e = B := ⟨_, rfl⟩
  rw [hB] at k3 hcb ⊢
  obtain ⟨op, inn, real, tm, dn, cls, id, ln, ha, hb, hc, hd⟩ := e
  dsimp only at *
  have K3 := Lib.hid k3
  unfold M3 at hM ⊢
  clear k3 hw hB
  go_split_ands
  have n1 : ¬ x1 = z0.heap.size := by omega
  have n2 : ¬ x2 = z0.heap.size := by omega
  have n3 : ¬ x3 = z0.heap.size := by omega
  have n4 : ¬ cx = z0.heap.size := by omega
  have n5 : ¬ dx = z0.heap.size := by omega
  have n6 : ¬ z0.heap.size = x1 := by omega
  have n7 : ¬ z0.heap.size = x2 := by omega
  have n8 : ¬ z0.heap.size = x3 := by omega
  have hs : ∀ b, b ≤ 1099511627776 → 0 ≤ b → IntKind.u64.wrap (b + B) = b + B := fun b h h0 => by rw [wrap_u64]; omega
  have hs3 : bytes ≤ 1099511627776 → IntKind.u64.wrap (bytes + B) = bytes + B := fun h => hs bytes h hby
  clear hs
  by_cases h1 : tm < last
  · rw [if_pos h1]
    have d1 : decide (tm < last) = true := by simpa using h1
    by_cases h2 : bytes ≤ 1099511627776
    · rw [if_pos h2]
      have d2 : decide (bytes ≤ 1099511627776) = true := by simpa using h2
      have hs4 := hs3 h2
      clear hs3 h1 h2
      go_enter Try.func167, Try.ntmps167
      go_wp2_with (go_at_call 138; ((with_reducible refine (K3.out _).mono ?_); rintro e w4 ⟨rfl, hbel⟩; obtain ⟨hcc, hff⟩ := bcell hbel; have hsz := hbel.size; (try simp at hsz); have hF : (w4.cell? ⟨x1, 0, none⟩ = some (.int .u64 tm) ∧ w4.cell? ⟨x2, 0, none⟩ = some (.int .i64 27) ∧ w4.cell? ⟨x3, 0, none⟩ = some (.int .u64 bytes) ∧ w4.frozen? ⟨x1, 0, none⟩ = false ∧ w4.frozen? ⟨x2, 0, none⟩ = false ∧ w4.frozen? ⟨x3, 0, none⟩ = false ∧ w4.cell? ⟨cx, 0, none⟩ = some (.int .i64 c) ∧ w4.cell? ⟨dx, 0, none⟩ = some (dv) ∧ x1 < w4.heap.size ∧ x2 < w4.heap.size ∧ x3 < w4.heap.size ∧ cx < w4.heap.size ∧ dx < w4.heap.size ∧ ¬ x1 = x2 ∧ ¬ x1 = x3 ∧ ¬ x2 = x3 ∧ ¬ x2 = x1 ∧ ¬ x3 = x1 ∧ ¬ x3 = x2 ∧ ¬ cx = x1 ∧ ¬ cx = x2 ∧ ¬ cx = x3 ∧ ¬ dx = x1 ∧ ¬ dx = x2 ∧ ¬ dx = x3 ∧ w.heap.size ≤ x1 ∧ w.heap.size ≤ x2 ∧ w.heap.size ≤ x3 ∧ Below w.heap.size w w4) := (by ((repeat' apply And.intro) <;> first | (simp [go_sem, *]; done) | omega | (repeat' (first | with_reducible exact Below.refl _ _ | with_reducible assumption | ((with_reducible refine Below.drew ?_)) | ((with_reducible refine below_drewN ?_ _)) | ((with_reducible refine Below.alloc ?_ ?_ _); rotate_left; focus (first | omega | (simp; done) | (simp; omega))) | ((with_reducible refine Below.setCell ?_ ?_ _); rotate_left; focus (first | omega | (simp; done) | (simp; omega))) | ((with_reducible refine Below.trans ?_ (Below.mono (by with_reducible assumption) ?_)); rotate_left; focus (first | omega | (simp; done) | (simp; omega))))))); go_split_ands; clear hcc hff hbel))
      refine bodyPost_end (v := .tuple #[]) (by simp [results, Try.results167]) rfl ?_
      refine ⟨rfl, ?_⟩
      ((repeat' apply And.intro) <;> first | (simp [go_sem, *]; done) | omega | (repeat' (first | with_reducible exact Below.refl _ _ | with_reducible assumption | ((with_reducible refine Below.drew ?_)) | ((with_reducible refine below_drewN ?_ _)) | ((with_reducible refine Below.alloc ?_ ?_ _); rotate_left; focus (first | omega | (simp; done) | (simp; omega))) | ((with_reducible refine Below.setCell ?_ ?_ _); rotate_left; focus (first | omega | (simp; done) | (simp; omega))) | ((with_reducible refine Below.trans ?_ (Below.mono (by with_reducible assumption) ?_)); rotate_left; focus (first | omega | (simp; done) | (simp; omega))))))
    · rw [if_neg h2]
      have d2 : decide (bytes ≤ 1099511627776) = false := by simpa using h2
      clear hs3 h1 h2
      go_enter Try.func167, Try.ntmps167
      go_wp2_with (go_at_call 138; ((with_reducible refine (K3.out _).mono ?_); rintro e w4 ⟨rfl, hbel⟩; obtain ⟨hcc, hff⟩ := bcell hbel; have hsz := hbel.size; (try simp at hsz); have hF : (w4.cell? ⟨x1, 0, none⟩ = some (.int .u64 tm) ∧ w4.cell? ⟨x2, 0, none⟩ = some (.int .i64 27) ∧ w4.cell? ⟨x3, 0, none⟩ = some (.int .u64 bytes) ∧ w4.frozen? ⟨x1, 0, none⟩ = false ∧ w4.frozen? ⟨x2, 0, none⟩ = false ∧ w4.frozen? ⟨x3, 0, none⟩ = false ∧ w4.cell? ⟨cx, 0, none⟩ = some (.int .i64 c) ∧ w4.cell? ⟨dx, 0, none⟩ = some (dv) ∧ x1 < w4.heap.size ∧ x2 < w4.heap.size ∧ x3 < w4.heap.size ∧ cx < w4.heap.size ∧ dx < w4.heap.size ∧ ¬ x1 = x2 ∧ ¬ x1 = x3 ∧ ¬ x2 = x3 ∧ ¬ x2 = x1 ∧ ¬ x3 = x1 ∧ ¬ x3 = x2 ∧ ¬ cx = x1 ∧ ¬ cx = x2 ∧ ¬ cx = x3 ∧ ¬ dx = x1 ∧ ¬ dx = x2 ∧ ¬ dx = x3 ∧ w.heap.size ≤ x1 ∧ w.heap.size ≤ x2 ∧ w.heap.size ≤ x3 ∧ Below w.heap.size w w4) := (by ((repeat' apply And.intro) <;> first | (simp [go_sem, *]; done) | omega | (repeat' (first | with_reducible exact Below.refl _ _ | with_reducible assumption | ((with_reducible refine Below.drew ?_)) | ((with_reducible refine below_drewN ?_ _)) | ((with_reducible refine Below.alloc ?_ ?_ _); rotate_left; focus (first | omega | (simp; done) | (simp; omega))) | ((with_reducible refine Below.setCell ?_ ?_ _); rotate_left; focus (first | omega | (simp; done) | (simp; omega))) | ((with_reducible refine Below.trans ?_ (Below.mono (by with_reducible assumption) ?_)); rotate_left; focus (first | omega | (simp; done) | (simp; omega))))))); go_split_ands; clear hcc hff hbel))
      refine bodyPost_end (v := .tuple #[]) (by simp [results, Try.results167]) rfl ?_
      refine ⟨rfl, ?_⟩
      ((repeat' apply And.intro) <;> first | (simp [go_sem, *]; done) | omega | (repeat' (first | with_reducible exact Below.refl _ _ | with_reducible assumption | ((with_reducible refine Below.drew ?_)) | ((with_reducible refine below_drewN ?_ _)) | ((with_reducible refine Below.alloc ?_ ?_ _); rotate_left; focus (first | omega | (simp; done) | (simp; omega))) | ((with_reducible refine Below.setCell ?_ ?_ _); rotate_left; focus (first | omega | (simp; done) | (simp; omega))) | ((with_reducible refine Below.trans ?_ (Below.mono (by with_reducible assumption) ?_)); rotate_left; focus (first | omega | (simp; done) | (simp; omega))))))
  · rw [if_neg h1]
    have d1 : decide (tm < last) = false := by simpa using h1
    by_cases h2 : bytes ≤ 1099511627776
    · rw [if_pos h2]
      have d2 : decide (bytes ≤ 1099511627776) = true := by simpa using h2
      have hs4 := hs3 h2
      clear hs3 h1 h2
      go_enter Try.func167, Try.ntmps167
      go_wp2_with (go_at_call 138; ((with_reducible refine (K3.out _).mono ?_); rintro e w4 ⟨rfl, hbel⟩; obtain ⟨hcc, hff⟩ := bcell hbel; have hsz := hbel.size; (try simp at hsz); have hF : (w4.cell? ⟨x1, 0, none⟩ = some (.int .u64 tm) ∧ w4.cell? ⟨x2, 0, none⟩ = some (.int .i64 err) ∧ w4.cell? ⟨x3, 0, none⟩ = some (.int .u64 bytes) ∧ w4.frozen? ⟨x1, 0, none⟩ = false ∧ w4.frozen? ⟨x2, 0, none⟩ = false ∧ w4.frozen? ⟨x3, 0, none⟩ = false ∧ w4.cell? ⟨cx, 0, none⟩ = some (.int .i64 c) ∧ w4.cell? ⟨dx, 0, none⟩ = some (dv) ∧ x1 < w4.heap.size ∧ x2 < w4.heap.size ∧ x3 < w4.heap.size ∧ cx < w4.heap.size ∧ dx < w4.heap.size ∧ ¬ x1 = x2 ∧ ¬ x1 = x3 ∧ ¬ x2 = x3 ∧ ¬ x2 = x1 ∧ ¬ x3 = x1 ∧ ¬ x3 = x2 ∧ ¬ cx = x1 ∧ ¬ cx = x2 ∧ ¬ cx = x3 ∧ ¬ dx = x1 ∧ ¬ dx = x2 ∧ ¬ dx = x3 ∧ w.heap.size ≤ x1 ∧ w.heap.size ≤ x2 ∧ w.heap.size ≤ x3 ∧ Below w.heap.size w w4) := (by ((repeat' apply And.intro) <;> first | (simp [go_sem, *]; done) | omega | (repeat' (first | with_reducible exact Below.refl _ _ | with_reducible assumption | ((with_reducible refine Below.drew ?_)) | ((with_reducible refine below_drewN ?_ _)) | ((with_reducible refine Below.alloc ?_ ?_ _); rotate_left; focus (first | omega | (simp; done) | (simp; omega))) | ((with_reducible refine Below.setCell ?_ ?_ _); rotate_left; focus (first | omega | (simp; done) | (simp; omega))) | ((with_reducible refine Below.trans ?_ (Below.mono (by with_reducible assumption) ?_)); rotate_left; focus (first | omega | (simp; done) | (simp; omega))))))); go_split_ands; clear hcc hff hbel))
      refine bodyPost_end (v := .tuple #[]) (by simp [results, Try.results167]) rfl ?_
      refine ⟨rfl, ?_⟩
      ((repeat' apply And.intro) <;> first | (simp [go_sem, *]; done) | omega | (repeat' (first | with_reducible exact Below.refl _ _ | with_reducible assumption | ((with_reducible refine Below.drew ?_)) | ((with_reducible refine below_drewN ?_ _)) | ((with_reducible refine Below.alloc ?_ ?_ _); rotate_left; focus (first | omega | (simp; done) | (simp; omega))) | ((with_reducible refine Below.setCell ?_ ?_ _); rotate_left; focus (first | omega | (simp; done) | (simp; omega))) | ((with_reducible refine Below.trans ?_ (Below.mono (by with_reducible assumption) ?_)); rotate_left; focus (first | omega | (simp; done) | (simp; omega))))))
    · rw [if_neg h2]
      have d2 : decide (bytes ≤ 1099511627776) = false := by simpa using h2
      clear hs3 h1 h2
      go_enter Try.func167, Try.ntmps167
      go_wp2_with (go_at_call 138; ((with_reducible refine (K3.out _).mono ?_); rintro e w4 ⟨rfl, hbel⟩; obtain ⟨hcc, hff⟩ := bcell hbel; have hsz := hbel.size; (try simp at hsz); have hF : (w4.cell? ⟨x1, 0, none⟩ = some (.int .u64 tm) ∧ w4.cell? ⟨x2, 0, none⟩ = some (.int .i64 err) ∧ w4.cell? ⟨x3, 0, none⟩ = some (.int .u64 bytes) ∧ w4.frozen? ⟨x1, 0, none⟩ = false ∧ w4.frozen? ⟨x2, 0, none⟩ = false ∧ w4.frozen? ⟨x3, 0, none⟩ = false ∧ w4.cell? ⟨cx, 0, none⟩ = some (.int .i64 c) ∧ w4.cell? ⟨dx, 0, none⟩ = some (dv) ∧ x1 < w4.heap.size ∧ x2 < w4.heap.size ∧ x3 < w4.heap.size ∧ cx < w4.heap.size ∧ dx < w4.heap.size ∧ ¬ x1 = x2 ∧ ¬ x1 = x3 ∧ ¬ x2 = x3 ∧ ¬ x2 = x1 ∧ ¬ x3 = x1 ∧ ¬ x3 = x2 ∧ ¬ cx = x1 ∧ ¬ cx = x2 ∧ ¬ cx = x3 ∧ ¬ dx = x1 ∧ ¬ dx = x2 ∧ ¬ dx = x3 ∧ w.heap.size ≤ x1 ∧ w.heap.size ≤ x2 ∧ w.heap.size ≤ x3 ∧ Below w.heap.size w w4) := (by ((repeat' apply And.intro) <;> first | (simp [go_sem, *]; done) | omega | (repeat' (first | with_reducible exact Below.refl _ _ | with_reducible assumption | ((with_reducible refine Below.drew ?_)) | ((with_reducible refine below_drewN ?_ _)) | ((with_reducible refine Below.alloc ?_ ?_ _); rotate_left; focus (first | omega | (simp; done) | (simp; omega))) | ((with_reducible refine Below.setCell ?_ ?_ _); rotate_left; focus (first | omega | (simp; done) | (simp; omega))) | ((with_reducible refine Below.trans ?_ (Below.mono (by with_reducible assumption) ?_)); rotate_left; focus (first | omega | (simp; done) | (simp; omega))))))); go_split_ands; clear hcc hff hbel))
      refine bodyPost_end (v := .tuple #[]) (by simp [results, Try.results167]) rfl ?_
      refine ⟨rfl, ?_⟩
      ((repeat' apply And.intro) <;> first | (simp [go_sem, *]; done) | omega | (repeat' (first | with_reducible exact Below.refl _ _ | with_reducible assumption | ((with_reducible refine Below.drew ?_)) | ((with_reducible refine below_drewN ?_ _)) | ((with_reducible refine Below.alloc ?_ ?_ _); rotate_left; focus (first | omega | (simp; done) | (simp; omega))) | ((with_reducible refine Below.setCell ?_ ?_ _); rotate_left; focus (first | omega | (simp; done) | (simp; omega))) | ((with_reducible refine Below.trans ?_ (Below.mono (by with_reducible assumption) ?_)); rotate_left; focus (first | omega | (simp; done) | (simp; omega))))))
end Go.Proofs.Ytdahjhokcjfioaa
