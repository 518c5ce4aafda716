/- capture.Ops of the laws' example. -/
import Derived.Test.YtnfhiagbbmaobaaCp11
namespace Go.Proofs.Ytnfhiagbbmaobaa
set_option linter.unusedVariables false
set_option linter.unusedSimpArgs false
set_option maxRecDepth 100000
open Go.RowKit Fg Reg
attribute [local irreducible] Reg.wE Reg2.wT World.ownsRow

def fab : Fm := ⟨5, (⟨#[97, 98]⟩ : ByteArray)⟩
set_option maxHeartbeats 8000000 in
theorem cop_ab (a : Option Addr) (cap : Nat) (w : World) (hR : RwV Fm.cells 2 w a [fab]) : Calls Try.prog 36 #[.slice a 1 cap, .int .i64 100] w (fun e w' => ∃ v, e = .returned (.tuple #[v, .int .i64 0]) ∧ w'.ownsRow w.heap.size 90 10 v 2 ([Value.int .i64 4, Value.slice none 0 0, Value.slice none 0 0, Value.int .u64 0, Value.int .i64 0, Value.int .u16 0, Value.int .u16 0, Value.int .u16 0, Value.int .u16 0, Value.int .u64 5] ++ [Value.int .i64 3, Value.slice none 0 0, Value.slice none 0 0, Value.int .u64 0, Value.int .i64 2, Value.int .u16 0, Value.int .u16 0, Value.int .u16 0, Value.int .u16 0, Value.int .u64 0]) ∧ Below w.heap.size w w') := by
  obtain ⟨ie, HI0, HZ0, HZ1, HZ2⟩ := opt_parts
  have hwf : ∀ k (h : k < [fab].length), [fab][k].wf := by
    intro k hk
    obtain rfl : k = 0 := by simpa using hk
    show ((0 : Int) ≤ 5 ∧ (5 : Int) ≤ 18446744073709551615) ∧ ((⟨#[97, 98]⟩ : ByteArray)).size ≤ 9223372036854775807
    decide +kernel
  have hc := cchk_c [fab] hwf (by simp) a cap w hR
  rw [show chk [fab] = 0 by decide +kernel] at hc
  have KP := Lib.hid (fun z => cpk_ab z)
  obtain ⟨b, o, ha, hb, q0, q1⟩ := fm_cells hR 0 (by simp)
  simp only [Nat.zero_mul, Nat.add_zero] at q0 q1
  rw [show [fab][0].t = 5 from rfl] at q0
  rw [show [fab][0].d = (⟨#[97, 98]⟩ : ByteArray) from rfl] at q1
  subst ha
  have hc1 : Calls Try.prog 56 #[.slice (some ⟨b, o, none⟩) 1 cap] w fun ee w' => ee = .returned (.int .i64 0) ∧ Below w.heap.size w w' := hc
  have KC := Lib.hid hc1
  clear hc hc1 hR hwf
  go_enter Try.func36, Try.ntmps36
  go_wp2_with (go_at_call 56; ((with_reducible refine (KC.out).mono ?_); rintro e w1 ⟨rfl, hbel⟩; obtain ⟨hcc, hff⟩ := bcell hbel; have hsz := hbel.size; (try simp at hsz); have hF : w1.cell? ⟨b, o, none⟩ = some (.int .u64 5) ∧ w1.cell? ⟨b, o + 1, none⟩ = some (.string (⟨#[97, 98]⟩ : ByteArray)) ∧ b < w1.heap.size ∧ Below w.heap.size w w1 := (by ((repeat' apply And.intro) <;> first | (simp [go_sem, *]; done) | omega | (repeat' (first | with_reducible exact Below.refl _ _ | with_reducible assumption | ((with_reducible refine Below.drew ?_)) | ((with_reducible refine below_drewN ?_ _)) | ((with_reducible refine Below.alloc ?_ ?_ _); rotate_left; focus (first | omega | (simp; done) | (simp; omega))) | ((with_reducible refine Below.setCell ?_ ?_ _); rotate_left; focus (first | omega | (simp; done) | (simp; omega))) | ((with_reducible refine Below.trans ?_ (Below.mono (by with_reducible assumption) ?_)); rotate_left; focus (first | omega | (simp; done) | (simp; omega))))))); go_split_ands; clear hcc hff hbel))
  have hB1 : Below w.heap.size w w1 := by assumption
  refine wp_loop_rounds 2 ?_
  rw [rounds_succ]
  go_wp2_with (at_builtin; (refine wpList_append_gw rfl _ _ 83 rfl w.heap.size 90 ie (.agg #[.int .i64 0, .slice none 0 0, .slice none 0 0, .int .u64 0, .int .i64 0, .int .u16 0, .int .u16 0, .int .u16 0, .int .u16 0, .int .u64 0]) 10 88 Try.underlying83 HI0 HZ0 HZ1 HZ2 rfl (by decide) _ _ _ rfl (World.ownsRow_nil _ _ _ _) ⟨_, 0, none⟩ 1 1 [Value.int .i64 4, Value.slice none 0 0, Value.slice none 0 0, Value.int .u64 0, Value.int .i64 0, Value.int .u16 0, Value.int .u16 0, Value.int .u16 0, Value.int .u16 0, Value.int .u64 5] rfl rfl ?c1 ?c2 ?c3 ?c4 ?c5 ?_))
  case c1 => (intro j u hu; rcases j with _ | _ | _ | _ | _ | _ | _ | _ | _ | _ | j <;> simp at hu <;> (try subst hu) <;> simp [Addr.add, go_sem])
  case c2 => (intro u hu; simp at hu; rcases hu with rfl | rfl | rfl | rfl | rfl | rfl <;> rfl)
  case c3 => (unfold maxLen; omega)
  case c4 => omega
  case c5 => (have := hB1.size; simp; omega)
  intro v2 w2 hO2 hg2
  have hsz1 := hB1.size
  have hnn : (Value.slice none 0 0).ownBlock ≠ some w1.heap.size := fun e => by cases e
  have x0 : w2.cell? ⟨w1.heap.size, 0, none⟩ = some (.int .u64 5) := (hg2.cell (by simp; omega) hnn).trans (by simp [go_sem])
  have x1 : w2.cell? ⟨w1.heap.size, 1, none⟩ = some (.string (⟨#[97, 98]⟩ : ByteArray)) := (hg2.cell (by simp; omega) hnn).trans (by simp [go_sem])
  have hv2 := hg2.apart (b := w1.heap.size) (by simp; omega) hnn
  have hB2 := hg2.only.below (B := w.heap.size) (a := w) (by repeat' (first | with_reducible exact Below.refl _ _ | with_reducible assumption | ((with_reducible refine Below.drew ?_)) | ((with_reducible refine below_drewN ?_ _)) | ((with_reducible refine Below.alloc ?_ ?_ _); rotate_left; focus (first | omega | (simp; done) | (simp; omega))) | ((with_reducible refine Below.setCell ?_ ?_ _); rotate_left; focus (first | omega | (simp; done) | (simp; omega))) | ((with_reducible refine Below.trans ?_ (Below.mono (by with_reducible assumption) ?_)); rotate_left; focus (first | omega | (simp; done) | (simp; omega))))) (by simp; omega) (fun k hk => by cases hk)
  have hsz2 : w1.heap.size + 2 ≤ w2.heap.size := by have := hg2.only.size; simpa using this
  have hblk2 := row_blk hO2
  clear hg2
  go_wp2_with (first
    | (go_at_call 62; ((with_reducible refine (KP.out _).mono ?_); rintro e w3 ⟨rfl, hbel⟩; (have hO3 := row_bel hO2 hbel); (have hsz3 := hbel.size); (have y0 := (hbel.cell (p := ⟨w1.heap.size, 0, none⟩) (by show w1.heap.size < w2.heap.size; omega)).trans x0); (have y1 := (hbel.cell (p := ⟨w1.heap.size, 1, none⟩) (by show w1.heap.size < w2.heap.size; omega)).trans x1); (have hB3 := Below.trans hB2 (hbel.mono hB2.size))))
    | (at_builtin; (refine wpList_append_gw rfl _ _ 83 rfl w.heap.size 90 ie (.agg #[.int .i64 0, .slice none 0 0, .slice none 0 0, .int .u64 0, .int .i64 0, .int .u16 0, .int .u16 0, .int .u16 0, .int .u16 0, .int .u64 0]) 10 88 Try.underlying83 HI0 HZ0 HZ1 HZ2 rfl (by decide) _ _ _ rfl (row_al hO3 _) ⟨_, 0, none⟩ 1 1 [Value.int .i64 3, Value.slice none 0 0, Value.slice none 0 0, Value.int .u64 0, Value.int .i64 2, Value.int .u16 0, Value.int .u16 0, Value.int .u16 0, Value.int .u16 0, Value.int .u64 0] rfl rfl ?c1 ?c2 ?c3 ?c4 ?c5 ?_)))
  case c1 => (intro j u hu; rcases j with _ | _ | _ | _ | _ | _ | _ | _ | _ | _ | j <;> simp at hu <;> (try subst hu) <;> simp [Addr.add, go_sem])
  case c2 => (intro u hu; simp at hu; rcases hu with rfl | rfl | rfl | rfl | rfl | rfl <;> rfl)
  case c3 => (unfold maxLen; omega)
  case c4 => omega
  case c5 => (simp; omega)
  intro v4 w4 hO4 hg4
  have hB4 := hg4.only.below (B := w.heap.size) (a := w) (by repeat' (first | with_reducible exact Below.refl _ _ | with_reducible assumption | ((with_reducible refine Below.drew ?_)) | ((with_reducible refine below_drewN ?_ _)) | ((with_reducible refine Below.alloc ?_ ?_ _); rotate_left; focus (first | omega | (simp; done) | (simp; omega))) | ((with_reducible refine Below.setCell ?_ ?_ _); rotate_left; focus (first | omega | (simp; done) | (simp; omega))) | ((with_reducible refine Below.trans ?_ (Below.mono (by with_reducible assumption) ?_)); rotate_left; focus (first | omega | (simp; done) | (simp; omega))))) (by simp; omega) (fun k hk => (hblk2 k hk).1)
  go_wp2
  rw [rounds_succ]
  go_wp2
  go_ret2
  exact ⟨_, rfl, hO4, hB4⟩
end Go.Proofs.Ytnfhiagbbmaobaa
