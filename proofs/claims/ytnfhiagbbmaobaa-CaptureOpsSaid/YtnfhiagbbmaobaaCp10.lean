/- The laws' same, ref and few (captures). -/
import Derived.Test.YtnfhiagbbmaobaaCp2
import Derived.Test.YtnfhiagbbmaobaaCp9
namespace Go.Proofs.Ytnfhiagbbmaobaa
set_option linter.unusedVariables false
set_option linter.unusedSimpArgs false
set_option maxRecDepth 100000
open Go.RowKit Fg Reg
attribute [local irreducible] Reg.wE Reg2.wT World.ownsRow

set_option maxHeartbeats 4000000 in
theorem csame_c (L : List Fm) (hL : L.length ≤ 1000000000) (a a2 : Option Addr) (cap cap2 : Nat) (w : World) (hA : RwV Fm.cells 2 w a L) (hA2 : RwV Fm.cells 2 w a2 L) : Calls Try.prog 34 #[.slice a L.length cap, .slice a2 L.length cap2] w fun ee w' => ee = .returned (.bool true) ∧ Below w.heap.size w w' := by
  have HA := Lib.hid hA
  have HA2 := Lib.hid hA2
  clear hA hA2
  go_enter Try.func34, Try.ntmps34
  go_wp2_with fail
  go_loopw [14] (fun ii wr => ∃ (k : Nat), k ≤ L.length ∧ ii = .int .i64 k ∧ Below w.heap.size w wr) (fun ii _ => L.length - (intOf ii).toNat)
  case atStart => exact ⟨0, Nat.zero_le _, rfl, Below.refl _ _⟩
  case round =>
    obtain ⟨k, hk, rfl, hB⟩ := hrel
    by_cases hlt : k < L.length
    · obtain ⟨b, o, ha, hb, q0, q1⟩ := fm_cells HA.out k hlt
      obtain ⟨b2, o2, ha2, hb2, r0, r1⟩ := fm_cells HA2.out k hlt
      have c0 := (hB.cell (p := ⟨b, o + k * 2, none⟩) hb).trans q0
      have c1 := (hB.cell (p := ⟨b, o + k * 2 + 1, none⟩) hb).trans q1
      have y0 := (hB.cell (p := ⟨b2, o2 + k * 2, none⟩) hb2).trans r0
      have y1 := (hB.cell (p := ⟨b2, o2 + k * 2 + 1, none⟩) hb2).trans r1
      obtain ⟨t, ht⟩ : ∃ t, L[k].t = t := ⟨_, rfl⟩
      obtain ⟨d, hd⟩ : ∃ d, L[k].d = d := ⟨_, rfl⟩
      rw [ht] at c0 y0
      rw [hd] at c1 y1
      have hsz := hB.size
      subst ha ha2
      clear q0 q1 r0 r1 ht hd
      have hbr : b < wr.heap.size := by omega
      have hbr2 : b2 < wr.heap.size := by omega
      go_wp2
      go_quiet (fail)
      go_wp2
      go_roundw
      case rel => exact ⟨k + 1, by omega, by go_num, by ((repeat' (first | with_reducible exact Below.refl _ _ | with_reducible assumption | ((with_reducible refine Below.drew ?_)) | ((with_reducible refine below_drewN ?_ _)) | ((with_reducible refine Below.alloc ?_ ?_ _); rotate_left; focus (first | omega | (simp; done) | (simp; omega))) | ((with_reducible refine Below.setCell ?_ ?_ _); rotate_left; focus (first | omega | (simp; done) | (simp; omega))) | ((with_reducible refine Below.trans ?_ (Below.mono (by with_reducible assumption) ?_)); rotate_left; focus (first | omega | (simp; done) | (simp; omega))))); done)⟩
      case measure => (simp [intOf]; try omega)
    · obtain rfl : k = L.length := by omega
      go_wp2
      go_ret
      exact ⟨rfl, hB⟩
set_option maxHeartbeats 8000000 in
theorem cref_c (L : List Fm) (hL : L.length ≤ 1000000000) (a : Option Addr) (cap : Nat) (w : World) (hA : RwV Fm.cells 2 w a L) : Calls Try.prog 31 #[.slice a L.length cap] w (fun e w' => ∃ v, e = .returned v ∧ w'.ownsRow w.heap.size 124 2 v L.length (L.flatMap Fm.cells) ∧ Below w.heap.size w w') := by
  obtain ⟨ie, HI0, HZ0, HZ1, HZ2⟩ := rft_parts
  have HA := Lib.hid hA
  clear hA
  go_enter Try.func31, Try.ntmps31
  go_wp2_with fail
  go_loopw [3, 8] (fun out ii wr => ∃ (k : Nat) (v : Value), k ≤ L.length ∧ ii = .int .i64 k ∧ out = v ∧ wr.ownsRow w.heap.size 124 2 v k ((L.take k).flatMap Fm.cells) ∧ Below w.heap.size w wr) (fun _ ii _ => L.length - (intOf ii).toNat)
  case atStart => exact ⟨0, _, Nat.zero_le _, rfl, rfl, World.ownsRow_nil _ _ _ _, Below.refl _ _⟩
  case round =>
    obtain ⟨k, v, hk, rfl, hv, hO, hB⟩ := hrel
    have hv' := hv.symm
    subst hv'
    by_cases hlt : k < L.length
    · obtain ⟨b, o, ha, hb, q0, q1⟩ := fm_cells HA.out k hlt
      have c0 := (hB.cell (p := ⟨b, o + k * 2, none⟩) hb).trans q0
      have c1 := (hB.cell (p := ⟨b, o + k * 2 + 1, none⟩) hb).trans q1
      have hts : (L.take (k + 1)).flatMap Fm.cells = (L.take k).flatMap Fm.cells ++ [.int .u64 L[k].t, .string L[k].d] := by
        rw [List.take_succ_eq_append_getElem hlt, List.flatMap_append]
        simp [Fm.cells]
      obtain ⟨t, ht⟩ : ∃ t, L[k].t = t := ⟨_, rfl⟩
      obtain ⟨d, hd⟩ : ∃ d, L[k].d = d := ⟨_, rfl⟩
      rw [ht] at c0 hts
      rw [hd] at c1 hts
      have HTS := Lib.hid hts
      have hsz := hB.size
      subst ha
      clear q0 q1 ht hd hts
      have hbr : b < wr.heap.size := by omega
      have hblk := row_blk hO
      have hvb : v.ownBlock ≠ some wr.heap.size := fun e => by have := (hblk _ e).2; omega
      go_wp2_with (at_builtin; (refine wpList_append_gw rfl _ _ 73 rfl w.heap.size 124 ie (.agg #[.int .u64 0, .string ⟨#[]⟩]) 2 24 Try.underlying73 HI0 HZ0 HZ1 HZ2 rfl (by decide) _ _ _ rfl (row_al (row_al hO _) _) ⟨_, 0, none⟩ 1 1 [.int .u64 t, .string d] rfl rfl ?c1 ?c2 ?c3 ?c4 ?c5 ?_))
      try case c1 => (intro j u hu; rcases j with _ | _ | j <;> simp at hu <;> (try subst hu) <;> simp [Addr.add, go_sem])
      case c2 => exact ⟨rfl, rfl⟩
      case c3 => (unfold maxLen; omega)
      case c4 => omega
      case c5 => omega
      intro v5 w5 hO5 hg5
      have hbw := hg5.only.below (B := w.heap.size) (a := w) (by repeat' (first | with_reducible exact Below.refl _ _ | with_reducible assumption | ((with_reducible refine Below.drew ?_)) | ((with_reducible refine below_drewN ?_ _)) | ((with_reducible refine Below.alloc ?_ ?_ _); rotate_left; focus (first | omega | (simp; done) | (simp; omega))) | ((with_reducible refine Below.setCell ?_ ?_ _); rotate_left; focus (first | omega | (simp; done) | (simp; omega))) | ((with_reducible refine Below.trans ?_ (Below.mono (by with_reducible assumption) ?_)); rotate_left; focus (first | omega | (simp; done) | (simp; omega))))) (by simp; omega) (fun k hk => (hblk k hk).1)
      rw [← HTS.out] at hO5
      have HO5 := Lib.hid hO5
      clear hO hO5
      go_wp2
      go_roundw
      case rel => exact ⟨k + 1, v5, by omega, by go_num, rfl, HO5.out, hbw⟩
      case measure => (simp [intOf]; try omega)
    · obtain rfl : k = L.length := by omega
      rw [List.take_length] at hO
      have HO := Lib.hid hO
      clear hO
      go_wp2
      go_ret
      exact ⟨_, rfl, HO.out, hB⟩
end Go.Proofs.Ytnfhiagbbmaobaa
