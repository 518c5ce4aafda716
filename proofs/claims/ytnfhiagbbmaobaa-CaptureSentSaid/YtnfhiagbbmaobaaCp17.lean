/- The reference's Sent. -/
import Derived.Test.YtnfhiagbbmaobaaCp10
import Derived.Test.YtnfhiagbbmaobaaEv2
namespace Go.Proofs.Ytnfhiagbbmaobaa
set_option linter.unusedVariables false
set_option linter.unusedSimpArgs false
set_option maxRecDepth 100000
open Go.RowKit Fg Reg
attribute [local irreducible] Reg.wE Reg2.wT World.ownsRow

set_option maxHeartbeats 16000000 in
theorem rsent_c (L : List Fm) (hL : L.length ≤ 1000000) (a : Option Addr) (cap : Nat) (es : List Ev) (hes : ∀ k (h : k < es.length), es[k].wf) (hE : es.length ≤ 1000000) (a2 : Option Addr) (cap2 : Nat) (w : World) (hR : RwV Fm.cells 2 w a L) (hV : EvsV w a2 es) :
    Calls Try.prog 40 #[.slice a L.length cap, .slice a2 es.length cap2] w (fun e w' => ∃ v, e = .returned v ∧ w'.ownsRow w.heap.size 124 2 v (sentL L es).length ((sentL L es).flatMap Fm.cells) ∧ Below w.heap.size w w') := by
  obtain ⟨ie, HI0, HZ0, HZ1, HZ2⟩ := rft_parts
  have HR := Lib.hid hR
  have HV := Lib.hid hV
  clear hR hV
  go_enter Try.func40, Try.ntmps40
  go_wp2_with fail
  go_loopw [5, 12] (fun out ii wr => ∃ (k : Nat) (v : Value), k ≤ es.length ∧ ii = .int .i64 k ∧ out = v ∧ wr.ownsRow w.heap.size 124 2 v (sentL L (es.take k)).length ((sentL L (es.take k)).flatMap Fm.cells) ∧ Below w.heap.size w wr) (fun _ ii _ => es.length - (intOf ii).toNat)
  case atStart => exact ⟨0, _, Nat.zero_le _, rfl, rfl, World.ownsRow_nil _ _ _ _, Below.refl _ _⟩
  case round =>
    obtain ⟨k, v, hk, rfl, hv, hO, hB⟩ := hrel
    have hv' := hv.symm
    subst hv'
    by_cases hlt : k < es.length
    · obtain ⟨b, o, ha, hb, q⟩ := ev_cells HV.out k hlt
      have hwf := hes k hlt
      have hst := sentL_succ L es k hlt
      have hln := sentL_len L (es.take k)
      obtain ⟨e, he⟩ : ∃ e, es[k] = e := ⟨_, rfl⟩
      rw [he] at q hwf hst
      have q0 := (hB.cell (p := ⟨b, o + k * 12, none⟩) hb).trans (q 0 _ rfl)
      have q1 := (hB.cell (p := ⟨b, o + k * 12 + 1, none⟩) hb).trans (q 1 _ rfl)
      have q2 := (hB.cell (p := ⟨b, o + k * 12 + 2, none⟩) hb).trans (q 2 _ rfl)
      have q3 := (hB.cell (p := ⟨b, o + k * 12 + 3, none⟩) hb).trans (q 3 _ rfl)
      have q4 := (hB.cell (p := ⟨b, o + k * 12 + 4, none⟩) hb).trans (q 4 _ rfl)
      have q5 := (hB.cell (p := ⟨b, o + k * 12 + 5, none⟩) hb).trans (q 5 _ rfl)
      have q6 := (hB.cell (p := ⟨b, o + k * 12 + 6, none⟩) hb).trans (q 6 _ rfl)
      have q7 := (hB.cell (p := ⟨b, o + k * 12 + 7, none⟩) hb).trans (q 7 _ rfl)
      have q8 := (hB.cell (p := ⟨b, o + k * 12 + 8, none⟩) hb).trans (q 8 _ rfl)
      have q9 := (hB.cell (p := ⟨b, o + k * 12 + 9, none⟩) hb).trans (q 9 _ rfl)
      have q10 := (hB.cell (p := ⟨b, o + k * 12 + 10, none⟩) hb).trans (q 10 _ rfl)
      have q11 := (hB.cell (p := ⟨b, o + k * 12 + 11, none⟩) hb).trans (q 11 _ rfl)
      have hl1 : (es.take k).length ≤ 1000000 := by simp; omega
      have hblk := row_blk hO
      have hvb : v.ownBlock ≠ some wr.heap.size := fun e => by have := (hblk _ e).2; omega
      have hsz := hB.size
      obtain ⟨A, hA⟩ : ∃ A, sentL L (es.take k) = A := ⟨_, rfl⟩
      rw [hA] at hO hst hln
      have HO := Lib.hid hO
      have HST := Lib.hid hst
      subst ha
      clear hv q he hA hO hst
      obtain ⟨hd0, hd1, hx0, hx1⟩ := (⟨hwf.dn0, hwf.dn1, hwf.id0, hwf.id1⟩ : (0 ≤ e.dn) ∧ (e.dn ≤ 18446744073709551615) ∧ (0 ≤ e.id) ∧ (e.id ≤ 18446744073709551615))
      have HZ := Lib.hid (sent1_zero L e hx0)
      have HHIT := Lib.hid (sent1_hit L e)
      have HMISS := Lib.hid (sent1_miss L e)
      clear hwf
      generalize e.inn = inn at *
      generalize e.dn = dn at *
      generalize e.id = x at *
      go_wp2_with fail
      obtain ⟨w0, hw0⟩ : ∃ w0, w0 = wr := ⟨_, rfl⟩
      subst hw0
      go_loopw [5, 18] (fun out ii wz => ∃ (j : Nat) (u : Value), j ≤ L.length ∧ ii = .int .i64 j ∧ out = u ∧ wz.ownsRow w.heap.size 124 2 u (A ++ sent1 L j e).length ((A ++ sent1 L j e).flatMap Fm.cells) ∧ u.ownBlock ≠ some w0.heap.size ∧ ((wz).cell? ⟨w0.heap.size, 1, none⟩ = some (.bool inn) ∧ (wz).cell? ⟨w0.heap.size, 4, none⟩ = some (.int .u64 dn) ∧ (wz).cell? ⟨w0.heap.size, 6, none⟩ = some (.int .u64 x) ∧ w0.heap.size < (wz).heap.size) ∧ Below w.heap.size w wz) (fun _ ii _ => L.length - (intOf ii).toNat)
      case atStart => exact ⟨0, _, Nat.zero_le _, rfl, rfl, by rw [HZ.out, List.append_nil]; exact row_al HO.out _, hvb, ⟨by simp [go_sem], by simp [go_sem], by simp [go_sem], by simp⟩, by ((repeat' (first | with_reducible exact Below.refl _ _ | with_reducible assumption | ((with_reducible refine Below.drew ?_)) | ((with_reducible refine below_drewN ?_ _)) | ((with_reducible refine Below.alloc ?_ ?_ _); rotate_left; focus (first | omega | (simp; done) | (simp; omega))) | ((with_reducible refine Below.setCell ?_ ?_ _); rotate_left; focus (first | omega | (simp; done) | (simp; omega))) | ((with_reducible refine Below.trans ?_ (Below.mono (by with_reducible assumption) ?_)); rotate_left; focus (first | omega | (simp; done) | (simp; omega))))); done)⟩
      case round =>
        obtain ⟨j, u, hj, rfl, hu, hO2, hub, ⟨e1, e4, e6, e7⟩, hB2⟩ := hrel
        have hu' := hu.symm
        subst hu'
        clear HO hvb hblk hu
        by_cases hjl : j < L.length
        · obtain ⟨b3, o3, ha3, hb3, y0, y1⟩ := fm_cells HR.out j hjl
          have z0 := (hB2.cell (p := ⟨b3, o3 + j * 2, none⟩) hb3).trans y0
          have z1 := (hB2.cell (p := ⟨b3, o3 + j * 2 + 1, none⟩) hb3).trans y1
          have HH := Lib.hid (HHIT.out j hjl)
          have HM := Lib.hid (HMISS.out j)
          obtain ⟨t, ht⟩ : ∃ t, L[j].t = t := ⟨_, rfl⟩
          obtain ⟨d, hd⟩ : ∃ d, L[j].d = d := ⟨_, rfl⟩
          rw [ht] at z0
          rw [hd] at z1
          have HD := Lib.hid hd
          have hsz2 := hB2.size
          subst ha3
          clear y0 y1 ht hd
          have hbr3 : b3 < wr.heap.size := by omega
          have hwj : IntKind.u64.wrap (j : Int) = j := by rw [wrap_u64]; omega
          have hblk2 := row_blk hO2
          have hvz : u.ownBlock ≠ some wr.heap.size := fun e => by have := (hblk2 _ e).2; omega
          by_cases hx : inn = false ∧ x = j
          · obtain ⟨rfl, rfl⟩ := hx
            obtain ⟨h1, h2⟩ := HH.out rfl rfl
            rw [h1, List.append_nil] at hO2
            rw [HD.out] at h2
            have H2 := Lib.hid h2
            clear h1 h2 HH HM
            go_wp2_with (at_builtin; (refine wpList_append_gw rfl _ _ 73 rfl w.heap.size 124 ie (.agg #[.int .u64 0, .string ⟨#[]⟩]) 2 24 Try.underlying73 HI0 HZ0 HZ1 HZ2 rfl (by decide) _ _ _ rfl (row_al (row_al hO2 _) _) ⟨_, 0, none⟩ 1 1 [.int .u64 dn, .string d] rfl rfl ?c1 ?c2 ?c3 ?c4 ?c5 ?_))
            case c2 => exact ⟨rfl, rfl⟩
            case c3 => (unfold maxLen; omega)
            case c4 => omega
            case c5 => omega
            intro v5 w5 hO5 hg5
            have g1 := (hg5.cell (b := w0.heap.size) (o := 1) (by simp; omega) hub).trans (by simp [go_sem, *] : _ = some (.bool false))
            have g4 := (hg5.cell (b := w0.heap.size) (o := 4) (by simp; omega) hub).trans (by simp [go_sem, *] : _ = some (.int .u64 dn))
            have g6 := (hg5.cell (b := w0.heap.size) (o := 6) (by simp; omega) hub).trans (by simp [go_sem, *] : _ = some (.int .u64 (j : Int)))
            have gub := hg5.apart (b := w0.heap.size) (by simp; omega) hub
            have gsz : w0.heap.size < w5.heap.size := by have := hg5.only.size; simp at this; omega
            have hbw := hg5.only.below (B := w.heap.size) (a := w) (by repeat' (first | with_reducible exact Below.refl _ _ | with_reducible assumption | ((with_reducible refine Below.drew ?_)) | ((with_reducible refine below_drewN ?_ _)) | ((with_reducible refine Below.alloc ?_ ?_ _); rotate_left; focus (first | omega | (simp; done) | (simp; omega))) | ((with_reducible refine Below.setCell ?_ ?_ _); rotate_left; focus (first | omega | (simp; done) | (simp; omega))) | ((with_reducible refine Below.trans ?_ (Below.mono (by with_reducible assumption) ?_)); rotate_left; focus (first | omega | (simp; done) | (simp; omega))))) (by simp; omega) (fun k hk => (hblk2 k hk).1)
            have hO6 : w5.ownsRow w.heap.size 124 2 v5 (A ++ sent1 L (j + 1) e).length ((A ++ sent1 L (j + 1) e).flatMap Fm.cells) := by
              rw [H2.out, List.length_append, List.flatMap_append]
              exact hO5
            have HO6 := Lib.hid hO6
            clear hO5 hO6 hg5 hO2
            go_wp2
            go_roundw
            case rel => exact ⟨j + 1, v5, by omega, by go_num, rfl, HO6.out, gub, ⟨g1, g4, g6, gsz⟩, hbw⟩
            case measure => (simp [intOf]; try omega)
          · have hm : sent1 L (j + 1) e = sent1 L j e := HM.out (by
              by_cases h1 : inn = false
              · exact .inr (fun h => hx ⟨h1, h⟩)
              · exact .inl (by simpa using h1))
            rw [← hm] at hO2
            have HO2 := Lib.hid hO2
            clear HH HM hm hO2
            rcases inn with _ | _
            · have dx : (x == (j : Int)) = false := by simpa using (fun h => hx ⟨rfl, h⟩)
              clear hx
              go_wp2
              go_roundw
              case rel => exact ⟨j + 1, u, by omega, by go_num, rfl, row_al HO2.out _, hub, ⟨by simp [go_sem, *], by simp [go_sem, *], by simp [go_sem, *], by simp; omega⟩, by ((repeat' (first | with_reducible exact Below.refl _ _ | with_reducible assumption | ((with_reducible refine Below.drew ?_)) | ((with_reducible refine below_drewN ?_ _)) | ((with_reducible refine Below.alloc ?_ ?_ _); rotate_left; focus (first | omega | (simp; done) | (simp; omega))) | ((with_reducible refine Below.setCell ?_ ?_ _); rotate_left; focus (first | omega | (simp; done) | (simp; omega))) | ((with_reducible refine Below.trans ?_ (Below.mono (by with_reducible assumption) ?_)); rotate_left; focus (first | omega | (simp; done) | (simp; omega))))); done)⟩
              case measure => (simp [intOf]; try omega)
            · clear hx
              go_wp2
              go_roundw
              case rel => exact ⟨j + 1, u, by omega, by go_num, rfl, row_al HO2.out _, hub, ⟨by simp [go_sem, *], by simp [go_sem, *], by simp [go_sem, *], by simp; omega⟩, by ((repeat' (first | with_reducible exact Below.refl _ _ | with_reducible assumption | ((with_reducible refine Below.drew ?_)) | ((with_reducible refine below_drewN ?_ _)) | ((with_reducible refine Below.alloc ?_ ?_ _); rotate_left; focus (first | omega | (simp; done) | (simp; omega))) | ((with_reducible refine Below.setCell ?_ ?_ _); rotate_left; focus (first | omega | (simp; done) | (simp; omega))) | ((with_reducible refine Below.trans ?_ (Below.mono (by with_reducible assumption) ?_)); rotate_left; focus (first | omega | (simp; done) | (simp; omega))))); done)⟩
              case measure => (simp [intOf]; try omega)
        · obtain rfl : j = L.length := by omega
          rw [← HST.out] at hO2
          have HO2 := Lib.hid hO2
          clear hO2
          go_wp2
          go_roundw
          case rel => exact ⟨k + 1, u, by omega, by go_num, rfl, HO2.out, hB2⟩
          case measure => (simp [intOf]; try omega)
    · obtain rfl : k = es.length := by omega
      rw [List.take_length] at hO
      have HO := Lib.hid hO
      clear hO
      go_wp2
      go_ret
      exact ⟨_, rfl, HO.out, hB⟩
end Go.Proofs.Ytnfhiagbbmaobaa
