/- capture.Sent. -/
import Derived.Test.YtnfhiagbbmaobaaCp10
import Derived.Test.YtnfhiagbbmaobaaEv2
import Derived.Test.YtnfhiagbbmaobaaClone
import Derived.Test.YtnfhiagbbmaobaaCp5
import Derived.Test.YtnfhiagbbmaobaaRegion3
namespace Go.Proofs.Ytnfhiagbbmaobaa
set_option linter.unusedVariables false
set_option linter.unusedSimpArgs false
set_option maxRecDepth 100000
open Go.RowKit Fg Reg
attribute [local irreducible] Reg.wE Reg2.wT World.ownsRow

theorem sent1_none (L : List Fm) (e : Ev) (h : e.inn = true ∨ (L.length : Int) ≤ e.id) : sent1 L L.length e = [] := by
  unfold sent1
  rw [if_neg]
  rintro ⟨h1, h2⟩
  rcases h with h | h
  · rw [h] at h1; cases h1
  · omega
theorem sent1_some (L : List Fm) (e : Ev) (j : Nat) (hj : j < L.length) (hi : e.inn = false) (he : e.id = j) : sent1 L L.length e = [⟨e.dn, L[j].d⟩] := by
  unfold sent1
  rw [if_pos ⟨hi, by omega⟩, he]
  simp [List.getD, hj]
set_option maxHeartbeats 16000000 in
theorem csent_c (L : List Fm) (hL : L.length ≤ 1000000) (hDS : ∀ j (h : j < L.length) (d : ByteArray), L[j].d = d → d.size ≤ 281474976710656) (a : Option Addr) (cap : Nat) (es : List Ev) (hes : ∀ k (h : k < es.length), es[k].wf) (hE : es.length ≤ 1000000) (a2 : Option Addr) (cap2 : Nat) (w : World) (hR : RwV Fm.cells 2 w a L) (hV : EvsV w a2 es) :
    Calls Try.prog 39 #[.slice a L.length cap, .slice a2 es.length cap2] w (fun e w' => ∃ v, e = .returned v ∧ w'.ownsRow w.heap.size 93 2 v (sentL L es).length ((sentL L es).flatMap Fm.cells) ∧ Below w.heap.size w w') := by
  obtain ⟨ie, HI0, HZ0, HZ1, HZ2⟩ := fmt_parts
  have HR := Lib.hid hR
  have HV := Lib.hid hV
  clear hR hV
  go_enter Try.func39, Try.ntmps39
  go_wp2_with fail
  go_loopw [5, 10] (fun out ii wr => ∃ (k : Nat) (v : Value), k ≤ es.length ∧ ii = .int .i64 k ∧ out = v ∧ wr.ownsRow w.heap.size 93 2 v (sentL L (es.take k)).length ((sentL L (es.take k)).flatMap Fm.cells) ∧ Below w.heap.size w wr) (fun _ ii _ => es.length - (intOf ii).toNat)
  case atStart => exact ⟨0, _, Nat.zero_le _, rfl, rfl, World.ownsRow_nil _ _ _ _, Below.refl _ _⟩
  case round =>
    obtain ⟨k, v, hk, rfl, hv, hO, hB⟩ := hrel
    have hv' := hv.symm
    subst hv'
    by_cases hlt : k < es.length
    · obtain ⟨b, o, ha, hb, q⟩ := ev_cells HV.out k hlt
      have hwf := hes k hlt
      have hst := sentL_succ L es k hlt
      have hln := sentL_len L (es.take k)
      obtain ⟨e, he⟩ : ∃ e, es[k] = e := ⟨_, rfl⟩
      rw [he] at q hwf hst
      have q0 := (hB.cell (p := ⟨b, o + k * 12, none⟩) hb).trans (q 0 _ rfl)
      have q1 := (hB.cell (p := ⟨b, o + k * 12 + 1, none⟩) hb).trans (q 1 _ rfl)
      have q2 := (hB.cell (p := ⟨b, o + k * 12 + 2, none⟩) hb).trans (q 2 _ rfl)
      have q3 := (hB.cell (p := ⟨b, o + k * 12 + 3, none⟩) hb).trans (q 3 _ rfl)
      have q4 := (hB.cell (p := ⟨b, o + k * 12 + 4, none⟩) hb).trans (q 4 _ rfl)
      have q5 := (hB.cell (p := ⟨b, o + k * 12 + 5, none⟩) hb).trans (q 5 _ rfl)
      have q6 := (hB.cell (p := ⟨b, o + k * 12 + 6, none⟩) hb).trans (q 6 _ rfl)
      have q7 := (hB.cell (p := ⟨b, o + k * 12 + 7, none⟩) hb).trans (q 7 _ rfl)
      have q8 := (hB.cell (p := ⟨b, o + k * 12 + 8, none⟩) hb).trans (q 8 _ rfl)
      have q9 := (hB.cell (p := ⟨b, o + k * 12 + 9, none⟩) hb).trans (q 9 _ rfl)
      have q10 := (hB.cell (p := ⟨b, o + k * 12 + 10, none⟩) hb).trans (q 10 _ rfl)
      have q11 := (hB.cell (p := ⟨b, o + k * 12 + 11, none⟩) hb).trans (q 11 _ rfl)
      have hl1 : (es.take k).length ≤ 1000000 := by simp; omega
      have hblk := row_blk hO
      have hvb : v.ownBlock ≠ some wr.heap.size := fun e => by have := (hblk _ e).2; omega
      have hsz := hB.size
      obtain ⟨A, hA⟩ : ∃ A, sentL L (es.take k) = A := ⟨_, rfl⟩
      rw [hA] at hO hst hln
      have HO := Lib.hid hO
      have HST := Lib.hid hst
      subst ha
      clear hv q he hA hO hst
      obtain ⟨hd0, hd1, hx0, hx1⟩ := (⟨hwf.dn0, hwf.dn1, hwf.id0, hwf.id1⟩ : (0 ≤ e.dn) ∧ (e.dn ≤ 18446744073709551615) ∧ (0 ≤ e.id) ∧ (e.id ≤ 18446744073709551615))
      have HS0 := Lib.hid (sent1_none L e)
      have HS1 := Lib.hid (sent1_some L e)
      clear hwf
      generalize e.inn = inn at *
      generalize e.dn = dn at *
      generalize e.id = x at *
      have hwl : IntKind.u64.wrap (L.length : Int) = L.length := by rw [wrap_u64]; omega
      by_cases hx : inn = false ∧ x < L.length
      · obtain ⟨rfl, hx2⟩ := hx
        obtain ⟨j, rfl⟩ : ∃ j : Nat, x = j := ⟨x.toNat, by omega⟩
        have hjl : j < L.length := by omega
        have dx : decide ((j : Int) < L.length) = true := by simp; omega
        obtain ⟨b3, o3, ha3, hb3, y0, y1⟩ := fm_cells HR.out j hjl
        have z1 := (hB.cell (p := ⟨b3, o3 + j * 2 + 1, none⟩) hb3).trans y1
        have HSOM := Lib.hid (HS1.out j hjl)
        obtain ⟨d, hd⟩ : ∃ d, L[j].d = d := ⟨_, rfl⟩
        rw [hd] at z1
        have HD := Lib.hid hd
        subst ha3
        clear y0 y1 hd hx2
        have hbr3 : b3 < wr.heap.size := by omega
        have KC := Lib.hid (fun (z : World) => clone_c d (hDS j hjl d HD.out) z)
        go_wp2_with fail
        obtain ⟨Cl, hCl⟩ : ∃ Cl : List Value → World → Prop, Cl = ((fun ps wz => (wz.cell? ⟨b3, o3 + j * 2 + 1, none⟩ = some (.string d) ∧ wz.cell? ⟨wr.heap.size, 4, none⟩ = some (.int .u64 dn) ∧ wz.cell? ⟨wr.heap.size, 6, none⟩ = some (.int .u64 (j : Int)) ∧ b3 < wz.heap.size ∧ wr.heap.size < wz.heap.size) ∧ (match ps with | [] => Below wr.heap.size wr wz | [sl] => (∃ b', sl = Value.slice (some ⟨b', 0, none⟩) 1 1 ∧ b' < wz.heap.size ∧ wz.cell? ⟨b', 0, none⟩ = some (.int .u64 dn) ∧ wz.cell? ⟨b', 1, none⟩ = some (.string d)) ∧ Below wr.heap.size wr wz | (_ :: v' :: _) => wz.ownsRow w.heap.size 93 2 v' (A.length + 1) (List.flatMap Fm.cells A ++ [.int .u64 dn, .string d]) ∧ Below w.heap.size w wz))) := ⟨_, rfl⟩; have HCl := Lib.hid hCl; clear hCl; refine wp_region_eff [12, 13] Cl (by kernel_rfl) (by kernel_rfl) (by rw [HCl.out]; (try simp only [List.nil_append, List.cons_append]); (try dsimp only); ((repeat' apply And.intro) <;> first | (simp [go_sem, *]; done) | omega | (repeat' (first | with_reducible exact Below.refl _ _ | with_reducible assumption | ((with_reducible refine Below.drew ?_)) | ((with_reducible refine below_drewN ?_ _)) | ((with_reducible refine Below.alloc ?_ ?_ _); rotate_left; focus (first | omega | (simp; done) | (simp; omega))) | ((with_reducible refine Below.setCell ?_ ?_ _); rotate_left; focus (first | omega | (simp; done) | (simp; omega))) | ((with_reducible refine Below.trans ?_ (Below.mono (by with_reducible assumption) ?_)); rotate_left; focus (first | omega | (simp; done) | (simp; omega))))))) ?_
        (repeat (first | (refine wE_skip (by rfl) ?_; simp only [Act.put, Nat.reduceAdd, List.setIfInBounds_toArray, List.set_cons_zero, List.set_cons_succ, List.nil_append, List.cons_append]) | (refine wE_open (by rfl) (by rfl) ?_; apply Exists.intro; refine ⟨fun vs wq hw => ?_, ?_⟩; (focus (rw [HCl.out] at hw; (try simp only [List.nil_append, List.cons_append] at hw); (try dsimp only at hw); go_split_ands; go_simp <;> first | with_reducible exact (rfl : Value.bool false = _) | with_reducible exact (rfl : Value.bool true = _) | ((try go_bits) <;> exact rfl))); simp only [Act.put, Nat.reduceAdd, List.setIfInBounds_toArray, List.set_cons_zero, List.set_cons_succ, List.nil_append, List.cons_append]) | (refine wE_open (by rfl) (by rfl) ?_; apply Exists.intro; refine ⟨fun vs wq hw => ?_, ?_⟩; (focus (rw [HCl.out] at hw; (try simp only [List.nil_append, List.cons_append] at hw); (try dsimp only at hw); obtain ⟨hw1, hw2⟩ := hw; go_split_ands; go_simp; (go_at_call 64; (with_reducible refine (KC.out _).mono ?_); rintro e w' ⟨rfl, hbel⟩; obtain ⟨hcc, hff⟩ := bcell hbel; have hsz := hbel.size; (try simp at hsz); refine ⟨rfl, ?_⟩; rw [HCl.out]; (try simp only [List.nil_append, List.cons_append]); (try dsimp only); refine ⟨(by ((repeat' apply And.intro) <;> first | (simp [go_sem, *]; done) | omega | (repeat' (first | with_reducible exact Below.refl _ _ | with_reducible assumption | ((with_reducible refine Below.drew ?_)) | ((with_reducible refine below_drewN ?_ _)) | ((with_reducible refine Below.alloc ?_ ?_ _); rotate_left; focus (first | omega | (simp; done) | (simp; omega))) | ((with_reducible refine Below.setCell ?_ ?_ _); rotate_left; focus (first | omega | (simp; done) | (simp; omega))) | ((with_reducible refine Below.trans ?_ (Below.mono (by with_reducible assumption) ?_)); rotate_left; focus (first | omega | (simp; done) | (simp; omega))))))), ?_⟩; (rcases vs with _ | ⟨p1, _ | ⟨p2, vs⟩⟩); (focus exact Below.trans (show Below wr.heap.size wr wq from hw2) (hbel.mono (by omega))); (focus (obtain ⟨⟨b', rfl, k9, k0, k1⟩, kb⟩ := hw2; exact ⟨⟨b', rfl, by omega, (hcc _ _ k9).trans k0, (hcc _ _ k9).trans k1⟩, kb.trans (hbel.mono (by omega))⟩)); (exact ⟨row_bel hw2.1 hbel, hw2.2.trans (hbel.mono (by have := hw2.2.size; omega))⟩)))); simp only [Act.put, Nat.reduceAdd, List.setIfInBounds_toArray, List.set_cons_zero, List.set_cons_succ, List.nil_append, List.cons_append])))
        refine wE_eff (by rfl) (by rfl) (fun wq hw => ?_) (fun u hu => ?_)
        · rw [HCl.out] at hw; (try simp only [List.nil_append, List.cons_append] at hw); (try dsimp only at hw)
          obtain ⟨hw1, hw2⟩ := hw
          go_split_ands
          go_simp
          rw [HCl.out]; (try simp only [List.nil_append, List.cons_append]); (try dsimp only)
          refine ⟨by ((repeat' apply And.intro) <;> first | (simp [go_sem, *]; done) | omega | (repeat' (first | with_reducible exact Below.refl _ _ | with_reducible assumption | ((with_reducible refine Below.drew ?_)) | ((with_reducible refine below_drewN ?_ _)) | ((with_reducible refine Below.alloc ?_ ?_ _); rotate_left; focus (first | omega | (simp; done) | (simp; omega))) | ((with_reducible refine Below.setCell ?_ ?_ _); rotate_left; focus (first | omega | (simp; done) | (simp; omega))) | ((with_reducible refine Below.trans ?_ (Below.mono (by with_reducible assumption) ?_)); rotate_left; focus (first | omega | (simp; done) | (simp; omega)))))), ⟨wq.heap.size, rfl, ?_⟩, ?_⟩ <;> ((repeat' apply And.intro) <;> first | (simp [go_sem, *]; done) | omega | (repeat' (first | with_reducible exact Below.refl _ _ | with_reducible assumption | ((with_reducible refine Below.drew ?_)) | ((with_reducible refine below_drewN ?_ _)) | ((with_reducible refine Below.alloc ?_ ?_ _); rotate_left; focus (first | omega | (simp; done) | (simp; omega))) | ((with_reducible refine Below.setCell ?_ ?_ _); rotate_left; focus (first | omega | (simp; done) | (simp; omega))) | ((with_reducible refine Below.trans ?_ (Below.mono (by with_reducible assumption) ?_)); rotate_left; focus (first | omega | (simp; done) | (simp; omega))))))
        obtain ⟨wz, hz⟩ := hu
        rw [HCl.out] at hz
        (try simp only [List.nil_append, List.cons_append] at hz)
        (try dsimp only at hz)
        obtain ⟨_, ⟨b', rfl, hz1⟩, hz2⟩ := hz
        clear hz1 hz2
        simp only [Act.put, Nat.reduceAdd, List.setIfInBounds_toArray, List.set_cons_zero, List.set_cons_succ, List.nil_append, List.cons_append]
        refine wE_eff (by rfl) (by rfl) (fun wq hw => ?_) (fun u hu => ?_)
        · rw [HCl.out] at hw; (try simp only [List.nil_append, List.cons_append] at hw); (try dsimp only at hw)
          obtain ⟨⟨r0, r1, r2, r3, r4⟩, ⟨bq, hbe, hbq, k0, k1⟩, hbel⟩ := hw
          obtain rfl : b' = bq := by simpa using hbe
          have hOq := row_bel HO.out (hbel.mono (Nat.le_refl _))
          have hBw : Below w.heap.size w wq := hB.trans (hbel.mono hsz)
          obtain ⟨v', w', hr, hO', hg⟩ := app_gw (P := Try.prog) (w := wq) w.heap.size 69 69 93 ie (.agg #[.int .u64 0, .string ⟨#[]⟩]) 2 24 Try.underlying69 HI0 HZ0 HZ1 HZ2 rfl (by decide) v A.length (A.flatMap Fm.cells) hOq ⟨b', 0, none⟩ 1 1 [.int .u64 dn, .string d] rfl (fun j u hu => by rcases j with _ | _ | j <;> simp at hu <;> (try subst hu) <;> simp [Addr.add, k0, k1]) (fun u hu => by simp at hu; rcases hu with rfl | rfl <;> rfl) (by unfold maxLen; omega) (by omega) hBw.size
          have hnv : v.ownBlock ≠ some b3 := fun e => by have := (hblk _ e).1; omega
          refine Reg.eff_append (.tmp 26) (.tmp 38) 69 rfl rfl rfl hr ?_
          rw [HCl.out]; (try simp only [List.nil_append, List.cons_append]); (try dsimp only)
          exact ⟨⟨(hg.cell r3 hnv).trans r0, (hg.cell r4 hvb).trans r1, (hg.cell r4 hvb).trans r2, Nat.lt_of_lt_of_le r3 hg.only.size, Nat.lt_of_lt_of_le r4 hg.only.size⟩, hO', hg.only.below hBw hBw.size (fun k hk => (hblk k hk).1)⟩
        clear hu
        simp only [Act.put, Nat.reduceAdd, List.setIfInBounds_toArray, List.set_cons_zero, List.set_cons_succ, List.nil_append, List.cons_append]
        (repeat (first | (refine wE_skip (by rfl) ?_; simp only [Act.put, Nat.reduceAdd, List.setIfInBounds_toArray, List.set_cons_zero, List.set_cons_succ, List.nil_append, List.cons_append]) | (refine wE_open (by rfl) (by rfl) ?_; apply Exists.intro; refine ⟨fun vs wq hw => ?_, ?_⟩; (focus (rw [HCl.out] at hw; (try simp only [List.nil_append, List.cons_append] at hw); (try dsimp only at hw); go_split_ands; go_simp <;> first | with_reducible exact (rfl : Value.bool false = _) | with_reducible exact (rfl : Value.bool true = _) | ((try go_bits) <;> exact rfl))); simp only [Act.put, Nat.reduceAdd, List.setIfInBounds_toArray, List.set_cons_zero, List.set_cons_succ, List.nil_append, List.cons_append])))
        refine wE_nil ?_
        intro w5 hw
        rw [HCl.out] at hw; (try simp only [List.nil_append, List.cons_append] at hw); (try dsimp only at hw)
        clear HCl
        obtain ⟨hw1, hO7, hB7⟩ := hw
        have hs1 := HSOM.out (by first | rfl | trivial) (by first | rfl | trivial)
        rw [HD.out] at hs1
        have hO8 : w5.ownsRow w.heap.size 93 2 u (sentL L (es.take (k + 1))).length ((sentL L (es.take (k + 1))).flatMap Fm.cells) := by
          rw [HST.out, hs1, List.length_append, List.flatMap_append]
          exact hO7
        have HO8 := Lib.hid hO8
        clear hO7 hO8 hs1 hw1
        go_wp2
        go_roundw
        case rel => exact ⟨k + 1, u, by omega, by go_num, rfl, HO8.out, hB7⟩
        case measure => (simp [intOf]; try omega)
      · have hm : sent1 L L.length e = [] := HS0.out (by
          by_cases h1 : inn = false
          · exact .inr (by have : ¬ x < L.length := fun h => hx ⟨h1, h⟩
                           omega)
          · exact .inl (by simpa using h1))
        have hsame : sentL L (es.take (k + 1)) = A := by rw [HST.out, hm, List.append_nil]
        have HSAME := Lib.hid hsame
        clear hm hsame
        rcases inn with _ | _
        · have dx : decide (x < (L.length : Int)) = false := by
            simp
            have : ¬ x < L.length := fun h => hx ⟨rfl, h⟩
            omega
          clear hx
          go_wp2
          go_roundw
          case rel => exact ⟨k + 1, v, by omega, by go_num, rfl, by rw [HSAME.out]; exact row_al HO.out _, by ((repeat' (first | with_reducible exact Below.refl _ _ | with_reducible assumption | ((with_reducible refine Below.drew ?_)) | ((with_reducible refine below_drewN ?_ _)) | ((with_reducible refine Below.alloc ?_ ?_ _); rotate_left; focus (first | omega | (simp; done) | (simp; omega))) | ((with_reducible refine Below.setCell ?_ ?_ _); rotate_left; focus (first | omega | (simp; done) | (simp; omega))) | ((with_reducible refine Below.trans ?_ (Below.mono (by with_reducible assumption) ?_)); rotate_left; focus (first | omega | (simp; done) | (simp; omega))))); done)⟩
          case measure => (simp [intOf]; try omega)
        · clear hx
          go_wp2
          go_roundw
          case rel => exact ⟨k + 1, v, by omega, by go_num, rfl, by rw [HSAME.out]; exact row_al HO.out _, by ((repeat' (first | with_reducible exact Below.refl _ _ | with_reducible assumption | ((with_reducible refine Below.drew ?_)) | ((with_reducible refine below_drewN ?_ _)) | ((with_reducible refine Below.alloc ?_ ?_ _); rotate_left; focus (first | omega | (simp; done) | (simp; omega))) | ((with_reducible refine Below.setCell ?_ ?_ _); rotate_left; focus (first | omega | (simp; done) | (simp; omega))) | ((with_reducible refine Below.trans ?_ (Below.mono (by with_reducible assumption) ?_)); rotate_left; focus (first | omega | (simp; done) | (simp; omega))))); done)⟩
          case measure => (simp [intOf]; try omega)
    · obtain rfl : k = es.length := by omega
      rw [List.take_length] at hO
      have HO := Lib.hid hO
      clear hO
      go_wp2
      go_ret
      exact ⟨_, rfl, HO.out, hB⟩
end Go.Proofs.Ytnfhiagbbmaobaa
