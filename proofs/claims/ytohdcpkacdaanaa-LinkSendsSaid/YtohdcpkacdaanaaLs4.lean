/- LinkSends: the loop. -/
import Derived.Test.YtohdcpkacdaanaaLs3
namespace Go.Proofs.Ytohdcpkacdaanaa
set_option linter.unusedVariables false
set_option linter.unusedSimpArgs false
set_option maxRecDepth 100000
open Go.RowKit Fg Reg
attribute [local irreducible] Reg.wE TK LK

theorem KX_of {l : List Snt} {n cap : Nat} {ao : Option Addr} (hn : l.length = n) {B : Nat} (z : World) (h : z.ownsRow B 73 3 (.slice ao n cap) n (l.flatMap Snt.cells)) : SnV z ao l := by
  subst hn; exact own_snv h
/-- An append as an effect of a drawn region. -/
theorem eff_append {P : Program} {Cl : List Value → World → Prop} {ps : List Value} {o : Oper} {ρ : Act} {w w' : World} {v y v' : Value} (s x : Operand) (t : TypeId)
    (ho : o.op = .call { callee := .builtin .append, args := #[s, x], argTypes := #[t, t] }) (hs : ρ.eval s = v) (hx : ρ.eval x = y) (hr : (Builtin.append_ #[t, t] o.type #[v, y]).run P w = .ok v' w') (h : Cl (ps ++ [v']) w') :
    effUpon P Cl ps ((execOp ρ.eval o).run P w) := by
  unfold execOp
  simp only [ho, resolve, invoke, builtin, Sem.run_bind, Sem.run_pure, Result.andThen_ok, List.map_toArray, List.map_cons, List.map_nil, hs, hx, hr]
  exact h
set_option maxHeartbeats 16000000 in
theorem linkSends_some (t : Int) (sb so len cap : Nat) (nw : Int) (h1 : 1 ≤ t) (h2 : t ≤ 65536) (h0 : 0 < len) (hn : len ≤ 200) (w : World) (hc : CallsAt w sb so len) : Calls Try.prog 9 #[.int .i64 t, .slice (some ⟨sb, so, none⟩) len cap, .int .u64 nw] w fun e w' => e = .returned (.bool true) ∧ Below w.heap.size w w' := by
  obtain ⟨isn, HI0, HZ0, HZ1, HZ2⟩ := snt_parts
  have HC := Lib.hid hc.2
  have hsb : sb < w.heap.size := hc.1
  clear hc
  go_enter Try.func9, Try.ntmps9
  go_wp2_with (go_at_call 35; (with_reducible refine (new_ok t (by omega) (by omega) _).mono ?_); rintro e w1 ⟨rfl, hL, hb⟩; have hT : TK w w1 w.heap.size 0 0 0 t 0 := TK.mk hL hb (Nat.le_refl _); clear hL hb)
  have hQ0 : SQ w w1 w1.heap.size t 0 0 0 0 (.slice none 0 0) [] := ⟨hT, World.ownsRow_nil _ _ _ _, hT.xlt, Nat.le_refl _⟩
  generalize hBe : w1.heap.size = B at hQ0
  clear hT
  go_loopw [9, 43] (fun uo ii wr => ∃ (k : Nat) (ws : List Snt) (v : Value), k ≤ len ∧ ii = .int .i64 k ∧ v = uo ∧ SQ w wr B t ws.length (sumL ws) (sumT ws) (untl ws) v ws ∧ soks t ws ∧ ws.length ≤ k) (fun _ i _ => len - (intOf i).toNat)
  case atStart => exact ⟨0, [], _, Nat.zero_le _, rfl, rfl, hQ0, fun k h => absurd h (Nat.not_lt_zero _), Nat.le_refl _⟩
  case round =>
    obtain ⟨k, ws, v, hk, rfl, rfl, hW, hso, hwl⟩ := hrel
    clear hQ0 hBe
    by_cases hlt : k < len
    · obtain ⟨now, i, n, a, b, c, d, hnow, hnn, c0, c1, c2, c3, c4, c5, c6⟩ := HC.out k hlt
      have hB := hW.tk.bel
      have hsz := hB.size
      have hxx := hW.tk.xlt
      rw [← hB.cell (p := ⟨sb, so + k * 7, none⟩) hsb] at c0
      rw [← hB.cell (p := ⟨sb, so + k * 7 + 1, none⟩) hsb] at c1
      rw [← hB.cell (p := ⟨sb, so + k * 7 + 2, none⟩) hsb] at c2
      rw [← hB.cell (p := ⟨sb, so + k * 7 + 3, none⟩) hsb] at c3
      rw [← hB.cell (p := ⟨sb, so + k * 7 + 4, none⟩) hsb] at c4
      rw [← hB.cell (p := ⟨sb, so + k * 7 + 5, none⟩) hsb] at c5
      rw [← hB.cell (p := ⟨sb, so + k * 7 + 6, none⟩) hsb] at c6
      clear hB
      have hbd := sum_bd hso h1 h2 ws.length (Nat.le_refl _)
      rw [List.take_length] at hbd
      obtain ⟨ao, vcap, rfl⟩ := own_form hW.own
      have HRow := Lib.hid (fun k (hk : (Value.slice ao ws.length vcap).ownBlock = some k) => (hW.own.lt k hk).2)
      have hQ := hW.below (Below.alloc (Below.refl _ _) (Nat.le_refl _) (Obj.cells #[.int .u64 now, .int .u64 i, .int .i64 n, .int .u16 a, .int .u16 b, .int .u16 c, .int .u16 d] 68))
      clear hW
      have KR := Lib.hid (fun (z : World) (hz : z.ownsRow B 73 3 (.slice ao ws.length vcap) ws.length (ws.flatMap Snt.cells)) => rse_c ws ao vcap (by omega) now i n a b c d z (own_snv hz))
      have e1 : ¬ wr.heap.size = w.heap.size := by omega
      by_cases hok : wrongs now n (untl ws) = 0
      · have hg : now ≤ 4611686018427387904 ∧ (1 ≤ n ∧ n ≤ 16384) ∧ untl ws ≤ now := by
          unfold wrongs at hok
          split at hok
          · cases hok
          · split at hok
            · cases hok
            · split at hok
              · cases hok
              · omega
        obtain ⟨g1, g2, g3⟩ := hg
        rw [hok] at KR
        have m1 : 0 ≤ n * t := Int.mul_nonneg (by omega) (by omega)
        have m2 : n * t ≤ 16384 * 65536 := Int.mul_le_mul g2.2 h2 (by omega) (by omega)
        have KSn := Lib.hid (fun z (hz : SQ w z B t ws.length (sumL ws) (sumT ws) (untl ws) (.slice ao ws.length vcap) ws) => ssend now i n a b c d hz hnow.1 g1 g2 g3 ⟨h1, h2⟩ (by omega) (by omega) (by omega))
        have KT := Lib.hid (fun z => rti_c t n h1 h2 g2.1 g2.2 z)
        have hs0 : sok t (⟨now, now + n * t, n⟩ : Snt) := ⟨hnow.1, g1, g2.1, g2.2, rfl⟩
        have hso' := soks_snoc hso hs0
        have hl' : (ws ++ [(⟨now, now + n * t, n⟩ : Snt)]).length = ws.length + 1 := by simp
        have u1 := sumL_snoc ws (⟨now, now + n * t, n⟩ : Snt)
        have u2 := sumT_snoc ws (⟨now, now + n * t, n⟩ : Snt)
        have u3 := untl_snoc ws (⟨now, now + n * t, n⟩ : Snt)
        simp only at u1 u2 u3
        have W1 : IntKind.u64.wrap (now + n * t) = now + n * t := by rw [wrap_u64]; omega
        have W2 : IntKind.u64.wrap ((ws.length : Int) + 1) = (ws.length : Int) + 1 := by rw [wrap_u64]; omega
        clear hbd
        go_wp2_with (first
          | (go_at_call 36; (with_reducible refine (KR.out _ hQ.own).mono ?_); rintro e w2 ⟨rfl, hb⟩; replace hQ := hQ.below hb; obtain ⟨hcc, hff⟩ := bcell hb; (have hsz2 := hb.size); (try simp at hsz2); have hF : w2.cell? ⟨wr.heap.size, 0, none⟩ = some (.int .u64 now) ∧ w2.cell? ⟨wr.heap.size, 1, none⟩ = some (.int .u64 i) ∧ w2.cell? ⟨wr.heap.size, 2, none⟩ = some (.int .i64 n) ∧ w2.cell? ⟨wr.heap.size, 3, none⟩ = some (.int .u16 a) ∧ w2.cell? ⟨wr.heap.size, 4, none⟩ = some (.int .u16 b) ∧ w2.cell? ⟨wr.heap.size, 5, none⟩ = some (.int .u16 c) ∧ w2.cell? ⟨wr.heap.size, 6, none⟩ = some (.int .u16 d) ∧ wr.heap.size < w2.heap.size := (by ((repeat' apply And.intro) <;> first | (simp [go_sem, *]; done) | omega | (repeat' (first | with_reducible exact Below.refl _ _ | with_reducible assumption | ((with_reducible refine Below.drew ?_)) | ((with_reducible refine below_drewN ?_ _)) | ((with_reducible refine Below.alloc ?_ ?_ _); rotate_left; focus (first | omega | (simp; done) | (simp; omega))) | ((with_reducible refine Below.setCell ?_ ?_ _); rotate_left; focus (first | omega | (simp; done) | (simp; omega))) | ((with_reducible refine Below.trans ?_ (Below.mono (by with_reducible assumption) ?_)); rotate_left; focus (first | omega | (simp; done) | (simp; omega))))))); go_split_ands; clear hcc hff; clear hb)
          | (go_at_call 37; (with_reducible refine (KSn.out _ hQ).mono ?_); clear hQ; rintro e w3 ⟨rfl, hQ, ho⟩; obtain ⟨hcc, hff⟩ := bone ho; (have hsz3 := ho.size); (try simp at hsz3); have hF : w3.cell? ⟨wr.heap.size, 0, none⟩ = some (.int .u64 now) ∧ w3.cell? ⟨wr.heap.size, 1, none⟩ = some (.int .u64 i) ∧ w3.cell? ⟨wr.heap.size, 2, none⟩ = some (.int .i64 n) ∧ w3.cell? ⟨wr.heap.size, 3, none⟩ = some (.int .u16 a) ∧ w3.cell? ⟨wr.heap.size, 4, none⟩ = some (.int .u16 b) ∧ w3.cell? ⟨wr.heap.size, 5, none⟩ = some (.int .u16 c) ∧ w3.cell? ⟨wr.heap.size, 6, none⟩ = some (.int .u16 d) ∧ wr.heap.size < w3.heap.size := (by ((repeat' apply And.intro) <;> first | (simp [go_sem, *]; done) | omega | (repeat' (first | with_reducible exact Below.refl _ _ | with_reducible assumption | ((with_reducible refine Below.drew ?_)) | ((with_reducible refine below_drewN ?_ _)) | ((with_reducible refine Below.alloc ?_ ?_ _); rotate_left; focus (first | omega | (simp; done) | (simp; omega))) | ((with_reducible refine Below.setCell ?_ ?_ _); rotate_left; focus (first | omega | (simp; done) | (simp; omega))) | ((with_reducible refine Below.trans ?_ (Below.mono (by with_reducible assumption) ?_)); rotate_left; focus (first | omega | (simp; done) | (simp; omega))))))); go_split_ands; clear hcc hff; clear ho))
        have hsb3 := hQ.big
        have HQ := Lib.hid hQ
        clear hQ
        obtain ⟨Cl, hCl⟩ : ∃ Cl : List Value → World → Prop, Cl = ((fun ps wz => ((wz.cell? ⟨wr.heap.size, 0, none⟩ = some (.int .u64 now) ∧ wz.cell? ⟨wr.heap.size, 1, none⟩ = some (.int .u64 i) ∧ wz.cell? ⟨wr.heap.size, 2, none⟩ = some (.int .i64 n) ∧ wz.cell? ⟨wr.heap.size, 3, none⟩ = some (.int .u16 a) ∧ wz.cell? ⟨wr.heap.size, 4, none⟩ = some (.int .u16 b) ∧ wz.cell? ⟨wr.heap.size, 5, none⟩ = some (.int .u16 c) ∧ wz.cell? ⟨wr.heap.size, 6, none⟩ = some (.int .u16 d) ∧ wr.heap.size < wz.heap.size) ∧ w3.heap.size ≤ wz.heap.size) ∧ (match ps with | [] => Below w3.heap.size w3 wz | [sl] => (∃ b', sl = Value.slice (some ⟨b', 0, none⟩) 1 1 ∧ b' < wz.heap.size ∧ wz.cell? ⟨b', 0, none⟩ = some (.int .u64 now) ∧ wz.cell? ⟨b', 1, none⟩ = some (.int .u64 (now + n * t)) ∧ wz.cell? ⟨b', 2, none⟩ = some (.int .i64 n)) ∧ Below w3.heap.size w3 wz | (_ :: v' :: _) => SQ w wz B t ((ws.length : Int) + 1) (sumL ws + n) (sumT ws + n * t) (now + n * t) v' (ws ++ [(⟨now, now + n * t, n⟩ : Snt)])))) := ⟨_, rfl⟩; have HCl := Lib.hid hCl; clear hCl; refine wp_region_eff [15, 16] Cl (by kernel_rfl) (by kernel_rfl) (by rw [HCl.out]; (try simp only [List.nil_append, List.cons_append]); (try dsimp only); ((repeat' apply And.intro) <;> first | (simp [go_sem, *]; done) | omega | (repeat' (first | with_reducible exact Below.refl _ _ | with_reducible assumption | ((with_reducible refine Below.drew ?_)) | ((with_reducible refine below_drewN ?_ _)) | ((with_reducible refine Below.alloc ?_ ?_ _); rotate_left; focus (first | omega | (simp; done) | (simp; omega))) | ((with_reducible refine Below.setCell ?_ ?_ _); rotate_left; focus (first | omega | (simp; done) | (simp; omega))) | ((with_reducible refine Below.trans ?_ (Below.mono (by with_reducible assumption) ?_)); rotate_left; focus (first | omega | (simp; done) | (simp; omega))))))) ?_
        (repeat (first | (refine wE_skip (by rfl) ?_; simp only [Act.put, Nat.reduceAdd, List.setIfInBounds_toArray, List.set_cons_zero, List.set_cons_succ, List.nil_append, List.cons_append]) | (refine wE_open (by rfl) (by rfl) ?_; apply Exists.intro; refine ⟨fun vs wq hw => ?_, ?_⟩; (focus (rw [HCl.out] at hw; (try simp only [List.nil_append, List.cons_append] at hw); (try dsimp only at hw); go_split_ands; go_simp <;> first | with_reducible exact (rfl : Value.bool false = _) | with_reducible exact (rfl : Value.bool true = _) | ((try go_bits) <;> exact rfl))); simp only [Act.put, Nat.reduceAdd, List.setIfInBounds_toArray, List.set_cons_zero, List.set_cons_succ, List.nil_append, List.cons_append]) | (refine wE_open (by rfl) (by rfl) ?_; apply Exists.intro; refine ⟨fun vs wq hw => ?_, ?_⟩; (focus (rw [HCl.out] at hw; (try simp only [List.nil_append, List.cons_append] at hw); (try dsimp only at hw); obtain ⟨hw1, hw2⟩ := hw; go_split_ands; go_simp; (go_at_call 38; (with_reducible refine (KT.out _).mono ?_); rintro e w' ⟨rfl, hbel⟩; obtain ⟨hcc, hff⟩ := bcell hbel; have hsz := hbel.size; (try simp at hsz); refine ⟨rfl, ?_⟩; rw [HCl.out]; (try simp only [List.nil_append, List.cons_append]); (try dsimp only); refine ⟨(by ((repeat' apply And.intro) <;> first | (simp [go_sem, *]; done) | omega | (repeat' (first | with_reducible exact Below.refl _ _ | with_reducible assumption | ((with_reducible refine Below.drew ?_)) | ((with_reducible refine below_drewN ?_ _)) | ((with_reducible refine Below.alloc ?_ ?_ _); rotate_left; focus (first | omega | (simp; done) | (simp; omega))) | ((with_reducible refine Below.setCell ?_ ?_ _); rotate_left; focus (first | omega | (simp; done) | (simp; omega))) | ((with_reducible refine Below.trans ?_ (Below.mono (by with_reducible assumption) ?_)); rotate_left; focus (first | omega | (simp; done) | (simp; omega))))))), ?_⟩; (rcases vs with _ | ⟨p1, _ | ⟨p2, vs⟩⟩); (focus exact Below.trans (show Below w3.heap.size w3 wq from hw2) (hbel.mono (by omega))); (focus (obtain ⟨⟨b', rfl, k9, k0, k1, k2⟩, kb⟩ := hw2; exact ⟨⟨b', rfl, by omega, (hcc _ _ k9).trans k0, (hcc _ _ k9).trans k1, (hcc _ _ k9).trans k2⟩, kb.trans (hbel.mono (by omega))⟩)); (exact SQ.below (show SQ w wq B t ((ws.length : Int) + 1) (sumL ws + n) (sumT ws + n * t) (now + n * t) p2 (ws ++ [(⟨now, now + n * t, n⟩ : Snt)]) from hw2) hbel)))); simp only [Act.put, Nat.reduceAdd, List.setIfInBounds_toArray, List.set_cons_zero, List.set_cons_succ, List.nil_append, List.cons_append])))
        refine wE_eff (by rfl) (by rfl) (fun wq hw => ?_) (fun u hu => ?_)
        · rw [HCl.out] at hw; (try simp only [List.nil_append, List.cons_append] at hw); (try dsimp only at hw)
          obtain ⟨hw1, hw2⟩ := hw
          go_split_ands
          go_simp
          rw [HCl.out]; (try simp only [List.nil_append, List.cons_append]); (try dsimp only)
          refine ⟨⟨by ((repeat' apply And.intro) <;> first | (simp [go_sem, *]; done) | omega | (repeat' (first | with_reducible exact Below.refl _ _ | with_reducible assumption | ((with_reducible refine Below.drew ?_)) | ((with_reducible refine below_drewN ?_ _)) | ((with_reducible refine Below.alloc ?_ ?_ _); rotate_left; focus (first | omega | (simp; done) | (simp; omega))) | ((with_reducible refine Below.setCell ?_ ?_ _); rotate_left; focus (first | omega | (simp; done) | (simp; omega))) | ((with_reducible refine Below.trans ?_ (Below.mono (by with_reducible assumption) ?_)); rotate_left; focus (first | omega | (simp; done) | (simp; omega)))))), by (simp; omega)⟩, ⟨wq.heap.size, rfl, ?_⟩, ?_⟩ <;> ((repeat' apply And.intro) <;> first | (simp [go_sem, *]; done) | omega | (repeat' (first | with_reducible exact Below.refl _ _ | with_reducible assumption | ((with_reducible refine Below.drew ?_)) | ((with_reducible refine below_drewN ?_ _)) | ((with_reducible refine Below.alloc ?_ ?_ _); rotate_left; focus (first | omega | (simp; done) | (simp; omega))) | ((with_reducible refine Below.setCell ?_ ?_ _); rotate_left; focus (first | omega | (simp; done) | (simp; omega))) | ((with_reducible refine Below.trans ?_ (Below.mono (by with_reducible assumption) ?_)); rotate_left; focus (first | omega | (simp; done) | (simp; omega))))))
        obtain ⟨wz, hz⟩ := hu
        rw [HCl.out] at hz
        (try simp only [List.nil_append, List.cons_append] at hz)
        (try dsimp only at hz)
        obtain ⟨_, ⟨b', rfl, hz1⟩, hz2⟩ := hz
        clear hz1 hz2
        simp only [Act.put, Nat.reduceAdd, List.setIfInBounds_toArray, List.set_cons_zero, List.set_cons_succ, List.nil_append, List.cons_append]
        refine wE_eff (by rfl) (by rfl) (fun wq hw => ?_) (fun u hu => ?_)
        · rw [HCl.out] at hw; (try simp only [List.nil_append, List.cons_append] at hw); (try dsimp only at hw)
          obtain ⟨⟨⟨r0, r1, r2, r3, r4, r5, r6, r7⟩, hse⟩, ⟨bq, hbe, hbq, k0, k1, k2⟩, hbel⟩ := hw
          obtain rfl : b' = bq := by simpa using hbe
          have hQq := HQ.out.below hbel
          obtain ⟨v', w', hr, hown', hgrow, _⟩ := run_append_own (P := Try.prog) wq B 66 66 73 isn (.agg #[.int .u64 0, .int .u64 0, .int .i64 0]) 3 24 Try.underlying66 HI0 HZ0 HZ1 HZ2 rfl (by decide) (.slice ao ws.length vcap) ws.length (ws.flatMap Snt.cells) hQq.own ⟨b', 0, none⟩ 1 1 (Snt.cells (⟨now, now + n * t, n⟩ : Snt)) rfl (fun j u hu => by unfold Snt.cells at hu; rcases j with _ | _ | _ | j <;> simp at hu <;> (try subst hu) <;> simp [Addr.add, k0, k1, k2]) (fun u hu => by simp [Snt.cells] at hu; rcases hu with rfl | rfl | rfl <;> rfl) (by unfold maxLen; omega) (by omega) hQq.big
          have hQ' := hQq.grow (ws' := ws ++ [(⟨now, now + n * t, n⟩ : Snt)]) (by simpa using hown') (by simp) hgrow
          have hne : some wr.heap.size ≠ (Value.slice ao ws.length vcap).ownBlock := fun e => by have := HRow.out _ e.symm; omega
          have hsg := hgrow.size
          refine eff_append (.tmp 67) (.tmp 82) 66 rfl rfl rfl hr ?_
          rw [HCl.out]; (try simp only [List.nil_append, List.cons_append]); (try dsimp only)
          exact ⟨⟨⟨hgrow.cell r0 hne, hgrow.cell r1 hne, hgrow.cell r2 hne, hgrow.cell r3 hne, hgrow.cell r4 hne, hgrow.cell r5 hne, hgrow.cell r6 hne, by omega⟩, by omega⟩, hQ'⟩
        clear hu
        simp only [Act.put, Nat.reduceAdd, List.setIfInBounds_toArray, List.set_cons_zero, List.set_cons_succ, List.nil_append, List.cons_append]
        (repeat (first | (refine wE_skip (by rfl) ?_; simp only [Act.put, Nat.reduceAdd, List.setIfInBounds_toArray, List.set_cons_zero, List.set_cons_succ, List.nil_append, List.cons_append]) | (refine wE_open (by rfl) (by rfl) ?_; apply Exists.intro; refine ⟨fun vs wq hw => ?_, ?_⟩; (focus (rw [HCl.out] at hw; (try simp only [List.nil_append, List.cons_append] at hw); (try dsimp only at hw); go_split_ands; go_simp <;> first | with_reducible exact (rfl : Value.bool false = _) | with_reducible exact (rfl : Value.bool true = _) | ((try go_bits) <;> exact rfl))); simp only [Act.put, Nat.reduceAdd, List.setIfInBounds_toArray, List.set_cons_zero, List.set_cons_succ, List.nil_append, List.cons_append])))
        refine wE_nil ?_
        intro w4 hw
        rw [HCl.out] at hw; (try simp only [List.nil_append, List.cons_append] at hw); (try dsimp only at hw)
        clear HCl HQ
        obtain ⟨_, hw⟩ := hw
        obtain ⟨ao', vcap', hv'⟩ := own_form hw.own
        rw [hl'] at hv'
        subst hv'
        have u2' : sumT (ws ++ [(⟨now, now + n * t, n⟩ : Snt)]) = sumT ws + n * t := by rw [u2]; omega
        obtain ⟨ws', hws⟩ : ∃ ws', ws' = ws ++ [(⟨now, now + n * t, n⟩ : Snt)] := ⟨_, rfl⟩
        rw [← hws] at hw hl' hso' u1 u2' u3
        have kf := fun (z : World) (hz : z.ownsRow B 73 3 (.slice ao' (ws.length + 1) vcap') (ws.length + 1) (ws'.flatMap Snt.cells)) => sumL_c t h1 h2 ws' hso' ao' vcap' (by omega) z (KX_of hl' z hz)
        have ks := fun (z : World) (hz : z.ownsRow B 73 3 (.slice ao' (ws.length + 1) vcap') (ws.length + 1) (ws'.flatMap Snt.cells)) => sumT_c t h1 h2 ws' hso' ao' vcap' (by omega) z (KX_of hl' z hz)
        have ku := fun (z : World) (hz : z.ownsRow B 73 3 (.slice ao' (ws.length + 1) vcap') (ws.length + 1) (ws'.flatMap Snt.cells)) => rut_c ws' ao' vcap' (by omega) z (KX_of hl' z hz)
        rw [hl', u1] at kf
        rw [hl', u2'] at ks
        rw [hl', u3] at ku
        have KF := Lib.hid kf
        have KS := Lib.hid ks
        have KU := Lib.hid ku
        have HU := Lib.hid (And.intro u1 (And.intro u2' (And.intro u3 hl')))
        have HSO := Lib.hid hso'
        have hown : ∀ z, SQ w z B t ((ws.length : Int) + 1) (sumL ws + n) (sumT ws + n * t) (now + n * t) (.slice ao' (ws.length + 1) vcap') ws' → z.ownsRow B 73 3 (.slice ao' (ws.length + 1) vcap') (ws.length + 1) (ws'.flatMap Snt.cells) := fun z hz => by have := hz.own; rwa [hl'] at this
        have HO := Lib.hid hown
        have hQ := hw
        clear hw kf ks ku u1 u2 u2' u3 hl' hso' hws hs0 KR KSn KT hown
        generalize sumL ws + n = X1 at hQ KF HU HO
        generalize sumT ws + n * t = X2 at hQ KS HU HO
        generalize now + n * t = X3 at *
        go_wp2_with (first | (go_at_call 41; (with_reducible refine (KF.out _ (HO.out _ hQ)).mono ?_); rintro e w5 ⟨rfl, hb⟩; replace hQ := hQ.below hb; clear hb) | (go_at_call 41; (with_reducible refine (KS.out _ (HO.out _ hQ)).mono ?_); rintro e w5 ⟨rfl, hb⟩; replace hQ := hQ.below hb; clear hb) | (go_at_call 39; (with_reducible refine (KU.out _ (HO.out _ hQ)).mono ?_); rintro e w5 ⟨rfl, hb⟩; replace hQ := hQ.below hb; clear hb) | (go_at_call 40; (with_reducible refine (sent_c _ _ _ _ _ _ _ hQ.lk).mono ?_); rintro e w5 ⟨rfl, hb⟩; replace hQ := hQ.below hb; clear hb) | (go_at_call 42; (with_reducible refine (busy_c _ _ _ _ _ _ _ hQ.lk).mono ?_); rintro e w6 ⟨rfl, hb⟩; replace hQ := hQ.below hb; clear hb) | (go_at_call 43; (with_reducible refine (until_c _ _ _ _ _ _ _ hQ.lk).mono ?_); rintro e w8 ⟨rfl, hb⟩; replace hQ := hQ.below hb; clear hb) | (go_at_call 44; (with_reducible refine (free_c _ _ _ _ _ _ _ _ hQ.lk).mono ?_); rintro e w7 ⟨rfl, hb⟩; replace hQ := hQ.below hb; clear hb))
        go_roundw
        case rel => exact ⟨k + 1, ws', _, by omega, by go_num, rfl, by rw [HU.out.1, HU.out.2.1, HU.out.2.2.1, HU.out.2.2.2]; simpa using hQ, HSO.out, by rw [HU.out.2.2.2]; omega⟩
        case measure => simp [intOf]; omega
      · have KB := Lib.hid (fun z (hz : SQ w z B t ws.length (sumL ws) (sumT ws) (untl ws) (.slice ao ws.length vcap) ws) => sbad now i n a b c d hz hnow.1 hok)
        have KF := Lib.hid (fun (z : World) (hz : z.ownsRow B 73 3 (.slice ao ws.length vcap) ws.length (ws.flatMap Snt.cells)) => sumL_c t h1 h2 ws hso ao vcap (by omega) z (own_snv hz))
        have KS := Lib.hid (fun (z : World) (hz : z.ownsRow B 73 3 (.slice ao ws.length vcap) ws.length (ws.flatMap Snt.cells)) => sumT_c t h1 h2 ws hso ao vcap (by omega) z (own_snv hz))
        have KU := Lib.hid (fun (z : World) (hz : z.ownsRow B 73 3 (.slice ao ws.length vcap) ws.length (ws.flatMap Snt.cells)) => rut_c ws ao vcap (by omega) z (own_snv hz))
        have HO := Lib.hid (fun z (hz : SQ w z B t ws.length (sumL ws) (sumT ws) (untl ws) (.slice ao ws.length vcap) ws) => hz.own)
        have HSO := Lib.hid hso
        have W2 : IntKind.u64.wrap (ws.length : Int) = ws.length := by rw [wrap_u64]; omega
        have dE : (wrongs now n (untl ws) == 0) = false := by simpa using hok
        clear hbd hso hok
        generalize wrongs now n (untl ws) = E at KR KB dE
        go_wp2_with (first
          | (go_at_call 36; (with_reducible refine (KR.out _ hQ.own).mono ?_); rintro e w2 ⟨rfl, hb⟩; replace hQ := hQ.below hb; obtain ⟨hcc, hff⟩ := bcell hb; (have hsz2 := hb.size); (try simp at hsz2); have hF : w2.cell? ⟨wr.heap.size, 0, none⟩ = some (.int .u64 now) ∧ w2.cell? ⟨wr.heap.size, 1, none⟩ = some (.int .u64 i) ∧ w2.cell? ⟨wr.heap.size, 2, none⟩ = some (.int .i64 n) ∧ w2.cell? ⟨wr.heap.size, 3, none⟩ = some (.int .u16 a) ∧ w2.cell? ⟨wr.heap.size, 4, none⟩ = some (.int .u16 b) ∧ w2.cell? ⟨wr.heap.size, 5, none⟩ = some (.int .u16 c) ∧ w2.cell? ⟨wr.heap.size, 6, none⟩ = some (.int .u16 d) ∧ wr.heap.size < w2.heap.size := (by ((repeat' apply And.intro) <;> first | (simp [go_sem, *]; done) | omega | (repeat' (first | with_reducible exact Below.refl _ _ | with_reducible assumption | ((with_reducible refine Below.drew ?_)) | ((with_reducible refine below_drewN ?_ _)) | ((with_reducible refine Below.alloc ?_ ?_ _); rotate_left; focus (first | omega | (simp; done) | (simp; omega))) | ((with_reducible refine Below.setCell ?_ ?_ _); rotate_left; focus (first | omega | (simp; done) | (simp; omega))) | ((with_reducible refine Below.trans ?_ (Below.mono (by with_reducible assumption) ?_)); rotate_left; focus (first | omega | (simp; done) | (simp; omega))))))); go_split_ands; clear hcc hff; clear hb)
          | (go_at_call 37; (with_reducible refine (KB.out _ hQ).mono ?_); rintro e w3 ⟨rfl, hb⟩; replace hQ := hQ.below hb; obtain ⟨hcc, hff⟩ := bcell hb; (have hsz3 := hb.size); (try simp at hsz3); have hF : w3.cell? ⟨wr.heap.size, 0, none⟩ = some (.int .u64 now) ∧ w3.cell? ⟨wr.heap.size, 1, none⟩ = some (.int .u64 i) ∧ w3.cell? ⟨wr.heap.size, 2, none⟩ = some (.int .i64 n) ∧ w3.cell? ⟨wr.heap.size, 3, none⟩ = some (.int .u16 a) ∧ w3.cell? ⟨wr.heap.size, 4, none⟩ = some (.int .u16 b) ∧ w3.cell? ⟨wr.heap.size, 5, none⟩ = some (.int .u16 c) ∧ w3.cell? ⟨wr.heap.size, 6, none⟩ = some (.int .u16 d) ∧ wr.heap.size < w3.heap.size := (by ((repeat' apply And.intro) <;> first | (simp [go_sem, *]; done) | omega | (repeat' (first | with_reducible exact Below.refl _ _ | with_reducible assumption | ((with_reducible refine Below.drew ?_)) | ((with_reducible refine below_drewN ?_ _)) | ((with_reducible refine Below.alloc ?_ ?_ _); rotate_left; focus (first | omega | (simp; done) | (simp; omega))) | ((with_reducible refine Below.setCell ?_ ?_ _); rotate_left; focus (first | omega | (simp; done) | (simp; omega))) | ((with_reducible refine Below.trans ?_ (Below.mono (by with_reducible assumption) ?_)); rotate_left; focus (first | omega | (simp; done) | (simp; omega))))))); go_split_ands; clear hcc hff; clear hb)
          | (first | (go_at_call 41; (with_reducible refine (KF.out _ (HO.out _ hQ)).mono ?_); rintro e w5 ⟨rfl, hb⟩; replace hQ := hQ.below hb; clear hb) | (go_at_call 41; (with_reducible refine (KS.out _ (HO.out _ hQ)).mono ?_); rintro e w5 ⟨rfl, hb⟩; replace hQ := hQ.below hb; clear hb) | (go_at_call 39; (with_reducible refine (KU.out _ (HO.out _ hQ)).mono ?_); rintro e w5 ⟨rfl, hb⟩; replace hQ := hQ.below hb; clear hb) | (go_at_call 40; (with_reducible refine (sent_c _ _ _ _ _ _ _ hQ.lk).mono ?_); rintro e w5 ⟨rfl, hb⟩; replace hQ := hQ.below hb; clear hb) | (go_at_call 42; (with_reducible refine (busy_c _ _ _ _ _ _ _ hQ.lk).mono ?_); rintro e w6 ⟨rfl, hb⟩; replace hQ := hQ.below hb; clear hb) | (go_at_call 43; (with_reducible refine (until_c _ _ _ _ _ _ _ hQ.lk).mono ?_); rintro e w8 ⟨rfl, hb⟩; replace hQ := hQ.below hb; clear hb) | (go_at_call 44; (with_reducible refine (free_c _ _ _ _ _ _ _ _ hQ.lk).mono ?_); rintro e w7 ⟨rfl, hb⟩; replace hQ := hQ.below hb; clear hb)))
        go_roundw
        case rel => exact ⟨k + 1, ws, _, by omega, by go_num, rfl, hQ, HSO.out, by omega⟩
        case measure => simp [intOf]; omega
    · obtain rfl : k = len := by omega
      have hT := hW.tk
      clear hW hlt HC
      go_wp2_with (go_at_call 34; (with_reducible refine (ten_c _).mono ?_); rintro e w7 ⟨rfl, hb⟩; replace hT := hT.below hb; clear hb)
      go_ret
      exact ⟨rfl, hT.bel⟩
end Go.Proofs.Ytohdcpkacdaanaa
