import Derived.Test.YtpjanaljmnfccaaPq7
namespace Go.Proofs.Ytpjanaljmnfccaa
set_option linter.unusedVariables false
set_option linter.unusedSimpArgs false
set_option maxRecDepth 100000
open Go.RowKit Fg Reg
attribute [local irreducible] Reg.wE

theorem pk_info : (Try.prog.info? 50).map (fun i => (i.zero, i.size, i.bytes)) = some (some (.agg #[.int .u64 0, .int .i64 0, .int .u16 0, .int .u16 0, .int .u16 0, .int .u16 0]), 6, 24) := by kernel_rfl
theorem pk_parts : ∃ i, Try.prog.info? 50 = some i ∧ i.zero = some (.agg #[.int .u64 0, .int .i64 0, .int .u16 0, .int .u16 0, .int .u16 0, .int .u16 0]) ∧ i.size = 6 ∧ i.bytes = 24 := by
  obtain ⟨i, hi, h⟩ := Option.map_eq_some_iff.1 pk_info
  simp only [Prod.mk.injEq] at h
  exact ⟨i, hi, h.1, h.2.1, h.2.2⟩
theorem same_zero (a1 a2 : Option Addr) (c1 c2 : Nat) (w : World) : Calls Try.prog 32 #[.slice a1 0 c1, .slice a2 0 c2] w fun ee w' => ee = .returned (.bool true) ∧ Below w.heap.size w w' := by
  go_enter Try.func32, Try.ntmps32
  go_wp2_with fail
  refine wp_loop_rounds 1 ?_
  rw [rounds_succ]
  go_wp2
  (go_ret; refine ⟨?_, ?_⟩; (focus (exact rfl)); ((repeat' (first | (with_reducible refine RP.drew ?_) | (focus (with_reducible refine RP.alloc ?_ _)) | (focus (with_reducible refine RP.other ?_ (by with_reducible assumption) (by with_reducible assumption) _ _ _)) | (focus (with_reducible refine RP.other ?_ (by omega) (by omega) _ _ _)) | (with_reducible refine RP.below ?_ (by with_reducible assumption)) | (with_reducible refine Only.setQ ?_ _ _ _) | ((with_reducible refine Only.trans ?_ (by with_reducible assumption))) | with_reducible exact Below.refl _ _ | with_reducible assumption | ((with_reducible refine Below.drew ?_)) | ((with_reducible refine below_drewN ?_ _)) | ((with_reducible refine Below.alloc ?_ ?_ _); rotate_left; focus (first | omega | (simp; done) | (simp; omega))) | ((with_reducible refine Below.setCell ?_ ?_ _); rotate_left; focus (first | omega | (simp; done) | (simp; omega))) | ((with_reducible refine Below.trans ?_ (Below.mono (by with_reducible assumption) ?_)); rotate_left; focus (first | omega | (simp; done) | (simp; omega))) | with_reducible exact Only.refl _ _ | (with_reducible refine Only.drew ?_) | (with_reducible refine Only.setL ?_ _ _ _) | (with_reducible refine Only.setR ?_ _ _ _) | (with_reducible refine Only.alloc ?_ _) | (with_reducible refine EL.drew ?_) | (focus (with_reducible refine EL.other ?_ (by omega) _ _ _)) | ((with_reducible refine Only.setCell ?_ (Or.inr ?_) _); rotate_left; focus (first | omega | (simp; done) | (simp; omega))) | (focus (with_reducible refine EL.alloc ?_ (by (first | omega | (simp; omega))) _)) | (with_reducible refine EL.other ?_ (by with_reducible assumption) _ _ _) | (with_reducible refine EL.set ?_ (by with_reducible assumption) (by with_reducible assumption) _) | (focus (with_reducible refine EL.set ?_ (by omega) (by with_reducible assumption) _)) | ((with_reducible refine EL.below ?_ (by with_reducible assumption) ?_); rotate_left; focus (first | omega | (simp; omega))) | ((with_reducible refine Only.trans ?_ (Only.of_below (by with_reducible assumption)))) )); done))
theorem PRow.alloc {z : World} {b n : Nat} {g : Nat → Pk} (h : PRow z b n g) (o : Obj) : PRow (z.alloc o) b n g := h.below (Below.alloc (Below.refl _ _) (Nat.le_refl _) o)
theorem own_alloc {w : World} {base : Nat} {e : TypeId} {size n : Nat} {v : Value} {xs : List Value} (h : w.ownsRow base e size v n xs) (o : Obj) : (w.alloc o).ownsRow base e size v n xs := own_bel h (Below.alloc (Below.refl _ _) (Nat.le_refl _) o)
theorem own_under {w w' : World} {base B2 : Nat} {e : TypeId} {size n : Nat} {v : Value} {xs : List Value} (h : w.ownsRow base e size v n xs) (hv : ∀ k, v.ownBlock = some k → k < B2) (ho : Only (fun k => B2 ≤ k) w w') : w'.ownsRow base e size v n xs := by
  refine ⟨h.1, ?_⟩
  rcases h.2 with h' | ⟨g, cap, cur, h1, h2, h3, h4⟩
  · exact .inl h'
  · refine .inr ⟨g, cap, cur, h1, h2, ?_, h4⟩
    have hlt : g < w.heap.size := by
      rcases Nat.lt_or_ge g w.heap.size with h | h
      · exact h
      · rw [Array.getElem?_eq_none h] at h3; cases h3
    have := hv g (by rw [h1]; rfl)
    exact (ho.block g hlt (fun e => by omega)).trans h3
theorem OQ.under {w z z' : World} {B B2 q n f m m1 : Nat} {xs g : Nat → Pk} {v : Value} {c0 c1 c2 c3 c4 c5 mo bs : Int} (h : OQ w z B q n f m xs c0 c1 c2 c3 c4 c5 mo bs v m1 g) (hq : q < B2) (hv : ∀ k, v.ownBlock = some k → k < B2) (ho : Only (fun k => B2 ≤ k) z z') : OQ w z' B q n f m xs c0 c1 c2 c3 c4 c5 mo bs v m1 g :=
  ⟨h.tq.above ho hq, own_under h.own hv ho, h.hB, Nat.le_trans h.big ho.size⟩
theorem own_base {z : World} {B m size : Nat} {e : TypeId} {v : Value} {xs : List Value} (h : z.ownsRow B e size v m xs) : ∀ k, v.ownBlock = some k → B ≤ k := by
  intro k hk
  rcases h.2 with ⟨rfl, _⟩ | ⟨b, cap, cur, rfl, hb, _⟩
  · simp [Value.ownBlock] at hk
  · simp [Value.ownBlock] at hk; omega
set_option maxHeartbeats 8000000 in
theorem po_some (n : Nat) (b : Int) (sb so len cap : Nat) (h1 : 1 ≤ n) (h2 : n ≤ 64) (hb1 : 1 ≤ b) (hb2 : b ≤ 1048576) (hl : len ≤ 100) (h0 : 0 < len) (w : World) (hc : PktsAt w sb so len) :
    Calls Try.prog 8 #[.int .i64 n, .int .i64 b, .slice (some ⟨sb, so, none⟩) len cap] w fun e w' => e = .returned (.bool true) ∧ Below w.heap.size w w' := by
  obtain ⟨ie, HI0, HZ0, HZ1, HZ2⟩ := pk_parts
  have KN := Lib.hid (fun w => tnew n b 0 h1 h2 hb1 hb2 w)
  have KH := Lib.hid hundred_c
  have HC := Lib.hid hc.2
  have hsb := hc.1
  clear hc
  have d1 : decide (100 < (len : Int)) = false := by simp; omega
  go_enter Try.func8, Try.ntmps8
  go_wp2_with (go_at_call 31; ((with_reducible refine (KN.out _).mono ?_); rintro e w1 ⟨q, rfl, hT⟩))
  have hO0 : OQ w w1 w1.heap.size q n 0 0 (fun _ => pz) 0 0 0 0 0 0 b 0 (.slice none 0 0) 0 (fun _ => pz) := ⟨hT, ⟨rfl, .inl ⟨rfl, rfl⟩⟩, hT.pq.size.1, Nat.le_refl _⟩
  generalize hBe : w1.heap.size = B at hO0
  clear hT
  go_loopw [9, 45] (fun vin i wr => ∃ (k m : Nat) (xs g : Nat → Pk) (c0 c2 c3 c5 bs : Int) (v : Value), k ≤ len ∧ i = .int .i64 k ∧ v = vin ∧ OQ w wr B q n 0 m xs c0 0 c2 c3 0 c5 b bs v m g ∧ QP xs 0 m n 0 g ∧ (∀ j, j < m → 1 ≤ (g j).n ∧ (g j).n ≤ 16384) ∧ m ≤ n ∧ m ≤ k ∧ bs = psum g m ∧ (0 ≤ c0 ∧ c0 ≤ k) ∧ (0 ≤ c2 ∧ c2 ≤ k) ∧ (0 ≤ c3 ∧ c3 ≤ 16384 * k) ∧ (0 ≤ c5 ∧ c5 ≤ 16384 * k) ∧ 0 ≤ bs ∧ bs ≤ b) (fun _ i _ => len - (intOf i).toNat)
  case atStart => exact ⟨0, 0, _, _, 0, 0, 0, 0, 0, _, Nat.zero_le _, rfl, rfl, hO0, fun j hj => absurd hj (by omega), fun j hj => absurd hj (by omega), by omega, by omega, rfl, by omega, by omega, by omega, by omega, by omega, by omega⟩
  case round =>
    clear hO0
    obtain ⟨k, m, xs, g, c0, c2, c3, c5, bs, v, hk, rfl, rfl, hO, hQ, hg, hmn, hmk, hbs, i0, i2, i3, i5, ib0, ib1⟩ := hrel
    by_cases hlt : k < len
    · obtain ⟨pi, pn, pa, pb, pc, pd, hpn, r0, r1, r2, r3, r4, r5⟩ := HC.out k hlt
      have hbel := hO.tq.bel
      have hcc := fun o => hbel.cell (p := ⟨sb, o, none⟩) hsb
      rw [← hcc] at r0 r1 r2 r3 r4 r5
      have hsr : sb < wr.heap.size := Nat.lt_of_lt_of_le hsb hbel.size
      have hbig := hO.big
      clear hcc
      by_cases hgood : 1 ≤ pn ∧ pn ≤ 16384
      · obtain ⟨hp1, hp2⟩ := hgood
        have hBND : 0 ≤ c0 ∧ c0 ≤ 1000000 ∧ (0 : Int) ≤ 0 ∧ (0 : Int) ≤ 1000000 ∧ 0 ≤ c2 ∧ c2 ≤ 1000000 ∧ 0 ≤ c3 ∧ c3 ≤ 1099511627776 ∧ (0 : Int) ≤ 0 ∧ (0 : Int) ≤ 1099511627776 ∧ 0 ≤ c5 ∧ c5 ≤ 1099511627776 ∧ 0 ≤ bs ∧ bs ≤ b ∧ b ≤ 1048576 := by omega
        by_cases hr : b - bs < pn
        · have K := Lib.hid (fun z hz => olong (w := w) (z := z) (B := B) (q := q) (n := n) (f := 0) (m := m) (m1 := m) (xs := xs) (g := g) (v := v) pi pn pa pb pc pd hz hp1 hp2 hBND hr)
          clear hBND
          go_wp2_with (go_at_call 24; ((with_reducible refine (K.out _ (by with_reducible exact OQ.alloc hO _)).mono ?_); clear hO; rintro e w3 ⟨rfl, hO, ho⟩))
          go_roundw
          case rel => exact ⟨k + 1, m, xs, g, c0, c2 + 1, c3, c5 + pn, bs, _, by omega, by go_num, rfl, hO, hQ, hg, hmn, by omega, hbs, by omega, by omega, by omega, by omega, ib0, ib1⟩
          case measure => simp [intOf]; omega
        · by_cases hfull : m = n
          · subst hfull
            have K := Lib.hid (fun z hz => ofull (w := w) (z := z) (B := B) (q := q) (n := m) (f := 0) (m1 := m) (xs := xs) (g := g) (v := v) pi pn pa pb pc pd hz hp1 hp2 hBND hr)
            clear hBND
            go_wp2_with (go_at_call 24; ((with_reducible refine (K.out _ (by with_reducible exact OQ.alloc hO _)).mono ?_); clear hO; rintro e w3 ⟨rfl, hO, ho⟩))
            go_roundw
            case rel => exact ⟨k + 1, m, xs, g, c0, c2 + 1, c3, c5 + pn, bs, _, by omega, by go_num, rfl, hO, hQ, hg, hmn, by omega, hbs, by omega, by omega, by omega, by omega, ib0, ib1⟩
            case measure => simp [intOf]; omega
          · have K := Lib.hid (fun z hz => opush (w := w) (z := z) (B := B) (q := q) (n := n) (f := 0) (m := m) (m1 := m) (xs := xs) (g := g) (v := v) pi pn pa pb pc pd hz hp1 hp2 hBND hr (by omega))
            clear hBND
            have hnB : ¬ wr.heap.size < B := by omega
            go_wp2_with (first
              | (go_at_call 24; ((with_reducible refine (K.out _ (by with_reducible exact OQ.alloc hO _)).mono ?_); clear hO; rintro e w3 ⟨rfl, hO, ho⟩; (have hcc := fun o hb => ho.cell (b := wr.heap.size) (o := o) hb hnB); (have hsz := ho.size); (try simp at hsz); have hF : w3.cell? ⟨wr.heap.size, 0, none⟩ = some (.int .u64 pi) ∧ w3.cell? ⟨wr.heap.size, 1, none⟩ = some (.int .i64 pn) ∧ w3.cell? ⟨wr.heap.size, 2, none⟩ = some (.int .u16 pa) ∧ w3.cell? ⟨wr.heap.size, 3, none⟩ = some (.int .u16 pb) ∧ w3.cell? ⟨wr.heap.size, 4, none⟩ = some (.int .u16 pc) ∧ w3.cell? ⟨wr.heap.size, 5, none⟩ = some (.int .u16 pd) ∧ wr.heap.size < w3.heap.size := (by ((repeat' apply And.intro) <;> first | (simp [go_sem, *]; done) | omega | (repeat' (first | (with_reducible refine RP.drew ?_) | (focus (with_reducible refine RP.alloc ?_ _)) | (focus (with_reducible refine RP.other ?_ (by with_reducible assumption) (by with_reducible assumption) _ _ _)) | (focus (with_reducible refine RP.other ?_ (by omega) (by omega) _ _ _)) | (with_reducible refine RP.below ?_ (by with_reducible assumption)) | (with_reducible refine Only.setQ ?_ _ _ _) | ((with_reducible refine Only.trans ?_ (by with_reducible assumption))) | with_reducible exact Below.refl _ _ | with_reducible assumption | ((with_reducible refine Below.drew ?_)) | ((with_reducible refine below_drewN ?_ _)) | ((with_reducible refine Below.alloc ?_ ?_ _); rotate_left; focus (first | omega | (simp; done) | (simp; omega))) | ((with_reducible refine Below.setCell ?_ ?_ _); rotate_left; focus (first | omega | (simp; done) | (simp; omega))) | ((with_reducible refine Below.trans ?_ (Below.mono (by with_reducible assumption) ?_)); rotate_left; focus (first | omega | (simp; done) | (simp; omega))) | with_reducible exact Only.refl _ _ | (with_reducible refine Only.drew ?_) | (with_reducible refine Only.setL ?_ _ _ _) | (with_reducible refine Only.setR ?_ _ _ _) | (with_reducible refine Only.alloc ?_ _) | (with_reducible refine EL.drew ?_) | (focus (with_reducible refine EL.other ?_ (by omega) _ _ _)) | ((with_reducible refine Only.setCell ?_ (Or.inr ?_) _); rotate_left; focus (first | omega | (simp; done) | (simp; omega))) | (focus (with_reducible refine EL.alloc ?_ (by (first | omega | (simp; omega))) _)) | (with_reducible refine EL.other ?_ (by with_reducible assumption) _ _ _) | (with_reducible refine EL.set ?_ (by with_reducible assumption) (by with_reducible assumption) _) | (focus (with_reducible refine EL.set ?_ (by omega) (by with_reducible assumption) _)) | ((with_reducible refine EL.below ?_ (by with_reducible assumption) ?_); rotate_left; focus (first | omega | (simp; omega))) | ((with_reducible refine Only.trans ?_ (Only.of_below (by with_reducible assumption)))) )))); go_split_ands))
              | (at_builtin; refine wpList_append_own _ rfl _ _ 59 rfl B 50 ie (.agg #[.int .u64 0, .int .i64 0, .int .u16 0, .int .u16 0, .int .u16 0, .int .u16 0]) 6 24 Try.underlying59 HI0 HZ0 HZ1 HZ2 rfl (by decide) _ m (pcs g m) rfl (OQ.own (OQ.alloc hO _)) ⟨_, 0, none⟩ 1 1 [.int .u64 pi, .int .i64 pn, .int .u16 pa, .int .u16 pb, .int .u16 pc, .int .u16 pd] rfl rfl ?c1 ?c2 ?c3 ?c4 ?c5 ?_))
            (case c1 => (intro j u hu; rcases j with _ | _ | _ | _ | _ | _ | j <;> simp at hu <;> (try subst hu) <;> simp [Addr.add, go_sem])); (case c2 => (intro u hu; simp at hu; rcases hu with rfl | rfl | rfl | rfl | rfl | rfl <;> rfl)); (case c3 => (unfold maxLen; omega)); (case c4 => omega); (case c5 => (have := hO.big; simp; omega))
            intro v' w5 hown' hgrow _
            have hO' := OQ.app (p := ⟨pi, pn, pa, pb, pc, pd⟩) (OQ.alloc hO _) hown' hgrow
            go_wp2
            go_roundw
            case rel =>
              refine ⟨k + 1, m + 1, _, updp g m ⟨pi, pn, pa, pb, pc, pd⟩, c0 + 1, c2, c3 + pn, c5, bs + pn, _, by omega, by go_num, rfl, hO', QP.push (fun j hj => ?_) (by omega) (by omega) _ ?_, fun j hj => ?_, by omega, by omega, ?_, by omega, by omega, by omega, by omega, by omega, by omega⟩
              · rw [hQ j hj]; unfold updp; rw [if_neg (by omega)]
              · unfold updp; rw [if_pos (by omega)]
              · unfold updp
                split
                · exact ⟨hp1, hp2⟩
                · exact hg j (by omega)
              · rw [psum, psum_congr (g' := g) m (fun j hj => by unfold updp; rw [if_neg (by omega)]), hbs]
                unfold updp
                rw [if_pos rfl]
            case measure => simp [intOf]; omega
      · have hbad : pn < 1 ∨ (1 ≤ pn ∧ 16384 < pn) := by omega
        have K := Lib.hid (fun z hz => obad (w := w) (z := z) (B := B) (q := q) (n := n) (f := 0) (m := m) (m1 := m) (xs := xs) (g := g) (v := v) (c0 := c0) (c1 := 0) (c2 := c2) (c3 := c3) (c4 := 0) (c5 := c5) (mo := b) (bs := bs) pi pn pa pb pc pd hz hbad)
        go_wp2_with (go_at_call 24; ((with_reducible refine (K.out _ (by with_reducible exact OQ.alloc hO _)).mono ?_); clear hO; rintro e w3 ⟨rfl, hO⟩))
        go_roundw
        case rel => exact ⟨k + 1, m, xs, g, c0, c2, c3, c5, bs, _, by omega, by go_num, rfl, hO, hQ, hg, hmn, by omega, hbs, by omega, by omega, by omega, by omega, ib0, ib1⟩
        case measure => simp [intOf]; omega
    · obtain rfl : k = len := by omega
      clear hlt HC
      by_cases hm0 : m = 0
      · subst hm0
        obtain ⟨ao, cp, rfl⟩ : ∃ ao cp, v = .slice ao 0 cp := by
          rcases own_row hO.own with ⟨e, _⟩ | ⟨b1, cp, e, _⟩
          · exact ⟨none, 0, e⟩
          · exact ⟨_, cp, e⟩
        have KP := Lib.hid (fun z hT => tnone (w := w) (z := z) (q := q) (s := 0) (n := n) (f := 0) (xs := xs) (c0 := c0) (c1 := 0) (c2 := c2) (c3 := c3) (c4 := 0) (c5 := c5) (mo := b) (bs := bs) hT)
        have KB := Lib.hid (fun z hT => tbyt (w := w) (z := z) (q := q) (s := 0) (n := n) (f := 0) (m := 0) (xs := xs) (c0 := c0) (c1 := 0) (c2 := c2) (c3 := c3) (c4 := 0) (c5 := c5) (mo := b) (bs := bs) hT)
        have KS := Lib.hid (same_zero ao none cp 0)
        have hbs0 : bs = 0 := hbs
        subst hbs0
        have hT := hO.tq
        clear hO hbs
        go_wp2_with fail
        refine wp_loop_rounds 1 ?_
        rw [rounds_succ]
        go_wp2_with (first
          | (go_at_call 23; ((with_reducible refine (KP.out _ hT).mono ?_); clear hT; rintro e w6 ⟨rfl, hT⟩))
          | (go_at_call 32; ((with_reducible refine (KS.out _).mono ?_); rintro e w7 ⟨rfl, hb⟩; replace hT := (TQ.alloc hT _).below hb; clear hb))
          | (go_at_call 27; ((with_reducible refine (KB.out _ hT).mono ?_); clear hT; rintro e w8 ⟨rfl, hT⟩))
          | (go_at_call 30; ((with_reducible refine (KH.out _).mono ?_); rintro e w9 ⟨rfl, hb⟩; replace hT := hT.below hb; clear hb)))
        go_ret
        exact ⟨rfl, hT.bel⟩
      · rcases own_row hO.own with ⟨_, e⟩ | ⟨b1, cp, rfl, hrow⟩
        · exact absurd e hm0
        have hb1 := hrow.1
        have hqB := hO.hB
        have hbig := hO.big
        have hsz0 : wr.heap.size = wr.heap.size := rfl
        have hown0 : wr.ownsRow wr.heap.size 50 6 (.slice none 0 0) 0 (pcs g 0) := ⟨rfl, .inl ⟨rfl, rfl⟩⟩
        have hle0 : wr.heap.size ≤ wr.heap.size := Nat.le_refl _
        obtain ⟨B2, hB2⟩ : ∃ B2, B2 = wr.heap.size := ⟨_, rfl⟩
        have hown0 : wr.ownsRow B2 50 6 (.slice none 0 0) 0 (pcs g 0) := ⟨rfl, .inl ⟨rfl, rfl⟩⟩
        have hle0 : B2 ≤ wr.heap.size := by omega
        have hb1' : b1 < B2 := by omega
        have hqB2 : q < B2 := by omega
        have hBB2 : B ≤ B2 := by omega
        clear hB2 hrow hb1 hsz0
        have hv : ∀ k, (Value.slice (some ⟨b1, 0, none⟩) m cp).ownBlock = some k → k < B2 := by intro k hk; simp [Value.ownBlock] at hk; omega
        go_wp2_with fail
        go_loopw [10, 60] (fun vout i wz => ∃ (c f : Nat) (xs' : Nat → Pk) (c1 c4 bs' : Int) (v2 : Value), c ≤ m ∧ i = .int .i64 c ∧ v2 = vout ∧ OQ w wz B q n f (m - c) xs' c0 c1 c2 c3 c4 c5 b bs' (.slice (some ⟨b1, 0, none⟩) m cp) m g ∧ wz.ownsRow B2 50 6 v2 c (pcs g c) ∧ B2 ≤ wz.heap.size ∧ QP xs' f (m - c) n c g ∧ f < n ∧ bs' = psum g m - psum g c ∧ 0 ≤ c1 ∧ c1 ≤ c ∧ 0 ≤ c4 ∧ c4 ≤ 16384 * c) (fun _ i _ => m - (intOf i).toNat)
        case atStart => exact ⟨0, 0, xs, 0, 0, bs, _, Nat.zero_le _, rfl, rfl, hO, hown0, hle0, hQ, by omega, by rw [hbs]; simp [psum], by omega, by omega, by omega, by omega⟩
        case round =>
          clear hO hown0 hle0 hQ hmk
          obtain ⟨c, f, xs', c1, c4, bs', v2, hcm, rfl, rfl, hO, hown2, hbig2, hQ, hfn, hbs', j1, j2, j3, j4⟩ := hrel
          by_cases hlt : c < m
          · rcases hgc : g c with ⟨pi, pn, pa, pb, pc, pd⟩
            have hpn := hg c hlt
            rw [hgc] at hpn
            dsimp only at hpn
            obtain ⟨hp1, hp2⟩ := hpn
            have hx0 := hQ 0 (by omega)
            rw [ato_zero f n hfn, Nat.add_zero, hgc] at hx0
            have hps := psum_le (fun j hj => (hg j hj).1) (c + 1) (by omega)
            rw [psum, hgc] at hps
            dsimp only at hps
            have hps0 := psum_le (m := c) (g := g) (fun j hj => (hg j (by omega)).1) 0 (by omega)
            rw [psum] at hps0
            have hBND : 0 ≤ c0 ∧ c0 ≤ 1000000 ∧ 0 ≤ c1 ∧ c1 ≤ 1000000 ∧ 0 ≤ c2 ∧ c2 ≤ 1000000 ∧ 0 ≤ c3 ∧ c3 ≤ 1099511627776 ∧ 0 ≤ c4 ∧ c4 ≤ 1099511627776 ∧ 0 ≤ c5 ∧ c5 ≤ 1099511627776 ∧ 0 ≤ bs' ∧ bs' ≤ b ∧ b ≤ 1048576 := by omega
            have K := Lib.hid (fun z hz => opop (w := w) (z := z) (B := B) (q := q) (n := n) (f := f) (m := m - c) (m1 := m) (xs := xs') (g := g) (v := .slice (some ⟨b1, 0, none⟩) m cp) pi pn pa pb pc pd hz hp1 hp2 hBND (by omega) (by omega) hx0)
            clear hBND
            have HP := Lib.hid hps
            have HP0 := Lib.hid hps0
            clear hps hps0
            go_wp2_with (first
              | (go_at_call 23; ((with_reducible refine (K.out _ hO).mono ?_); clear hO; rintro e w3 ⟨rfl, hO, ho⟩; (replace hown2 := own_only hown2 ho (fun k hk => by omega)); (have hs3 := ho.size); clear ho))
              | (at_builtin; refine wpList_append_own _ rfl _ _ 59 rfl B2 50 ie (.agg #[.int .u64 0, .int .i64 0, .int .u16 0, .int .u16 0, .int .u16 0, .int .u16 0]) 6 24 Try.underlying59 HI0 HZ0 HZ1 HZ2 rfl (by decide) _ c (pcs g c) rfl (own_alloc (own_alloc hown2 _) _) ⟨_, 0, none⟩ 1 1 [.int .u64 pi, .int .i64 pn, .int .u16 pa, .int .u16 pb, .int .u16 pc, .int .u16 pd] rfl rfl ?c1 ?c2 ?c3 ?c4 ?c5 ?_))
            (case c1 => (intro j u hu; rcases j with _ | _ | _ | _ | _ | _ | j <;> simp at hu <;> (try subst hu) <;> simp [Addr.add, go_sem]))
            (case c2 => (intro u hu; simp at hu; rcases hu with rfl | rfl | rfl | rfl | rfl | rfl <;> rfl))
            (case c3 => (unfold maxLen; omega))
            (case c4 => omega)
            (case c5 => (simp; omega))
            intro v' w5 hown' hgrow _
            have hO' := OQ.under (OQ.alloc (OQ.alloc hO _) _) hqB2 hv (only_of_grown hgrow (own_base hown2))
            have hs5 := hgrow.size
            simp at hs5
            have em : m - c - 1 = m - (c + 1) := by omega
            rw [em] at hO'
            have hQ' := QP.pop hQ hfn (by omega) (by omega) pz
            rw [em] at hQ'
            have hown'' : w5.ownsRow B2 50 6 v' (c + 1) (pcs g (c + 1)) := by rw [pcs, hgc]; exact hown'
            have hps := HP.out
            go_wp2
            go_roundw
            case rel =>
              refine ⟨c + 1, ato f 1 n, _, c1 + 1, c4 + pn, bs' - pn, _, by omega, by go_num, rfl, hO', hown'', by omega, hQ', ato_lt f 1 n (by omega), ?_, by omega, by omega, by omega, by omega⟩
              rw [psum, hgc, hbs']
              dsimp only
              omega
            case measure => simp [intOf]; omega
          · obtain rfl : c = m := by omega
            have hT := hO.tq
            rw [Nat.sub_self] at hT
            have hbs0 : bs' = 0 := by omega
            subst hbs0
            clear hbs' hlt
            rcases own_row hO.own with ⟨_, e⟩ | ⟨b1', cp', e1, hr1⟩
            · exact absurd e hm0
            obtain rfl : b1 = b1' := by simp at e1; exact e1.1
            clear e1
            rcases own_row hown2 with ⟨_, e⟩ | ⟨b2, cp2, rfl, hr2⟩
            · exact absurd e hm0
            have KP := Lib.hid (fun z (hT : TQ w z q 0 n f 0 xs' c0 c1 c2 c3 c4 c5 b 0) => qpop_none q _ _ n f xs' _ _ _ _ _ _ _ _ z hT.pq)
            have KB := Lib.hid (fun z hT => tbyt (w := w) (z := z) (q := q) (s := 0) (n := n) (f := f) (m := 0) (xs := xs') (c0 := c0) (c1 := c1) (c2 := c2) (c3 := c3) (c4 := c4) (c5 := c5) (mo := b) (bs := 0) hT)
            have KS := Lib.hid (fun z h1 h2 => same_c b1 b2 c cp cp2 g z h1 h2 (by omega))
            clear hO hown2 hQ
            go_wp2_with (first
              | (go_at_call 23; ((with_reducible refine (KP.out _ hT).mono ?_); rintro e w6 ⟨rfl, hb⟩; replace hT := hT.below hb; replace hr1 := hr1.below hb; replace hr2 := hr2.below hb; clear hb))
              | (go_at_call 32; ((with_reducible refine (KS.out _ (PRow.alloc hr1 _) (PRow.alloc hr2 _)).mono ?_); rintro e w7 ⟨rfl, hb⟩; replace hT := (TQ.alloc hT _).below hb; clear hb))
              | (go_at_call 27; ((with_reducible refine (KB.out _ hT).mono ?_); clear hT; rintro e w8 ⟨rfl, hT⟩))
              | (go_at_call 30; ((with_reducible refine (KH.out _).mono ?_); rintro e w9 ⟨rfl, hb⟩; replace hT := hT.below hb; clear hb)))
            go_ret
            exact ⟨rfl, hT.bel⟩
end Go.Proofs.Ytpjanaljmnfccaa
