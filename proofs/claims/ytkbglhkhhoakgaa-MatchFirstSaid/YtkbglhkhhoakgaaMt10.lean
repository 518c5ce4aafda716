/- match.New, whole. -/
import Derived.Test.YtkbglhkhhoakgaaMt9
namespace Go.Proofs.Ytkbglhkhhoakgaa
set_option linter.unusedVariables false
set_option linter.unusedSimpArgs false
set_option maxRecDepth 100000
open Go.RowKit Fg Reg
attribute [local irreducible] Reg.wE

theorem shrunk {G : World → Prop} {w : World} (F : World → Prop) (hF : F w) (h : ∀ n, F n → G n) : G w := h w hF
/-- A store into a map as an effect of a drawn region. -/
theorem eff_mapUpdate {P : Program} {Cl : List Value → World → Prop} {ps : List Value} {o : Oper} {ρ : Act} {w w' : World} {mv xv vv : Value} (m x v : Operand) (t : TypeId)
    (ho : o.op = Op.mapUpdate t m x v) (hm : ρ.eval m = mv) (hx : ρ.eval x = xv) (hv : ρ.eval v = vv) (hr : (Instr.mapUpdate t mv xv vv).run P w = .ok () w') (h : Cl (ps ++ [undef]) w') :
    effUpon P Cl ps ((execOp ρ.eval o).run P w) := by
  simp [execOp, ho, hm, hx, hv, hr, Result.andThen, effUpon]
  exact h
variable {w z : World} {p mb : Nat} {a0 : Option Addr} {c0 : Nat} {v : Value} {rs : List Rl} {k : Nat} {F : H4 → Option Nat} {ms : List Int}
theorem NT.grown (h : NT w z p mb a0 c0 v rs k F ms) {z' : World} (hg : z.grownBy z' v.ownBlock) : z'.cell? ⟨p, 2, none⟩ = some v ∧ z'.frozen? ⟨p, 2, none⟩ = false ∧ p < z'.heap.size := by
  have hob := row_blk h.own
  have hgp : some p ≠ v.ownBlock := fun e => by have := (hob p e.symm).1; omega
  exact ⟨hg.cell h.c2 hgp, (World.frozen?_of_block (hg.block p h.plt hgp)).trans h.z2, Nat.lt_of_lt_of_le h.plt hg.size⟩
set_option maxHeartbeats 8000000 in
theorem new_c (rs : List Rl) (a : Option Addr) (c : Nat) (hn : rs.length ≤ 32) (hwf : ∀ k (hk : k < rs.length), rs[k].wf) (w : World) (hR : RlsV w a rs) :
    Calls Try.prog 13 #[.slice a rs.length c] w (NewPost w rs) := by
  obtain ⟨ie, HI0, HZ0, HZ1, HZ2⟩ := int_parts
  have HR := Lib.hid hR
  have HW := Lib.hid hwf
  have HA := Lib.hid (all_snoc rs)
  have HNO := Lib.hid (fun k (hk : k < rs.length) (h : rmay rs[k].m rs[k].s rs[k].cls = false) => rwv_no (List.all_eq_false.2 ⟨rs[k], List.getElem_mem hk, by simp [h]⟩))
  have LI := Lib.hid rl_info
  have KC := Lib.hid (clone_c rs a c (by omega) w hR)
  have d1 : decide (32 < (rs.length : Int)) = false := by simp; omega
  have hmm := @run_makeMap Try.prog
  clear hR hwf
  go_enter Try.func13, Try.ntmps13
  go_wp2_with (go_at_call 51; ((with_reducible refine KC.out.mono ?_); rintro e w1 ⟨⟨v0, rfl, ho⟩, hb⟩; obtain ⟨a0, c0, rfl, hRl, -, -, hal⟩ := RwV.of_own rl_of ho; clear ho))
  have hsz1 := hb.size
  refine shrunk (fun z => NT w z (w1.heap.size + 1) w1.heap.size a0 c0 (.slice none 0 0) rs 0 (fun _ => none) []) ⟨by simp [go_sem], by simp [go_sem], by simp [go_sem], by simp [go_sem], by simp, by omega, by omega, fun ad hd => (hal ad hd).2, RwV.below (RwV.below hRl (Below.alloc (Below.refl _ _) (Nat.le_refl _) _)) (Below.alloc (Below.refl _ _) (Nat.le_refl _) _), (Mp.made _ _ _ _).alloc _, World.ownsRow_nil _ _ _ _, Below.alloc (Below.alloc hb (by omega) _) (by simp; omega) _⟩ ?_
  intro w0 hN0
  clear hb KC hRl hal
  generalize w1.heap.size + 1 = p at hN0 ⊢
  generalize w1.heap.size = mb at hN0 hsz1
  go_loopw [19] (fun ii wr => ∃ (k : Nat) (F : H4 → Option Nat) (ms : List Int) (v : Value), k ≤ rs.length ∧ ii = .int .i64 k ∧ (rs.take k).all (fun r => rmay r.m r.s r.cls) = true ∧ ms.length ≤ k ∧ TInv rs k F ms ∧ NT w wr p mb a0 c0 v rs k F ms) (fun ii _ => rs.length - (intOf ii).toNat)
  case atStart => exact ⟨0, _, _, _, Nat.zero_le _, rfl, by simp, Nat.le_refl _, TInv.start rs, hN0⟩
  case round =>
    obtain ⟨k, F, ms, v, hk, rfl, hal, hml, hT, hN⟩ := hrel
    clear hN0
    have hplt := hN.plt
    by_cases hlt : k < rs.length
    · obtain ⟨b, o, rfl, hb, hr⟩ := (HR.out.below hN.bel) k hlt
      have hf := HW.out k hlt
      have hst := fun hy => HA.out k hlt hal hy
      have hno := HNO.out k hlt
      have t1 := fun hf => hT.mask hlt hf
      have t2 := fun hf j hj => hT.keep (j := j) hlt hf hj
      have t3 := fun hf hj => hT.put hlt hf hj
      generalize rs[k] = r at hr hf hst hno t1 t2 t3
      have KM := Lib.hid (fun z => may_c r.m r.s r.cls hf.m hf.s z)
      have HST := Lib.hid hst
      have HN := Lib.hid hno
      have T1 := Lib.hid t1
      have T2 := Lib.hid t2
      have T3 := Lib.hid t3
      have hok : ok4 (key4 r.s) := ⟨hf.s 0, hf.s 1, hf.s 2, hf.s 3⟩
      clear hst hno hf hal hT t1 t2 t3
      obtain ⟨ao, cap, rfl⟩ := row_form hN.own
      cases hb2 : rmay r.m r.s r.cls with
      | false =>
        rw [hb2] at KM
        have HV := Lib.hid (HN.out hb2)
        clear hb2
        go_wp2_with (first | (refine wpList_load_mid rfl 37 _ rfl b (o + k * 9) rfl _ _ hr Try.underlying37 rfl LI.out ?_) | (refine wpList_store_new rfl 37 _ _ rfl _ #[.int .u16 ((r).m 0 : Nat), .int .u16 ((r).m 1 : Nat), .int .u16 ((r).m 2 : Nat), .int .u16 ((r).m 3 : Nat), .int .u16 ((r).s 0 : Nat), .int .u16 ((r).s 1 : Nat), .int .u16 ((r).s 2 : Nat), .int .u16 ((r).s 3 : Nat), .int .i64 (r).cls] rfl rfl LI.out rfl (all_oneCell_toArray (Rl.one r)) ?_) | (go_at_call 52; ((with_reducible refine (KM.out _).mono ?_); rintro e w2 ⟨rfl, hb3⟩; have hN2 := (NT.alloc hN _).below hb3; obtain ⟨hcc, hff⟩ := bcell hb3; (have hsz := hb3.size); (try simp at hsz); have hF : w2.cell? ⟨wr.heap.size, 0, none⟩ = some (.int .u16 (r.m 0 : Nat)) ∧ w2.cell? ⟨wr.heap.size, 1, none⟩ = some (.int .u16 (r.m 1 : Nat)) ∧ w2.cell? ⟨wr.heap.size, 2, none⟩ = some (.int .u16 (r.m 2 : Nat)) ∧ w2.cell? ⟨wr.heap.size, 3, none⟩ = some (.int .u16 (r.m 3 : Nat)) ∧ w2.cell? ⟨wr.heap.size, 4, none⟩ = some (.int .u16 (r.s 0 : Nat)) ∧ w2.cell? ⟨wr.heap.size, 5, none⟩ = some (.int .u16 (r.s 1 : Nat)) ∧ w2.cell? ⟨wr.heap.size, 6, none⟩ = some (.int .u16 (r.s 2 : Nat)) ∧ w2.cell? ⟨wr.heap.size, 7, none⟩ = some (.int .u16 (r.s 3 : Nat)) ∧ wr.heap.size < w2.heap.size := (by ((repeat' apply And.intro) <;> first | (simp [go_sem, *]; done) | omega | (repeat' (first | with_reducible exact Below.refl _ _ | with_reducible assumption | ((with_reducible refine Below.drew ?_)) | ((with_reducible refine below_drewN ?_ _)) | ((with_reducible refine Below.alloc ?_ ?_ _); rotate_left; focus (first | omega | (simp; done) | (simp; omega))) | ((with_reducible refine Below.setCell ?_ ?_ _); rotate_left; focus (first | omega | (simp; done) | (simp; omega))) | ((with_reducible refine Below.trans ?_ (Below.mono (by with_reducible assumption) ?_)); rotate_left; focus (first | omega | (simp; done) | (simp; omega))))))); go_split_ands; clear hcc hff; have hc2 := hN2.c2; have hc1 := hN2.c1; have hplt2 := hN2.plt)))
        go_ret2
        exact ⟨hN2.bel, .inr ⟨HV.out, rfl⟩⟩
      | true =>
        rw [hb2] at KM
        have HAL := Lib.hid (HST.out hb2)
        clear hb2
        have HQ := eqH ((r.m 0 : Nat) : Int) ((r.m 1 : Nat) : Int) ((r.m 2 : Nat) : Int) ((r.m 3 : Nat) : Int) 65535 65535 65535 65535
        rw [show ([((r.m 0 : Nat) : Int), ((r.m 1 : Nat) : Int), ((r.m 2 : Nat) : Int), ((r.m 3 : Nat) : Int)] == [65535, 65535, 65535, 65535]) = r.full from rfl] at HQ
        cases hfu : r.full with
        | false =>
          rw [hfu] at HQ
          have HT := Lib.hid (T1.out hfu)
          clear hfu
          go_wp2_with (first | (refine wpList_load_mid rfl 37 _ rfl b (o + k * 9) rfl _ _ hr Try.underlying37 rfl LI.out ?_) | (refine wpList_store_new rfl 37 _ _ rfl _ #[.int .u16 ((r).m 0 : Nat), .int .u16 ((r).m 1 : Nat), .int .u16 ((r).m 2 : Nat), .int .u16 ((r).m 3 : Nat), .int .u16 ((r).s 0 : Nat), .int .u16 ((r).s 1 : Nat), .int .u16 ((r).s 2 : Nat), .int .u16 ((r).s 3 : Nat), .int .i64 (r).cls] rfl rfl LI.out rfl (all_oneCell_toArray (Rl.one r)) ?_) | (go_at_call 52; ((with_reducible refine (KM.out _).mono ?_); rintro e w2 ⟨rfl, hb3⟩; have hN2 := (NT.alloc hN _).below hb3; obtain ⟨hcc, hff⟩ := bcell hb3; (have hsz := hb3.size); (try simp at hsz); have hF : w2.cell? ⟨wr.heap.size, 0, none⟩ = some (.int .u16 (r.m 0 : Nat)) ∧ w2.cell? ⟨wr.heap.size, 1, none⟩ = some (.int .u16 (r.m 1 : Nat)) ∧ w2.cell? ⟨wr.heap.size, 2, none⟩ = some (.int .u16 (r.m 2 : Nat)) ∧ w2.cell? ⟨wr.heap.size, 3, none⟩ = some (.int .u16 (r.m 3 : Nat)) ∧ w2.cell? ⟨wr.heap.size, 4, none⟩ = some (.int .u16 (r.s 0 : Nat)) ∧ w2.cell? ⟨wr.heap.size, 5, none⟩ = some (.int .u16 (r.s 1 : Nat)) ∧ w2.cell? ⟨wr.heap.size, 6, none⟩ = some (.int .u16 (r.s 2 : Nat)) ∧ w2.cell? ⟨wr.heap.size, 7, none⟩ = some (.int .u16 (r.s 3 : Nat)) ∧ wr.heap.size < w2.heap.size := (by ((repeat' apply And.intro) <;> first | (simp [go_sem, *]; done) | omega | (repeat' (first | with_reducible exact Below.refl _ _ | with_reducible assumption | ((with_reducible refine Below.drew ?_)) | ((with_reducible refine below_drewN ?_ _)) | ((with_reducible refine Below.alloc ?_ ?_ _); rotate_left; focus (first | omega | (simp; done) | (simp; omega))) | ((with_reducible refine Below.setCell ?_ ?_ _); rotate_left; focus (first | omega | (simp; done) | (simp; omega))) | ((with_reducible refine Below.trans ?_ (Below.mono (by with_reducible assumption) ?_)); rotate_left; focus (first | omega | (simp; done) | (simp; omega))))))); go_split_ands; clear hcc hff; have hc2 := hN2.c2; have hc1 := hN2.c1; have hplt2 := hN2.plt)) | (at_builtin; refine wpList_append_own _ rfl _ _ 56 rfl (p + 1) 3 ie (.int .i64 0) 1 8 Try.underlying56 HI0 HZ0 HZ1 HZ2 rfl (by decide) _ ms.length (ms.map (Value.int .i64)) rfl (row_bel hN2.own (Below.alloc (Below.refl _ _) (Nat.le_refl _) _)) ⟨_, 0, none⟩ 1 1 [.int .i64 k] rfl rfl ?c1 ?c2 ?c3 ?c4 ?c5 ?_))
          (case c1 => (intro j u hu; rcases j with _ | j <;> simp at hu <;> (try subst hu) <;> simp [Addr.add, go_sem]))
          (case c2 => (intro u hu; simp at hu; subst hu; rfl))
          (case c3 => (unfold maxLen; omega))
          (case c4 => omega)
          (case c5 => (simp; omega))
          intro v' w5 hown' hgrow _
          have hlm : (ms ++ [(k : Int)]).length = ms.length + 1 := by simp
          have hO' := NT.app (NT.alloc hN2 _) (ms' := ms ++ [(k : Int)]) (by simpa using hown') hgrow
          have hG := NT.grown (NT.alloc hN2 _) hgrow
          obtain ⟨g1, g2, g3⟩ := hG
          obtain ⟨ao', cap', rfl⟩ := row_form hown'
          clear hown' hgrow hN2
          go_wp2
          go_roundw
          case rel => exact ⟨k + 1, F, ms ++ [(k : Int)], _, by omega, by go_num, HAL.out, by simp; omega, HT.out, hO'⟩
          case measure => simp [intOf]; omega
        | true =>
          rw [hfu] at HQ
          have HT2 := Lib.hid (T2.out hfu)
          have HT3 := Lib.hid (T3.out hfu)
          clear hfu
          have hz0 : ∀ z, (zeroValue 3).run Try.prog z = .ok (.int .i64 0) z := fun z => by kernel_rfl
          cases hF : F (key4 r.s) with
          | some j =>
            have HT := Lib.hid (HT2.out j hF)
            have HL : ∀ z, Mp kv4 vvn ok4 F k z mb → (Instr.lookup 101 (.map (some mb)) (.agg #[.int .u16 (r.s 0 : Nat), .int .u16 (r.s 1 : Nat), .int .u16 (r.s 2 : Nat), .int .u16 (r.s 3 : Nat)]) true).run Try.prog z = .ok (.tuple #[.int .i64 j, .bool true]) z := fun z hz => by
              have := Mp.look true hz kok4 Try.underlying101 (hz0 z) hok
              rw [hF] at this
              exact this
            have HLL := Lib.hid HL
            clear HL
            go_wp2_with (first | (refine wpList_load_mid rfl 37 _ rfl b (o + k * 9) rfl _ _ hr Try.underlying37 rfl LI.out ?_) | (refine wpList_store_new rfl 37 _ _ rfl _ #[.int .u16 ((r).m 0 : Nat), .int .u16 ((r).m 1 : Nat), .int .u16 ((r).m 2 : Nat), .int .u16 ((r).m 3 : Nat), .int .u16 ((r).s 0 : Nat), .int .u16 ((r).s 1 : Nat), .int .u16 ((r).s 2 : Nat), .int .u16 ((r).s 3 : Nat), .int .i64 (r).cls] rfl rfl LI.out rfl (all_oneCell_toArray (Rl.one r)) ?_) | (go_at_call 52; ((with_reducible refine (KM.out _).mono ?_); rintro e w2 ⟨rfl, hb3⟩; have hN2 := (NT.alloc hN _).below hb3; obtain ⟨hcc, hff⟩ := bcell hb3; (have hsz := hb3.size); (try simp at hsz); have hF : w2.cell? ⟨wr.heap.size, 0, none⟩ = some (.int .u16 (r.m 0 : Nat)) ∧ w2.cell? ⟨wr.heap.size, 1, none⟩ = some (.int .u16 (r.m 1 : Nat)) ∧ w2.cell? ⟨wr.heap.size, 2, none⟩ = some (.int .u16 (r.m 2 : Nat)) ∧ w2.cell? ⟨wr.heap.size, 3, none⟩ = some (.int .u16 (r.m 3 : Nat)) ∧ w2.cell? ⟨wr.heap.size, 4, none⟩ = some (.int .u16 (r.s 0 : Nat)) ∧ w2.cell? ⟨wr.heap.size, 5, none⟩ = some (.int .u16 (r.s 1 : Nat)) ∧ w2.cell? ⟨wr.heap.size, 6, none⟩ = some (.int .u16 (r.s 2 : Nat)) ∧ w2.cell? ⟨wr.heap.size, 7, none⟩ = some (.int .u16 (r.s 3 : Nat)) ∧ wr.heap.size < w2.heap.size := (by ((repeat' apply And.intro) <;> first | (simp [go_sem, *]; done) | omega | (repeat' (first | with_reducible exact Below.refl _ _ | with_reducible assumption | ((with_reducible refine Below.drew ?_)) | ((with_reducible refine below_drewN ?_ _)) | ((with_reducible refine Below.alloc ?_ ?_ _); rotate_left; focus (first | omega | (simp; done) | (simp; omega))) | ((with_reducible refine Below.setCell ?_ ?_ _); rotate_left; focus (first | omega | (simp; done) | (simp; omega))) | ((with_reducible refine Below.trans ?_ (Below.mono (by with_reducible assumption) ?_)); rotate_left; focus (first | omega | (simp; done) | (simp; omega))))))); go_split_ands; clear hcc hff; have hc2 := hN2.c2; have hc1 := hN2.c1; have hplt2 := hN2.plt)))
            have hl := HLL.out w2.drew hN2.mp.drew
            have hNd := NT.below hN2 (Below.drew (Below.refl _ _))
            obtain ⟨Cl, hCl⟩ : ∃ Cl : List Value → World → Prop, Cl = ((fun ps wz => (wz.cell? ⟨p, 1, none⟩ = some (.map (some mb)) ∧ p < wz.heap.size) ∧ (wz.cell? ⟨wr.heap.size, 0, none⟩ = some (.int .u16 (r.m 0 : Nat)) ∧ wz.cell? ⟨wr.heap.size, 1, none⟩ = some (.int .u16 (r.m 1 : Nat)) ∧ wz.cell? ⟨wr.heap.size, 2, none⟩ = some (.int .u16 (r.m 2 : Nat)) ∧ wz.cell? ⟨wr.heap.size, 3, none⟩ = some (.int .u16 (r.m 3 : Nat)) ∧ wz.cell? ⟨wr.heap.size, 4, none⟩ = some (.int .u16 (r.s 0 : Nat)) ∧ wz.cell? ⟨wr.heap.size, 5, none⟩ = some (.int .u16 (r.s 1 : Nat)) ∧ wz.cell? ⟨wr.heap.size, 6, none⟩ = some (.int .u16 (r.s 2 : Nat)) ∧ wz.cell? ⟨wr.heap.size, 7, none⟩ = some (.int .u16 (r.s 3 : Nat)) ∧ wr.heap.size < wz.heap.size) ∧ (Instr.lookup 101 (.map (some mb)) (.agg #[.int .u16 (r.s 0 : Nat), .int .u16 (r.s 1 : Nat), .int .u16 (r.s 2 : Nat), .int .u16 (r.s 3 : Nat)]) true).run Try.prog wz = .ok (.tuple #[.int .i64 j, .bool true]) wz ∧ NT w wz p mb a0 c0 (.slice ao ms.length cap) rs k F ms)) := ⟨_, rfl⟩; have HCl := Lib.hid hCl; clear hCl; refine wp_region_eff [] Cl (by kernel_rfl) (by kernel_rfl) (by rw [HCl.out]; (try simp only [List.nil_append, List.cons_append]); (try dsimp only); ((repeat' apply And.intro) <;> first | (simp [go_sem, *]; done) | omega | (repeat' (first | with_reducible exact Below.refl _ _ | with_reducible assumption | ((with_reducible refine Below.drew ?_)) | ((with_reducible refine below_drewN ?_ _)) | ((with_reducible refine Below.alloc ?_ ?_ _); rotate_left; focus (first | omega | (simp; done) | (simp; omega))) | ((with_reducible refine Below.setCell ?_ ?_ _); rotate_left; focus (first | omega | (simp; done) | (simp; omega))) | ((with_reducible refine Below.trans ?_ (Below.mono (by with_reducible assumption) ?_)); rotate_left; focus (first | omega | (simp; done) | (simp; omega))))))) ?_
            (repeat (first | (refine wE_skip (by rfl) ?_; simp only [Act.put, Nat.reduceAdd, List.setIfInBounds_toArray, List.set_cons_zero, List.set_cons_succ, List.nil_append, List.cons_append]) | (refine wE_open (by rfl) (by rfl) ?_; apply Exists.intro; refine ⟨fun vs wq hw => ?_, ?_⟩; (focus (rw [HCl.out] at hw; (try simp only [List.nil_append, List.cons_append] at hw); (try dsimp only at hw); go_split_ands; go_simp <;> first | with_reducible exact (rfl : Value.bool false = _) | with_reducible exact (rfl : Value.bool true = _) | ((try go_bits) <;> exact rfl))); simp only [Act.put, Nat.reduceAdd, List.setIfInBounds_toArray, List.set_cons_zero, List.set_cons_succ, List.nil_append, List.cons_append]) | (refine wE_seal (by rfl) (by rfl) (by kernel_rfl) ?_; apply Exists.intro; refine ⟨fun wq hw => ?_, ?_⟩; (focus (rw [HCl.out] at hw; (try simp only [List.nil_append, List.cons_append] at hw); (try dsimp only at hw); go_split_ands; go_simp <;> (try go_bits) <;> exact rfl)); simp only [Act.put, Nat.reduceAdd, List.setIfInBounds_toArray, List.set_cons_zero, List.set_cons_succ, List.nil_append, List.cons_append]) | (refine wE_seal (by rfl) (by rfl) (by kernel_rfl) ?_; apply Exists.intro; refine ⟨fun wq hw => ?_, ?_⟩; (focus (rw [HCl.out] at hw; (try simp only [List.nil_append, List.cons_append] at hw); (try dsimp only at hw); go_split_ands; go_simp; fail)); simp only [Act.put, Nat.reduceAdd, List.setIfInBounds_toArray, List.set_cons_zero, List.set_cons_succ, List.nil_append, List.cons_append]) | (refine wE_eff (by rfl) (by rfl) (fun wq hw => ?_) (fun u hu => ?_); (focus (rw [HCl.out] at hw; (try simp only [List.nil_append, List.cons_append] at hw); (try dsimp only at hw); go_split_ands; go_simp; rw [HCl.out]; (try simp only [List.nil_append, List.cons_append]); (try dsimp only); skip; ((repeat' apply And.intro) <;> first | (simp [go_sem, *]; done) | omega | (repeat' (first | with_reducible exact Below.refl _ _ | with_reducible assumption | ((with_reducible refine Below.drew ?_)) | ((with_reducible refine below_drewN ?_ _)) | ((with_reducible refine Below.alloc ?_ ?_ _); rotate_left; focus (first | omega | (simp; done) | (simp; omega))) | ((with_reducible refine Below.setCell ?_ ?_ _); rotate_left; focus (first | omega | (simp; done) | (simp; omega))) | ((with_reducible refine Below.trans ?_ (Below.mono (by with_reducible assumption) ?_)); rotate_left; focus (first | omega | (simp; done) | (simp; omega)))))))); clear hu; simp only [Act.put, Nat.reduceAdd, List.setIfInBounds_toArray, List.set_cons_zero, List.set_cons_succ, List.nil_append, List.cons_append])))
            refine wE_nil ?_; intro w' hw; rw [HCl.out] at hw; (try simp only [List.nil_append, List.cons_append] at hw); (try dsimp only at hw); clear HCl
            obtain ⟨hq1, hq2, hq3, hN3⟩ := hw
            go_split_ands
            go_wp2
            go_roundw
            case rel => exact ⟨k + 1, F, ms, _, by omega, by go_num, HAL.out, by omega, HT.out, hN3.step (hN3.mp.mono (by omega)) rfl⟩
            case measure => simp [intOf]; omega
          | none =>
            have HT := Lib.hid (HT3.out hF)
            have HL : ∀ z, Mp kv4 vvn ok4 F k z mb → (Instr.lookup 101 (.map (some mb)) (.agg #[.int .u16 (r.s 0 : Nat), .int .u16 (r.s 1 : Nat), .int .u16 (r.s 2 : Nat), .int .u16 (r.s 3 : Nat)]) true).run Try.prog z = .ok (.tuple #[.int .i64 0, .bool false]) z := fun z hz => by
              have := Mp.look true hz kok4 Try.underlying101 (hz0 z) hok
              rw [hF] at this
              exact this
            have HLL := Lib.hid HL
            clear HL
            go_wp2_with (first | (refine wpList_load_mid rfl 37 _ rfl b (o + k * 9) rfl _ _ hr Try.underlying37 rfl LI.out ?_) | (refine wpList_store_new rfl 37 _ _ rfl _ #[.int .u16 ((r).m 0 : Nat), .int .u16 ((r).m 1 : Nat), .int .u16 ((r).m 2 : Nat), .int .u16 ((r).m 3 : Nat), .int .u16 ((r).s 0 : Nat), .int .u16 ((r).s 1 : Nat), .int .u16 ((r).s 2 : Nat), .int .u16 ((r).s 3 : Nat), .int .i64 (r).cls] rfl rfl LI.out rfl (all_oneCell_toArray (Rl.one r)) ?_) | (go_at_call 52; ((with_reducible refine (KM.out _).mono ?_); rintro e w2 ⟨rfl, hb3⟩; have hN2 := (NT.alloc hN _).below hb3; obtain ⟨hcc, hff⟩ := bcell hb3; (have hsz := hb3.size); (try simp at hsz); have hF : w2.cell? ⟨wr.heap.size, 0, none⟩ = some (.int .u16 (r.m 0 : Nat)) ∧ w2.cell? ⟨wr.heap.size, 1, none⟩ = some (.int .u16 (r.m 1 : Nat)) ∧ w2.cell? ⟨wr.heap.size, 2, none⟩ = some (.int .u16 (r.m 2 : Nat)) ∧ w2.cell? ⟨wr.heap.size, 3, none⟩ = some (.int .u16 (r.m 3 : Nat)) ∧ w2.cell? ⟨wr.heap.size, 4, none⟩ = some (.int .u16 (r.s 0 : Nat)) ∧ w2.cell? ⟨wr.heap.size, 5, none⟩ = some (.int .u16 (r.s 1 : Nat)) ∧ w2.cell? ⟨wr.heap.size, 6, none⟩ = some (.int .u16 (r.s 2 : Nat)) ∧ w2.cell? ⟨wr.heap.size, 7, none⟩ = some (.int .u16 (r.s 3 : Nat)) ∧ wr.heap.size < w2.heap.size := (by ((repeat' apply And.intro) <;> first | (simp [go_sem, *]; done) | omega | (repeat' (first | with_reducible exact Below.refl _ _ | with_reducible assumption | ((with_reducible refine Below.drew ?_)) | ((with_reducible refine below_drewN ?_ _)) | ((with_reducible refine Below.alloc ?_ ?_ _); rotate_left; focus (first | omega | (simp; done) | (simp; omega))) | ((with_reducible refine Below.setCell ?_ ?_ _); rotate_left; focus (first | omega | (simp; done) | (simp; omega))) | ((with_reducible refine Below.trans ?_ (Below.mono (by with_reducible assumption) ?_)); rotate_left; focus (first | omega | (simp; done) | (simp; omega))))))); go_split_ands; clear hcc hff; have hc2 := hN2.c2; have hc1 := hN2.c1; have hplt2 := hN2.plt)))
            have hl := HLL.out w2.drew hN2.mp.drew
            have hNd := NT.below hN2 (Below.drew (Below.refl _ _))
            obtain ⟨Cl, hCl⟩ : ∃ Cl : List Value → World → Prop, Cl = ((fun ps wz => (wz.cell? ⟨p, 1, none⟩ = some (.map (some mb)) ∧ p < wz.heap.size) ∧ (wz.cell? ⟨wr.heap.size, 0, none⟩ = some (.int .u16 (r.m 0 : Nat)) ∧ wz.cell? ⟨wr.heap.size, 1, none⟩ = some (.int .u16 (r.m 1 : Nat)) ∧ wz.cell? ⟨wr.heap.size, 2, none⟩ = some (.int .u16 (r.m 2 : Nat)) ∧ wz.cell? ⟨wr.heap.size, 3, none⟩ = some (.int .u16 (r.m 3 : Nat)) ∧ wz.cell? ⟨wr.heap.size, 4, none⟩ = some (.int .u16 (r.s 0 : Nat)) ∧ wz.cell? ⟨wr.heap.size, 5, none⟩ = some (.int .u16 (r.s 1 : Nat)) ∧ wz.cell? ⟨wr.heap.size, 6, none⟩ = some (.int .u16 (r.s 2 : Nat)) ∧ wz.cell? ⟨wr.heap.size, 7, none⟩ = some (.int .u16 (r.s 3 : Nat)) ∧ wr.heap.size < wz.heap.size) ∧ (Instr.lookup 101 (.map (some mb)) (.agg #[.int .u16 (r.s 0 : Nat), .int .u16 (r.s 1 : Nat), .int .u16 (r.s 2 : Nat), .int .u16 (r.s 3 : Nat)]) true).run Try.prog wz = .ok (.tuple #[.int .i64 0, .bool false]) wz ∧ NT w wz p mb a0 c0 (.slice ao ms.length cap) rs k F ms)) := ⟨_, rfl⟩; have HCl := Lib.hid hCl; clear hCl; refine wp_region_eff [] Cl (by kernel_rfl) (by kernel_rfl) (by rw [HCl.out]; (try simp only [List.nil_append, List.cons_append]); (try dsimp only); ((repeat' apply And.intro) <;> first | (simp [go_sem, *]; done) | omega | (repeat' (first | with_reducible exact Below.refl _ _ | with_reducible assumption | ((with_reducible refine Below.drew ?_)) | ((with_reducible refine below_drewN ?_ _)) | ((with_reducible refine Below.alloc ?_ ?_ _); rotate_left; focus (first | omega | (simp; done) | (simp; omega))) | ((with_reducible refine Below.setCell ?_ ?_ _); rotate_left; focus (first | omega | (simp; done) | (simp; omega))) | ((with_reducible refine Below.trans ?_ (Below.mono (by with_reducible assumption) ?_)); rotate_left; focus (first | omega | (simp; done) | (simp; omega))))))) ?_
            (repeat (first | (refine wE_skip (by rfl) ?_; simp only [Act.put, Nat.reduceAdd, List.setIfInBounds_toArray, List.set_cons_zero, List.set_cons_succ, List.nil_append, List.cons_append]) | (refine wE_open (by rfl) (by rfl) ?_; apply Exists.intro; refine ⟨fun vs wq hw => ?_, ?_⟩; (focus (rw [HCl.out] at hw; (try simp only [List.nil_append, List.cons_append] at hw); (try dsimp only at hw); go_split_ands; go_simp <;> first | with_reducible exact (rfl : Value.bool false = _) | with_reducible exact (rfl : Value.bool true = _) | ((try go_bits) <;> exact rfl))); simp only [Act.put, Nat.reduceAdd, List.setIfInBounds_toArray, List.set_cons_zero, List.set_cons_succ, List.nil_append, List.cons_append]) | (refine wE_seal (by rfl) (by rfl) (by kernel_rfl) ?_; apply Exists.intro; refine ⟨fun wq hw => ?_, ?_⟩; (focus (rw [HCl.out] at hw; (try simp only [List.nil_append, List.cons_append] at hw); (try dsimp only at hw); go_split_ands; go_simp <;> (try go_bits) <;> exact rfl)); simp only [Act.put, Nat.reduceAdd, List.setIfInBounds_toArray, List.set_cons_zero, List.set_cons_succ, List.nil_append, List.cons_append]) | (refine wE_seal (by rfl) (by rfl) (by kernel_rfl) ?_; apply Exists.intro; refine ⟨fun wq hw => ?_, ?_⟩; (focus (rw [HCl.out] at hw; (try simp only [List.nil_append, List.cons_append] at hw); (try dsimp only at hw); go_split_ands; go_simp; fail)); simp only [Act.put, Nat.reduceAdd, List.setIfInBounds_toArray, List.set_cons_zero, List.set_cons_succ, List.nil_append, List.cons_append]) | (refine wE_eff (by rfl) (by rfl) (fun wq hw => ?_) (fun u hu => ?_); (focus (rw [HCl.out] at hw; (try simp only [List.nil_append, List.cons_append] at hw); (try dsimp only at hw); go_split_ands; go_simp; rw [HCl.out]; (try simp only [List.nil_append, List.cons_append]); (try dsimp only); skip; ((repeat' apply And.intro) <;> first | (simp [go_sem, *]; done) | omega | (repeat' (first | with_reducible exact Below.refl _ _ | with_reducible assumption | ((with_reducible refine Below.drew ?_)) | ((with_reducible refine below_drewN ?_ _)) | ((with_reducible refine Below.alloc ?_ ?_ _); rotate_left; focus (first | omega | (simp; done) | (simp; omega))) | ((with_reducible refine Below.setCell ?_ ?_ _); rotate_left; focus (first | omega | (simp; done) | (simp; omega))) | ((with_reducible refine Below.trans ?_ (Below.mono (by with_reducible assumption) ?_)); rotate_left; focus (first | omega | (simp; done) | (simp; omega)))))))); clear hu; simp only [Act.put, Nat.reduceAdd, List.setIfInBounds_toArray, List.set_cons_zero, List.set_cons_succ, List.nil_append, List.cons_append])))
            refine wE_nil ?_; intro w' hw; rw [HCl.out] at hw; (try simp only [List.nil_append, List.cons_append] at hw); (try dsimp only at hw); clear HCl
            obtain ⟨hq1, hq2, hq3, hN3⟩ := hw
            go_split_ands
            go_wp2
            clear hl hNd HLL hN2
            have hNd := NT.below hN3 (Below.drew (Below.refl _ _))
            obtain ⟨Cl, hCl⟩ : ∃ Cl : List Value → World → Prop, Cl = ((fun ps wz => (wz.cell? ⟨p, 1, none⟩ = some (.map (some mb)) ∧ p < wz.heap.size) ∧ (wz.cell? ⟨wr.heap.size, 0, none⟩ = some (.int .u16 (r.m 0 : Nat)) ∧ wz.cell? ⟨wr.heap.size, 1, none⟩ = some (.int .u16 (r.m 1 : Nat)) ∧ wz.cell? ⟨wr.heap.size, 2, none⟩ = some (.int .u16 (r.m 2 : Nat)) ∧ wz.cell? ⟨wr.heap.size, 3, none⟩ = some (.int .u16 (r.m 3 : Nat)) ∧ wz.cell? ⟨wr.heap.size, 4, none⟩ = some (.int .u16 (r.s 0 : Nat)) ∧ wz.cell? ⟨wr.heap.size, 5, none⟩ = some (.int .u16 (r.s 1 : Nat)) ∧ wz.cell? ⟨wr.heap.size, 6, none⟩ = some (.int .u16 (r.s 2 : Nat)) ∧ wz.cell? ⟨wr.heap.size, 7, none⟩ = some (.int .u16 (r.s 3 : Nat)) ∧ wr.heap.size < wz.heap.size) ∧ (match ps with | [] => NT w wz p mb a0 c0 (.slice ao ms.length cap) rs k F ms | _ => NT w wz p mb a0 c0 (.slice ao ms.length cap) rs (k + 1) (upd F (key4 r.s) k) ms))) := ⟨_, rfl⟩; have HCl := Lib.hid hCl; clear hCl; refine wp_region_eff [7] Cl (by kernel_rfl) (by kernel_rfl) (by rw [HCl.out]; (try simp only [List.nil_append, List.cons_append]); (try dsimp only); ((repeat' apply And.intro) <;> first | (simp [go_sem, *]; done) | omega | (repeat' (first | with_reducible exact Below.refl _ _ | with_reducible assumption | ((with_reducible refine Below.drew ?_)) | ((with_reducible refine below_drewN ?_ _)) | ((with_reducible refine Below.alloc ?_ ?_ _); rotate_left; focus (first | omega | (simp; done) | (simp; omega))) | ((with_reducible refine Below.setCell ?_ ?_ _); rotate_left; focus (first | omega | (simp; done) | (simp; omega))) | ((with_reducible refine Below.trans ?_ (Below.mono (by with_reducible assumption) ?_)); rotate_left; focus (first | omega | (simp; done) | (simp; omega))))))) ?_
            (repeat (first | (refine wE_skip (by rfl) ?_; simp only [Act.put, Nat.reduceAdd, List.setIfInBounds_toArray, List.set_cons_zero, List.set_cons_succ, List.nil_append, List.cons_append]) | (refine wE_open (by rfl) (by rfl) ?_; apply Exists.intro; refine ⟨fun vs wq hw => ?_, ?_⟩; (focus (rw [HCl.out] at hw; (try simp only [List.nil_append, List.cons_append] at hw); (try dsimp only at hw); go_split_ands; go_simp <;> first | with_reducible exact (rfl : Value.bool false = _) | with_reducible exact (rfl : Value.bool true = _) | ((try go_bits) <;> exact rfl))); simp only [Act.put, Nat.reduceAdd, List.setIfInBounds_toArray, List.set_cons_zero, List.set_cons_succ, List.nil_append, List.cons_append]) | (refine wE_seal (by rfl) (by rfl) (by kernel_rfl) ?_; apply Exists.intro; refine ⟨fun wq hw => ?_, ?_⟩; (focus (rw [HCl.out] at hw; (try simp only [List.nil_append, List.cons_append] at hw); (try dsimp only at hw); go_split_ands; go_simp <;> (try go_bits) <;> exact rfl)); simp only [Act.put, Nat.reduceAdd, List.setIfInBounds_toArray, List.set_cons_zero, List.set_cons_succ, List.nil_append, List.cons_append]) | (refine wE_seal (by rfl) (by rfl) (by kernel_rfl) ?_; apply Exists.intro; refine ⟨fun wq hw => ?_, ?_⟩; (focus (rw [HCl.out] at hw; (try simp only [List.nil_append, List.cons_append] at hw); (try dsimp only at hw); go_split_ands; go_simp; fail)); simp only [Act.put, Nat.reduceAdd, List.setIfInBounds_toArray, List.set_cons_zero, List.set_cons_succ, List.nil_append, List.cons_append]) | (refine wE_eff (by rfl) (by rfl) (fun wq hw => ?_) (fun u hu => ?_); (focus (rw [HCl.out] at hw; (try simp only [List.nil_append, List.cons_append] at hw); (try dsimp only at hw); go_split_ands; go_simp; rw [HCl.out]; (try simp only [List.nil_append, List.cons_append]); (try dsimp only); skip; ((repeat' apply And.intro) <;> first | (simp [go_sem, *]; done) | omega | (repeat' (first | with_reducible exact Below.refl _ _ | with_reducible assumption | ((with_reducible refine Below.drew ?_)) | ((with_reducible refine below_drewN ?_ _)) | ((with_reducible refine Below.alloc ?_ ?_ _); rotate_left; focus (first | omega | (simp; done) | (simp; omega))) | ((with_reducible refine Below.setCell ?_ ?_ _); rotate_left; focus (first | omega | (simp; done) | (simp; omega))) | ((with_reducible refine Below.trans ?_ (Below.mono (by with_reducible assumption) ?_)); rotate_left; focus (first | omega | (simp; done) | (simp; omega)))))))); clear hu; simp only [Act.put, Nat.reduceAdd, List.setIfInBounds_toArray, List.set_cons_zero, List.set_cons_succ, List.nil_append, List.cons_append])))
            have hnm : ¬ p = mb := by have := hN3.mlt; omega
            have hnw : ¬ wr.heap.size = mb := by have := hN3.mlt; omega
            refine wE_eff (by rfl) (by rfl) (fun wq hw => ?_) (fun u hu => ?_)
            · rw [HCl.out] at hw; (try simp only [List.nil_append, List.cons_append] at hw); (try dsimp only at hw)
              obtain ⟨⟨q1, q2⟩, ⟨r0, r1, r2, r3, r4, r5, r6, r7, r8⟩, hNq⟩ := hw
              obtain ⟨w', hr, h1, h2, h3⟩ := hNq.mp.update kok4 Try.underlying101 hok k
              refine eff_mapUpdate (.tmp 56) (.tmp 58) (.tmp 59) 101 rfl rfl rfl rfl hr ?_
              rw [HCl.out]; (try simp only [List.nil_append, List.cons_append]); (try dsimp only)
              exact ⟨⟨(h2.cell q2 hnm).trans q1, by omega⟩, ⟨(h2.cell r8 hnw).trans r0, (h2.cell r8 hnw).trans r1, (h2.cell r8 hnw).trans r2, (h2.cell r8 hnw).trans r3, (h2.cell r8 hnw).trans r4, (h2.cell r8 hnw).trans r5, (h2.cell r8 hnw).trans r6, (h2.cell r8 hnw).trans r7, by omega⟩, hNq.put h1 h2⟩
            clear hu
            simp only [Act.put, Nat.reduceAdd, List.setIfInBounds_toArray, List.set_cons_zero, List.set_cons_succ, List.nil_append, List.cons_append]
            refine wE_nil ?_; intro w' hw; rw [HCl.out] at hw; (try simp only [List.nil_append, List.cons_append] at hw); (try dsimp only at hw); clear HCl
            obtain ⟨hq1, hq2, hN4⟩ := hw
            go_wp2
            go_roundw
            case rel => exact ⟨k + 1, _, ms, _, by omega, by go_num, HAL.out, by omega, HT.out, hN4⟩
            case measure => simp [intOf]; omega
    · obtain rfl : k = rs.length := by omega
      rw [List.take_length] at hal
      have HV := Lib.hid (rwv_yes hal)
      clear hal hlt
      obtain ⟨ao, cap, rfl⟩ := row_form hN.own
      go_wp2
      go_ret2
      exact ⟨hN.bel, .inl ⟨HV.out, p, rfl, hN.done hT hml, by have := hN.mlt; have := hN.mge; omega⟩⟩
end Go.Proofs.Ytkbglhkhhoakgaa
