/- The reference's Stretches. -/
import Derived.Test.YtkbglhkhhoakgaaBy6
import Derived.Test.YtkbglhkhhoakgaaBy7
namespace Go.Proofs.Ytkbglhkhhoakgaa
set_option linter.unusedVariables false
set_option linter.unusedSimpArgs false
set_option maxRecDepth 100000
open Go.RowKit Fg Reg
attribute [local irreducible] Reg.wE Reg.wN

theorem rtt_info : (Try.prog.info? 79).map (fun i => (i.zero, i.size, i.bytes)) = some (some (.agg #[.int .u64 0, .int .u64 0]), 2, 16) := by kernel_rfl
theorem rtt_parts : ∃ i, Try.prog.info? 79 = some i ∧ i.zero = some (.agg #[.int .u64 0, .int .u64 0]) ∧ i.size = 2 ∧ i.bytes = 16 := by
  obtain ⟨i, hi, h⟩ := Option.map_eq_some_iff.1 rtt_info
  simp only [Prod.mk.injEq] at h
  exact ⟨i, hi, h.1, h.2.1, h.2.2⟩
theorem str_set2 (pre : List Str) (a : Str) (t : Int) : (((pre ++ [a]).flatMap Str.cells).set (pre.length * 2) (.int .u64 a.fr)).set (pre.length * 2 + 1) (.int .u64 t) = (pre ++ [(⟨a.fr, t⟩ : Str)]).flatMap Str.cells := by
  have hl := str_len pre
  rw [List.flatMap_append, List.flatMap_append, List.set_append_right _ _ (by omega), List.set_append_right _ _ (by omega), hl, show pre.length * 2 - pre.length * 2 = 0 by omega, show pre.length * 2 + 1 - pre.length * 2 = 1 by omega]
  rfl
theorem str_two {z : World} {B g cap : Nat} {pre : List Str} {a : Str} {t : TypeId} (h : z.ownsRow B t 2 (.slice (some ⟨g, 0, none⟩) (pre.length + 1) cap) (pre.length + 1) ((pre ++ [a]).flatMap Str.cells)) :
    z.cell? ⟨g, pre.length * 2, none⟩ = some (.int .u64 a.fr) ∧ z.cell? ⟨g, pre.length * 2 + 1, none⟩ = some (.int .u64 a.tt) ∧ z.frozen? ⟨g, pre.length * 2, none⟩ = false ∧ z.frozen? ⟨g, pre.length * 2 + 1, none⟩ = false ∧ g < z.heap.size ∧ B ≤ g := by
  have hl2 := str_len pre
  refine ⟨?_, ?_, h.frozenAt _, h.frozenAt _, (h.lt g rfl).2, (h.lt g rfl).1⟩
  · rw [h.cellAt _ (by omega), List.flatMap_append, List.getElem?_append_right (by omega), hl2]
    simp [Str.cells]
  · rw [h.cellAt _ (by omega), List.flatMap_append, List.getElem?_append_right (by omega), hl2]
    simp [Str.cells]
theorem brun_st (es : List Ev) (k : Nat) (h : k < es.length) : (brun es (k + 1)).st = if es[k].inn = true then (brun es k).st else bst (brun es k) es[k] := by
  rw [brun_succ es k h]; unfold blearn; split <;> rfl
set_option maxHeartbeats 16000000 in
theorem rst_c (es : List Ev) (a0 : Option Addr) (c : Nat) (hn : es.length ≤ 100000) (w : World) (hE : EvsV w a0 es) :
    Calls Try.prog 37 #[.slice a0 es.length c] w fun ee w' => (∃ v, ee = .returned v ∧ w'.ownsRow w.heap.size 79 2 v (brun es es.length).st.length ((brun es es.length).st.flatMap Str.cells)) ∧ Below w.heap.size w w' := by
  obtain ⟨isr, HI0, HZ0, HZ1, HZ2⟩ := rtt_parts
  have KU0 := Lib.hid (fun n hnl z hz => runt_c es a0 c n hn hnl z hz)
  have HE := Lib.hid hE
  have HS := Lib.hid (brun_st es)
  have HP := Lib.hid (brun_le es)
  have EI := Lib.hid ev_info
  clear hE
  go_enter Try.func37, Try.ntmps37
  go_wp2_with fail
  go_loopw [3, 8] (fun uo i wr => ∃ (k : Nat) (vo : Value), k ≤ es.length ∧ i = .int .i64 k ∧ vo = uo ∧ wr.ownsRow w.heap.size 79 2 vo (brun es k).st.length ((brun es k).st.flatMap Str.cells) ∧ Below w.heap.size w wr) (fun _ i _ => es.length - (intOf i).toNat)
  case atStart => exact ⟨0, _, Nat.zero_le _, rfl, rfl, World.ownsRow_nil _ _ _ _, Below.refl _ _⟩
  case round =>
    obtain ⟨k, vo, hk, rfl, rfl, hO, hB⟩ := hrel
    have hsz := hB.size
    by_cases hlt : k < es.length
    · obtain ⟨b, o, rfl, hb, hr⟩ := (HE.out.below hB) k hlt
      have KU := Lib.hid (KU0.out k hk)
      have hs := HS.out k hlt
      have hp := (HP.out k).2
      generalize es[k] = e at hs hr
      have hsz9 : w.heap.size ≤ wr.heap.size + 1 := by omega
      cases hi : e.inn with
      | true =>
        rw [hi, if_pos rfl] at hs
        have HN := Lib.hid hs
        have HO := Lib.hid (fun ob => hO.alloc ob)
        clear hs hO
        go_wp2_with (first | (refine wpList_load_mid rfl 73 _ rfl b (o + k * 12) rfl _ _ hr Try.underlying73 rfl EI.out ?_) | (refine wpList_store_new rfl 73 _ _ rfl _ #[.int .i64 (e).op, .bool (e).inn, .bool (e).real, .int .u64 (e).tm, .int .u64 (e).dn, .int .i64 (e).cls, .int .u64 (e).id, .int .i64 (e).ln, .int .u16 (e).a, .int .u16 (e).b, .int .u16 (e).c, .int .u16 (e).d] rfl rfl EI.out rfl (all_oneCell_toArray e.one) ?_))
        go_roundw
        case rel => exact ⟨k + 1, _, by omega, by go_num, rfl, by rw [HN.out]; exact HO.out _, (by repeat' (first | with_reducible exact Below.refl _ _ | with_reducible assumption | ((with_reducible refine Below.drew ?_)) | ((with_reducible refine below_drewN ?_ _)) | ((with_reducible refine Below.alloc ?_ ?_ _); rotate_left; focus (first | omega | (simp; done) | (simp; omega))) | ((with_reducible refine Below.setCell ?_ ?_ _); rotate_left; focus (first | omega | (simp; done) | (simp; omega))) | ((with_reducible refine Below.trans ?_ (Below.mono (by with_reducible assumption) ?_)); rotate_left; focus (first | omega | (simp; done) | (simp; omega)))))⟩
        case measure => simp [intOf]; omega
      | false =>
        rw [hi, if_neg (by simp)] at hs
        unfold bst at hs
        generalize brun es k = s at hs hp hO KU
        obtain ⟨st, un, wk, si⟩ := s
        simp only at hs hp hO KU
        by_cases hc : st = [] ∨ un < e.tm
        · rw [if_pos hc] at hs
          have HN := Lib.hid hs
          obtain ⟨ao, vc, hvo⟩ : ∃ ao cap, vo = Value.slice ao st.length cap := by
            rcases hO.2 with ⟨h1, h2⟩ | ⟨g, cap, cur, h, _⟩
            · exact ⟨none, 0, by rw [h2]; exact h1⟩
            · exact ⟨_, cap, h⟩
          have HO := Lib.hid hO
          clear hs hO
          subst hvo
          by_cases h0 : st.length = 0
          · have hst : st = [] := List.eq_nil_of_length_eq_zero h0
            clear hc h0
            subst hst
            go_wp2_with (first | (refine wpList_load_mid rfl 73 _ rfl b (o + k * 12) rfl _ _ hr Try.underlying73 rfl EI.out ?_) | (refine wpList_store_new rfl 73 _ _ rfl _ #[.int .i64 (e).op, .bool (e).inn, .bool (e).real, .int .u64 (e).tm, .int .u64 (e).dn, .int .i64 (e).cls, .int .u64 (e).id, .int .i64 (e).ln, .int .u16 (e).a, .int .u16 (e).b, .int .u16 (e).c, .int .u16 (e).d] rfl rfl EI.out rfl (all_oneCell_toArray e.one) ?_))
            obtain ⟨Cl, hCl⟩ : ∃ Cl : List Value → World → Prop, Cl = ((fun ps wz => (wz.cell? ⟨wr.heap.size, 3, none⟩ = some (.int .u64 e.tm) ∧ wz.cell? ⟨wr.heap.size, 4, none⟩ = some (.int .u64 e.dn) ∧ wr.heap.size < wz.heap.size) ∧ w.heap.size ≤ wz.heap.size ∧ Below w.heap.size w wz ∧ Below (wr.heap.size + 1) (wr.alloc (Obj.cells #[.int .i64 e.op, .bool false, .bool e.real, .int .u64 e.tm, .int .u64 e.dn, .int .i64 e.cls, .int .u64 e.id, .int .i64 e.ln, .int .u16 e.a, .int .u16 e.b, .int .u16 e.c, .int .u16 e.d] 73)) wz)) := ⟨_, rfl⟩; have HCl := Lib.hid hCl; clear hCl; refine wp_region_eff [] Cl (by kernel_rfl) (by kernel_rfl) (by rw [HCl.out]; (try simp only [List.nil_append, List.cons_append]); (try dsimp only); ((repeat' apply And.intro) <;> first | (simp [go_sem, *]; done) | omega | (repeat' (first | with_reducible exact Below.refl _ _ | with_reducible assumption | ((with_reducible refine Below.drew ?_)) | ((with_reducible refine below_drewN ?_ _)) | ((with_reducible refine Below.alloc ?_ ?_ _); rotate_left; focus (first | omega | (simp; done) | (simp; omega))) | ((with_reducible refine Below.setCell ?_ ?_ _); rotate_left; focus (first | omega | (simp; done) | (simp; omega))) | ((with_reducible refine Below.trans ?_ (Below.mono (by with_reducible assumption) ?_)); rotate_left; focus (first | omega | (simp; done) | (simp; omega))))))) ?_; (repeat (first | (refine wE_skip (by rfl) ?_; simp only [Act.put, Nat.reduceAdd, List.setIfInBounds_toArray, List.set_cons_zero, List.set_cons_succ, List.nil_append, List.cons_append]) | (refine wE_open (by rfl) (by rfl) ?_; apply Exists.intro; refine ⟨fun vs wq hw => ?_, ?_⟩; (focus (rw [HCl.out] at hw; (try simp only [List.nil_append, List.cons_append] at hw); (try dsimp only at hw); go_split_ands; go_simp <;> first | with_reducible exact (rfl : Value.bool false = _) | with_reducible exact (rfl : Value.bool true = _) | ((try go_bits) <;> exact rfl))); simp only [Act.put, Nat.reduceAdd, List.setIfInBounds_toArray, List.set_cons_zero, List.set_cons_succ, List.nil_append, List.cons_append]) | (refine wE_seal (by rfl) (by rfl) (by kernel_rfl) ?_; apply Exists.intro; refine ⟨fun wq hw => ?_, ?_⟩; (focus (rw [HCl.out] at hw; (try simp only [List.nil_append, List.cons_append] at hw); (try dsimp only at hw); go_split_ands; go_simp <;> (try go_bits) <;> exact rfl)); simp only [Act.put, Nat.reduceAdd, List.setIfInBounds_toArray, List.set_cons_zero, List.set_cons_succ, List.nil_append, List.cons_append]) | (refine wE_seal (by rfl) (by rfl) (by kernel_rfl) ?_; apply Exists.intro; refine ⟨fun wq hw => ?_, ?_⟩; (focus (rw [HCl.out] at hw; (try simp only [List.nil_append, List.cons_append] at hw); (try dsimp only at hw); go_split_ands; go_simp; fail)); simp only [Act.put, Nat.reduceAdd, List.setIfInBounds_toArray, List.set_cons_zero, List.set_cons_succ, List.nil_append, List.cons_append]) | (refine wE_eff (by rfl) (by rfl) (fun wq hw => ?_) (fun u hu => ?_); (focus (rw [HCl.out] at hw; (try simp only [List.nil_append, List.cons_append] at hw); (try dsimp only at hw); go_split_ands; go_simp; rw [HCl.out]; (try simp only [List.nil_append, List.cons_append]); (try dsimp only); skip; ((repeat' apply And.intro) <;> first | (simp [go_sem, *]; done) | omega | (repeat' (first | with_reducible exact Below.refl _ _ | with_reducible assumption | ((with_reducible refine Below.drew ?_)) | ((with_reducible refine below_drewN ?_ _)) | ((with_reducible refine Below.alloc ?_ ?_ _); rotate_left; focus (first | omega | (simp; done) | (simp; omega))) | ((with_reducible refine Below.setCell ?_ ?_ _); rotate_left; focus (first | omega | (simp; done) | (simp; omega))) | ((with_reducible refine Below.trans ?_ (Below.mono (by with_reducible assumption) ?_)); rotate_left; focus (first | omega | (simp; done) | (simp; omega)))))))); clear hu; simp only [Act.put, Nat.reduceAdd, List.setIfInBounds_toArray, List.set_cons_zero, List.set_cons_succ, List.nil_append, List.cons_append]))); refine wE_nil ?_; intro w2 hw; rw [HCl.out] at hw; (try simp only [List.nil_append, List.cons_append] at hw); (try dsimp only at hw); clear HCl; obtain ⟨⟨j3, j4, jq⟩, hsz2, hB2, hBA⟩ := hw
            have HOv := Lib.hid (fun ob => (own_bel (HO.out.alloc _) (by simpa using hBA) : w2.ownsRow _ _ _ _ _ _).alloc ob)
            have HB2 := Lib.hid hB2
            go_wp2_with (at_builtin; refine wpList_append_own _ rfl _ _ 76 rfl w.heap.size 79 isr (.agg #[.int .u64 0, .int .u64 0]) 2 16 Try.underlying76 HI0 HZ0 HZ1 HZ2 rfl (by decide) _ (0) _ rfl (HOv.out _) ⟨_, 0, none⟩ 1 1 (Str.cells ⟨e.tm, e.dn⟩) rfl rfl ?c1 ?c2 ?c3 ?c4 ?c5 ?_)
            (case c1 => (intro j u hu; unfold Str.cells at hu; rcases j with _ | _ | j <;> simp at hu <;> (try subst hu) <;> simp [Addr.add, go_sem])); (case c2 => (intro u hu; simp [Str.cells] at hu; rcases hu with rfl | rfl <;> rfl)); (case c3 => (unfold maxLen; omega)); (case c4 => omega); (case c5 => (simp; omega))
            intro v' w5 hown' hgrow _
            go_wp2
            go_roundw
            case rel =>
              refine ⟨k + 1, _, by omega, by go_num, rfl, by rw [HN.out]; simpa [Str.cells] using hown', ?_⟩
              exact below_grown (HB2.out.alloc hsz2 _) hgrow (by simp; omega) (own_blk HO.out)
            case measure => simp [intOf]; omega
          · have hlt2 : un < e.tm := by
              rcases hc with h | h
              · exact absurd (by rw [h]; rfl) h0
              · exact h
            have d0 : ((st.length : Int) == 0) = false := by simpa using h0
            have d1 : decide (un < e.tm) = true := by simpa using hlt2
            clear hc
            go_wp2_with (first | (refine wpList_load_mid rfl 73 _ rfl b (o + k * 12) rfl _ _ hr Try.underlying73 rfl EI.out ?_) | (refine wpList_store_new rfl 73 _ _ rfl _ #[.int .i64 (e).op, .bool (e).inn, .bool (e).real, .int .u64 (e).tm, .int .u64 (e).dn, .int .i64 (e).cls, .int .u64 (e).id, .int .i64 (e).ln, .int .u16 (e).a, .int .u16 (e).b, .int .u16 (e).c, .int .u16 (e).d] rfl rfl EI.out rfl (all_oneCell_toArray e.one) ?_))
            obtain ⟨Cl, hCl⟩ : ∃ Cl : List Value → World → Prop, Cl = ((fun ps wz => (wz.cell? ⟨wr.heap.size, 3, none⟩ = some (.int .u64 e.tm) ∧ wz.cell? ⟨wr.heap.size, 4, none⟩ = some (.int .u64 e.dn) ∧ wr.heap.size < wz.heap.size) ∧ w.heap.size ≤ wz.heap.size ∧ Below w.heap.size w wz ∧ Below (wr.heap.size + 1) (wr.alloc (Obj.cells #[.int .i64 e.op, .bool false, .bool e.real, .int .u64 e.tm, .int .u64 e.dn, .int .i64 e.cls, .int .u64 e.id, .int .i64 e.ln, .int .u16 e.a, .int .u16 e.b, .int .u16 e.c, .int .u16 e.d] 73)) wz)) := ⟨_, rfl⟩; have HCl := Lib.hid hCl; clear hCl; refine wp_region_eff [] Cl (by kernel_rfl) (by kernel_rfl) (by rw [HCl.out]; (try simp only [List.nil_append, List.cons_append]); (try dsimp only); ((repeat' apply And.intro) <;> first | (simp [go_sem, *]; done) | omega | (repeat' (first | with_reducible exact Below.refl _ _ | with_reducible assumption | ((with_reducible refine Below.drew ?_)) | ((with_reducible refine below_drewN ?_ _)) | ((with_reducible refine Below.alloc ?_ ?_ _); rotate_left; focus (first | omega | (simp; done) | (simp; omega))) | ((with_reducible refine Below.setCell ?_ ?_ _); rotate_left; focus (first | omega | (simp; done) | (simp; omega))) | ((with_reducible refine Below.trans ?_ (Below.mono (by with_reducible assumption) ?_)); rotate_left; focus (first | omega | (simp; done) | (simp; omega))))))) ?_; (repeat (first | (refine wE_skip (by rfl) ?_; simp only [Act.put, Nat.reduceAdd, List.setIfInBounds_toArray, List.set_cons_zero, List.set_cons_succ, List.nil_append, List.cons_append]) | (refine wE_open (by rfl) (by rfl) ?_; apply Exists.intro; refine ⟨fun vs wq hw => ?_, ?_⟩; (focus (rw [HCl.out] at hw; (try simp only [List.nil_append, List.cons_append] at hw); (try dsimp only at hw); go_split_ands; go_simp <;> first | with_reducible exact (rfl : Value.bool false = _) | with_reducible exact (rfl : Value.bool true = _) | ((try go_bits) <;> exact rfl))); simp only [Act.put, Nat.reduceAdd, List.setIfInBounds_toArray, List.set_cons_zero, List.set_cons_succ, List.nil_append, List.cons_append]) | (refine wE_seal (by rfl) (by rfl) (by kernel_rfl) ?_; apply Exists.intro; refine ⟨fun wq hw => ?_, ?_⟩; (focus (rw [HCl.out] at hw; (try simp only [List.nil_append, List.cons_append] at hw); (try dsimp only at hw); go_split_ands; go_simp <;> (try go_bits) <;> exact rfl)); simp only [Act.put, Nat.reduceAdd, List.setIfInBounds_toArray, List.set_cons_zero, List.set_cons_succ, List.nil_append, List.cons_append]) | (refine wE_seal (by rfl) (by rfl) (by kernel_rfl) ?_; apply Exists.intro; refine ⟨fun wq hw => ?_, ?_⟩; (focus (rw [HCl.out] at hw; (try simp only [List.nil_append, List.cons_append] at hw); (try dsimp only at hw); go_split_ands; go_simp; (go_at_call 42; ((with_reducible refine (KU.out _ (HE.out.below (by assumption))).mono ?_); rintro e w' ⟨rfl, hbel⟩; obtain ⟨hcc, hff⟩ := bcell hbel; have hsz := hbel.size; (try simp at hsz); refine ⟨rfl, ?_⟩; rw [HCl.out]; (try simp only [List.nil_append, List.cons_append]); (try dsimp only); ((repeat' apply And.intro) <;> first | (simp [go_sem, *]; done) | omega | (repeat' (first | with_reducible exact Below.refl _ _ | with_reducible assumption | ((with_reducible refine Below.drew ?_)) | ((with_reducible refine below_drewN ?_ _)) | ((with_reducible refine Below.alloc ?_ ?_ _); rotate_left; focus (first | omega | (simp; done) | (simp; omega))) | ((with_reducible refine Below.setCell ?_ ?_ _); rotate_left; focus (first | omega | (simp; done) | (simp; omega))) | ((with_reducible refine Below.trans ?_ (Below.mono (by with_reducible assumption) ?_)); rotate_left; focus (first | omega | (simp; done) | (simp; omega)))))))))); simp only [Act.put, Nat.reduceAdd, List.setIfInBounds_toArray, List.set_cons_zero, List.set_cons_succ, List.nil_append, List.cons_append]) | (refine wE_eff (by rfl) (by rfl) (fun wq hw => ?_) (fun u hu => ?_); (focus (rw [HCl.out] at hw; (try simp only [List.nil_append, List.cons_append] at hw); (try dsimp only at hw); go_split_ands; go_simp; rw [HCl.out]; (try simp only [List.nil_append, List.cons_append]); (try dsimp only); skip; ((repeat' apply And.intro) <;> first | (simp [go_sem, *]; done) | omega | (repeat' (first | with_reducible exact Below.refl _ _ | with_reducible assumption | ((with_reducible refine Below.drew ?_)) | ((with_reducible refine below_drewN ?_ _)) | ((with_reducible refine Below.alloc ?_ ?_ _); rotate_left; focus (first | omega | (simp; done) | (simp; omega))) | ((with_reducible refine Below.setCell ?_ ?_ _); rotate_left; focus (first | omega | (simp; done) | (simp; omega))) | ((with_reducible refine Below.trans ?_ (Below.mono (by with_reducible assumption) ?_)); rotate_left; focus (first | omega | (simp; done) | (simp; omega)))))))); clear hu; simp only [Act.put, Nat.reduceAdd, List.setIfInBounds_toArray, List.set_cons_zero, List.set_cons_succ, List.nil_append, List.cons_append]))); refine wE_nil ?_; intro w2 hw; rw [HCl.out] at hw; (try simp only [List.nil_append, List.cons_append] at hw); (try dsimp only at hw); clear HCl; obtain ⟨⟨j3, j4, jq⟩, hsz2, hB2, hBA⟩ := hw
            have HOv := Lib.hid (fun ob => (own_bel (HO.out.alloc _) (by simpa using hBA) : w2.ownsRow _ _ _ _ _ _).alloc ob)
            have HB2 := Lib.hid hB2
            go_wp2_with (at_builtin; refine wpList_append_own _ rfl _ _ 76 rfl w.heap.size 79 isr (.agg #[.int .u64 0, .int .u64 0]) 2 16 Try.underlying76 HI0 HZ0 HZ1 HZ2 rfl (by decide) _ (st.length) _ rfl (HOv.out _) ⟨_, 0, none⟩ 1 1 (Str.cells ⟨e.tm, e.dn⟩) rfl rfl ?c1 ?c2 ?c3 ?c4 ?c5 ?_)
            (case c1 => (intro j u hu; unfold Str.cells at hu; rcases j with _ | _ | j <;> simp at hu <;> (try subst hu) <;> simp [Addr.add, go_sem])); (case c2 => (intro u hu; simp [Str.cells] at hu; rcases hu with rfl | rfl <;> rfl)); (case c3 => (unfold maxLen; omega)); (case c4 => omega); (case c5 => (simp; omega))
            intro v' w5 hown' hgrow _
            go_wp2
            go_roundw
            case rel =>
              refine ⟨k + 1, _, by omega, by go_num, rfl, by rw [HN.out]; simpa [Str.cells, List.flatMap_append] using hown', ?_⟩
              exact below_grown (HB2.out.alloc hsz2 _) hgrow (by simp; omega) (own_blk HO.out)
            case measure => simp [intOf]; omega
        · rw [if_neg hc] at hs
          have h0 : st ≠ [] := fun h => hc (.inl h)
          have hle : ¬ un < e.tm := fun h => hc (.inr h)
          have d1 : decide (un < e.tm) = false := by simpa using hle
          clear hc
          rcases List.eq_nil_or_concat st with h | ⟨pre, a, rfl⟩
          · exact absurd h h0
          rw [List.concat_eq_append] at hs hp hO
          have hg9 : bgo (pre ++ [a]) e.dn = pre ++ [⟨a.fr, mx a.tt e.dn⟩] := by unfold bgo; simp
          rw [hg9] at hs
          have hlen : (pre ++ [a]).length = pre.length + 1 := by simp
          rw [hlen] at hp hO
          obtain ⟨g, cap, rfl⟩ : ∃ g cap, vo = Value.slice (some ⟨g, 0, none⟩) (pre.length + 1) cap := by
            rcases hO.2 with ⟨_, h⟩ | ⟨g, cap, cur, h, _⟩
            · simp at h
            · exact ⟨g, cap, h⟩
          have HN := Lib.hid hs
          have HO := Lib.hid hO
          have d0 : ((pre.length : Int) + 1 == 0) = false := by simp; omega
          have W1 : IntKind.i64.wrap (pre.length : Int) = pre.length := by rw [IntKind.wrap_i64]; omega
          have hll : (pre.length : Int) < (pre.length : Int) + 1 := by omega
          clear hs hO h0 hle
          go_wp2_with (first | (refine wpList_load_mid rfl 73 _ rfl b (o + k * 12) rfl _ _ hr Try.underlying73 rfl EI.out ?_) | (refine wpList_store_new rfl 73 _ _ rfl _ #[.int .i64 (e).op, .bool (e).inn, .bool (e).real, .int .u64 (e).tm, .int .u64 (e).dn, .int .i64 (e).cls, .int .u64 (e).id, .int .i64 (e).ln, .int .u16 (e).a, .int .u16 (e).b, .int .u16 (e).c, .int .u16 (e).d] rfl rfl EI.out rfl (all_oneCell_toArray e.one) ?_))
          obtain ⟨Cl, hCl⟩ : ∃ Cl : List Value → World → Prop, Cl = ((fun ps wz => (wz.cell? ⟨wr.heap.size, 3, none⟩ = some (.int .u64 e.tm) ∧ wz.cell? ⟨wr.heap.size, 4, none⟩ = some (.int .u64 e.dn) ∧ wr.heap.size < wz.heap.size) ∧ w.heap.size ≤ wz.heap.size ∧ Below w.heap.size w wz ∧ Below (wr.heap.size + 1) (wr.alloc (Obj.cells #[.int .i64 e.op, .bool false, .bool e.real, .int .u64 e.tm, .int .u64 e.dn, .int .i64 e.cls, .int .u64 e.id, .int .i64 e.ln, .int .u16 e.a, .int .u16 e.b, .int .u16 e.c, .int .u16 e.d] 73)) wz)) := ⟨_, rfl⟩; have HCl := Lib.hid hCl; clear hCl; refine wp_region_eff [] Cl (by kernel_rfl) (by kernel_rfl) (by rw [HCl.out]; (try simp only [List.nil_append, List.cons_append]); (try dsimp only); ((repeat' apply And.intro) <;> first | (simp [go_sem, *]; done) | omega | (repeat' (first | with_reducible exact Below.refl _ _ | with_reducible assumption | ((with_reducible refine Below.drew ?_)) | ((with_reducible refine below_drewN ?_ _)) | ((with_reducible refine Below.alloc ?_ ?_ _); rotate_left; focus (first | omega | (simp; done) | (simp; omega))) | ((with_reducible refine Below.setCell ?_ ?_ _); rotate_left; focus (first | omega | (simp; done) | (simp; omega))) | ((with_reducible refine Below.trans ?_ (Below.mono (by with_reducible assumption) ?_)); rotate_left; focus (first | omega | (simp; done) | (simp; omega))))))) ?_; (repeat (first | (refine wE_skip (by rfl) ?_; simp only [Act.put, Nat.reduceAdd, List.setIfInBounds_toArray, List.set_cons_zero, List.set_cons_succ, List.nil_append, List.cons_append]) | (refine wE_open (by rfl) (by rfl) ?_; apply Exists.intro; refine ⟨fun vs wq hw => ?_, ?_⟩; (focus (rw [HCl.out] at hw; (try simp only [List.nil_append, List.cons_append] at hw); (try dsimp only at hw); go_split_ands; go_simp <;> first | with_reducible exact (rfl : Value.bool false = _) | with_reducible exact (rfl : Value.bool true = _) | ((try go_bits) <;> exact rfl))); simp only [Act.put, Nat.reduceAdd, List.setIfInBounds_toArray, List.set_cons_zero, List.set_cons_succ, List.nil_append, List.cons_append]) | (refine wE_seal (by rfl) (by rfl) (by kernel_rfl) ?_; apply Exists.intro; refine ⟨fun wq hw => ?_, ?_⟩; (focus (rw [HCl.out] at hw; (try simp only [List.nil_append, List.cons_append] at hw); (try dsimp only at hw); go_split_ands; go_simp <;> (try go_bits) <;> exact rfl)); simp only [Act.put, Nat.reduceAdd, List.setIfInBounds_toArray, List.set_cons_zero, List.set_cons_succ, List.nil_append, List.cons_append]) | (refine wE_seal (by rfl) (by rfl) (by kernel_rfl) ?_; apply Exists.intro; refine ⟨fun wq hw => ?_, ?_⟩; (focus (rw [HCl.out] at hw; (try simp only [List.nil_append, List.cons_append] at hw); (try dsimp only at hw); go_split_ands; go_simp; (go_at_call 42; ((with_reducible refine (KU.out _ (HE.out.below (by assumption))).mono ?_); rintro e w' ⟨rfl, hbel⟩; obtain ⟨hcc, hff⟩ := bcell hbel; have hsz := hbel.size; (try simp at hsz); refine ⟨rfl, ?_⟩; rw [HCl.out]; (try simp only [List.nil_append, List.cons_append]); (try dsimp only); ((repeat' apply And.intro) <;> first | (simp [go_sem, *]; done) | omega | (repeat' (first | with_reducible exact Below.refl _ _ | with_reducible assumption | ((with_reducible refine Below.drew ?_)) | ((with_reducible refine below_drewN ?_ _)) | ((with_reducible refine Below.alloc ?_ ?_ _); rotate_left; focus (first | omega | (simp; done) | (simp; omega))) | ((with_reducible refine Below.setCell ?_ ?_ _); rotate_left; focus (first | omega | (simp; done) | (simp; omega))) | ((with_reducible refine Below.trans ?_ (Below.mono (by with_reducible assumption) ?_)); rotate_left; focus (first | omega | (simp; done) | (simp; omega)))))))))); simp only [Act.put, Nat.reduceAdd, List.setIfInBounds_toArray, List.set_cons_zero, List.set_cons_succ, List.nil_append, List.cons_append]) | (refine wE_eff (by rfl) (by rfl) (fun wq hw => ?_) (fun u hu => ?_); (focus (rw [HCl.out] at hw; (try simp only [List.nil_append, List.cons_append] at hw); (try dsimp only at hw); go_split_ands; go_simp; rw [HCl.out]; (try simp only [List.nil_append, List.cons_append]); (try dsimp only); skip; ((repeat' apply And.intro) <;> first | (simp [go_sem, *]; done) | omega | (repeat' (first | with_reducible exact Below.refl _ _ | with_reducible assumption | ((with_reducible refine Below.drew ?_)) | ((with_reducible refine below_drewN ?_ _)) | ((with_reducible refine Below.alloc ?_ ?_ _); rotate_left; focus (first | omega | (simp; done) | (simp; omega))) | ((with_reducible refine Below.setCell ?_ ?_ _); rotate_left; focus (first | omega | (simp; done) | (simp; omega))) | ((with_reducible refine Below.trans ?_ (Below.mono (by with_reducible assumption) ?_)); rotate_left; focus (first | omega | (simp; done) | (simp; omega)))))))); clear hu; simp only [Act.put, Nat.reduceAdd, List.setIfInBounds_toArray, List.set_cons_zero, List.set_cons_succ, List.nil_append, List.cons_append]))); refine wE_nil ?_; intro w2 hw; rw [HCl.out] at hw; (try simp only [List.nil_append, List.cons_append] at hw); (try dsimp only at hw); clear HCl; obtain ⟨⟨j3, j4, jq⟩, hsz2, hB2, hBA⟩ := hw
          have hO2 : w2.ownsRow w.heap.size 79 2 (.slice (some ⟨g, 0, none⟩) (pre.length + 1) cap) (pre.length + 1) ((pre ++ [a]).flatMap Str.cells) := own_bel (HO.out.alloc _) (by simpa using hBA)
          obtain ⟨g0, g1, fg0, fg1, gs, gB⟩ := str_two hO2
          have HO2 := Lib.hid hO2
          clear hO2 hBA
          go_wp2
          obtain ⟨Cl, hCl⟩ : ∃ Cl : List Value → World → Prop, Cl = ((fun ps wz => (wz.cell? ⟨wr.heap.size, 3, none⟩ = some (.int .u64 e.tm) ∧ wz.cell? ⟨wr.heap.size, 4, none⟩ = some (.int .u64 e.dn) ∧ wr.heap.size < wz.heap.size) ∧ (wz.cell? ⟨g, pre.length * 2 + 1, none⟩ = some (.int .u64 a.tt) ∧ g < wz.heap.size) ∧ w2.heap.size ≤ wz.heap.size ∧ Below w2.heap.size w2 wz)) := ⟨_, rfl⟩; have HCl := Lib.hid hCl; clear hCl; refine wp_region_eff [] Cl (by kernel_rfl) (by kernel_rfl) (by rw [HCl.out]; (try simp only [List.nil_append, List.cons_append]); (try dsimp only); ((repeat' apply And.intro) <;> first | (simp [go_sem, *]; done) | omega | (repeat' (first | with_reducible exact Below.refl _ _ | with_reducible assumption | ((with_reducible refine Below.drew ?_)) | ((with_reducible refine below_drewN ?_ _)) | ((with_reducible refine Below.alloc ?_ ?_ _); rotate_left; focus (first | omega | (simp; done) | (simp; omega))) | ((with_reducible refine Below.setCell ?_ ?_ _); rotate_left; focus (first | omega | (simp; done) | (simp; omega))) | ((with_reducible refine Below.trans ?_ (Below.mono (by with_reducible assumption) ?_)); rotate_left; focus (first | omega | (simp; done) | (simp; omega))))))) ?_
          (repeat (first | (refine wE_skip (by rfl) ?_; simp only [Act.put, Nat.reduceAdd, List.setIfInBounds_toArray, List.set_cons_zero, List.set_cons_succ, List.nil_append, List.cons_append]) | (refine wE_open (by rfl) (by rfl) ?_; apply Exists.intro; refine ⟨fun vs wq hw => ?_, ?_⟩; (focus (rw [HCl.out] at hw; (try simp only [List.nil_append, List.cons_append] at hw); (try dsimp only at hw); go_split_ands; go_simp <;> first | with_reducible exact (rfl : Value.bool false = _) | with_reducible exact (rfl : Value.bool true = _) | ((try go_bits) <;> exact rfl))); simp only [Act.put, Nat.reduceAdd, List.setIfInBounds_toArray, List.set_cons_zero, List.set_cons_succ, List.nil_append, List.cons_append]) | (refine wE_seal (by rfl) (by rfl) (by kernel_rfl) ?_; apply Exists.intro; refine ⟨fun wq hw => ?_, ?_⟩; (focus (rw [HCl.out] at hw; (try simp only [List.nil_append, List.cons_append] at hw); (try dsimp only at hw); go_split_ands; go_simp <;> (try go_bits) <;> exact rfl)); simp only [Act.put, Nat.reduceAdd, List.setIfInBounds_toArray, List.set_cons_zero, List.set_cons_succ, List.nil_append, List.cons_append]) | (refine wE_seal (by rfl) (by rfl) (by kernel_rfl) ?_; apply Exists.intro; refine ⟨fun wq hw => ?_, ?_⟩; (focus (rw [HCl.out] at hw; (try simp only [List.nil_append, List.cons_append] at hw); (try dsimp only at hw); go_split_ands; go_simp; fail)); simp only [Act.put, Nat.reduceAdd, List.setIfInBounds_toArray, List.set_cons_zero, List.set_cons_succ, List.nil_append, List.cons_append]) | (refine wE_eff (by rfl) (by rfl) (fun wq hw => ?_) (fun u hu => ?_); (focus (rw [HCl.out] at hw; (try simp only [List.nil_append, List.cons_append] at hw); (try dsimp only at hw); go_split_ands; go_simp; rw [HCl.out]; (try simp only [List.nil_append, List.cons_append]); (try dsimp only); skip; ((repeat' apply And.intro) <;> first | (simp [go_sem, *]; done) | omega | (repeat' (first | with_reducible exact Below.refl _ _ | with_reducible assumption | ((with_reducible refine Below.drew ?_)) | ((with_reducible refine below_drewN ?_ _)) | ((with_reducible refine Below.alloc ?_ ?_ _); rotate_left; focus (first | omega | (simp; done) | (simp; omega))) | ((with_reducible refine Below.setCell ?_ ?_ _); rotate_left; focus (first | omega | (simp; done) | (simp; omega))) | ((with_reducible refine Below.trans ?_ (Below.mono (by with_reducible assumption) ?_)); rotate_left; focus (first | omega | (simp; done) | (simp; omega)))))))); clear hu; simp only [Act.put, Nat.reduceAdd, List.setIfInBounds_toArray, List.set_cons_zero, List.set_cons_succ, List.nil_append, List.cons_append])))
          refine wE_nil ?_
          intro w3 hw
          rw [HCl.out] at hw; (try simp only [List.nil_append, List.cons_append] at hw); (try dsimp only at hw)
          clear HCl g0 g1 fg0 fg1 gs j3 j4 jq
          obtain ⟨⟨j3, j4, jq⟩, _, hs23, hb23⟩ := hw
          have hO3 := own_bel HO2.out hb23
          obtain ⟨g0, g1, fg0, fg1, gs, _⟩ := str_two hO3
          have HO3 := Lib.hid hO3
          have hB3 := hB2.trans (hb23.mono hsz2)
          clear hO3 hb23
          by_cases hgt : a.tt < e.dn
          · have d2 : decide (a.tt < e.dn) = true := by simpa using hgt
            have hm : mx a.tt e.dn = e.dn := by unfold mx; rw [if_pos hgt]
            go_wp2
            obtain ⟨Cl, hCl⟩ : ∃ Cl : List Value → World → Prop, Cl = ((fun ps wz => (wz.cell? ⟨wr.heap.size, 3, none⟩ = some (.int .u64 e.tm) ∧ wz.cell? ⟨wr.heap.size, 4, none⟩ = some (.int .u64 e.dn) ∧ wr.heap.size < wz.heap.size) ∧ (match ps with | [] => (wz.cell? ⟨g, pre.length * 2, none⟩ = some (.int .u64 a.fr) ∧ wz.cell? ⟨g, pre.length * 2 + 1, none⟩ = some (.int .u64 a.tt) ∧ wz.frozen? ⟨g, pre.length * 2, none⟩ = false ∧ wz.frozen? ⟨g, pre.length * 2 + 1, none⟩ = false ∧ g < wz.heap.size) ∧ Below w3.heap.size w3 wz | _ => wz.ownsRow w.heap.size 79 2 (.slice (some ⟨g, 0, none⟩) (pre.length + 1) cap) (pre.length + 1) ((pre ++ [(⟨a.fr, e.dn⟩ : Str)]).flatMap Str.cells) ∧ Below w.heap.size w wz))) := ⟨_, rfl⟩; have HCl := Lib.hid hCl; clear hCl; refine wp_region_eff [15] Cl (by kernel_rfl) (by kernel_rfl) (by rw [HCl.out]; (try simp only [List.nil_append, List.cons_append]); (try dsimp only); ((repeat' apply And.intro) <;> first | (simp [go_sem, *]; done) | omega | (repeat' (first | with_reducible exact Below.refl _ _ | with_reducible assumption | ((with_reducible refine Below.drew ?_)) | ((with_reducible refine below_drewN ?_ _)) | ((with_reducible refine Below.alloc ?_ ?_ _); rotate_left; focus (first | omega | (simp; done) | (simp; omega))) | ((with_reducible refine Below.setCell ?_ ?_ _); rotate_left; focus (first | omega | (simp; done) | (simp; omega))) | ((with_reducible refine Below.trans ?_ (Below.mono (by with_reducible assumption) ?_)); rotate_left; focus (first | omega | (simp; done) | (simp; omega))))))) ?_
            (repeat (first | (refine wE_skip (by rfl) ?_; simp only [Act.put, Nat.reduceAdd, List.setIfInBounds_toArray, List.set_cons_zero, List.set_cons_succ, List.nil_append, List.cons_append]) | (refine wE_open (by rfl) (by rfl) ?_; apply Exists.intro; refine ⟨fun vs wq hw => ?_, ?_⟩; (focus (rw [HCl.out] at hw; (try simp only [List.nil_append, List.cons_append] at hw); (try dsimp only at hw); go_split_ands; go_simp <;> first | with_reducible exact (rfl : Value.bool false = _) | with_reducible exact (rfl : Value.bool true = _) | ((try go_bits) <;> exact rfl))); simp only [Act.put, Nat.reduceAdd, List.setIfInBounds_toArray, List.set_cons_zero, List.set_cons_succ, List.nil_append, List.cons_append]) | (refine wE_seal (by rfl) (by rfl) (by kernel_rfl) ?_; apply Exists.intro; refine ⟨fun wq hw => ?_, ?_⟩; (focus (rw [HCl.out] at hw; (try simp only [List.nil_append, List.cons_append] at hw); (try dsimp only at hw); go_split_ands; go_simp <;> (try go_bits) <;> exact rfl)); simp only [Act.put, Nat.reduceAdd, List.setIfInBounds_toArray, List.set_cons_zero, List.set_cons_succ, List.nil_append, List.cons_append]) | (refine wE_seal (by rfl) (by rfl) (by kernel_rfl) ?_; apply Exists.intro; refine ⟨fun wq hw => ?_, ?_⟩; (focus (rw [HCl.out] at hw; (try simp only [List.nil_append, List.cons_append] at hw); (try dsimp only at hw); go_split_ands; go_simp; fail)); simp only [Act.put, Nat.reduceAdd, List.setIfInBounds_toArray, List.set_cons_zero, List.set_cons_succ, List.nil_append, List.cons_append]) | (refine wE_eff (by rfl) (by rfl) (fun wq hw => ?_) (fun u hu => ?_); (focus (rw [HCl.out] at hw; (try simp only [List.nil_append, List.cons_append] at hw); (try dsimp only at hw); go_split_ands; go_simp; rw [HCl.out]; (try simp only [List.nil_append, List.cons_append]); (try dsimp only); skip; ((repeat' apply And.intro) <;> first | (simp [go_sem, *]; done) | omega | (repeat' (first | with_reducible exact Below.refl _ _ | with_reducible assumption | ((with_reducible refine Below.drew ?_)) | ((with_reducible refine below_drewN ?_ _)) | ((with_reducible refine Below.alloc ?_ ?_ _); rotate_left; focus (first | omega | (simp; done) | (simp; omega))) | ((with_reducible refine Below.setCell ?_ ?_ _); rotate_left; focus (first | omega | (simp; done) | (simp; omega))) | ((with_reducible refine Below.trans ?_ (Below.mono (by with_reducible assumption) ?_)); rotate_left; focus (first | omega | (simp; done) | (simp; omega)))))))); clear hu; simp only [Act.put, Nat.reduceAdd, List.setIfInBounds_toArray, List.set_cons_zero, List.set_cons_succ, List.nil_append, List.cons_append])))
            refine wE_eff (by rfl) (by rfl) (fun wq hw => ?_) (fun u hu => ?_)
            · rw [HCl.out] at hw; (try simp only [List.nil_append, List.cons_append] at hw); (try dsimp only at hw)
              obtain ⟨⟨q3, q4, qq⟩, ⟨p0, p1, pf0, pf1, pg⟩, hbq⟩ := hw
              have hOq := own_bel HO3.out hbq
              have h2 := ((hOq.stored (pre.length * 2) (.int .u64 a.fr)).1.stored (pre.length * 2 + 1) (.int .u64 e.dn)).1
              rw [str_set2] at h2
              have H2 := Lib.hid h2
              have hbw := hB3.trans (hbq.mono (by have := hB3.size; omega))
              have HBw := Lib.hid ((hbw.setCell (p := ⟨g, pre.length * 2, none⟩) gB (.int .u64 a.fr)).setCell (p := ⟨g, pre.length * 2 + 1, none⟩) gB (.int .u64 e.dn))
              have eg : ¬ g = wr.heap.size := fun e => by have := (HO.out.lt g rfl).2; omega
              have eg2 : ¬ wr.heap.size = g := fun e => eg e.symm
              clear h2 hOq hbq hbw
              go_simp
              rw [HCl.out]; (try simp only [List.nil_append, List.cons_append]); (try dsimp only)
              refine ⟨?_, H2.out, HBw.out⟩
              ((repeat' apply And.intro) <;> first | (simp [go_sem, *]; done) | omega | (repeat' (first | with_reducible exact Below.refl _ _ | with_reducible assumption | ((with_reducible refine Below.drew ?_)) | ((with_reducible refine below_drewN ?_ _)) | ((with_reducible refine Below.alloc ?_ ?_ _); rotate_left; focus (first | omega | (simp; done) | (simp; omega))) | ((with_reducible refine Below.setCell ?_ ?_ _); rotate_left; focus (first | omega | (simp; done) | (simp; omega))) | ((with_reducible refine Below.trans ?_ (Below.mono (by with_reducible assumption) ?_)); rotate_left; focus (first | omega | (simp; done) | (simp; omega))))))
            clear hu
            simp only [Act.put, Nat.reduceAdd, List.setIfInBounds_toArray, List.set_cons_zero, List.set_cons_succ, List.nil_append, List.cons_append]
            refine wE_nil ?_
            intro w4 hw
            rw [HCl.out] at hw; (try simp only [List.nil_append, List.cons_append] at hw); (try dsimp only at hw)
            clear HCl
            obtain ⟨_, hO4, hB4⟩ := hw
            have HO4 := Lib.hid hO4
            clear hO4
            go_wp2
            go_roundw
            case rel =>
              refine ⟨k + 1, _, by omega, by go_num, rfl, ?_, hB4⟩
              rw [HN.out, hm]
              simpa using HO4.out
            case measure => simp [intOf]; omega
          · have d2 : decide (a.tt < e.dn) = false := by simpa using hgt
            have hm : mx a.tt e.dn = a.tt := by unfold mx; rw [if_neg hgt]
            go_wp2
            go_roundw
            case rel => exact ⟨k + 1, _, by omega, by go_num, rfl, by rw [HN.out, hm, hlen]; exact HO3.out, hB3⟩
            case measure => simp [intOf]; omega
    · obtain rfl : k = es.length := by omega
      clear hlt HE HS HP
      go_wp2
      go_ret
      exact ⟨⟨_, rfl, hO⟩, hB⟩
end Go.Proofs.Ytkbglhkhhoakgaa
