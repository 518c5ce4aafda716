/- floodgateref31's has and Lengths. -/
import Derived.Test.YtdahjhokcjfioaaLp5
namespace Go.Proofs.Ytdahjhokcjfioaa
set_option linter.unusedVariables false
set_option linter.unusedSimpArgs false
set_option maxRecDepth 100000
open Go.RowKit Fg Reg
attribute [local irreducible] Reg.wE

theorem hasr_c (zs : List Int) (a : Option Addr) (c : Nat) (x : Int) (hn : zs.length ≤ 4611686018427387904) (w : World) (hc : IntsV w a zs) :
    Calls Try.prog 179 #[.slice a zs.length c, .int .i64 x] w fun ee w' => ee = .returned (.bool (has zs x)) ∧ w = w' := by
  go_enter Try.func179, Try.ntmps179
  go_wp2_with fail
  go_loop [9] (fun i => ∃ k : Nat, k ≤ zs.length ∧ i = .int .i64 k ∧ has (zs.take k) x = false) (fun i => zs.length - (intOf i).toNat)
  case atStart => exact ⟨0, Nat.zero_le _, rfl, rfl⟩
  case round =>
    obtain ⟨k, hk, rfl, hno⟩ := hrel
    by_cases hlt : k < zs.length
    · obtain ⟨b, o, rfl, hb, hcell⟩ := hc k hlt
      have hs := has_succ zs x k hlt
      rw [hno, Bool.false_or] at hs
      by_cases he : zs[k] = x
      · have hy := Lib.hid (has_of hlt he)
        have he' : (zs[k] == x) = true := by simp [he]
        clear hc hs hno he
        go_wp2
        go_ret
        exact ⟨by rw [hy.out]; rfl, rfl⟩
      · have he' : (zs[k] == x) = false := by simp [he]
        have Hs := Lib.hid (show has (zs.take (k + 1)) x = false by rw [hs]; simp [he])
        clear hc hs hno he
        go_wp2
        go_round
        case rel => exact ⟨k + 1, by omega, by go_num, Hs.out⟩
        case measure => simp [intOf]; omega
    · obtain rfl : k = zs.length := by omega
      rw [List.take_length] at hno
      have HN := Lib.hid hno
      clear hc hno
      go_wp2
      go_ret
      exact ⟨by rw [HN.out]; rfl, rfl⟩
theorem int_info : (Try.prog.info? 3).map (fun i => (i.zero, i.size, i.bytes)) = some (some (.int .i64 0), 1, 8) := by kernel_rfl
theorem int_parts : ∃ i, Try.prog.info? 3 = some i ∧ i.zero = some (.int .i64 0) ∧ i.size = 1 ∧ i.bytes = 8 := by
  obtain ⟨i, hi, h⟩ := Option.map_eq_some_iff.1 int_info
  simp only [Prod.mk.injEq] at h
  exact ⟨i, hi, h.1, h.2.1, h.2.2⟩
/-- How many packets there are behind one more event. -/
theorem spsrun_cnt (zs : List Int) (es : List Ev) (k : Nat) (h : k < es.length) : (spsrun zs es (k + 1)).p =
    if has zs es[k].cls = true then (if es[k].inn = true then (spsrun zs es k).p + 1 else (spsrun zs es k).p - 1) else (spsrun zs es k).p := by
  rw [spsrun_succ zs es k h]
  unfold sstep
  (repeat' split) <;> (try simp) <;> omega
theorem range_snoc (f : Nat → Value) (k : Nat) : (List.range (k + 1)).map f = (List.range k).map f ++ [f k] := by
  rw [List.range_succ, List.map_append]; rfl
set_option maxHeartbeats 8000000 in
theorem len_c (zs : List Int) (es : List Ev) (a a2 : Option Addr) (c c2 : Nat) (hn : es.length ≤ 100000) (hn2 : zs.length ≤ 100000) (w : World) (hE : EvsV w a es) (hZ : IntsV w a2 zs) :
    Calls Try.prog 158 #[.slice a es.length c, .slice a2 zs.length c2] w fun e w' => (∃ v, e = .returned v ∧ w'.ownsRow w.heap.size 3 1 v (es.length + 1) ((List.range (es.length + 1)).map (fun j => Value.int .i64 (spsrun zs es j).p))) ∧ Below w.heap.size w w' := by
  obtain ⟨ii, II0, IZ0, IZ1, IZ2⟩ := int_parts
  have KC := Lib.hid (fun x w' (hb : Below w.heap.size w w') => hasr_c zs a2 c2 x (by omega) w' (hZ.below hb))
  have HE := Lib.hid hE
  have HS := Lib.hid (spsrun_cnt zs es)
  have HP := Lib.hid (spsrun_p zs es)
  have EI := Lib.hid ev_info
  clear hE hZ
  go_enter Try.func158, Try.ntmps158
  go_wp2_with fail
  go_loopw [5, 12] (fun uo i wr => ∃ (k : Nat) (vo : Value), k ≤ es.length ∧ i = .int .i64 k ∧ vo = uo ∧ wr.ownsRow w.heap.size 3 1 vo (k + 1) ((List.range (k + 1)).map (fun j => Value.int .i64 (spsrun zs es j).p)) ∧ Below w.heap.size w wr) (fun _ i _ => es.length - (intOf i).toNat)
  case atStart =>
    refine ⟨0, _, Nat.zero_le _, rfl, rfl, ?_, (by repeat' (first | with_reducible exact Below.refl _ _ | with_reducible assumption | ((with_reducible refine Below.drew ?_)) | ((with_reducible refine below_drewN ?_ _)) | ((with_reducible refine Below.alloc ?_ ?_ _); rotate_left; focus (first | omega | (simp; done) | (simp; omega))) | ((with_reducible refine Below.setCell ?_ ?_ _); rotate_left; focus (first | omega | (simp; done) | (simp; omega))) | ((with_reducible refine Below.trans ?_ (Below.mono (by with_reducible assumption) ?_)); rotate_left; focus (first | omega | (simp; done) | (simp; omega)))))⟩
    have := World.ownsRow_lit (base := w.heap.size) (e := 3) (size := 1) w #[.int .i64 0] 1 (Nat.le_refl _) (by decide) rfl
    simpa [spsrun] using this
  case round =>
    obtain ⟨k, vo, hk, rfl, rfl, hO, hB⟩ := hrel
    by_cases hlt : k < es.length
    · have hs := HS.out k hlt
      have hp := (HP.out k).1
      obtain ⟨b, o, rfl, hb, hr⟩ := (HE.out.below hB) k hlt
      generalize es[k] = e at hs hr
      obtain ⟨q, hq⟩ : ∃ q, (spsrun zs es (k + 1)).p = q := ⟨_, rfl⟩
      obtain ⟨p, hp'⟩ : ∃ p, (spsrun zs es k).p = p := ⟨_, rfl⟩
      rw [hq, hp'] at hs
      rw [hp'] at hp
      obtain ⟨g, cap, rfl⟩ : ∃ g cap, vo = Value.slice (some ⟨g, 0, none⟩) (k + 1) cap := by
        rcases hO.2 with ⟨_, h⟩ | ⟨g, cap, cur, h, _⟩
        · simp at h
        · exact ⟨g, cap, by simpa using h⟩
      have hc0 : wr.cell? ⟨g, k, none⟩ = some (.int .i64 p) := by rw [hO.cellAt k (by omega)]; simp [hp']
      have hg := (hO.lt g rfl).2
      have HN := Lib.hid hq
      clear hq hp'
      have hB1 : ∀ ob, Below w.heap.size w (wr.alloc ob) := fun ob => hB.alloc hB.size ob
      have hO1 := Lib.hid (fun ob => hO.alloc ob)
      obtain ⟨xs, hxs⟩ : ∃ xs, ((List.range (k + 1)).map (fun j => Value.int .i64 (spsrun zs es j).p)) = xs := ⟨_, rfl⟩
      rw [hxs] at hO hO1
      have hO0 := Lib.hid hO
      have hws := hB.size
      clear hO
      have hfin : ∀ (w5 : World) (v' : Value) (ob ob2 : Obj) (x : Int), x = (q : Int) → w5.ownsRow w.heap.size 3 1 v' (k + 1 + 1) (xs ++ [Value.int .i64 x]) → ((wr.alloc ob).alloc ob2).grownBy w5 (Value.slice (some ⟨g, 0, none⟩) (k + 1) cap).ownBlock → w5.ownsRow w.heap.size 3 1 v' (k + 1 + 1) ((List.range (k + 1 + 1)).map (fun j => Value.int .i64 (spsrun zs es j).p)) ∧ Below w.heap.size w w5 := by
        intro w5 v' ob ob2 x hx h1 h2
        subst hx
        refine ⟨?_, below_grown ((hB1 _).alloc (hB1 _).size _) h2 ((hB1 _).alloc (hB1 _).size _).size (own_blk hO0.out)⟩
        rw [range_snoc, HN.out, hxs]
        exact h1
      have HF := Lib.hid hfin
      clear hfin hxs
      cases hh : has zs e.cls with
      | false =>
        have KF : ∀ w', Below w.heap.size w w' → _ := KC.out e.cls
        rw [hh] at hs KF
        obtain rfl : q = p := hs
        have KG := Lib.hid KF
        clear KF
        go_wp2_with (first
          | (refine wpList_load_mid rfl 213 _ rfl b (o + k * 12) rfl _ _ hr Try.underlying213 rfl EI.out ?_)
          | (refine wpList_store_new rfl 213 _ _ rfl _ #[.int .i64 (e).op, .bool (e).inn, .bool (e).real, .int .u64 (e).tm, .int .u64 (e).dn, .int .i64 (e).cls, .int .u64 (e).id, .int .i64 (e).ln, .int .u16 (e).a, .int .u16 (e).b, .int .u16 (e).c, .int .u16 (e).d] rfl rfl EI.out rfl (all_oneCell_toArray e.one) ?_)
          | (go_at_call 179; (with_reducible refine (KG.out _ (hB1 _)).mono ?_); rintro e1 w1 ⟨rfl, rfl⟩)
          | (at_builtin; refine wpList_append_own _ rfl _ _ 129 rfl w.heap.size 3 ii (.int .i64 0) 1 8 Try.underlying129 II0 IZ0 IZ1 IZ2 rfl (by decide) _ (k + 1) _ rfl ((hO1.out _).alloc _) ⟨_, 0, none⟩ 1 1 [.int .i64 (q)] rfl rfl ?c1 ?c2 ?c3 ?c4 ?c5 ?_))
        (case c1 => (intro j u hu; rcases j with _ | j <;> simp at hu <;> (try subst hu) <;> simp [Addr.add, go_sem])); (case c2 => (intro u hu; simp at hu; subst hu; rfl)); (case c3 => (unfold maxLen; omega)); (case c4 => omega); (case c5 => (simp; omega))
        intro v' w5 hown' hgrow _
        go_wp2
        go_roundw
        case rel => exact ⟨k + 1, _, by omega, by go_num, rfl, (HF.out _ _ _ _ _ (by simp) hown' hgrow).1, (HF.out _ _ _ _ _ (by simp) hown' hgrow).2⟩
        case measure => simp [intOf]; omega
      | true =>
        have KF : ∀ w', Below w.heap.size w w' → _ := KC.out e.cls
        rw [hh] at hs KF
        rw [if_pos rfl] at hs
        have KG := Lib.hid KF
        clear KF
        cases hi : e.inn with
        | true =>
          rw [hi, if_pos rfl] at hs
          subst hs
          have W1 : IntKind.i64.wrap ((p : Int) + 1) = ((p + 1 : Nat) : Int) := by rw [IntKind.wrap_i64]; omega
          go_wp2_with (first
            | (refine wpList_load_mid rfl 213 _ rfl b (o + k * 12) rfl _ _ hr Try.underlying213 rfl EI.out ?_)
            | (refine wpList_store_new rfl 213 _ _ rfl _ #[.int .i64 (e).op, .bool (e).inn, .bool (e).real, .int .u64 (e).tm, .int .u64 (e).dn, .int .i64 (e).cls, .int .u64 (e).id, .int .i64 (e).ln, .int .u16 (e).a, .int .u16 (e).b, .int .u16 (e).c, .int .u16 (e).d] rfl rfl EI.out rfl (all_oneCell_toArray e.one) ?_)
            | (go_at_call 179; (with_reducible refine (KG.out _ (hB1 _)).mono ?_); rintro e1 w1 ⟨rfl, rfl⟩)
            | (at_builtin; refine wpList_append_own _ rfl _ _ 129 rfl w.heap.size 3 ii (.int .i64 0) 1 8 Try.underlying129 II0 IZ0 IZ1 IZ2 rfl (by decide) _ (k + 1) _ rfl ((hO1.out _).alloc _) ⟨_, 0, none⟩ 1 1 [.int .i64 (((p + 1 : Nat) : Int))] rfl rfl ?c1 ?c2 ?c3 ?c4 ?c5 ?_))
          (case c1 => (intro j u hu; rcases j with _ | j <;> simp at hu <;> (try subst hu) <;> simp [Addr.add, go_sem])); (case c2 => (intro u hu; simp at hu; subst hu; rfl)); (case c3 => (unfold maxLen; omega)); (case c4 => omega); (case c5 => (simp; omega))
          intro v' w5 hown' hgrow _
          go_wp2
          go_roundw
          case rel => exact ⟨k + 1, _, by omega, by go_num, rfl, (HF.out _ _ _ _ _ (by simp) hown' hgrow).1, (HF.out _ _ _ _ _ (by simp) hown' hgrow).2⟩
          case measure => simp [intOf]; omega
        | false =>
          rw [hi, if_neg (by simp)] at hs
          subst hs
          by_cases h0 : p = 0
          · subst h0
            go_wp2_with (first
              | (refine wpList_load_mid rfl 213 _ rfl b (o + k * 12) rfl _ _ hr Try.underlying213 rfl EI.out ?_)
              | (refine wpList_store_new rfl 213 _ _ rfl _ #[.int .i64 (e).op, .bool (e).inn, .bool (e).real, .int .u64 (e).tm, .int .u64 (e).dn, .int .i64 (e).cls, .int .u64 (e).id, .int .i64 (e).ln, .int .u16 (e).a, .int .u16 (e).b, .int .u16 (e).c, .int .u16 (e).d] rfl rfl EI.out rfl (all_oneCell_toArray e.one) ?_)
              | (go_at_call 179; (with_reducible refine (KG.out _ (hB1 _)).mono ?_); rintro e1 w1 ⟨rfl, rfl⟩)
              | (at_builtin; refine wpList_append_own _ rfl _ _ 129 rfl w.heap.size 3 ii (.int .i64 0) 1 8 Try.underlying129 II0 IZ0 IZ1 IZ2 rfl (by decide) _ (k + 1) _ rfl ((hO1.out _).alloc _) ⟨_, 0, none⟩ 1 1 [.int .i64 (0)] rfl rfl ?c1 ?c2 ?c3 ?c4 ?c5 ?_))
            (case c1 => (intro j u hu; rcases j with _ | j <;> simp at hu <;> (try subst hu) <;> simp [Addr.add, go_sem])); (case c2 => (intro u hu; simp at hu; subst hu; rfl)); (case c3 => (unfold maxLen; omega)); (case c4 => omega); (case c5 => (simp; omega))
            intro v' w5 hown' hgrow _
            go_wp2
            go_roundw
            case rel => exact ⟨k + 1, _, by omega, by go_num, rfl, (HF.out _ _ _ _ _ (by simp) hown' hgrow).1, (HF.out _ _ _ _ _ (by simp) hown' hgrow).2⟩
            case measure => simp [intOf]; omega
          · have W1 : IntKind.i64.wrap ((p : Int) - 1) = ((p - 1 : Nat) : Int) := by rw [IntKind.wrap_i64]; omega
            have d1 : decide (0 < (p : Int)) = true := by simp; omega
            have d2 : decide (0 < p) = true := by simp; omega
            go_wp2_with (first
              | (refine wpList_load_mid rfl 213 _ rfl b (o + k * 12) rfl _ _ hr Try.underlying213 rfl EI.out ?_)
              | (refine wpList_store_new rfl 213 _ _ rfl _ #[.int .i64 (e).op, .bool (e).inn, .bool (e).real, .int .u64 (e).tm, .int .u64 (e).dn, .int .i64 (e).cls, .int .u64 (e).id, .int .i64 (e).ln, .int .u16 (e).a, .int .u16 (e).b, .int .u16 (e).c, .int .u16 (e).d] rfl rfl EI.out rfl (all_oneCell_toArray e.one) ?_)
              | (go_at_call 179; (with_reducible refine (KG.out _ (hB1 _)).mono ?_); rintro e1 w1 ⟨rfl, rfl⟩)
              | (at_builtin; refine wpList_append_own _ rfl _ _ 129 rfl w.heap.size 3 ii (.int .i64 0) 1 8 Try.underlying129 II0 IZ0 IZ1 IZ2 rfl (by decide) _ (k + 1) _ rfl ((hO1.out _).alloc _) ⟨_, 0, none⟩ 1 1 [.int .i64 (((p - 1 : Nat) : Int))] rfl rfl ?c1 ?c2 ?c3 ?c4 ?c5 ?_))
            (case c1 => (intro j u hu; rcases j with _ | j <;> simp at hu <;> (try subst hu) <;> simp [Addr.add, go_sem])); (case c2 => (intro u hu; simp at hu; subst hu; rfl)); (case c3 => (unfold maxLen; omega)); (case c4 => omega); (case c5 => (simp; omega))
            intro v' w5 hown' hgrow _
            go_wp2
            go_roundw
            case rel => exact ⟨k + 1, _, by omega, by go_num, rfl, (HF.out _ _ _ _ _ (by simp) hown' hgrow).1, (HF.out _ _ _ _ _ (by simp) hown' hgrow).2⟩
            case measure => simp [intOf]; omega
    · obtain rfl : k = es.length := by omega
      clear hlt HE KC HS HP
      go_wp2
      go_ret
      exact ⟨⟨_, rfl, hO⟩, hB⟩
end Go.Proofs.Ytdahjhokcjfioaa
