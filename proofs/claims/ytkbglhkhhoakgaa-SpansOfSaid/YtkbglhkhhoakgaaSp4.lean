/- Spans do not meet. -/
import Derived.Test.YtkbglhkhhoakgaaSp3
namespace Go.Proofs.Ytkbglhkhhoakgaa
set_option linter.unusedVariables false
set_option linter.unusedSimpArgs false
set_option maxRecDepth 100000
open Go.RowKit Fg Reg
attribute [local irreducible] Reg.wE

/-- Each begins behind the end of the one ahead of it; only the last one may be open. -/
def chain (es : List Ev) (o : Bool) : Int → List Sp → Prop
  | _, [] => o = false
  | last, x :: l => last < x.fi ∧ (∃ h : x.fi < es.length, x.fr = es[x.fi].tm) ∧
    ((x.op = true ∧ l = [] ∧ o = true) ∨ (x.op = false ∧ x.fi < x.la ∧ (∃ h : x.la < es.length, x.tt = es[x.la].tm) ∧ chain es o x.la l))
def shut (es : List Ev) : Int → List Sp → Prop
  | _, [] => True
  | last, x :: l => last < x.fi ∧ (∃ h : x.fi < es.length, x.fr = es[x.fi].tm) ∧ x.op = false ∧ x.fi < x.la ∧ (∃ h : x.la < es.length, x.tt = es[x.la].tm) ∧ shut es x.la l
def lst : Int → List Sp → Int
  | last, [] => last
  | _, x :: l => lst x.la l
theorem shut_snoc (es : List Ev) (x : Sp) : ∀ (l : List Sp) (last : Int), shut es last l → lst last l < x.fi → (∃ h : x.fi < es.length, x.fr = es[x.fi].tm) → x.op = false → x.fi < x.la → (∃ h : x.la < es.length, x.tt = es[x.la].tm) → shut es last (l ++ [x])
  | [], last, _, h, h1, h2, h3, h4 => ⟨h, h1, h2, h3, h4, trivial⟩
  | y :: l, last, ⟨a1, a2, a3, a4, a5, a6⟩, h, h1, h2, h3, h4 => ⟨a1, a2, a3, a4, a5, shut_snoc es x l _ a6 h h1 h2 h3 h4⟩
theorem lst_snoc (x : Sp) : ∀ (l : List Sp) (last : Int), lst last (l ++ [x]) = x.la
  | [], _ => rfl
  | y :: l, _ => lst_snoc x l _
theorem chain_of (es : List Ev) : ∀ (l : List Sp) (last : Int), shut es last l → chain es false last l
  | [], _, _ => rfl
  | y :: l, last, ⟨a1, a2, a3, a4, a5, a6⟩ => ⟨a1, a2, .inr ⟨a3, a4, a5, chain_of es l _ a6⟩⟩
theorem chain_snoc (es : List Ev) (x : Sp) : ∀ (l : List Sp) (last : Int), shut es last l → lst last l < x.fi → (∃ h : x.fi < es.length, x.fr = es[x.fi].tm) → x.op = true → chain es true last (l ++ [x])
  | [], last, _, h, h1, h2 => ⟨h, h1, .inl ⟨h2, rfl, rfl⟩⟩
  | y :: l, last, ⟨a1, a2, a3, a4, a5, a6⟩, h, h1, h2 => ⟨a1, a2, .inr ⟨a3, a4, a5, chain_snoc es x l _ a6 h h1 h2⟩⟩
theorem srun_shut (zs : List Int) (es : List Ev) : ∀ k, k ≤ es.length → shut es (-1) (srun zs es k).cl ∧ lst (-1) (srun zs es k).cl < k ∧
    (0 < (srun zs es k).p → lst (-1) (srun zs es k).cl < (srun zs es k).fi ∧ (srun zs es k).fi < k ∧ (∃ h : (srun zs es k).fi < es.length, (srun zs es k).fr = es[(srun zs es k).fi].tm))
  | 0, _ => ⟨trivial, by simp [srun, lst], by simp [srun]⟩
  | k + 1, hk => by
    obtain ⟨i1, i2, i3⟩ := srun_shut zs es k (by omega)
    rw [srun_succ zs es k hk]
    generalize srun zs es k = s at i1 i2 i3
    obtain ⟨p, cl, fr, fi⟩ := s
    simp only at i1 i2 i3
    unfold sstep
    simp only
    split
    · split
      · split
        · exact ⟨i1, by simp only; omega, fun _ => ⟨i2, by simp, hk, rfl⟩⟩
        · refine ⟨i1, by simp only; omega, fun _ => ?_⟩
          obtain ⟨j1, j2, j3⟩ := i3 (by omega)
          exact ⟨j1, by simp only; omega, j3⟩
      · split
        · obtain ⟨j1, j2, j3⟩ := i3 (by omega)
          refine ⟨shut_snoc es _ _ _ i1 j1 j3 rfl j2 ⟨hk, rfl⟩, ?_, fun h => absurd h (by simp)⟩
          rw [lst_snoc]; simp; omega
        · refine ⟨i1, by simp only; omega, fun h => ?_⟩
          obtain ⟨j1, j2, j3⟩ := i3 (by simp only at h; omega)
          exact ⟨j1, by simp only; omega, j3⟩
    · refine ⟨i1, by simp only; omega, fun h => ?_⟩
      obtain ⟨j1, j2, j3⟩ := i3 h
      exact ⟨j1, by simp only; omega, j3⟩
theorem srun_chain (zs : List Int) (es : List Ev) : chain es (decide (0 < (srun zs es es.length).p)) (-1) (srun zs es es.length).rows := by
  obtain ⟨i1, i2, i3⟩ := srun_shut zs es es.length (Nat.le_refl _)
  generalize srun zs es es.length = s at i1 i2 i3
  obtain ⟨p, cl, fr, fi⟩ := s
  by_cases h : p = 0
  · subst h
    have e : (SS.mk 0 cl fr fi).rows = cl := by simp [SS.rows]
    rw [e]
    exact chain_of es _ _ i1
  · have e : (SS.mk p cl fr fi).rows = cl ++ [⟨fr, 0, fi, 0, true⟩] := by simp [SS.rows, h]
    obtain ⟨j1, j2, j3⟩ := i3 (by simp only; omega)
    have hd : decide (0 < (SS.mk p cl fr fi).p) = true := by simp; omega
    rw [e, hd]
    exact chain_snoc es _ _ _ i1 j1 j3 rfl
theorem sp_info5 : (Try.prog.info? 67).map (·.size) = some 5 := by kernel_rfl
theorem rows_len (zs : List Int) (es : List Ev) : (srun zs es es.length).rows.length ≤ es.length + 1 := by
  have := (srun_p zs es es.length).2
  unfold SS.rows
  split <;> simp <;> omega
set_option maxHeartbeats 8000000 in
theorem spansApart_core (zs : List Int) (es : List Ev) (a a2 : Option Addr) (c c2 : Nat) (hn : es.length ≤ 500) (hn2 : zs.length ≤ 100) (hw : ∀ k (h : k < es.length), es[k].wf) (w : World) (hE : EvsV w a es) (hZ : IntsV w a2 zs) :
    Calls Try.prog 9 #[.slice a es.length c, .slice a2 zs.length c2] w fun ee w' => ee = .returned (.bool true) ∧ Below w.heap.size w w' := by
  have KO := Lib.hid (ofv_c zs es a a2 c c2 (by omega) (by omega) w hE hZ)
  have KB := Lib.hid (fun z hz1 hz2 => bl_c zs es a a2 c c2 (by omega) (by omega) z hz1 hz2)
  have KT := Lib.hid two_c
  have HE := Lib.hid hE
  have HZ := Lib.hid hZ
  have HC := Lib.hid (srun_chain zs es)
  have hrl := rows_len zs es
  have SI := Lib.hid sp_info5
  have d1 : decide (500 < (es.length : Int)) = false := by simp; omega
  have d2 : decide (100 < (zs.length : Int)) = false := by simp; omega
  clear hE hZ hw
  generalize decide (0 < (srun zs es es.length).p) = o at KB HC
  generalize (srun zs es es.length).rows = rows at KO HC hrl
  go_enter Try.func9, Try.ntmps9
  go_wp2_with (go_at_call 30; (with_reducible refine (KO.out).mono ?_); rintro e w1 ⟨⟨ao, cap, rfl, hS⟩, hb⟩)
  have HS := Lib.hid hS
  have hsz := hb.size
  clear KO hS
  go_loopw [5, 6, 22] (fun vl vo i wr => ∃ (j : Nat) (last : Int) (op : Bool), j ≤ rows.length ∧ i = .int .i64 j ∧ vl = .int .i64 last ∧ vo = .bool op ∧ Below w.heap.size w wr ∧ Below w1.heap.size w1 wr ∧
    ((op = false ∧ chain es o last (rows.drop j)) ∨ (op = true ∧ j = rows.length ∧ o = true))) (fun _ _ i _ => rows.length - (intOf i).toNat)
  case atStart => exact ⟨0, _, _, Nat.zero_le _, rfl, rfl, rfl, hb, Below.refl _ _, .inl ⟨rfl, HC.out⟩⟩
  case round =>
    obtain ⟨j, last, op, hj, rfl, rfl, rfl, hB, hB1, hR⟩ := hrel
    have hs1 := hB.size
    have hs2 := hB1.size
    by_cases hlt : j < rows.length
    · obtain ⟨rfl, hQ⟩ : op = false ∧ chain es o last (rows.drop j) := by
        rcases hR with h | ⟨_, h, _⟩
        · exact h
        · omega
      clear hR
      obtain ⟨g, rfl, hg0, hg, hr⟩ := (HS.out.below hB1) j hlt
      rw [List.drop_eq_getElem_cons hlt] at hQ
      generalize rows[j] = x at hr hQ
      obtain ⟨fr, tt, fi, la, op⟩ := x
      rw [chain] at hQ
      obtain ⟨q1, q4, hR⟩ := hQ
      obtain ⟨q2, q3⟩ := q4
      simp only at q1 q2 q3 hR
      have hfr := HE.out.below hB fi q2
      obtain ⟨b, oo, rfl, hbb, hcell⟩ := hfr
      have c0 := hcell 3 _ rfl
      have d3 : decide ((fi : Int) ≤ last) = false := by simp; omega
      have d4 : decide (es.length ≤ fi) = false := by simp; omega
      have d6 : (fr == es[fi].tm) = true := by simp [q3]
      have d7 : (fr != es[fi].tm) = false := by simp [q3]
      clear hcell
      cases op with
      | true =>
        obtain ⟨hl, ho⟩ : rows.drop (j + 1) = [] ∧ o = true := by
          rcases hR with h | ⟨h, _⟩
          · exact h.2
          · cases h
        have hjl : j + 1 = rows.length := by
          have := congrArg List.length hl
          simp at this; omega
        clear hR q3
        generalize es[fi].tm = t0 at c0 d6 d7
        go_wp2_with (first | (refine wpList_load_mid rfl 67 _ rfl g (j * 5) rfl _ _ hr Try.underlying67 rfl SI.out ?_) | (refine wpList_store_new rfl 67 _ _ rfl _ #[.int .u64 fr, .int .u64 tt, .int .i64 fi, .int .i64 la, .bool true] rfl rfl SI.out rfl (all_oneCell_toArray (Sp.one ⟨fr, tt, fi, la, true⟩)) ?_))
        clear hr
        obtain ⟨Cl, hCl⟩ : ∃ Cl : List Value → World → Prop, Cl = ((fun ps wz => (wz.cell? ⟨wr.heap.size, 0, none⟩ = some (.int .u64 (fr)) ∧ wz.cell? ⟨wr.heap.size, 1, none⟩ = some (.int .u64 (tt)) ∧ wz.cell? ⟨wr.heap.size, 2, none⟩ = some (.int .i64 (fi)) ∧ wz.cell? ⟨wr.heap.size, 3, none⟩ = some (.int .i64 (la)) ∧ wz.cell? ⟨wr.heap.size, 4, none⟩ = some (.bool true) ∧ wr.heap.size < wz.heap.size) ∧ (wz.cell? ⟨b, oo + fi * 12 + 3, none⟩ = some (.int .u64 t0) ∧ b < wz.heap.size) ∧ Below w.heap.size w wz ∧ Below w1.heap.size w1 wz)) := ⟨_, rfl⟩; have HCl := Lib.hid hCl; clear hCl; refine wp_region_eff [] Cl (by kernel_rfl) (by kernel_rfl) (by rw [HCl.out]; (try simp only [List.nil_append, List.cons_append]); (try dsimp only); ((repeat' apply And.intro) <;> first | (simp [go_sem, *]; done) | omega | (repeat' (first | with_reducible exact Below.refl _ _ | with_reducible assumption | ((with_reducible refine Below.drew ?_)) | ((with_reducible refine below_drewN ?_ _)) | ((with_reducible refine Below.alloc ?_ ?_ _); rotate_left; focus (first | omega | (simp; done) | (simp; omega))) | ((with_reducible refine Below.setCell ?_ ?_ _); rotate_left; focus (first | omega | (simp; done) | (simp; omega))) | ((with_reducible refine Below.trans ?_ (Below.mono (by with_reducible assumption) ?_)); rotate_left; focus (first | omega | (simp; done) | (simp; omega))))))) ?_
        (repeat (first | (refine wE_skip (by rfl) ?_; simp only [Act.put, Nat.reduceAdd, List.setIfInBounds_toArray, List.set_cons_zero, List.set_cons_succ, List.nil_append, List.cons_append]) | (refine wE_open (by rfl) (by rfl) ?_; apply Exists.intro; refine ⟨fun vs wq hw => ?_, ?_⟩; (focus (rw [HCl.out] at hw; (try simp only [List.nil_append, List.cons_append] at hw); (try dsimp only at hw); go_split_ands; go_simp <;> first | with_reducible exact (rfl : Value.bool false = _) | with_reducible exact (rfl : Value.bool true = _) | ((try go_bits) <;> exact rfl))); simp only [Act.put, Nat.reduceAdd, List.setIfInBounds_toArray, List.set_cons_zero, List.set_cons_succ, List.nil_append, List.cons_append]) | (refine wE_seal (by rfl) (by rfl) (by kernel_rfl) ?_; apply Exists.intro; refine ⟨fun wq hw => ?_, ?_⟩; (focus (rw [HCl.out] at hw; (try simp only [List.nil_append, List.cons_append] at hw); (try dsimp only at hw); go_split_ands; go_simp <;> (try go_bits) <;> exact rfl)); simp only [Act.put, Nat.reduceAdd, List.setIfInBounds_toArray, List.set_cons_zero, List.set_cons_succ, List.nil_append, List.cons_append]) | (refine wE_seal (by rfl) (by rfl) (by kernel_rfl) ?_; apply Exists.intro; refine ⟨fun wq hw => ?_, ?_⟩; (focus (rw [HCl.out] at hw; (try simp only [List.nil_append, List.cons_append] at hw); (try dsimp only at hw); go_split_ands; go_simp; fail)); simp only [Act.put, Nat.reduceAdd, List.setIfInBounds_toArray, List.set_cons_zero, List.set_cons_succ, List.nil_append, List.cons_append]) | (refine wE_eff (by rfl) (by rfl) (fun wq hw => ?_) (fun u hu => ?_); (focus (rw [HCl.out] at hw; (try simp only [List.nil_append, List.cons_append] at hw); (try dsimp only at hw); go_split_ands; go_simp; rw [HCl.out]; (try simp only [List.nil_append, List.cons_append]); (try dsimp only); skip; ((repeat' apply And.intro) <;> first | (simp [go_sem, *]; done) | omega | (repeat' (first | with_reducible exact Below.refl _ _ | with_reducible assumption | ((with_reducible refine Below.drew ?_)) | ((with_reducible refine below_drewN ?_ _)) | ((with_reducible refine Below.alloc ?_ ?_ _); rotate_left; focus (first | omega | (simp; done) | (simp; omega))) | ((with_reducible refine Below.setCell ?_ ?_ _); rotate_left; focus (first | omega | (simp; done) | (simp; omega))) | ((with_reducible refine Below.trans ?_ (Below.mono (by with_reducible assumption) ?_)); rotate_left; focus (first | omega | (simp; done) | (simp; omega)))))))); clear hu; simp only [Act.put, Nat.reduceAdd, List.setIfInBounds_toArray, List.set_cons_zero, List.set_cons_succ, List.nil_append, List.cons_append])))
        refine wE_nil ?_; intro w' hw; rw [HCl.out] at hw; (try simp only [List.nil_append, List.cons_append] at hw); (try dsimp only at hw); clear HCl
        go_split_ands
        go_wp2
        go_roundw
        case rel => exact ⟨j + 1, _, _, by omega, by go_num, rfl, rfl, by assumption, by assumption, .inr ⟨rfl, hjl, ho⟩⟩
        case measure => simp [intOf]; omega
      | false =>
        obtain ⟨k1, ⟨k2, k3⟩, k4⟩ : fi < la ∧ (∃ h : la < es.length, tt = es[la].tm) ∧ chain es o la (rows.drop (j + 1)) := by
          rcases hR with ⟨h, _⟩ | ⟨_, h⟩
          · cases h
          · exact h
        obtain ⟨b', oo', hbo, hbb', hcell'⟩ := HE.out.below hB la k2
        have c1 := hcell' 3 _ rfl
        cases hbo
        have d8 : decide (la ≤ fi) = false := by simp; omega
        have d9 : decide (es.length ≤ la) = false := by simp; omega
        have d10 : (tt == es[la].tm) = true := by simp [k3]
        have d11 : (tt != es[la].tm) = false := by simp [k3]
        have HK := Lib.hid k4
        clear hR q3 hcell' k3 k4
        generalize es[fi].tm = t0 at c0 d6 d7
        generalize es[la].tm = t1 at c1 d10 d11
        go_wp2_with (first | (refine wpList_load_mid rfl 67 _ rfl g (j * 5) rfl _ _ hr Try.underlying67 rfl SI.out ?_) | (refine wpList_store_new rfl 67 _ _ rfl _ #[.int .u64 fr, .int .u64 tt, .int .i64 fi, .int .i64 la, .bool false] rfl rfl SI.out rfl (all_oneCell_toArray (Sp.one ⟨fr, tt, fi, la, false⟩)) ?_))
        clear hr
        obtain ⟨Cl, hCl⟩ : ∃ Cl : List Value → World → Prop, Cl = ((fun ps wz => (wz.cell? ⟨wr.heap.size, 0, none⟩ = some (.int .u64 (fr)) ∧ wz.cell? ⟨wr.heap.size, 1, none⟩ = some (.int .u64 (tt)) ∧ wz.cell? ⟨wr.heap.size, 2, none⟩ = some (.int .i64 (fi)) ∧ wz.cell? ⟨wr.heap.size, 3, none⟩ = some (.int .i64 (la)) ∧ wz.cell? ⟨wr.heap.size, 4, none⟩ = some (.bool false) ∧ wr.heap.size < wz.heap.size) ∧ (wz.cell? ⟨b, oo + fi * 12 + 3, none⟩ = some (.int .u64 t0) ∧ wz.cell? ⟨b, oo + la * 12 + 3, none⟩ = some (.int .u64 t1) ∧ b < wz.heap.size) ∧ Below w.heap.size w wz ∧ Below w1.heap.size w1 wz)) := ⟨_, rfl⟩; have HCl := Lib.hid hCl; clear hCl; refine wp_region_eff [] Cl (by kernel_rfl) (by kernel_rfl) (by rw [HCl.out]; (try simp only [List.nil_append, List.cons_append]); (try dsimp only); ((repeat' apply And.intro) <;> first | (simp [go_sem, *]; done) | omega | (repeat' (first | with_reducible exact Below.refl _ _ | with_reducible assumption | ((with_reducible refine Below.drew ?_)) | ((with_reducible refine below_drewN ?_ _)) | ((with_reducible refine Below.alloc ?_ ?_ _); rotate_left; focus (first | omega | (simp; done) | (simp; omega))) | ((with_reducible refine Below.setCell ?_ ?_ _); rotate_left; focus (first | omega | (simp; done) | (simp; omega))) | ((with_reducible refine Below.trans ?_ (Below.mono (by with_reducible assumption) ?_)); rotate_left; focus (first | omega | (simp; done) | (simp; omega))))))) ?_
        (repeat (first | (refine wE_skip (by rfl) ?_; simp only [Act.put, Nat.reduceAdd, List.setIfInBounds_toArray, List.set_cons_zero, List.set_cons_succ, List.nil_append, List.cons_append]) | (refine wE_open (by rfl) (by rfl) ?_; apply Exists.intro; refine ⟨fun vs wq hw => ?_, ?_⟩; (focus (rw [HCl.out] at hw; (try simp only [List.nil_append, List.cons_append] at hw); (try dsimp only at hw); go_split_ands; go_simp <;> first | with_reducible exact (rfl : Value.bool false = _) | with_reducible exact (rfl : Value.bool true = _) | ((try go_bits) <;> exact rfl))); simp only [Act.put, Nat.reduceAdd, List.setIfInBounds_toArray, List.set_cons_zero, List.set_cons_succ, List.nil_append, List.cons_append]) | (refine wE_seal (by rfl) (by rfl) (by kernel_rfl) ?_; apply Exists.intro; refine ⟨fun wq hw => ?_, ?_⟩; (focus (rw [HCl.out] at hw; (try simp only [List.nil_append, List.cons_append] at hw); (try dsimp only at hw); go_split_ands; go_simp <;> (try go_bits) <;> exact rfl)); simp only [Act.put, Nat.reduceAdd, List.setIfInBounds_toArray, List.set_cons_zero, List.set_cons_succ, List.nil_append, List.cons_append]) | (refine wE_seal (by rfl) (by rfl) (by kernel_rfl) ?_; apply Exists.intro; refine ⟨fun wq hw => ?_, ?_⟩; (focus (rw [HCl.out] at hw; (try simp only [List.nil_append, List.cons_append] at hw); (try dsimp only at hw); go_split_ands; go_simp; fail)); simp only [Act.put, Nat.reduceAdd, List.setIfInBounds_toArray, List.set_cons_zero, List.set_cons_succ, List.nil_append, List.cons_append]) | (refine wE_eff (by rfl) (by rfl) (fun wq hw => ?_) (fun u hu => ?_); (focus (rw [HCl.out] at hw; (try simp only [List.nil_append, List.cons_append] at hw); (try dsimp only at hw); go_split_ands; go_simp; rw [HCl.out]; (try simp only [List.nil_append, List.cons_append]); (try dsimp only); skip; ((repeat' apply And.intro) <;> first | (simp [go_sem, *]; done) | omega | (repeat' (first | with_reducible exact Below.refl _ _ | with_reducible assumption | ((with_reducible refine Below.drew ?_)) | ((with_reducible refine below_drewN ?_ _)) | ((with_reducible refine Below.alloc ?_ ?_ _); rotate_left; focus (first | omega | (simp; done) | (simp; omega))) | ((with_reducible refine Below.setCell ?_ ?_ _); rotate_left; focus (first | omega | (simp; done) | (simp; omega))) | ((with_reducible refine Below.trans ?_ (Below.mono (by with_reducible assumption) ?_)); rotate_left; focus (first | omega | (simp; done) | (simp; omega)))))))); clear hu; simp only [Act.put, Nat.reduceAdd, List.setIfInBounds_toArray, List.set_cons_zero, List.set_cons_succ, List.nil_append, List.cons_append])))
        refine wE_nil ?_; intro w' hw; rw [HCl.out] at hw; (try simp only [List.nil_append, List.cons_append] at hw); (try dsimp only at hw); clear HCl
        go_split_ands
        go_wp2
        go_roundw
        case rel => exact ⟨j + 1, _, _, by omega, by go_num, rfl, rfl, by assumption, by assumption, .inl ⟨rfl, HK.out⟩⟩
        case measure => simp [intOf]; omega
    · obtain rfl : j = rows.length := by omega
      have hop : op = o := by
        rcases hR with ⟨h, h2⟩ | ⟨h, _, h2⟩
        · rw [List.drop_length, chain] at h2; rw [h, h2]
        · rw [h, h2]
      subst hop
      have hbb : (op == op) = true := by simp
      have hEz := Lib.hid (HE.out.below hB)
      have hZz := Lib.hid (HZ.out.below hB)
      clear hR hlt HS HC
      go_wp2_with (first
        | (go_at_call 34; ((with_reducible refine (KB.out _ hEz.out hZz.out).mono ?_); rintro e w3 ⟨rfl, hbel⟩; obtain ⟨hcc, hff⟩ := bcell hbel; have hsz := hbel.size; (try simp at hsz); have hF : Below w.heap.size w w3 := (by ((repeat' apply And.intro) <;> first | (simp [go_sem, *]; done) | omega | (repeat' (first | with_reducible exact Below.refl _ _ | with_reducible assumption | ((with_reducible refine Below.drew ?_)) | ((with_reducible refine below_drewN ?_ _)) | ((with_reducible refine Below.alloc ?_ ?_ _); rotate_left; focus (first | omega | (simp; done) | (simp; omega))) | ((with_reducible refine Below.setCell ?_ ?_ _); rotate_left; focus (first | omega | (simp; done) | (simp; omega))) | ((with_reducible refine Below.trans ?_ (Below.mono (by with_reducible assumption) ?_)); rotate_left; focus (first | omega | (simp; done) | (simp; omega))))))); go_split_ands; clear hcc hff hbel))
        | (go_at_call 29; ((with_reducible refine (KT.out _).mono ?_); rintro e w4 ⟨rfl, hbel⟩; obtain ⟨hcc, hff⟩ := bcell hbel; have hsz := hbel.size; (try simp at hsz); have hF : Below w.heap.size w w4 := (by ((repeat' apply And.intro) <;> first | (simp [go_sem, *]; done) | omega | (repeat' (first | with_reducible exact Below.refl _ _ | with_reducible assumption | ((with_reducible refine Below.drew ?_)) | ((with_reducible refine below_drewN ?_ _)) | ((with_reducible refine Below.alloc ?_ ?_ _); rotate_left; focus (first | omega | (simp; done) | (simp; omega))) | ((with_reducible refine Below.setCell ?_ ?_ _); rotate_left; focus (first | omega | (simp; done) | (simp; omega))) | ((with_reducible refine Below.trans ?_ (Below.mono (by with_reducible assumption) ?_)); rotate_left; focus (first | omega | (simp; done) | (simp; omega))))))); go_split_ands; clear hcc hff hbel)))
      (go_ret; refine ⟨?_, ?_⟩; (focus (exact rfl)); ((repeat' (first | with_reducible exact Below.refl _ _ | with_reducible assumption | ((with_reducible refine Below.drew ?_)) | ((with_reducible refine below_drewN ?_ _)) | ((with_reducible refine Below.alloc ?_ ?_ _); rotate_left; focus (first | omega | (simp; done) | (simp; omega))) | ((with_reducible refine Below.setCell ?_ ?_ _); rotate_left; focus (first | omega | (simp; done) | (simp; omega))) | ((with_reducible refine Below.trans ?_ (Below.mono (by with_reducible assumption) ?_)); rotate_left; focus (first | omega | (simp; done) | (simp; omega))))); done))
end Go.Proofs.Ytkbglhkhhoakgaa
