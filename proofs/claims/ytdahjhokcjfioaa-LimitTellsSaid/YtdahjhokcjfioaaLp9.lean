/- floodgateref31's Of, in memory. -/
import Derived.Test.YtdahjhokcjfioaaLp7
import Derived.Deep.Onto
namespace Go.Proofs.Ytdahjhokcjfioaa
set_option linter.unusedVariables false
set_option linter.unusedSimpArgs false
set_option maxRecDepth 100000
open Go.RowKit Fg Reg
attribute [local irreducible] Reg.wE

theorem rst_info : (Try.prog.info? 217).map (fun i => (i.zero, i.size, i.bytes)) = some (some (.agg #[.int .u64 0, .int .u64 0, .int .i64 0, .int .i64 0, .bool false]), 5, 40) := by kernel_rfl
theorem rst_parts : ∃ i, Try.prog.info? 217 = some i ∧ i.zero = some (.agg #[.int .u64 0, .int .u64 0, .int .i64 0, .int .i64 0, .bool false]) ∧ i.size = 5 ∧ i.bytes = 40 := by
  obtain ⟨i, hi, h⟩ := Option.map_eq_some_iff.1 rst_info
  simp only [Prod.mk.injEq] at h
  exact ⟨i, hi, h.1, h.2.1, h.2.2⟩
theorem rst_info5 : (Try.prog.info? 217).map (·.size) = some 5 := by kernel_rfl
theorem own_only {S : Nat → Prop} {w w' : World} {base : Nat} {e : TypeId} {size n : Nat} {v : Value} {xs : List Value} (h : w.ownsRow base e size v n xs) (ho : Only S w w') (hS : ∀ k, S k → k < base) : w'.ownsRow base e size v n xs := by
  refine ⟨h.1, ?_⟩
  rcases h.2 with h' | ⟨g, cap, cur, h1, h2, h3, h4⟩
  · exact .inl h'
  · refine .inr ⟨g, cap, cur, h1, h2, ?_, h4⟩
    have hlt : g < w.heap.size := by
      rcases Nat.lt_or_ge g w.heap.size with h | h
      · exact h
      · rw [Array.getElem?_eq_none h] at h3; cases h3
    exact (ho.block g hlt (fun e => by have := hS g e; omega)).trans h3
theorem own_bel {w w' : World} {base : Nat} {e : TypeId} {size n : Nat} {v : Value} {xs : List Value} (h : w.ownsRow base e size v n xs) (hb : Below w.heap.size w w') : w'.ownsRow base e size v n xs :=
  own_only (S := fun _ => False) h (Only.of_below hb) (fun _ h => h.elim)
theorem pcell {w : World} {zs : List Int} {es : List Ev} {B gl n cap : Nat} {t : TypeId} (h : w.ownsRow B t 1 (.slice (some ⟨gl, 0, none⟩) (n + 1) cap) (n + 1) ((List.range (n + 1)).map (fun j => Value.int .i64 (spsrun zs es j).p))) (j : Nat) (hj : j ≤ n) : w.cell? ⟨gl, j, none⟩ = some (.int .i64 (spsrun zs es j).p) := by
  rw [h.cellAt j (by omega), List.getElem?_map, List.getElem?_range (by omega)]
  rfl
theorem gsp_len (zs : List Int) (es : List Ev) (m K : Nat) : (gsp zs es m K).length ≤ m := by
  unfold gsp
  rw [List.length_map]
  have := List.length_filter_le (beg zs es) (List.range m)
  simpa using this
set_option maxHeartbeats 16000000 in
theorem rof_c (zs : List Int) (es : List Ev) (a a2 : Option Addr) (c c2 : Nat) (hn : es.length ≤ 100000) (hn2 : zs.length ≤ 100000) (w : World) (hE : EvsV w a es) (hZ : IntsV w a2 zs) :
    Calls Try.prog 115 #[.slice a es.length c, .slice a2 zs.length c2] w fun e w' => (∃ v, e = .returned v ∧ w'.ownsRow w.heap.size 217 5 v (spsrun zs es es.length).rows.length ((spsrun zs es es.length).rows.flatMap Sp.cells)) ∧ Below w.heap.size w w' := by
  obtain ⟨ir, RI0, RZ0, RZ1, RZ2⟩ := rst_parts
  have KL := Lib.hid (len_c zs es a a2 c c2 hn hn2 w hE hZ)
  have HE := Lib.hid hE
  have HR := Lib.hid (rows_gsp zs es es.length (Nat.le_refl _))
  have HG := Lib.hid (fun i => gsp_snoc zs es i es.length)
  have HGL := Lib.hid (fun i => gsp_len zs es i es.length)
  have EI := Lib.hid ev_info
  have RI := Lib.hid rst_info5
  have HP := Lib.hid (fun k => (spsrun_p zs es k).1)
  clear hE hZ
  go_enter Try.func115, Try.ntmps115
  go_wp2_with (go_at_call 158; (with_reducible refine (KL.out).mono ?_); rintro e w1 ⟨⟨vl, rfl, hL⟩, hb⟩; (obtain ⟨gl, capl, rfl⟩ : ∃ g cap, vl = Value.slice (some ⟨g, 0, none⟩) (es.length + 1) cap := (by rcases hL.2 with ⟨_, h⟩ | ⟨g, cap, cur, h, _⟩; (simp at h); exact ⟨g, cap, by simpa using h⟩)))
  have hgl := (hL.lt gl rfl).2
  have HL := Lib.hid (fun j hj => pcell hL j hj)
  have hsz := hb.size
  clear KL hL
  go_loopw [6, 16] (fun uo ii wr => ∃ (i : Nat) (vo : Value), i ≤ es.length ∧ ii = .int .i64 i ∧ vo = uo ∧ wr.ownsRow w1.heap.size 217 5 vo (gsp zs es i es.length).length ((gsp zs es i es.length).flatMap Sp.cells) ∧ Below w1.heap.size w1 wr) (fun _ ii _ => es.length - (intOf ii).toNat)
  case atStart => exact ⟨0, _, Nat.zero_le _, rfl, rfl, World.ownsRow_nil _ _ _ _, Below.refl _ _⟩
  case round =>
    obtain ⟨wq, hwq⟩ : ∃ x, x = wr := ⟨wr, rfl⟩
    subst hwq
    obtain ⟨i, vo, hi, rfl, rfl, hO, hB1⟩ := hrel
    have hs2 := hB1.size
    by_cases hlt : i < es.length
    · have hEr : EvsV wq a es := (HE.out.below hb).below hB1
      obtain ⟨b, o, rfl, hbb, hr⟩ := hEr i hlt
      have HEr := Lib.hid hEr
      have hgr : gl < wq.heap.size := by omega
      have HLr : RowKit.Hid (∀ j, j ≤ es.length → wq.cell? ⟨gl, j, none⟩ = some (.int .i64 (spsrun zs es j).p)) := Lib.hid (fun j hj => (hB1.cell (p := ⟨gl, j, none⟩) hgl).trans (HL.out j hj))
      have l0 := HLr.out i (by omega)
      have l1 := HLr.out (i + 1) (by omega)
      have W1 : IntKind.i64.wrap ((i : Int) + 1) = ((i + 1 : Nat) : Int) := by rw [IntKind.wrap_i64]; omega
      have hg := HG.out i
      unfold beg at hg
      have HT := Lib.hid (tmA_eq es i hlt)
      generalize es[i] = e at hr HT
      have HO := Lib.hid hO
      clear hEr hO
      by_cases h0 : (spsrun zs es i).p = 0
      · by_cases h1 : (spsrun zs es (i + 1)).p = 0
        · have HN : RowKit.Hid (gsp zs es (i + 1) es.length = gsp zs es i es.length) := Lib.hid (by rw [hg]; simp [h1])
          rw [h0] at l0
          rw [h1] at l1
          clear hg h0 h1
          go_wp2_with (first | (refine wpList_load_mid rfl 213 _ rfl b (o + i * 12) rfl _ _ hr Try.underlying213 rfl EI.out ?_) | (refine wpList_store_new rfl 213 _ _ rfl _ #[.int .i64 (e).op, .bool (e).inn, .bool (e).real, .int .u64 (e).tm, .int .u64 (e).dn, .int .i64 (e).cls, .int .u64 (e).id, .int .i64 (e).ln, .int .u16 (e).a, .int .u16 (e).b, .int .u16 (e).c, .int .u16 (e).d] rfl rfl EI.out rfl (all_oneCell_toArray e.one) ?_))
          go_roundw
          case rel => exact ⟨i + 1, _, by omega, by go_num, rfl, by rw [HN.out]; exact HO.out.alloc _, (by repeat' (first | with_reducible exact Below.refl _ _ | with_reducible assumption | ((with_reducible refine Below.drew ?_)) | ((with_reducible refine below_drewN ?_ _)) | ((with_reducible refine Below.alloc ?_ ?_ _); rotate_left; focus (first | omega | (simp; done) | (simp; omega))) | ((with_reducible refine Below.setCell ?_ ?_ _); rotate_left; focus (first | omega | (simp; done) | (simp; omega))) | ((with_reducible refine Below.trans ?_ (Below.mono (by with_reducible assumption) ?_)); rotate_left; focus (first | omega | (simp; done) | (simp; omega)))))⟩
          case measure => simp [intOf]; omega
        · have HN : RowKit.Hid (gsp zs es (i + 1) es.length = gsp zs es i es.length ++ [scan zs es i es.length]) := Lib.hid (by rw [hg, h0]; simp; omega)
          rw [h0] at l0
          have d1 : (((spsrun zs es (i + 1)).p : Int) == 0) = false := by simp; omega
          generalize (spsrun zs es (i + 1)).p = q at l1 d1
          clear hg h0 h1
          go_wp2_with (first | (refine wpList_load_mid rfl 213 _ rfl b (o + i * 12) rfl _ _ hr Try.underlying213 rfl EI.out ?_) | (refine wpList_store_new rfl 213 _ _ rfl _ #[.int .i64 (e).op, .bool (e).inn, .bool (e).real, .int .u64 (e).tm, .int .u64 (e).dn, .int .i64 (e).cls, .int .u64 (e).id, .int .i64 (e).ln, .int .u16 (e).a, .int .u16 (e).b, .int .u16 (e).c, .int .u16 (e).d] rfl rfl EI.out rfl (all_oneCell_toArray e.one) ?_) | (refine wpList_store_new rfl 217 _ _ rfl _ #[.int .u64 e.tm, .int .u64 0, .int .i64 i, .int .i64 0, .bool true] rfl rfl RI.out rfl (all_oneCell_toArray (Sp.one ⟨e.tm, 0, i, 0, true⟩)) ?_))
          have hA : ((wq.alloc (Obj.cells #[.int .i64 (e).op, .bool (e).inn, .bool (e).real, .int .u64 (e).tm, .int .u64 (e).dn, .int .i64 (e).cls, .int .u64 (e).id, .int .i64 (e).ln, .int .u16 (e).a, .int .u16 (e).b, .int .u16 (e).c, .int .u16 (e).d] 213))).cell? ⟨wq.heap.size, 3, none⟩ = some (.int .u64 e.tm) := by simp [go_sem]
          go_loopw [40] (fun kk wv => ∃ (k : Nat), k ≤ es.length ∧ kk = .int .i64 k ∧ (wv.cell? ⟨wq.heap.size + 1, 0, none⟩ = some (.int .u64 ((scan zs es i k).fr)) ∧ wv.cell? ⟨wq.heap.size + 1, 1, none⟩ = some (.int .u64 ((scan zs es i k).tt)) ∧ wv.cell? ⟨wq.heap.size + 1, 2, none⟩ = some (.int .i64 ((scan zs es i k).fi)) ∧ wv.cell? ⟨wq.heap.size + 1, 3, none⟩ = some (.int .i64 ((scan zs es i k).la)) ∧ wv.cell? ⟨wq.heap.size + 1, 4, none⟩ = some (.bool (scan zs es i k).op) ∧ wq.heap.size + 1 < wv.heap.size) ∧ (wv.frozen? ⟨wq.heap.size + 1, 0, none⟩ = false ∧ wv.frozen? ⟨wq.heap.size + 1, 1, none⟩ = false ∧ wv.frozen? ⟨wq.heap.size + 1, 2, none⟩ = false ∧ wv.frozen? ⟨wq.heap.size + 1, 3, none⟩ = false ∧ wv.frozen? ⟨wq.heap.size + 1, 4, none⟩ = false) ∧ Below (wq.heap.size + 1) (wq.alloc (Obj.cells #[.int .i64 (e).op, .bool (e).inn, .bool (e).real, .int .u64 (e).tm, .int .u64 (e).dn, .int .i64 (e).cls, .int .u64 (e).id, .int .i64 (e).ln, .int .u16 (e).a, .int .u16 (e).b, .int .u16 (e).c, .int .u16 (e).d] 213)) wv) (fun kk _ => es.length - (intOf kk).toNat)
          case atStart =>
            refine ⟨0, Nat.zero_le _, rfl, ?_, ?_, (by repeat' (first | with_reducible exact Below.refl _ _ | with_reducible assumption | ((with_reducible refine Below.drew ?_)) | ((with_reducible refine below_drewN ?_ _)) | ((with_reducible refine Below.alloc ?_ ?_ _); rotate_left; focus (first | omega | (simp; done) | (simp; omega))) | ((with_reducible refine Below.setCell ?_ ?_ _); rotate_left; focus (first | omega | (simp; done) | (simp; omega))) | ((with_reducible refine Below.trans ?_ (Below.mono (by with_reducible assumption) ?_)); rotate_left; focus (first | omega | (simp; done) | (simp; omega)))))⟩
            · rw [scan]; simp only [HT.out]; ((repeat' apply And.intro) <;> first | (simp [go_sem, *]; done) | omega | (repeat' (first | with_reducible exact Below.refl _ _ | with_reducible assumption | ((with_reducible refine Below.drew ?_)) | ((with_reducible refine below_drewN ?_ _)) | ((with_reducible refine Below.alloc ?_ ?_ _); rotate_left; focus (first | omega | (simp; done) | (simp; omega))) | ((with_reducible refine Below.setCell ?_ ?_ _); rotate_left; focus (first | omega | (simp; done) | (simp; omega))) | ((with_reducible refine Below.trans ?_ (Below.mono (by with_reducible assumption) ?_)); rotate_left; focus (first | omega | (simp; done) | (simp; omega))))))
            · ((repeat' apply And.intro) <;> first | (simp [go_sem, *]; done) | omega | (repeat' (first | with_reducible exact Below.refl _ _ | with_reducible assumption | ((with_reducible refine Below.drew ?_)) | ((with_reducible refine below_drewN ?_ _)) | ((with_reducible refine Below.alloc ?_ ?_ _); rotate_left; focus (first | omega | (simp; done) | (simp; omega))) | ((with_reducible refine Below.setCell ?_ ?_ _); rotate_left; focus (first | omega | (simp; done) | (simp; omega))) | ((with_reducible refine Below.trans ?_ (Below.mono (by with_reducible assumption) ?_)); rotate_left; focus (first | omega | (simp; done) | (simp; omega))))))
          case round =>
            obtain ⟨k, hk, rfl, hS, hF, hB3⟩ := hrel
            obtain ⟨wv, hwv⟩ : ∃ x, x = wr := ⟨wr, rfl⟩
            subst hwv
            have hs3 := hB3.size
            simp only [World.size_alloc] at hs3
            have hBv : Below w1.heap.size w1 wv := (show Below w1.heap.size w1 (wq.alloc (Obj.cells #[.int .i64 (e).op, .bool (e).inn, .bool (e).real, .int .u64 (e).tm, .int .u64 (e).dn, .int .i64 (e).cls, .int .u64 (e).id, .int .i64 (e).ln, .int .u16 (e).a, .int .u16 (e).b, .int .u16 (e).c, .int .u16 (e).d] 213)) from (by repeat' (first | with_reducible exact Below.refl _ _ | with_reducible assumption | ((with_reducible refine Below.drew ?_)) | ((with_reducible refine below_drewN ?_ _)) | ((with_reducible refine Below.alloc ?_ ?_ _); rotate_left; focus (first | omega | (simp; done) | (simp; omega))) | ((with_reducible refine Below.setCell ?_ ?_ _); rotate_left; focus (first | omega | (simp; done) | (simp; omega))) | ((with_reducible refine Below.trans ?_ (Below.mono (by with_reducible assumption) ?_)); rotate_left; focus (first | omega | (simp; done) | (simp; omega)))))).trans (hB3.mono (by omega))
            by_cases hk2 : k < es.length
            · have l2 := (hB3.cell (p := ⟨gl, k + 1, none⟩) (by simp; omega)).trans ((World.cell?_alloc_lt _ _ _ hgr).trans (HLr.out (k + 1) (by omega)))
              have c8 := (hB3.cell (p := ⟨wq.heap.size, 3, none⟩) (by simp)).trans hA
              obtain ⟨b', o', hbo, hb', hck⟩ := HEr.out k hk2
              cases hbo
              have c3 := (hB3.cell (p := ⟨b, o + k * 12 + 3, none⟩) (by simp; omega)).trans ((World.cell?_alloc_lt _ _ _ hb').trans (hck 3 _ rfl))
              have hid := scan_id zs es i k
              have hsc : scan zs es i (k + 1) = if i < k then scl zs es k (scan zs es i k) else scan zs es i k := rfl
              rw [HT.out] at hid
              unfold scl at hsc
              rw [tmA_eq es k hk2] at hsc
              have W2 : IntKind.i64.wrap ((k : Int) + 1) = ((k + 1 : Nat) : Int) := by rw [IntKind.wrap_i64]; omega
              have hbv : b < wv.heap.size := by omega
              have hgv : gl < wv.heap.size := by omega
              generalize es[k].tm = tk at hsc c3
              generalize scan zs es i k = x at hS hid hsc
              obtain ⟨fr, tt, fi, la, op⟩ := x
              obtain ⟨q1, q2⟩ := hid
              simp only at q1 q2
              subst q1
              have q3 := q2.symm
              clear q2
              subst q3
              simp only at hS hsc
              have HB3 := Lib.hid hB3
              have HBv := Lib.hid hBv
              clear hck hA hb' hBv
              by_cases hik : i < k
              · have d3 : decide (i < k) = true := by simp; omega
                rw [if_pos hik] at hsc
                cases op with
                | false =>
                  rw [if_neg (by simp)] at hsc
                  have HY := Lib.hid hsc
                  clear hsc
                  go_split_ands
                  go_wp2
                  go_roundw
                  case rel => exact ⟨k + 1, by omega, by go_num, by rw [HY.out]; ((repeat' apply And.intro) <;> first | (simp [go_sem, *]; done) | omega | (repeat' (first | with_reducible exact Below.refl _ _ | with_reducible assumption | ((with_reducible refine Below.drew ?_)) | ((with_reducible refine below_drewN ?_ _)) | ((with_reducible refine Below.alloc ?_ ?_ _); rotate_left; focus (first | omega | (simp; done) | (simp; omega))) | ((with_reducible refine Below.setCell ?_ ?_ _); rotate_left; focus (first | omega | (simp; done) | (simp; omega))) | ((with_reducible refine Below.trans ?_ (Below.mono (by with_reducible assumption) ?_)); rotate_left; focus (first | omega | (simp; done) | (simp; omega)))))), by ((repeat' apply And.intro) <;> first | (simp [go_sem, *]; done) | omega | (repeat' (first | with_reducible exact Below.refl _ _ | with_reducible assumption | ((with_reducible refine Below.drew ?_)) | ((with_reducible refine below_drewN ?_ _)) | ((with_reducible refine Below.alloc ?_ ?_ _); rotate_left; focus (first | omega | (simp; done) | (simp; omega))) | ((with_reducible refine Below.setCell ?_ ?_ _); rotate_left; focus (first | omega | (simp; done) | (simp; omega))) | ((with_reducible refine Below.trans ?_ (Below.mono (by with_reducible assumption) ?_)); rotate_left; focus (first | omega | (simp; done) | (simp; omega)))))), HB3.out⟩
                  case measure => simp [intOf]; omega
                | true =>
                  by_cases hp0 : (spsrun zs es (k + 1)).p = 0
                  · rw [if_pos ⟨rfl, hp0⟩] at hsc
                    rw [hp0] at l2
                    have HY := Lib.hid hsc
                    clear hsc hp0 HLr
                    go_split_ands
                    have hBB : Below (wq.heap.size + 1) (wq.alloc (Obj.cells #[.int .i64 (e).op, .bool (e).inn, .bool (e).real, .int .u64 (e).tm, .int .u64 (e).dn, .int .i64 (e).cls, .int .u64 (e).id, .int .i64 (e).ln, .int .u16 (e).a, .int .u16 (e).b, .int .u16 (e).c, .int .u16 (e).d] 213)) wv := HB3.out
                    go_wp2
                    obtain ⟨Cl, hCl⟩ : ∃ Cl : List Value → World → Prop, Cl = ((fun ps wz => (wz.cell? ⟨wq.heap.size, 3, none⟩ = some (.int .u64 e.tm)) ∧ (wz.cell? ⟨b, o + k * 12 + 3, none⟩ = some (.int .u64 tk) ∧ b < wz.heap.size) ∧ (match ps with | [] => (wz.cell? ⟨wq.heap.size + 1, 0, none⟩ = some (.int .u64 (e.tm)) ∧ wz.cell? ⟨wq.heap.size + 1, 1, none⟩ = some (.int .u64 (tt)) ∧ wz.cell? ⟨wq.heap.size + 1, 2, none⟩ = some (.int .i64 (i)) ∧ wz.cell? ⟨wq.heap.size + 1, 3, none⟩ = some (.int .i64 (la)) ∧ wz.cell? ⟨wq.heap.size + 1, 4, none⟩ = some (.bool true) ∧ wq.heap.size + 1 < wz.heap.size) | _ => (wz.cell? ⟨wq.heap.size + 1, 0, none⟩ = some (.int .u64 (e.tm)) ∧ wz.cell? ⟨wq.heap.size + 1, 1, none⟩ = some (.int .u64 (tk)) ∧ wz.cell? ⟨wq.heap.size + 1, 2, none⟩ = some (.int .i64 (i)) ∧ wz.cell? ⟨wq.heap.size + 1, 3, none⟩ = some (.int .i64 (k)) ∧ wz.cell? ⟨wq.heap.size + 1, 4, none⟩ = some (.bool false) ∧ wq.heap.size + 1 < wz.heap.size)) ∧ (wz.frozen? ⟨wq.heap.size + 1, 0, none⟩ = false ∧ wz.frozen? ⟨wq.heap.size + 1, 1, none⟩ = false ∧ wz.frozen? ⟨wq.heap.size + 1, 2, none⟩ = false ∧ wz.frozen? ⟨wq.heap.size + 1, 3, none⟩ = false ∧ wz.frozen? ⟨wq.heap.size + 1, 4, none⟩ = false) ∧ Below (wq.heap.size + 1) (wq.alloc (Obj.cells #[.int .i64 (e).op, .bool (e).inn, .bool (e).real, .int .u64 (e).tm, .int .u64 (e).dn, .int .i64 (e).cls, .int .u64 (e).id, .int .i64 (e).ln, .int .u16 (e).a, .int .u16 (e).b, .int .u16 (e).c, .int .u16 (e).d] 213)) wz)) := ⟨_, rfl⟩; have HCl := Lib.hid hCl; clear hCl; refine wp_region_eff [10] Cl (by kernel_rfl) (by kernel_rfl) (by rw [HCl.out]; (try simp only [List.nil_append, List.cons_append]); (try dsimp only); ((repeat' apply And.intro) <;> first | (simp [go_sem, *]; done) | omega | (repeat' (first | with_reducible exact Below.refl _ _ | with_reducible assumption | ((with_reducible refine Below.drew ?_)) | ((with_reducible refine below_drewN ?_ _)) | ((with_reducible refine Below.alloc ?_ ?_ _); rotate_left; focus (first | omega | (simp; done) | (simp; omega))) | ((with_reducible refine Below.setCell ?_ ?_ _); rotate_left; focus (first | omega | (simp; done) | (simp; omega))) | ((with_reducible refine Below.trans ?_ (Below.mono (by with_reducible assumption) ?_)); rotate_left; focus (first | omega | (simp; done) | (simp; omega))))))) ?_
                    (repeat (first | (refine wE_skip (by rfl) ?_; simp only [Act.put, Nat.reduceAdd, List.setIfInBounds_toArray, List.set_cons_zero, List.set_cons_succ, List.nil_append, List.cons_append]) | (refine wE_open (by rfl) (by rfl) ?_; apply Exists.intro; refine ⟨fun vs wq hw => ?_, ?_⟩; (focus (rw [HCl.out] at hw; (try simp only [List.nil_append, List.cons_append] at hw); (try dsimp only at hw); go_split_ands; go_simp <;> first | with_reducible exact (rfl : Value.bool false = _) | with_reducible exact (rfl : Value.bool true = _) | ((try go_bits) <;> exact rfl))); simp only [Act.put, Nat.reduceAdd, List.setIfInBounds_toArray, List.set_cons_zero, List.set_cons_succ, List.nil_append, List.cons_append]) | (refine wE_seal (by rfl) (by rfl) (by kernel_rfl) ?_; apply Exists.intro; refine ⟨fun wq hw => ?_, ?_⟩; (focus (rw [HCl.out] at hw; (try simp only [List.nil_append, List.cons_append] at hw); (try dsimp only at hw); go_split_ands; go_simp <;> (try go_bits) <;> exact rfl)); simp only [Act.put, Nat.reduceAdd, List.setIfInBounds_toArray, List.set_cons_zero, List.set_cons_succ, List.nil_append, List.cons_append]) | (refine wE_seal (by rfl) (by rfl) (by kernel_rfl) ?_; apply Exists.intro; refine ⟨fun wq hw => ?_, ?_⟩; (focus (rw [HCl.out] at hw; (try simp only [List.nil_append, List.cons_append] at hw); (try dsimp only at hw); go_split_ands; go_simp; fail)); simp only [Act.put, Nat.reduceAdd, List.setIfInBounds_toArray, List.set_cons_zero, List.set_cons_succ, List.nil_append, List.cons_append]) | (refine wE_eff (by rfl) (by rfl) (fun wq hw => ?_) (fun u hu => ?_); (focus (rw [HCl.out] at hw; (try simp only [List.nil_append, List.cons_append] at hw); (try dsimp only at hw); go_split_ands; go_simp; rw [HCl.out]; (try simp only [List.nil_append, List.cons_append]); (try dsimp only); skip; ((repeat' apply And.intro) <;> first | (simp [go_sem, *]; done) | omega | (repeat' (first | with_reducible exact Below.refl _ _ | with_reducible assumption | ((with_reducible refine Below.drew ?_)) | ((with_reducible refine below_drewN ?_ _)) | ((with_reducible refine Below.alloc ?_ ?_ _); rotate_left; focus (first | omega | (simp; done) | (simp; omega))) | ((with_reducible refine Below.setCell ?_ ?_ _); rotate_left; focus (first | omega | (simp; done) | (simp; omega))) | ((with_reducible refine Below.trans ?_ (Below.mono (by with_reducible assumption) ?_)); rotate_left; focus (first | omega | (simp; done) | (simp; omega)))))))); clear hu; simp only [Act.put, Nat.reduceAdd, List.setIfInBounds_toArray, List.set_cons_zero, List.set_cons_succ, List.nil_append, List.cons_append])))
                    refine wE_nil ?_; intro w' hw; rw [HCl.out] at hw; (try simp only [List.nil_append, List.cons_append] at hw); (try dsimp only at hw); clear HCl
                    go_split_ands
                    go_wp2
                    go_roundw
                    case rel => exact ⟨k + 1, by omega, by go_num, by rw [HY.out]; ((repeat' apply And.intro) <;> first | (simp [go_sem, *]; done) | omega | (repeat' (first | with_reducible exact Below.refl _ _ | with_reducible assumption | ((with_reducible refine Below.drew ?_)) | ((with_reducible refine below_drewN ?_ _)) | ((with_reducible refine Below.alloc ?_ ?_ _); rotate_left; focus (first | omega | (simp; done) | (simp; omega))) | ((with_reducible refine Below.setCell ?_ ?_ _); rotate_left; focus (first | omega | (simp; done) | (simp; omega))) | ((with_reducible refine Below.trans ?_ (Below.mono (by with_reducible assumption) ?_)); rotate_left; focus (first | omega | (simp; done) | (simp; omega)))))), by ((repeat' apply And.intro) <;> first | (simp [go_sem, *]; done) | omega | (repeat' (first | with_reducible exact Below.refl _ _ | with_reducible assumption | ((with_reducible refine Below.drew ?_)) | ((with_reducible refine below_drewN ?_ _)) | ((with_reducible refine Below.alloc ?_ ?_ _); rotate_left; focus (first | omega | (simp; done) | (simp; omega))) | ((with_reducible refine Below.setCell ?_ ?_ _); rotate_left; focus (first | omega | (simp; done) | (simp; omega))) | ((with_reducible refine Below.trans ?_ (Below.mono (by with_reducible assumption) ?_)); rotate_left; focus (first | omega | (simp; done) | (simp; omega)))))), by assumption⟩
                    case measure => simp [intOf]; omega
                  · rw [if_neg (fun h => hp0 h.2)] at hsc
                    have d4 : (((spsrun zs es (k + 1)).p : Int) == 0) = false := by simp; omega
                    have d5 : (((spsrun zs es (k + 1)).p) == 0) = false := by simp; omega
                    have HY := Lib.hid hsc
                    generalize (spsrun zs es (k + 1)).p = pk at l2 d4 d5
                    clear hsc hp0
                    go_split_ands
                    go_wp2
                    go_roundw
                    case rel => exact ⟨k + 1, by omega, by go_num, by rw [HY.out]; ((repeat' apply And.intro) <;> first | (simp [go_sem, *]; done) | omega | (repeat' (first | with_reducible exact Below.refl _ _ | with_reducible assumption | ((with_reducible refine Below.drew ?_)) | ((with_reducible refine below_drewN ?_ _)) | ((with_reducible refine Below.alloc ?_ ?_ _); rotate_left; focus (first | omega | (simp; done) | (simp; omega))) | ((with_reducible refine Below.setCell ?_ ?_ _); rotate_left; focus (first | omega | (simp; done) | (simp; omega))) | ((with_reducible refine Below.trans ?_ (Below.mono (by with_reducible assumption) ?_)); rotate_left; focus (first | omega | (simp; done) | (simp; omega)))))), by ((repeat' apply And.intro) <;> first | (simp [go_sem, *]; done) | omega | (repeat' (first | with_reducible exact Below.refl _ _ | with_reducible assumption | ((with_reducible refine Below.drew ?_)) | ((with_reducible refine below_drewN ?_ _)) | ((with_reducible refine Below.alloc ?_ ?_ _); rotate_left; focus (first | omega | (simp; done) | (simp; omega))) | ((with_reducible refine Below.setCell ?_ ?_ _); rotate_left; focus (first | omega | (simp; done) | (simp; omega))) | ((with_reducible refine Below.trans ?_ (Below.mono (by with_reducible assumption) ?_)); rotate_left; focus (first | omega | (simp; done) | (simp; omega)))))), HB3.out⟩
                    case measure => simp [intOf]; omega
              · have d3 : decide (i < k) = false := by simp; omega
                rw [if_neg hik] at hsc
                have HY := Lib.hid hsc
                clear hsc
                go_split_ands
                go_wp2
                go_roundw
                case rel => exact ⟨k + 1, by omega, by go_num, by rw [HY.out]; ((repeat' apply And.intro) <;> first | (simp [go_sem, *]; done) | omega | (repeat' (first | with_reducible exact Below.refl _ _ | with_reducible assumption | ((with_reducible refine Below.drew ?_)) | ((with_reducible refine below_drewN ?_ _)) | ((with_reducible refine Below.alloc ?_ ?_ _); rotate_left; focus (first | omega | (simp; done) | (simp; omega))) | ((with_reducible refine Below.setCell ?_ ?_ _); rotate_left; focus (first | omega | (simp; done) | (simp; omega))) | ((with_reducible refine Below.trans ?_ (Below.mono (by with_reducible assumption) ?_)); rotate_left; focus (first | omega | (simp; done) | (simp; omega)))))), by ((repeat' apply And.intro) <;> first | (simp [go_sem, *]; done) | omega | (repeat' (first | with_reducible exact Below.refl _ _ | with_reducible assumption | ((with_reducible refine Below.drew ?_)) | ((with_reducible refine below_drewN ?_ _)) | ((with_reducible refine Below.alloc ?_ ?_ _); rotate_left; focus (first | omega | (simp; done) | (simp; omega))) | ((with_reducible refine Below.setCell ?_ ?_ _); rotate_left; focus (first | omega | (simp; done) | (simp; omega))) | ((with_reducible refine Below.trans ?_ (Below.mono (by with_reducible assumption) ?_)); rotate_left; focus (first | omega | (simp; done) | (simp; omega)))))), HB3.out⟩
                case measure => simp [intOf]; omega
            · obtain rfl : k = es.length := by omega
              have HOv := Lib.hid (fun ob => (own_bel (HO.out.alloc _) (by simpa using hB3) : wv.ownsRow _ _ _ _ _ _).alloc ob)
              have hgl2 := HGL.out i
              have HBv := Lib.hid hBv
              generalize scan zs es i es.length = x at hS HN
              obtain ⟨fr, tt, fi, la, op⟩ := x
              clear hk2 hB3 hBv hA
              simp only at hS
              go_split_ands
              go_wp2_with (at_builtin; refine wpList_append_own _ rfl _ _ 214 rfl w1.heap.size 217 ir (.agg #[.int .u64 0, .int .u64 0, .int .i64 0, .int .i64 0, .bool false]) 5 40 Try.underlying214 RI0 RZ0 RZ1 RZ2 rfl (by decide) vo ((gsp zs es i es.length).length) _ rfl (HOv.out _) ⟨_, 0, none⟩ 1 1 (Sp.cells ⟨fr, tt, fi, la, op⟩) rfl rfl ?c1 ?c2 ?c3 ?c4 ?c5 ?_)
              (case c1 => (intro j u hu; unfold Sp.cells at hu; rcases j with _ | _ | _ | _ | _ | j <;> simp at hu <;> (try subst hu) <;> simp [Addr.add, go_sem])); (case c2 => (intro u hu; simp [Sp.cells] at hu; rcases hu with rfl | rfl | rfl | rfl | rfl <;> rfl)); (case c3 => (unfold maxLen; omega)); (case c4 => omega); (case c5 => (simp; omega))
              intro v' w5 hown' hgrow _
              go_wp2
              go_roundw
              case rel =>
                refine ⟨i + 1, _, by omega, by go_num, rfl, ?_, ?_⟩
                · rw [HN.out]; simpa [Sp.cells] using hown'
                · exact below_grown (HBv.out.alloc (by omega) _) hgrow (by simp; omega) (own_blk HO.out)
              case measure => simp [intOf]; omega
      · have HN : RowKit.Hid (gsp zs es (i + 1) es.length = gsp zs es i es.length) := Lib.hid (by rw [hg]; simp [h0])
        have d1 : decide (0 < ((spsrun zs es i).p : Int)) = true := by simp; omega
        have d2 : decide (0 < ((spsrun zs es i).p)) = true := by simp; omega
        generalize (spsrun zs es i).p = p at l0 d1 d2
        clear hg h0
        go_wp2_with (first | (refine wpList_load_mid rfl 213 _ rfl b (o + i * 12) rfl _ _ hr Try.underlying213 rfl EI.out ?_) | (refine wpList_store_new rfl 213 _ _ rfl _ #[.int .i64 (e).op, .bool (e).inn, .bool (e).real, .int .u64 (e).tm, .int .u64 (e).dn, .int .i64 (e).cls, .int .u64 (e).id, .int .i64 (e).ln, .int .u16 (e).a, .int .u16 (e).b, .int .u16 (e).c, .int .u16 (e).d] rfl rfl EI.out rfl (all_oneCell_toArray e.one) ?_))
        go_roundw
        case rel => exact ⟨i + 1, _, by omega, by go_num, rfl, by rw [HN.out]; exact HO.out.alloc _, (by repeat' (first | with_reducible exact Below.refl _ _ | with_reducible assumption | ((with_reducible refine Below.drew ?_)) | ((with_reducible refine below_drewN ?_ _)) | ((with_reducible refine Below.alloc ?_ ?_ _); rotate_left; focus (first | omega | (simp; done) | (simp; omega))) | ((with_reducible refine Below.setCell ?_ ?_ _); rotate_left; focus (first | omega | (simp; done) | (simp; omega))) | ((with_reducible refine Below.trans ?_ (Below.mono (by with_reducible assumption) ?_)); rotate_left; focus (first | omega | (simp; done) | (simp; omega)))))⟩
        case measure => simp [intOf]; omega
    · obtain rfl : i = es.length := by omega
      rw [← HR.out] at hO
      clear hlt HE HR HG HGL
      go_wp2
      go_ret
      exact ⟨⟨_, rfl, hO.mono hb.size⟩, hb.trans (hB1.mono hb.size)⟩
end Go.Proofs.Ytdahjhokcjfioaa
