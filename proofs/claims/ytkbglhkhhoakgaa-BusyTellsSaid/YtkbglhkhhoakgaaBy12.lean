/- BusyTells. -/
import Derived.Test.YtkbglhkhhoakgaaBy8
import Derived.Test.YtkbglhkhhoakgaaBy11
namespace Go.Proofs.Ytkbglhkhhoakgaa
set_option linter.unusedVariables false
set_option linter.unusedSimpArgs false
set_option maxRecDepth 100000
open Go.RowKit Fg Reg
attribute [local irreducible] Reg.wE Reg.wN

theorem rstv_c (es : List Ev) (a : Option Addr) (c : Nat) (hn : es.length ≤ 100000) (w : World) (hE : EvsV w a es) : Calls Try.prog 37 #[.slice a es.length c] w fun ee w' => (∃ ao cap, ee = .returned (.slice ao (brun es es.length).st.length cap) ∧ StV w' ao (brun es es.length).st) ∧ Below w.heap.size w w' :=
  (rst_c es a c hn w hE).mono fun e w' ⟨⟨v, he, ho⟩, hb⟩ => by
    obtain ⟨ao, cap, rfl, hs⟩ := stv_of ho
    exact ⟨⟨ao, cap, he, hs⟩, hb⟩
theorem rtt_info2 : (Try.prog.info? 79).map (·.size) = some 2 := by kernel_rfl
set_option maxHeartbeats 16000000 in
theorem busyTells_core (es : List Ev) (a : Option Addr) (c : Nat) (hn : es.length ≤ 150) (w : World) (hE : EvsV w a es) : Calls Try.prog 10 #[.slice a es.length c] w fun ee w' => ee = .returned (.bool true) ∧ Below w.heap.size w w' := by
  have KS := Lib.hid (fun z hz => bstv_c es a c (by omega) z hz)
  have KR := Lib.hid (fun z hz => rstv_c es a c (by omega) z hz)
  have KN := Lib.hid (fun z hz => snd_c es a c (by omega) z hz)
  have KW := Lib.hid (fun z hz => bwk_c es a c (by omega) z hz)
  have KRW := Lib.hid (fun z hz => rwov_c es a c (by omega) z hz)
  have KU := Lib.hid (fun z hz => bun_c es a c (by omega) z hz)
  have KRU := Lib.hid (fun z hz => runt_c es a c es.length (by omega) (Nat.le_refl _) z hz)
  have KL := Lib.hid (fun z hz => blt_c es a c (by omega) z hz)
  have KRL := Lib.hid (fun n (h : n < es.length) z hz => rla_c es a c n (by omega) h z hz)
  have KT := Lib.hid three_c
  have HE := Lib.hid hE
  have hl := (brun_le es es.length).2
  have RI := Lib.hid rtt_info2
  have d1 : decide (150 < (es.length : Int)) = false := by simp; omega
  have hll : (es.length : Int) < (es.length : Int) + 1 := by omega
  clear hE
  generalize (brun es es.length).st = st at KS KR KN hl
  generalize (brun es es.length).un = un at KU KRU
  go_enter Try.func10, Try.ntmps10
  go_wp2_with (first
    | (go_at_call 36; (with_reducible refine (KS.out _ HE.out).mono ?_); rintro e w1 ⟨⟨ao, cap, rfl, hS⟩, hb⟩)
    | (go_at_call 37; (with_reducible refine (KR.out _ (HE.out.below hb)).mono ?_); rintro e w2 ⟨⟨ar, capr, rfl, hS2⟩, hb2⟩; replace hS := hS.below hb2; (have hb' := hb.trans (hb2.mono hb.size)); clear hb hb2))
  have HS := Lib.hid hS
  have HS2 := Lib.hid hS2
  have hsz := hb'.size
  clear KS KR hS hS2
  go_loopw [5, 26] (fun s ii wr => ∃ (k : Nat), k ≤ st.length ∧ ii = .int .i64 k ∧ s = .int .u64 (ssum (st.take k)) ∧ Below w2.heap.size w2 wr) (fun _ ii _ => st.length - (intOf ii).toNat)
  case atStart => exact ⟨0, Nat.zero_le _, rfl, rfl, Below.refl _ _⟩
  case round =>
    obtain ⟨k, hk, rfl, rfl, hB1⟩ := hrel
    have hs2 := hB1.size
    by_cases hlt : k < st.length
    · obtain ⟨g, rfl, hg, hr⟩ := (HS.out.below hB1) k hlt
      obtain ⟨g2, rfl, hg2, hr2⟩ := (HS2.out.below hB1) k hlt
      have hs := ssum_succ st k hlt
      generalize st[k] = x at hr hr2 hs
      obtain ⟨fr, tt⟩ := x
      simp only at hs
      have E := eqStr fr tt
      have c0 := hr 0 _ rfl
      have c1 := hr 1 _ rfl
      rw [Nat.add_zero] at c0
      have W1 : IntKind.u64.wrap (IntKind.u64.wrap (ssum (st.take k) + tt) - fr) = (ssum (st.take k) + tt - fr) % 18446744073709551616 := by rw [wrap_u64, wrap_u64]; omega
      obtain ⟨d9, hd9⟩ : ∃ d9, decide (fr < tt) = d9 := ⟨_, rfl⟩
      have hs3 : ssum (st.take (k + 1)) = if d9 = true then (ssum (st.take k) + tt - fr) % 18446744073709551616 else ssum (st.take k) := by rw [hs, ← hd9]; simp
      have HN := Lib.hid hs3
      clear hr hs hs3
      go_wp2_with (first | (refine wpList_load_mid rfl 79 _ rfl g2 (k * 2) rfl _ _ hr2 Try.underlying79 rfl RI.out ?_) | (refine wpList_store_new rfl 79 _ _ rfl _ #[.int .u64 fr, .int .u64 tt] rfl rfl RI.out rfl (all_oneCell_toArray (Str.one ⟨fr, tt⟩)) ?_))
      clear hr2
      obtain ⟨Cl, hCl⟩ : ∃ Cl : List Value → World → Prop, Cl = ((fun ps wz => (wz.cell? ⟨wr.heap.size, 0, none⟩ = some (.int .u64 fr) ∧ wz.cell? ⟨wr.heap.size, 1, none⟩ = some (.int .u64 tt) ∧ wr.heap.size < wz.heap.size) ∧ (wz.cell? ⟨g, k * 2, none⟩ = some (.int .u64 fr) ∧ wz.cell? ⟨g, k * 2 + 1, none⟩ = some (.int .u64 tt) ∧ g < wz.heap.size) ∧ Below w2.heap.size w2 wz)) := ⟨_, rfl⟩; have HCl := Lib.hid hCl; clear hCl; refine wp_region_eff [] Cl (by kernel_rfl) (by kernel_rfl) (by rw [HCl.out]; (try simp only [List.nil_append, List.cons_append]); (try dsimp only); ((repeat' apply And.intro) <;> first | (simp [go_sem, *]; done) | omega | (repeat' (first | with_reducible exact Below.refl _ _ | with_reducible assumption | ((with_reducible refine Below.drew ?_)) | ((with_reducible refine below_drewN ?_ _)) | ((with_reducible refine Below.alloc ?_ ?_ _); rotate_left; focus (first | omega | (simp; done) | (simp; omega))) | ((with_reducible refine Below.setCell ?_ ?_ _); rotate_left; focus (first | omega | (simp; done) | (simp; omega))) | ((with_reducible refine Below.trans ?_ (Below.mono (by with_reducible assumption) ?_)); rotate_left; focus (first | omega | (simp; done) | (simp; omega))))))) ?_
      (repeat (first | (refine wE_skip (by rfl) ?_; simp only [Act.put, Nat.reduceAdd, List.setIfInBounds_toArray, List.set_cons_zero, List.set_cons_succ, List.nil_append, List.cons_append]) | (refine wE_open (by rfl) (by rfl) ?_; apply Exists.intro; refine ⟨fun vs wq hw => ?_, ?_⟩; (focus (rw [HCl.out] at hw; (try simp only [List.nil_append, List.cons_append] at hw); (try dsimp only at hw); go_split_ands; go_simp <;> first | with_reducible exact (rfl : Value.bool false = _) | with_reducible exact (rfl : Value.bool true = _) | ((try go_bits) <;> exact rfl))); simp only [Act.put, Nat.reduceAdd, List.setIfInBounds_toArray, List.set_cons_zero, List.set_cons_succ, List.nil_append, List.cons_append]) | (refine wE_seal (by rfl) (by rfl) (by kernel_rfl) ?_; apply Exists.intro; refine ⟨fun wq hw => ?_, ?_⟩; (focus (rw [HCl.out] at hw; (try simp only [List.nil_append, List.cons_append] at hw); (try dsimp only at hw); go_split_ands; go_simp <;> (try go_bits) <;> exact rfl)); simp only [Act.put, Nat.reduceAdd, List.setIfInBounds_toArray, List.set_cons_zero, List.set_cons_succ, List.nil_append, List.cons_append]) | (refine wE_seal (by rfl) (by rfl) (by kernel_rfl) ?_; apply Exists.intro; refine ⟨fun wq hw => ?_, ?_⟩; (focus (rw [HCl.out] at hw; (try simp only [List.nil_append, List.cons_append] at hw); (try dsimp only at hw); go_split_ands; go_simp; fail)); simp only [Act.put, Nat.reduceAdd, List.setIfInBounds_toArray, List.set_cons_zero, List.set_cons_succ, List.nil_append, List.cons_append]) | (refine wE_eff (by rfl) (by rfl) (fun wq hw => ?_) (fun u hu => ?_); (focus (rw [HCl.out] at hw; (try simp only [List.nil_append, List.cons_append] at hw); (try dsimp only at hw); go_split_ands; go_simp; rw [HCl.out]; (try simp only [List.nil_append, List.cons_append]); (try dsimp only); skip; ((repeat' apply And.intro) <;> first | (simp [go_sem, *]; done) | omega | (repeat' (first | with_reducible exact Below.refl _ _ | with_reducible assumption | ((with_reducible refine Below.drew ?_)) | ((with_reducible refine below_drewN ?_ _)) | ((with_reducible refine Below.alloc ?_ ?_ _); rotate_left; focus (first | omega | (simp; done) | (simp; omega))) | ((with_reducible refine Below.setCell ?_ ?_ _); rotate_left; focus (first | omega | (simp; done) | (simp; omega))) | ((with_reducible refine Below.trans ?_ (Below.mono (by with_reducible assumption) ?_)); rotate_left; focus (first | omega | (simp; done) | (simp; omega)))))))); clear hu; simp only [Act.put, Nat.reduceAdd, List.setIfInBounds_toArray, List.set_cons_zero, List.set_cons_succ, List.nil_append, List.cons_append])))
      refine wE_nil ?_; intro w' hw; rw [HCl.out] at hw; (try simp only [List.nil_append, List.cons_append] at hw); (try dsimp only at hw); clear HCl
      go_split_ands
      cases d9 with
      | true =>
        go_wp2
        go_roundw
        case rel => exact ⟨k + 1, by omega, by go_num, by rw [HN.out]; rfl, by assumption⟩
        case measure => simp [intOf]; omega
      | false =>
        go_wp2
        go_roundw
        case rel => exact ⟨k + 1, by omega, by go_num, by rw [HN.out]; rfl, by assumption⟩
        case measure => simp [intOf]; omega
    · obtain rfl : k = st.length := by omega
      rw [List.take_length]
      have hbw := hb'.trans (hB1.mono hsz)
      clear hlt HS HS2 hb' hB1 hsz hs2
      go_wp2_with (first
        | (go_at_call 38; ((with_reducible refine (KN.out _ (HE.out.below hbw)).mono ?_); rintro e w3 ⟨rfl, hb9⟩; (have hbw' := hbw.trans (hb9.mono hbw.size)); clear hbw hb9; have hbw := hbw'; clear hbw'))
        | (go_at_call 39; ((with_reducible refine (KW.out _ (HE.out.below hbw)).mono ?_); rintro e w4 ⟨rfl, hb9⟩; (have hbw' := hbw.trans (hb9.mono hbw.size)); clear hbw hb9; have hbw := hbw'; clear hbw'))
        | (go_at_call 40; (with_reducible refine (KRW.out _ (HE.out.below hbw)).mono ?_); rintro e w5 ⟨⟨gl, capl, rfl, hgl, hW⟩, hb9⟩; (have hw9 := hW es.length (Nat.le_refl _)); (have hbw' := hbw.trans (hb9.mono hbw.size)); clear hW hbw hb9; have hbw := hbw'; clear hbw')
        | (go_at_call 41; ((with_reducible refine (KU.out _ (HE.out.below hbw)).mono ?_); rintro e w6 ⟨rfl, hb9⟩; (have hbw' := hbw.trans (hb9.mono hbw.size)); clear hbw hb9; have hbw := hbw'; clear hbw'))
        | (go_at_call 42; ((with_reducible refine (KRU.out _ (HE.out.below hbw)).mono ?_); rintro e w7 ⟨rfl, hb9⟩; (have hbw' := hbw.trans (hb9.mono hbw.size)); clear hbw hb9; have hbw := hbw'; clear hbw'))
        | (go_at_call 43; (with_reducible refine (KL.out _ (HE.out.below hbw)).mono ?_); rintro e w8 ⟨⟨li, lb, rfl, hLA⟩, hb9⟩; (have HLA := Lib.hid hLA); (have hbw' := hbw.trans (hb9.mono hbw.size)); clear hLA hbw hb9; have hbw := hbw'; clear hbw'))
      have HBW := Lib.hid hbw
      clear hbw
      go_loopw [85] (fun ii wr => ∃ (k : Nat), k ≤ es.length ∧ ii = .int .i64 k ∧ (∀ j (h : j < es.length), j < k → blate (brun es j) es[j] = false) ∧ Below w.heap.size w wr) (fun ii _ => es.length - (intOf ii).toNat)
      case atStart => exact ⟨0, Nat.zero_le _, rfl, fun j h hj => absurd hj (Nat.not_lt_zero _), HBW.out⟩
      case round =>
        obtain ⟨k, hk, rfl, hno, hbw⟩ := hrel
        clear HBW
        by_cases hlt : k < es.length
        · have KX := KRL.out k hlt
          obtain ⟨bl, hbl⟩ : ∃ bl, blate (brun es k) es[k] = bl := ⟨_, rfl⟩
          rw [hbl] at KX
          have KX2 := Lib.hid KX
          cases bl with
          | true =>
            obtain ⟨rfl, rfl⟩ : lb = true ∧ li = k := by
              rcases HLA.out with ⟨h1, k', hk', h2, ht, hb'⟩ | ⟨_, _, hf⟩
              · refine ⟨h1, ?_⟩
                have : k' = k := by
                  rcases Nat.lt_trichotomy k' k with h | h | h
                  · rw [hno k' hk' h] at ht; cases ht
                  · exact h
                  · rw [hb' k hlt h] at hbl; cases hbl
                rw [h2, this]
              · rw [hf k hlt] at hbl; cases hbl
            clear hno KX hbl
            go_wp2_with (first
              | (go_at_call 44; ((with_reducible refine (KX2.out _ (HE.out.below hbw)).mono ?_); rintro e w3 ⟨rfl, hb9⟩; (have hbw' := hbw.trans (hb9.mono hbw.size)); clear hbw hb9; have hbw := hbw'; clear hbw'))
              | (go_at_call 35; ((with_reducible refine (KT.out _).mono ?_); rintro e w4 ⟨rfl, hb9⟩; (have hbw' := hbw.trans (hb9.mono hbw.size)); clear hbw hb9; have hbw := hbw'; clear hbw')))
            go_ret
            exact ⟨rfl, hbw⟩
          | false =>
            have hstep : ∀ j (h : j < es.length), j < k + 1 → blate (brun es j) es[j] = false := fun j h hj => by
              by_cases e : j < k
              · exact hno j h e
              · obtain rfl : j = k := by omega
                exact hbl
            have HST := Lib.hid hstep
            clear hno hstep KX hbl
            go_wp2_with (go_at_call 44; ((with_reducible refine (KX2.out _ (HE.out.below hbw)).mono ?_); rintro e w3 ⟨rfl, hb9⟩; (have hbw' := hbw.trans (hb9.mono hbw.size)); clear hbw hb9; have hbw := hbw'; clear hbw'))
            go_roundw
            case rel => exact ⟨k + 1, by omega, by go_num, HST.out, hbw⟩
            case measure => simp [intOf]; omega
        · obtain rfl : k = es.length := by omega
          obtain ⟨rfl, rfl⟩ : lb = false ∧ li = 0 := by
            rcases HLA.out with ⟨_, k', hk', _, ht, _⟩ | ⟨h1, h2, _⟩
            · rw [hno k' hk' hk'] at ht; cases ht
            · exact ⟨h1, h2⟩
          clear hno hlt
          go_wp2_with (go_at_call 35; ((with_reducible refine (KT.out _).mono ?_); rintro e w4 ⟨rfl, hb9⟩; (have hbw' := hbw.trans (hb9.mono hbw.size)); clear hbw hb9; have hbw := hbw'; clear hbw'))
          go_ret
          exact ⟨rfl, hbw⟩
theorem busyTells_long (a : Option Addr) (n c : Nat) (h : 150 < n) (w : World) : Calls Try.prog 10 #[.slice a n c] w fun ee w' => ee = .returned (.bool true) ∧ Below w.heap.size w w' := by
  have KT := Lib.hid three_c
  have d1 : decide (150 < (n : Int)) = true := by simp; omega
  go_enter Try.func10, Try.ntmps10
  go_wp2_with (go_at_call 35; ((with_reducible refine (KT.out _).mono ?_); rintro e w4 ⟨rfl, hbel⟩; obtain ⟨hcc, hff⟩ := bcell hbel; have hsz := hbel.size; (try simp at hsz); have hF : Below w.heap.size w w4 := (by ((repeat' apply And.intro) <;> first | (simp [go_sem, *]; done) | omega | (repeat' (first | with_reducible exact Below.refl _ _ | with_reducible assumption | ((with_reducible refine Below.drew ?_)) | ((with_reducible refine below_drewN ?_ _)) | ((with_reducible refine Below.alloc ?_ ?_ _); rotate_left; focus (first | omega | (simp; done) | (simp; omega))) | ((with_reducible refine Below.setCell ?_ ?_ _); rotate_left; focus (first | omega | (simp; done) | (simp; omega))) | ((with_reducible refine Below.trans ?_ (Below.mono (by with_reducible assumption) ?_)); rotate_left; focus (first | omega | (simp; done) | (simp; omega))))))); go_split_ands; clear hcc hff hbel))
  (go_ret; refine ⟨?_, ?_⟩; (focus (exact rfl)); ((repeat' (first | with_reducible exact Below.refl _ _ | with_reducible assumption | ((with_reducible refine Below.drew ?_)) | ((with_reducible refine below_drewN ?_ _)) | ((with_reducible refine Below.alloc ?_ ?_ _); rotate_left; focus (first | omega | (simp; done) | (simp; omega))) | ((with_reducible refine Below.setCell ?_ ?_ _); rotate_left; focus (first | omega | (simp; done) | (simp; omega))) | ((with_reducible refine Below.trans ?_ (Below.mono (by with_reducible assumption) ?_)); rotate_left; focus (first | omega | (simp; done) | (simp; omega))))); done))
theorem busyTells_law (v0 : Value) {w : World} (s0 : Op.FlatSlice w 12 [.int .i64, .bool, .bool, .int .u64, .int .u64, .int .i64, .int .u64, .int .i64, .int .u16, .int .u16, .int .u16, .int .u16] v0) :
    Calls Try.prog 10 #[v0] w fun ee w' => ee = .returned (.bool true) ∧ Below w.heap.size w w' := by
  obtain ⟨a, es, c, rfl, _, _, hE, hw⟩ := evs_of s0
  by_cases h : es.length ≤ 150
  · exact busyTells_core es a c h w hE
  · exact busyTells_long a _ c (by omega) w
end Go.Proofs.Ytkbglhkhhoakgaa
