/- The reference's Late. -/
import Derived.Test.YtkbglhkhhoakgaaBy5
namespace Go.Proofs.Ytkbglhkhhoakgaa
set_option linter.unusedVariables false
set_option linter.unusedSimpArgs false
set_option maxRecDepth 100000
open Go.RowKit Fg Reg
attribute [local irreducible] Reg.wE Reg.wN

/-- Is a pick late? -/
def blate (s : Bz) (e : Ev) : Bool := !e.inn && decide (0 < s.wk) && decide (s.un < e.tm) && decide (s.si < e.tm)
theorem brun_si (es : List Ev) (k : Nat) (h : k < es.length) : (brun es (k + 1)).si = if es[k].inn = true then (if (brun es k).wk = 0 then es[k].tm else (brun es k).si) else (brun es k).si := by
  rw [brun_succ es k h]; unfold blearn; split <;> rfl
set_option maxHeartbeats 8000000 in
theorem rla_c (es : List Ev) (a : Option Addr) (c n : Nat) (hn : es.length ≤ 100000) (hnl : n < es.length) (w : World) (hE : EvsV w a es) :
    Calls Try.prog 44 #[.slice a es.length c, .int .i64 n] w fun ee w' => ee = .returned (.bool (blate (brun es n) es[n])) ∧ Below w.heap.size w w' := by
  have KW := Lib.hid (rwov_c es a c hn w hE)
  have KU := Lib.hid (fun z hz => runt_c es a c n hn (by omega) z hz)
  obtain ⟨b, o, rfl, hb, hcn⟩ := hE n hnl
  have q1 := hcn 1 _ rfl
  have q3 := hcn 3 _ rfl
  clear hcn
  have HE := Lib.hid hE
  have HS := Lib.hid (brun_si es)
  have HK := Lib.hid (brun_wk es)
  have EI := Lib.hid ev_info
  clear hE
  have hnl2 : (n : Int) < (es.length : Int) + 1 := by omega
  obtain ⟨un, hun⟩ : ∃ un, (brun es n).un = un := ⟨_, rfl⟩
  obtain ⟨wk, hwk⟩ : ∃ wk, (brun es n).wk = wk := ⟨_, rfl⟩
  obtain ⟨si, hsi⟩ : ∃ si, (brun es n).si = si := ⟨_, rfl⟩
  have hbl : blate (brun es n) es[n] = (!es[n].inn && decide (0 < wk) && decide (un < es[n].tm) && decide (si < es[n].tm)) := by unfold blate; rw [hun, hwk, hsi]
  rw [hbl]
  rw [hun] at KU
  generalize es[n].inn = inn at q1
  generalize es[n].tm = tm at q3
  have HSI := Lib.hid hsi
  clear hbl hsi hun
  cases inn with
  | true =>
    clear hwk
    go_enter Try.func44, Try.ntmps44
    go_wp2_with (go_at_call 40; (with_reducible refine (KW.out).mono ?_); rintro e w1 ⟨⟨gl, cap, rfl, hgl, hW⟩, hbel⟩; obtain ⟨hcc, hff⟩ := bcell hbel; (have hsz := hbel.size); rw [← hcc _ _ hb] at q1 q3; (have HW := Lib.hid hW); clear hcc hff hW)
    (go_ret; refine ⟨?_, ?_⟩; (focus (exact rfl)); ((repeat' (first | with_reducible exact Below.refl _ _ | with_reducible assumption | ((with_reducible refine Below.drew ?_)) | ((with_reducible refine below_drewN ?_ _)) | ((with_reducible refine Below.alloc ?_ ?_ _); rotate_left; focus (first | omega | (simp; done) | (simp; omega))) | ((with_reducible refine Below.setCell ?_ ?_ _); rotate_left; focus (first | omega | (simp; done) | (simp; omega))) | ((with_reducible refine Below.trans ?_ (Below.mono (by with_reducible assumption) ?_)); rotate_left; focus (first | omega | (simp; done) | (simp; omega))))); done))
  | false =>
    by_cases h0 : wk = 0
    · subst h0
      go_enter Try.func44, Try.ntmps44
      go_wp2_with (go_at_call 40; (with_reducible refine (KW.out).mono ?_); rintro e w1 ⟨⟨gl, cap, rfl, hgl, hW⟩, hbel⟩; obtain ⟨hcc, hff⟩ := bcell hbel; (have hsz := hbel.size); rw [← hcc _ _ hb] at q1 q3; (have hw0 := hW n (by omega)); rw [hwk] at hw0; (have HW := Lib.hid hW); clear hcc hff hW)
      (go_ret; refine ⟨?_, ?_⟩; (focus (exact rfl)); ((repeat' (first | with_reducible exact Below.refl _ _ | with_reducible assumption | ((with_reducible refine Below.drew ?_)) | ((with_reducible refine below_drewN ?_ _)) | ((with_reducible refine Below.alloc ?_ ?_ _); rotate_left; focus (first | omega | (simp; done) | (simp; omega))) | ((with_reducible refine Below.setCell ?_ ?_ _); rotate_left; focus (first | omega | (simp; done) | (simp; omega))) | ((with_reducible refine Below.trans ?_ (Below.mono (by with_reducible assumption) ?_)); rotate_left; focus (first | omega | (simp; done) | (simp; omega))))); done))
    · have d0 : ((wk : Int) == 0) = false := by simp; omega
      have d9 : decide (0 < wk) = true := by simp; omega
      rw [d9]
      go_enter Try.func44, Try.ntmps44
      go_wp2_with (go_at_call 40; (with_reducible refine (KW.out).mono ?_); rintro e w1 ⟨⟨gl, cap, rfl, hgl, hW⟩, hbel⟩; obtain ⟨hcc, hff⟩ := bcell hbel; (have hsz := hbel.size); rw [← hcc _ _ hb] at q1 q3; (have hw0 := hW n (by omega)); rw [hwk] at hw0; (have HW := Lib.hid hW); clear hcc hff hW)
      clear hw0 d0 q1
      go_loopw [6, 25] (fun s i wr => ∃ k : Nat, k ≤ es.length ∧ i = .int .i64 k ∧ s = .int .u64 (brun es (min k n)).si ∧ Below w1.heap.size w1 wr) (fun _ i _ => es.length - (intOf i).toNat)
      case atStart => exact ⟨0, Nat.zero_le _, rfl, by rw [Nat.zero_min]; rfl, Below.refl _ _⟩
      case round =>
        obtain ⟨k, hk, rfl, rfl, hB⟩ := hrel
        have hsz1 := hB.size
        by_cases hlt : k < es.length
        · obtain ⟨b', o', hbo, hb', hr⟩ := ((HE.out.below hbel).below hB) k hlt
          cases hbo
          by_cases hkn : k < n
          · have d1 : decide (k < n) = true := by simpa using hkn
            have hs := HS.out k hlt
            have hkk := HK.out k hlt
            have m1 : min k n = k := by omega
            have M2 := Lib.hid (show min (k + 1) n = k + 1 by omega)
            rw [m1]
            have l0 := (hB.cell (p := ⟨gl, k, none⟩) hgl).trans (HW.out k (by omega))
            have l1 := (hB.cell (p := ⟨gl, k + 1, none⟩) hgl).trans (HW.out (k + 1) (by omega))
            have hgr : gl < wr.heap.size := by omega
            have W1 : IntKind.i64.wrap ((k : Int) + 1) = ((k + 1 : Nat) : Int) := by rw [IntKind.wrap_i64]; omega
            generalize es[k] = e at hs hr hkk
            generalize (brun es (k + 1)).wk = q at hkk l1
            generalize (brun es k).wk = p at hkk l0 hs
            by_cases hp0 : p = 0
            · subst hp0
              cases hi : e.inn with
              | true =>
                rw [hi, if_pos rfl] at hkk hs
                rw [if_pos rfl] at hs
                subst hkk
                have HN := Lib.hid hs
                clear hs m1
                go_wp2_with (first | (refine wpList_load_mid rfl 73 _ rfl b (o + k * 12) rfl _ _ hr Try.underlying73 rfl EI.out ?_) | (refine wpList_store_new rfl 73 _ _ rfl _ #[.int .i64 (e).op, .bool (e).inn, .bool (e).real, .int .u64 (e).tm, .int .u64 (e).dn, .int .i64 (e).cls, .int .u64 (e).id, .int .i64 (e).ln, .int .u16 (e).a, .int .u16 (e).b, .int .u16 (e).c, .int .u16 (e).d] rfl rfl EI.out rfl (all_oneCell_toArray e.one) ?_)); go_roundw
                case rel => exact ⟨k + 1, by omega, by go_num, by rw [M2.out, HN.out], (by repeat' (first | with_reducible exact Below.refl _ _ | with_reducible assumption | ((with_reducible refine Below.drew ?_)) | ((with_reducible refine below_drewN ?_ _)) | ((with_reducible refine Below.alloc ?_ ?_ _); rotate_left; focus (first | omega | (simp; done) | (simp; omega))) | ((with_reducible refine Below.setCell ?_ ?_ _); rotate_left; focus (first | omega | (simp; done) | (simp; omega))) | ((with_reducible refine Below.trans ?_ (Below.mono (by with_reducible assumption) ?_)); rotate_left; focus (first | omega | (simp; done) | (simp; omega)))))⟩
                case measure => simp [intOf]; omega
              | false =>
                rw [hi, if_neg (by simp)] at hkk hs
                subst hkk
                have HN := Lib.hid hs
                clear hs m1
                go_wp2_with (first | (refine wpList_load_mid rfl 73 _ rfl b (o + k * 12) rfl _ _ hr Try.underlying73 rfl EI.out ?_) | (refine wpList_store_new rfl 73 _ _ rfl _ #[.int .i64 (e).op, .bool (e).inn, .bool (e).real, .int .u64 (e).tm, .int .u64 (e).dn, .int .i64 (e).cls, .int .u64 (e).id, .int .i64 (e).ln, .int .u16 (e).a, .int .u16 (e).b, .int .u16 (e).c, .int .u16 (e).d] rfl rfl EI.out rfl (all_oneCell_toArray e.one) ?_)); go_roundw
                case rel => exact ⟨k + 1, by omega, by go_num, by rw [M2.out, HN.out], (by repeat' (first | with_reducible exact Below.refl _ _ | with_reducible assumption | ((with_reducible refine Below.drew ?_)) | ((with_reducible refine below_drewN ?_ _)) | ((with_reducible refine Below.alloc ?_ ?_ _); rotate_left; focus (first | omega | (simp; done) | (simp; omega))) | ((with_reducible refine Below.setCell ?_ ?_ _); rotate_left; focus (first | omega | (simp; done) | (simp; omega))) | ((with_reducible refine Below.trans ?_ (Below.mono (by with_reducible assumption) ?_)); rotate_left; focus (first | omega | (simp; done) | (simp; omega)))))⟩
                case measure => simp [intOf]; omega
            · have d2 : ((p : Int) == 0) = false := by simp; omega
              rw [if_neg hp0] at hs
              have hs2 : (brun es (k + 1)).si = (brun es k).si := by rw [hs]; split <;> rfl
              have HN := Lib.hid hs2
              clear hs hs2 hkk m1 l1
              go_wp2_with (first | (refine wpList_load_mid rfl 73 _ rfl b (o + k * 12) rfl _ _ hr Try.underlying73 rfl EI.out ?_) | (refine wpList_store_new rfl 73 _ _ rfl _ #[.int .i64 (e).op, .bool (e).inn, .bool (e).real, .int .u64 (e).tm, .int .u64 (e).dn, .int .i64 (e).cls, .int .u64 (e).id, .int .i64 (e).ln, .int .u16 (e).a, .int .u16 (e).b, .int .u16 (e).c, .int .u16 (e).d] rfl rfl EI.out rfl (all_oneCell_toArray e.one) ?_)); go_roundw
              case rel => exact ⟨k + 1, by omega, by go_num, by rw [M2.out, HN.out], (by repeat' (first | with_reducible exact Below.refl _ _ | with_reducible assumption | ((with_reducible refine Below.drew ?_)) | ((with_reducible refine below_drewN ?_ _)) | ((with_reducible refine Below.alloc ?_ ?_ _); rotate_left; focus (first | omega | (simp; done) | (simp; omega))) | ((with_reducible refine Below.setCell ?_ ?_ _); rotate_left; focus (first | omega | (simp; done) | (simp; omega))) | ((with_reducible refine Below.trans ?_ (Below.mono (by with_reducible assumption) ?_)); rotate_left; focus (first | omega | (simp; done) | (simp; omega)))))⟩
              case measure => simp [intOf]; omega
          · have d1 : decide (k < n) = false := by simp; omega
            have m1 : min k n = n := by omega
            have M2 := Lib.hid (show min (k + 1) n = n by omega)
            rw [m1]
            generalize es[k] = e at hr
            clear m1
            go_wp2_with (first | (refine wpList_load_mid rfl 73 _ rfl b (o + k * 12) rfl _ _ hr Try.underlying73 rfl EI.out ?_) | (refine wpList_store_new rfl 73 _ _ rfl _ #[.int .i64 (e).op, .bool (e).inn, .bool (e).real, .int .u64 (e).tm, .int .u64 (e).dn, .int .i64 (e).cls, .int .u64 (e).id, .int .i64 (e).ln, .int .u16 (e).a, .int .u16 (e).b, .int .u16 (e).c, .int .u16 (e).d] rfl rfl EI.out rfl (all_oneCell_toArray e.one) ?_)); go_roundw
            case rel => exact ⟨k + 1, by omega, by go_num, by rw [M2.out], (by repeat' (first | with_reducible exact Below.refl _ _ | with_reducible assumption | ((with_reducible refine Below.drew ?_)) | ((with_reducible refine below_drewN ?_ _)) | ((with_reducible refine Below.alloc ?_ ?_ _); rotate_left; focus (first | omega | (simp; done) | (simp; omega))) | ((with_reducible refine Below.setCell ?_ ?_ _); rotate_left; focus (first | omega | (simp; done) | (simp; omega))) | ((with_reducible refine Below.trans ?_ (Below.mono (by with_reducible assumption) ?_)); rotate_left; focus (first | omega | (simp; done) | (simp; omega)))))⟩
            case measure => simp [intOf]; omega
        · obtain rfl : k = es.length := by omega
          rw [show min es.length n = n by omega, HSI.out]
          have hb9 : b < w1.heap.size := by omega
          rw [← hB.cell (p := ⟨b, o + n * 12 + 3, none⟩) hb9] at q3
          have hbw := hbel.trans (hB.mono hsz)
          have hsw := hbw.size
          have hbr : b < wr.heap.size := by omega
          clear hlt HS HK HW
          by_cases hst : si < tm
          · have d2 : decide (si < tm) = true := by simpa using hst
            go_wp2
            obtain ⟨Cl, hCl⟩ : ∃ Cl : List Value → World → Prop, Cl = ((fun ps wz => (wz.cell? ⟨b, o + n * 12 + 3, none⟩ = some (.int .u64 tm) ∧ b < wz.heap.size) ∧ w.heap.size ≤ wz.heap.size ∧ Below w.heap.size w wz)) := ⟨_, rfl⟩; have HCl := Lib.hid hCl; clear hCl; refine wp_region_eff [] Cl (by kernel_rfl) (by kernel_rfl) (by rw [HCl.out]; (try simp only [List.nil_append, List.cons_append]); (try dsimp only); ((repeat' apply And.intro) <;> first | (simp [go_sem, *]; done) | omega | (repeat' (first | with_reducible exact Below.refl _ _ | with_reducible assumption | ((with_reducible refine Below.drew ?_)) | ((with_reducible refine below_drewN ?_ _)) | ((with_reducible refine Below.alloc ?_ ?_ _); rotate_left; focus (first | omega | (simp; done) | (simp; omega))) | ((with_reducible refine Below.setCell ?_ ?_ _); rotate_left; focus (first | omega | (simp; done) | (simp; omega))) | ((with_reducible refine Below.trans ?_ (Below.mono (by with_reducible assumption) ?_)); rotate_left; focus (first | omega | (simp; done) | (simp; omega))))))) ?_
            (repeat (first | (refine wE_skip (by rfl) ?_; simp only [Act.put, Nat.reduceAdd, List.setIfInBounds_toArray, List.set_cons_zero, List.set_cons_succ, List.nil_append, List.cons_append]) | (refine wE_open (by rfl) (by rfl) ?_; apply Exists.intro; refine ⟨fun vs wq hw => ?_, ?_⟩; (focus (rw [HCl.out] at hw; (try simp only [List.nil_append, List.cons_append] at hw); (try dsimp only at hw); go_split_ands; go_simp <;> first | with_reducible exact (rfl : Value.bool false = _) | with_reducible exact (rfl : Value.bool true = _) | ((try go_bits) <;> exact rfl))); simp only [Act.put, Nat.reduceAdd, List.setIfInBounds_toArray, List.set_cons_zero, List.set_cons_succ, List.nil_append, List.cons_append]) | (refine wE_seal (by rfl) (by rfl) (by kernel_rfl) ?_; apply Exists.intro; refine ⟨fun wq hw => ?_, ?_⟩; (focus (rw [HCl.out] at hw; (try simp only [List.nil_append, List.cons_append] at hw); (try dsimp only at hw); go_split_ands; go_simp <;> (try go_bits) <;> exact rfl)); simp only [Act.put, Nat.reduceAdd, List.setIfInBounds_toArray, List.set_cons_zero, List.set_cons_succ, List.nil_append, List.cons_append]) | (refine wE_seal (by rfl) (by rfl) (by kernel_rfl) ?_; apply Exists.intro; refine ⟨fun wq hw => ?_, ?_⟩; (focus (rw [HCl.out] at hw; (try simp only [List.nil_append, List.cons_append] at hw); (try dsimp only at hw); go_split_ands; go_simp; (go_at_call 42; ((with_reducible refine (KU.out _ (HE.out.below (by assumption))).mono ?_); rintro e w' ⟨rfl, hbel⟩; obtain ⟨hcc, hff⟩ := bcell hbel; have hsz := hbel.size; (try simp at hsz); refine ⟨rfl, ?_⟩; rw [HCl.out]; (try simp only [List.nil_append, List.cons_append]); (try dsimp only); ((repeat' apply And.intro) <;> first | (simp [go_sem, *]; done) | omega | (repeat' (first | with_reducible exact Below.refl _ _ | with_reducible assumption | ((with_reducible refine Below.drew ?_)) | ((with_reducible refine below_drewN ?_ _)) | ((with_reducible refine Below.alloc ?_ ?_ _); rotate_left; focus (first | omega | (simp; done) | (simp; omega))) | ((with_reducible refine Below.setCell ?_ ?_ _); rotate_left; focus (first | omega | (simp; done) | (simp; omega))) | ((with_reducible refine Below.trans ?_ (Below.mono (by with_reducible assumption) ?_)); rotate_left; focus (first | omega | (simp; done) | (simp; omega)))))))))); simp only [Act.put, Nat.reduceAdd, List.setIfInBounds_toArray, List.set_cons_zero, List.set_cons_succ, List.nil_append, List.cons_append]) | (refine wE_eff (by rfl) (by rfl) (fun wq hw => ?_) (fun u hu => ?_); (focus (rw [HCl.out] at hw; (try simp only [List.nil_append, List.cons_append] at hw); (try dsimp only at hw); go_split_ands; go_simp; rw [HCl.out]; (try simp only [List.nil_append, List.cons_append]); (try dsimp only); skip; ((repeat' apply And.intro) <;> first | (simp [go_sem, *]; done) | omega | (repeat' (first | with_reducible exact Below.refl _ _ | with_reducible assumption | ((with_reducible refine Below.drew ?_)) | ((with_reducible refine below_drewN ?_ _)) | ((with_reducible refine Below.alloc ?_ ?_ _); rotate_left; focus (first | omega | (simp; done) | (simp; omega))) | ((with_reducible refine Below.setCell ?_ ?_ _); rotate_left; focus (first | omega | (simp; done) | (simp; omega))) | ((with_reducible refine Below.trans ?_ (Below.mono (by with_reducible assumption) ?_)); rotate_left; focus (first | omega | (simp; done) | (simp; omega)))))))); clear hu; simp only [Act.put, Nat.reduceAdd, List.setIfInBounds_toArray, List.set_cons_zero, List.set_cons_succ, List.nil_append, List.cons_append])))
            refine wE_nil ?_; intro w' hw; rw [HCl.out] at hw; (try simp only [List.nil_append, List.cons_append] at hw); (try dsimp only at hw); clear HCl
            go_split_ands
            go_wp2
            go_ret
            refine ⟨?_, ?_⟩
            · rw [show (!false && true && decide (un < tm) && decide (si < tm)) = decide (un < tm) by rw [d2]; simp]
              rfl
            · ((repeat' (first | with_reducible exact Below.refl _ _ | with_reducible assumption | ((with_reducible refine Below.drew ?_)) | ((with_reducible refine below_drewN ?_ _)) | ((with_reducible refine Below.alloc ?_ ?_ _); rotate_left; focus (first | omega | (simp; done) | (simp; omega))) | ((with_reducible refine Below.setCell ?_ ?_ _); rotate_left; focus (first | omega | (simp; done) | (simp; omega))) | ((with_reducible refine Below.trans ?_ (Below.mono (by with_reducible assumption) ?_)); rotate_left; focus (first | omega | (simp; done) | (simp; omega))))); done)
          · have d2 : decide (si < tm) = false := by simpa using hst
            go_wp2
            obtain ⟨Cl, hCl⟩ : ∃ Cl : List Value → World → Prop, Cl = ((fun ps wz => (wz.cell? ⟨b, o + n * 12 + 3, none⟩ = some (.int .u64 tm) ∧ b < wz.heap.size) ∧ w.heap.size ≤ wz.heap.size ∧ Below w.heap.size w wz)) := ⟨_, rfl⟩; have HCl := Lib.hid hCl; clear hCl; refine wp_region_eff [] Cl (by kernel_rfl) (by kernel_rfl) (by rw [HCl.out]; (try simp only [List.nil_append, List.cons_append]); (try dsimp only); ((repeat' apply And.intro) <;> first | (simp [go_sem, *]; done) | omega | (repeat' (first | with_reducible exact Below.refl _ _ | with_reducible assumption | ((with_reducible refine Below.drew ?_)) | ((with_reducible refine below_drewN ?_ _)) | ((with_reducible refine Below.alloc ?_ ?_ _); rotate_left; focus (first | omega | (simp; done) | (simp; omega))) | ((with_reducible refine Below.setCell ?_ ?_ _); rotate_left; focus (first | omega | (simp; done) | (simp; omega))) | ((with_reducible refine Below.trans ?_ (Below.mono (by with_reducible assumption) ?_)); rotate_left; focus (first | omega | (simp; done) | (simp; omega))))))) ?_
            (repeat (first | (refine wE_skip (by rfl) ?_; simp only [Act.put, Nat.reduceAdd, List.setIfInBounds_toArray, List.set_cons_zero, List.set_cons_succ, List.nil_append, List.cons_append]) | (refine wE_open (by rfl) (by rfl) ?_; apply Exists.intro; refine ⟨fun vs wq hw => ?_, ?_⟩; (focus (rw [HCl.out] at hw; (try simp only [List.nil_append, List.cons_append] at hw); (try dsimp only at hw); go_split_ands; go_simp <;> first | with_reducible exact (rfl : Value.bool false = _) | with_reducible exact (rfl : Value.bool true = _) | ((try go_bits) <;> exact rfl))); simp only [Act.put, Nat.reduceAdd, List.setIfInBounds_toArray, List.set_cons_zero, List.set_cons_succ, List.nil_append, List.cons_append]) | (refine wE_seal (by rfl) (by rfl) (by kernel_rfl) ?_; apply Exists.intro; refine ⟨fun wq hw => ?_, ?_⟩; (focus (rw [HCl.out] at hw; (try simp only [List.nil_append, List.cons_append] at hw); (try dsimp only at hw); go_split_ands; go_simp <;> (try go_bits) <;> exact rfl)); simp only [Act.put, Nat.reduceAdd, List.setIfInBounds_toArray, List.set_cons_zero, List.set_cons_succ, List.nil_append, List.cons_append]) | (refine wE_seal (by rfl) (by rfl) (by kernel_rfl) ?_; apply Exists.intro; refine ⟨fun wq hw => ?_, ?_⟩; (focus (rw [HCl.out] at hw; (try simp only [List.nil_append, List.cons_append] at hw); (try dsimp only at hw); go_split_ands; go_simp; fail)); simp only [Act.put, Nat.reduceAdd, List.setIfInBounds_toArray, List.set_cons_zero, List.set_cons_succ, List.nil_append, List.cons_append]) | (refine wE_eff (by rfl) (by rfl) (fun wq hw => ?_) (fun u hu => ?_); (focus (rw [HCl.out] at hw; (try simp only [List.nil_append, List.cons_append] at hw); (try dsimp only at hw); go_split_ands; go_simp; rw [HCl.out]; (try simp only [List.nil_append, List.cons_append]); (try dsimp only); skip; ((repeat' apply And.intro) <;> first | (simp [go_sem, *]; done) | omega | (repeat' (first | with_reducible exact Below.refl _ _ | with_reducible assumption | ((with_reducible refine Below.drew ?_)) | ((with_reducible refine below_drewN ?_ _)) | ((with_reducible refine Below.alloc ?_ ?_ _); rotate_left; focus (first | omega | (simp; done) | (simp; omega))) | ((with_reducible refine Below.setCell ?_ ?_ _); rotate_left; focus (first | omega | (simp; done) | (simp; omega))) | ((with_reducible refine Below.trans ?_ (Below.mono (by with_reducible assumption) ?_)); rotate_left; focus (first | omega | (simp; done) | (simp; omega)))))))); clear hu; simp only [Act.put, Nat.reduceAdd, List.setIfInBounds_toArray, List.set_cons_zero, List.set_cons_succ, List.nil_append, List.cons_append])))
            refine wE_nil ?_; intro w' hw; rw [HCl.out] at hw; (try simp only [List.nil_append, List.cons_append] at hw); (try dsimp only at hw); clear HCl
            go_split_ands
            go_wp2
            go_ret
            refine ⟨?_, ?_⟩
            · rw [show (!false && true && decide (un < tm) && decide (si < tm)) = false by rw [d2]; simp]
              rfl
            · ((repeat' (first | with_reducible exact Below.refl _ _ | with_reducible assumption | ((with_reducible refine Below.drew ?_)) | ((with_reducible refine below_drewN ?_ _)) | ((with_reducible refine Below.alloc ?_ ?_ _); rotate_left; focus (first | omega | (simp; done) | (simp; omega))) | ((with_reducible refine Below.setCell ?_ ?_ _); rotate_left; focus (first | omega | (simp; done) | (simp; omega))) | ((with_reducible refine Below.trans ?_ (Below.mono (by with_reducible assumption) ?_)); rotate_left; focus (first | omega | (simp; done) | (simp; omega))))); done)
end Go.Proofs.Ytkbglhkhhoakgaa
