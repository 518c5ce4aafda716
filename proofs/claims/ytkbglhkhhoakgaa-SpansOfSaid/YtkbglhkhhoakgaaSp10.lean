/- SpansOf. -/
import Derived.Test.YtkbglhkhhoakgaaSp8
import Derived.Test.YtkbglhkhhoakgaaSp9
namespace Go.Proofs.Ytkbglhkhhoakgaa
set_option linter.unusedVariables false
set_option linter.unusedSimpArgs false
set_option maxRecDepth 100000
open Go.RowKit Fg Reg
attribute [local irreducible] Reg.wE

def FrV (z : World) (a : Option Addr) (l : List Sp) : Prop := ∀ k (h : k < l.length), ∃ g, a = some ⟨g, 0, none⟩ ∧ g < z.heap.size ∧ z.cell? ⟨g, k, none⟩ = some (.int .u64 l[k].fr)
theorem FrV.below {z z' : World} {a : Option Addr} {l : List Sp} (h : FrV z a l) (hb : Below z.heap.size z z') : FrV z' a l := fun k hk => by
  obtain ⟨g, e, h1, h2⟩ := h k hk
  exact ⟨g, e, Nat.lt_of_lt_of_le h1 hb.size, (hb.cell (p := ⟨g, k, none⟩) h1).trans h2⟩
theorem frv_of {z : World} {B : Nat} {v : Value} {t : TypeId} {l : List Sp} (h : z.ownsRow B t 1 v l.length ((l).map (fun x => Value.int .u64 (Sp.fr x)))) : ∃ a cap, v = .slice a l.length cap ∧ FrV z a l := by
  rcases h.2 with ⟨h1, h2⟩ | ⟨b, cap, cur, rfl, h2, h3, h4⟩
  · exact ⟨none, 0, by rw [h2]; exact h1, fun k hk => absurd hk (by omega)⟩
  · refine ⟨_, cap, rfl, fun k hk => ⟨b, rfl, (h.lt b rfl).2, ?_⟩⟩
    rw [h.cellAt _ (by omega)]
    simp [hk]
theorem rofv_c (zs : List Int) (es : List Ev) (a a2 : Option Addr) (c c2 : Nat) (hn : es.length ≤ 100000) (hn2 : zs.length ≤ 100000) (w : World) (hE : EvsV w a es) (hZ : IntsV w a2 zs) :
    Calls Try.prog 31 #[.slice a es.length c, .slice a2 zs.length c2] w fun e w' => (∃ ao cap, e = .returned (.slice ao (srun zs es es.length).rows.length cap) ∧ SpV w' w.heap.size ao (srun zs es es.length).rows) ∧ Below w.heap.size w w' :=
  (rof_c zs es a a2 c c2 hn hn2 w hE hZ).mono fun e w' ⟨⟨v, he, ho⟩, hb⟩ => by
    obtain ⟨ao, cap, rfl, hs⟩ := spv_of ho
    exact ⟨⟨ao, cap, he, hs⟩, hb⟩
theorem sincev_c (zs : List Int) (es : List Ev) (a a2 : Option Addr) (c c2 : Nat) (hn : es.length ≤ 100000) (hn2 : zs.length ≤ 100000) (w : World) (hE : EvsV w a es) (hZ : IntsV w a2 zs) :
    Calls Try.prog 32 #[.slice a es.length c, .slice a2 zs.length c2] w fun e w' => (∃ ao cap, e = .returned (.slice ao (srun zs es es.length).rows.length cap) ∧ FrV w' ao (srun zs es es.length).rows) ∧ Below w.heap.size w w' :=
  (since_c zs es a a2 c c2 hn hn2 w hE hZ).mono fun e w' ⟨⟨v, he, ho⟩, hb⟩ => by
    obtain ⟨ao, cap, rfl, hs⟩ := frv_of ho
    exact ⟨⟨ao, cap, he, hs⟩, hb⟩
theorem lenv_c (zs : List Int) (es : List Ev) (a a2 : Option Addr) (c c2 : Nat) (hn : es.length ≤ 100000) (hn2 : zs.length ≤ 100000) (w : World) (hE : EvsV w a es) (hZ : IntsV w a2 zs) :
    Calls Try.prog 33 #[.slice a es.length c, .slice a2 zs.length c2] w fun e w' => (∃ g cap, e = .returned (.slice (some ⟨g, 0, none⟩) (es.length + 1) cap) ∧ g < w'.heap.size ∧ w'.cell? ⟨g, es.length, none⟩ = some (.int .i64 (srun zs es es.length).p)) ∧ Below w.heap.size w w' :=
  (len_c zs es a a2 c c2 hn hn2 w hE hZ).mono fun e w' ⟨⟨v, he, ho⟩, hb⟩ => by
    obtain ⟨g, cap, rfl⟩ : ∃ g cap, v = Value.slice (some ⟨g, 0, none⟩) (es.length + 1) cap := by
      rcases ho.2 with ⟨_, h⟩ | ⟨g, cap, cur, h, _⟩
      · simp at h
      · exact ⟨g, cap, by simpa using h⟩
    exact ⟨⟨g, cap, he, (ho.lt g rfl).2, pcell ho _ (Nat.le_refl _)⟩, hb⟩
set_option maxHeartbeats 16000000 in
theorem spansOf_core (zs : List Int) (es : List Ev) (a a2 : Option Addr) (c c2 : Nat) (hn : es.length ≤ 200) (hn2 : zs.length ≤ 100) (w : World) (hE : EvsV w a es) (hZ : IntsV w a2 zs) :
    Calls Try.prog 8 #[.slice a es.length c, .slice a2 zs.length c2] w fun ee w' => ee = .returned (.bool true) ∧ Below w.heap.size w w' := by
  have KO := Lib.hid (fun z h1 h2 => ofv_c zs es a a2 c c2 (by omega) (by omega) z h1 h2)
  have KR := Lib.hid (fun z h1 h2 => rofv_c zs es a a2 c c2 (by omega) (by omega) z h1 h2)
  have KS := Lib.hid (fun z h1 h2 => sincev_c zs es a a2 c c2 (by omega) (by omega) z h1 h2)
  have KL := Lib.hid (fun z h1 h2 => lenv_c zs es a a2 c c2 (by omega) (by omega) z h1 h2)
  have KB := Lib.hid (fun z h1 h2 => bl_c zs es a a2 c c2 (by omega) (by omega) z h1 h2)
  have KT := Lib.hid two_c
  have HE := Lib.hid hE
  have HZ := Lib.hid hZ
  have hrl := rows_len zs es
  have RI := Lib.hid rst_info5
  have d1 : decide (200 < (es.length : Int)) = false := by simp; omega
  have d2 : decide (100 < (zs.length : Int)) = false := by simp; omega
  clear hE hZ
  generalize (srun zs es es.length).rows = rows at KO KR KS hrl
  generalize (srun zs es es.length).p = p at KL KB
  go_enter Try.func8, Try.ntmps8
  go_wp2_with (first
    | (go_at_call 30; (with_reducible refine (KO.out _ HE.out HZ.out).mono ?_); rintro e w1 ⟨⟨ao, cap, rfl, hS⟩, hb⟩)
    | (go_at_call 31; (with_reducible refine (KR.out _ (HE.out.below hb) (HZ.out.below hb)).mono ?_); rintro e w2 ⟨⟨ar, capr, rfl, hS2⟩, hb2⟩; replace hS := hS.below hb2; (have hb' := hb.trans (hb2.mono hb.size)); clear hb hb2)
    | (go_at_call 32; (with_reducible refine (KS.out _ (HE.out.below hb') (HZ.out.below hb')).mono ?_); rintro e w3 ⟨⟨af, capf, rfl, hF⟩, hb3⟩; replace hS := hS.below hb3; replace hS2 := hS2.below hb3; (have hb := hb'.trans (hb3.mono hb'.size)); clear hb' hb3))
  have HS := Lib.hid hS
  have HS2 := Lib.hid hS2
  have HF := Lib.hid hF
  have hsz := hb.size
  clear KO KR KS hS hS2 hF
  go_loopw [43] (fun ii wr => ∃ (j : Nat), j ≤ rows.length ∧ ii = .int .i64 j ∧ Below w3.heap.size w3 wr) (fun ii _ => rows.length - (intOf ii).toNat)
  case atStart => exact ⟨0, Nat.zero_le _, rfl, Below.refl _ _⟩
  case round =>
    obtain ⟨j, hj, rfl, hB1⟩ := hrel
    have hs2 := hB1.size
    by_cases hlt : j < rows.length
    · obtain ⟨g, rfl, _, hg, hr⟩ := (HS.out.below hB1) j hlt
      obtain ⟨g2, rfl, _, hg2, hr2⟩ := (HS2.out.below hB1) j hlt
      obtain ⟨gf, rfl, hgf, hcf⟩ := (HF.out.below hB1) j hlt
      generalize rows[j] = x at hr hr2 hcf
      obtain ⟨fr, tt, fi, la, op⟩ := x
      have E := eqSp fr tt fi la op
      have c0 := hr 0 _ rfl
      have c1 := hr 1 _ rfl
      have c2 := hr 2 _ rfl
      have c3 := hr 3 _ rfl
      have c4 := hr 4 _ rfl
      simp only at hcf
      rw [Nat.add_zero] at c0
      clear hr
      go_wp2_with (first | (refine wpList_load_mid rfl 66 _ rfl g2 (j * 5) rfl _ _ hr2 Try.underlying66 rfl RI.out ?_) | (refine wpList_store_new rfl 66 _ _ rfl _ #[.int .u64 fr, .int .u64 tt, .int .i64 fi, .int .i64 la, .bool op] rfl rfl RI.out rfl (all_oneCell_toArray (Sp.one ⟨fr, tt, fi, la, op⟩)) ?_))
      clear hr2
      obtain ⟨Cl, hCl⟩ : ∃ Cl : List Value → World → Prop, Cl = ((fun ps wz => (wz.cell? ⟨wr.heap.size, 0, none⟩ = some (.int .u64 (fr)) ∧ wz.cell? ⟨wr.heap.size, 1, none⟩ = some (.int .u64 (tt)) ∧ wz.cell? ⟨wr.heap.size, 2, none⟩ = some (.int .i64 (fi)) ∧ wz.cell? ⟨wr.heap.size, 3, none⟩ = some (.int .i64 (la)) ∧ wz.cell? ⟨wr.heap.size, 4, none⟩ = some (.bool op) ∧ wr.heap.size < wz.heap.size) ∧ (wz.cell? ⟨g, j * 5, none⟩ = some (.int .u64 (fr)) ∧ wz.cell? ⟨g, j * 5 + 1, none⟩ = some (.int .u64 (tt)) ∧ wz.cell? ⟨g, j * 5 + 2, none⟩ = some (.int .i64 (fi)) ∧ wz.cell? ⟨g, j * 5 + 3, none⟩ = some (.int .i64 (la)) ∧ wz.cell? ⟨g, j * 5 + 4, none⟩ = some (.bool op) ∧ g < wz.heap.size) ∧ (wz.cell? ⟨gf, j, none⟩ = some (.int .u64 fr) ∧ gf < wz.heap.size) ∧ Below w3.heap.size w3 wz)) := ⟨_, rfl⟩; have HCl := Lib.hid hCl; clear hCl; refine wp_region_eff [] Cl (by kernel_rfl) (by kernel_rfl) (by rw [HCl.out]; (try simp only [List.nil_append, List.cons_append]); (try dsimp only); ((repeat' apply And.intro) <;> first | (simp [go_sem, *]; done) | omega | (repeat' (first | with_reducible exact Below.refl _ _ | with_reducible assumption | ((with_reducible refine Below.drew ?_)) | ((with_reducible refine below_drewN ?_ _)) | ((with_reducible refine Below.alloc ?_ ?_ _); rotate_left; focus (first | omega | (simp; done) | (simp; omega))) | ((with_reducible refine Below.setCell ?_ ?_ _); rotate_left; focus (first | omega | (simp; done) | (simp; omega))) | ((with_reducible refine Below.trans ?_ (Below.mono (by with_reducible assumption) ?_)); rotate_left; focus (first | omega | (simp; done) | (simp; omega))))))) ?_
      (repeat (first | (refine wE_skip (by rfl) ?_; simp only [Act.put, Nat.reduceAdd, List.setIfInBounds_toArray, List.set_cons_zero, List.set_cons_succ, List.nil_append, List.cons_append]) | (refine wE_open (by rfl) (by rfl) ?_; apply Exists.intro; refine ⟨fun vs wq hw => ?_, ?_⟩; (focus (rw [HCl.out] at hw; (try simp only [List.nil_append, List.cons_append] at hw); (try dsimp only at hw); go_split_ands; go_simp <;> first | with_reducible exact (rfl : Value.bool false = _) | with_reducible exact (rfl : Value.bool true = _) | ((try go_bits) <;> exact rfl))); simp only [Act.put, Nat.reduceAdd, List.setIfInBounds_toArray, List.set_cons_zero, List.set_cons_succ, List.nil_append, List.cons_append]) | (refine wE_seal (by rfl) (by rfl) (by kernel_rfl) ?_; apply Exists.intro; refine ⟨fun wq hw => ?_, ?_⟩; (focus (rw [HCl.out] at hw; (try simp only [List.nil_append, List.cons_append] at hw); (try dsimp only at hw); go_split_ands; go_simp <;> (try go_bits) <;> exact rfl)); simp only [Act.put, Nat.reduceAdd, List.setIfInBounds_toArray, List.set_cons_zero, List.set_cons_succ, List.nil_append, List.cons_append]) | (refine wE_seal (by rfl) (by rfl) (by kernel_rfl) ?_; apply Exists.intro; refine ⟨fun wq hw => ?_, ?_⟩; (focus (rw [HCl.out] at hw; (try simp only [List.nil_append, List.cons_append] at hw); (try dsimp only at hw); go_split_ands; go_simp; fail)); simp only [Act.put, Nat.reduceAdd, List.setIfInBounds_toArray, List.set_cons_zero, List.set_cons_succ, List.nil_append, List.cons_append]) | (refine wE_eff (by rfl) (by rfl) (fun wq hw => ?_) (fun u hu => ?_); (focus (rw [HCl.out] at hw; (try simp only [List.nil_append, List.cons_append] at hw); (try dsimp only at hw); go_split_ands; go_simp; rw [HCl.out]; (try simp only [List.nil_append, List.cons_append]); (try dsimp only); skip; ((repeat' apply And.intro) <;> first | (simp [go_sem, *]; done) | omega | (repeat' (first | with_reducible exact Below.refl _ _ | with_reducible assumption | ((with_reducible refine Below.drew ?_)) | ((with_reducible refine below_drewN ?_ _)) | ((with_reducible refine Below.alloc ?_ ?_ _); rotate_left; focus (first | omega | (simp; done) | (simp; omega))) | ((with_reducible refine Below.setCell ?_ ?_ _); rotate_left; focus (first | omega | (simp; done) | (simp; omega))) | ((with_reducible refine Below.trans ?_ (Below.mono (by with_reducible assumption) ?_)); rotate_left; focus (first | omega | (simp; done) | (simp; omega)))))))); clear hu; simp only [Act.put, Nat.reduceAdd, List.setIfInBounds_toArray, List.set_cons_zero, List.set_cons_succ, List.nil_append, List.cons_append])))
      refine wE_nil ?_; intro w' hw; rw [HCl.out] at hw; (try simp only [List.nil_append, List.cons_append] at hw); (try dsimp only at hw); clear HCl
      go_split_ands
      go_wp2
      go_roundw
      case rel => exact ⟨j + 1, by omega, by go_num, by assumption⟩
      case measure => simp [intOf]; omega
    · obtain rfl : j = rows.length := by omega
      have hBw := hb.trans (hB1.mono hb.size)
      have hEz := Lib.hid (HE.out.below hBw)
      have hZz := Lib.hid (HZ.out.below hBw)
      have HBw := Lib.hid hBw
      clear hlt HS HS2 HF hBw hb hB1
      by_cases h0 : p = 0
      · subst h0
        have e1 : decide (0 < 0) = false := rfl
        rw [e1] at KB
        go_wp2_with (go_at_call 33; (with_reducible refine (KL.out _ hEz.out hZz.out).mono ?_); rintro e w4 ⟨⟨gl, capl, rfl, hgl, hcl⟩, hb4⟩)
        have hBx := HBw.out.trans (hb4.mono HBw.out.size)
        have hsx := hBx.size
        have hll : (es.length : Int) < (es.length : Int) + 1 := by omega
        clear hb4
        obtain ⟨Cl, hCl⟩ : ∃ Cl : List Value → World → Prop, Cl = ((fun ps wz => (wz.cell? ⟨gl, es.length, none⟩ = some (.int .i64 0) ∧ gl < wz.heap.size) ∧ w.heap.size ≤ wz.heap.size ∧ Below w.heap.size w wz)) := ⟨_, rfl⟩; have HCl := Lib.hid hCl; clear hCl; refine wp_region_eff [] Cl (by kernel_rfl) (by kernel_rfl) (by rw [HCl.out]; (try simp only [List.nil_append, List.cons_append]); (try dsimp only); ((repeat' apply And.intro) <;> first | (simp [go_sem, *]; done) | omega | (repeat' (first | with_reducible exact Below.refl _ _ | with_reducible assumption | ((with_reducible refine Below.drew ?_)) | ((with_reducible refine below_drewN ?_ _)) | ((with_reducible refine Below.alloc ?_ ?_ _); rotate_left; focus (first | omega | (simp; done) | (simp; omega))) | ((with_reducible refine Below.setCell ?_ ?_ _); rotate_left; focus (first | omega | (simp; done) | (simp; omega))) | ((with_reducible refine Below.trans ?_ (Below.mono (by with_reducible assumption) ?_)); rotate_left; focus (first | omega | (simp; done) | (simp; omega))))))) ?_
        (repeat (first | (refine wE_skip (by rfl) ?_; simp only [Act.put, Nat.reduceAdd, List.setIfInBounds_toArray, List.set_cons_zero, List.set_cons_succ, List.nil_append, List.cons_append]) | (refine wE_open (by rfl) (by rfl) ?_; apply Exists.intro; refine ⟨fun vs wq hw => ?_, ?_⟩; (focus (rw [HCl.out] at hw; (try simp only [List.nil_append, List.cons_append] at hw); (try dsimp only at hw); go_split_ands; go_simp <;> first | with_reducible exact (rfl : Value.bool false = _) | with_reducible exact (rfl : Value.bool true = _) | ((try go_bits) <;> exact rfl))); simp only [Act.put, Nat.reduceAdd, List.setIfInBounds_toArray, List.set_cons_zero, List.set_cons_succ, List.nil_append, List.cons_append]) | (refine wE_seal (by rfl) (by rfl) (by kernel_rfl) ?_; apply Exists.intro; refine ⟨fun wq hw => ?_, ?_⟩; (focus (rw [HCl.out] at hw; (try simp only [List.nil_append, List.cons_append] at hw); (try dsimp only at hw); go_split_ands; go_simp <;> (try go_bits) <;> exact rfl)); simp only [Act.put, Nat.reduceAdd, List.setIfInBounds_toArray, List.set_cons_zero, List.set_cons_succ, List.nil_append, List.cons_append]) | (refine wE_seal (by rfl) (by rfl) (by kernel_rfl) ?_; apply Exists.intro; refine ⟨fun wq hw => ?_, ?_⟩; (focus (rw [HCl.out] at hw; (try simp only [List.nil_append, List.cons_append] at hw); (try dsimp only at hw); go_split_ands; go_simp; first | (go_at_call 34; ((with_reducible refine (KB.out _ (HE.out.below (by assumption)) (HZ.out.below (by assumption))).mono ?_); rintro e w' ⟨rfl, hbel⟩; obtain ⟨hcc, hff⟩ := bcell hbel; have hsz := hbel.size; (try simp at hsz); refine ⟨rfl, ?_⟩; rw [HCl.out]; (try simp only [List.nil_append, List.cons_append]); (try dsimp only); ((repeat' apply And.intro) <;> first | (simp [go_sem, *]; done) | omega | (repeat' (first | with_reducible exact Below.refl _ _ | with_reducible assumption | ((with_reducible refine Below.drew ?_)) | ((with_reducible refine below_drewN ?_ _)) | ((with_reducible refine Below.alloc ?_ ?_ _); rotate_left; focus (first | omega | (simp; done) | (simp; omega))) | ((with_reducible refine Below.setCell ?_ ?_ _); rotate_left; focus (first | omega | (simp; done) | (simp; omega))) | ((with_reducible refine Below.trans ?_ (Below.mono (by with_reducible assumption) ?_)); rotate_left; focus (first | omega | (simp; done) | (simp; omega)))))))) | (go_at_call 29; ((with_reducible refine (KT.out _).mono ?_); rintro e w' ⟨rfl, hbel⟩; obtain ⟨hcc, hff⟩ := bcell hbel; have hsz := hbel.size; (try simp at hsz); refine ⟨rfl, ?_⟩; rw [HCl.out]; (try simp only [List.nil_append, List.cons_append]); (try dsimp only); ((repeat' apply And.intro) <;> first | (simp [go_sem, *]; done) | omega | (repeat' (first | with_reducible exact Below.refl _ _ | with_reducible assumption | ((with_reducible refine Below.drew ?_)) | ((with_reducible refine below_drewN ?_ _)) | ((with_reducible refine Below.alloc ?_ ?_ _); rotate_left; focus (first | omega | (simp; done) | (simp; omega))) | ((with_reducible refine Below.setCell ?_ ?_ _); rotate_left; focus (first | omega | (simp; done) | (simp; omega))) | ((with_reducible refine Below.trans ?_ (Below.mono (by with_reducible assumption) ?_)); rotate_left; focus (first | omega | (simp; done) | (simp; omega)))))))))); simp only [Act.put, Nat.reduceAdd, List.setIfInBounds_toArray, List.set_cons_zero, List.set_cons_succ, List.nil_append, List.cons_append]) | (refine wE_eff (by rfl) (by rfl) (fun wq hw => ?_) (fun u hu => ?_); (focus (rw [HCl.out] at hw; (try simp only [List.nil_append, List.cons_append] at hw); (try dsimp only at hw); go_split_ands; go_simp; rw [HCl.out]; (try simp only [List.nil_append, List.cons_append]); (try dsimp only); skip; ((repeat' apply And.intro) <;> first | (simp [go_sem, *]; done) | omega | (repeat' (first | with_reducible exact Below.refl _ _ | with_reducible assumption | ((with_reducible refine Below.drew ?_)) | ((with_reducible refine below_drewN ?_ _)) | ((with_reducible refine Below.alloc ?_ ?_ _); rotate_left; focus (first | omega | (simp; done) | (simp; omega))) | ((with_reducible refine Below.setCell ?_ ?_ _); rotate_left; focus (first | omega | (simp; done) | (simp; omega))) | ((with_reducible refine Below.trans ?_ (Below.mono (by with_reducible assumption) ?_)); rotate_left; focus (first | omega | (simp; done) | (simp; omega)))))))); clear hu; simp only [Act.put, Nat.reduceAdd, List.setIfInBounds_toArray, List.set_cons_zero, List.set_cons_succ, List.nil_append, List.cons_append])))
        refine wE_nil ?_; intro w' hw; rw [HCl.out] at hw; (try simp only [List.nil_append, List.cons_append] at hw); (try dsimp only at hw); clear HCl
        go_split_ands
        go_wp2
        (go_ret; refine ⟨?_, ?_⟩; (focus (exact rfl)); ((repeat' (first | with_reducible exact Below.refl _ _ | with_reducible assumption | ((with_reducible refine Below.drew ?_)) | ((with_reducible refine below_drewN ?_ _)) | ((with_reducible refine Below.alloc ?_ ?_ _); rotate_left; focus (first | omega | (simp; done) | (simp; omega))) | ((with_reducible refine Below.setCell ?_ ?_ _); rotate_left; focus (first | omega | (simp; done) | (simp; omega))) | ((with_reducible refine Below.trans ?_ (Below.mono (by with_reducible assumption) ?_)); rotate_left; focus (first | omega | (simp; done) | (simp; omega))))); done))
      · have e1 : decide (0 < p) = true := by simp; omega
        have e2 : decide (0 < (p : Int)) = true := by simp; omega
        rw [e1] at KB
        go_wp2_with (go_at_call 33; (with_reducible refine (KL.out _ hEz.out hZz.out).mono ?_); rintro e w4 ⟨⟨gl, capl, rfl, hgl, hcl⟩, hb4⟩)
        have hBx := HBw.out.trans (hb4.mono HBw.out.size)
        have hsx := hBx.size
        have hll : (es.length : Int) < (es.length : Int) + 1 := by omega
        clear hb4
        obtain ⟨Cl, hCl⟩ : ∃ Cl : List Value → World → Prop, Cl = ((fun ps wz => (wz.cell? ⟨gl, es.length, none⟩ = some (.int .i64 p) ∧ gl < wz.heap.size) ∧ w.heap.size ≤ wz.heap.size ∧ Below w.heap.size w wz)) := ⟨_, rfl⟩; have HCl := Lib.hid hCl; clear hCl; refine wp_region_eff [] Cl (by kernel_rfl) (by kernel_rfl) (by rw [HCl.out]; (try simp only [List.nil_append, List.cons_append]); (try dsimp only); ((repeat' apply And.intro) <;> first | (simp [go_sem, *]; done) | omega | (repeat' (first | with_reducible exact Below.refl _ _ | with_reducible assumption | ((with_reducible refine Below.drew ?_)) | ((with_reducible refine below_drewN ?_ _)) | ((with_reducible refine Below.alloc ?_ ?_ _); rotate_left; focus (first | omega | (simp; done) | (simp; omega))) | ((with_reducible refine Below.setCell ?_ ?_ _); rotate_left; focus (first | omega | (simp; done) | (simp; omega))) | ((with_reducible refine Below.trans ?_ (Below.mono (by with_reducible assumption) ?_)); rotate_left; focus (first | omega | (simp; done) | (simp; omega))))))) ?_
        (repeat (first | (refine wE_skip (by rfl) ?_; simp only [Act.put, Nat.reduceAdd, List.setIfInBounds_toArray, List.set_cons_zero, List.set_cons_succ, List.nil_append, List.cons_append]) | (refine wE_open (by rfl) (by rfl) ?_; apply Exists.intro; refine ⟨fun vs wq hw => ?_, ?_⟩; (focus (rw [HCl.out] at hw; (try simp only [List.nil_append, List.cons_append] at hw); (try dsimp only at hw); go_split_ands; go_simp <;> first | with_reducible exact (rfl : Value.bool false = _) | with_reducible exact (rfl : Value.bool true = _) | ((try go_bits) <;> exact rfl))); simp only [Act.put, Nat.reduceAdd, List.setIfInBounds_toArray, List.set_cons_zero, List.set_cons_succ, List.nil_append, List.cons_append]) | (refine wE_seal (by rfl) (by rfl) (by kernel_rfl) ?_; apply Exists.intro; refine ⟨fun wq hw => ?_, ?_⟩; (focus (rw [HCl.out] at hw; (try simp only [List.nil_append, List.cons_append] at hw); (try dsimp only at hw); go_split_ands; go_simp <;> (try go_bits) <;> exact rfl)); simp only [Act.put, Nat.reduceAdd, List.setIfInBounds_toArray, List.set_cons_zero, List.set_cons_succ, List.nil_append, List.cons_append]) | (refine wE_seal (by rfl) (by rfl) (by kernel_rfl) ?_; apply Exists.intro; refine ⟨fun wq hw => ?_, ?_⟩; (focus (rw [HCl.out] at hw; (try simp only [List.nil_append, List.cons_append] at hw); (try dsimp only at hw); go_split_ands; go_simp; first | (go_at_call 34; ((with_reducible refine (KB.out _ (HE.out.below (by assumption)) (HZ.out.below (by assumption))).mono ?_); rintro e w' ⟨rfl, hbel⟩; obtain ⟨hcc, hff⟩ := bcell hbel; have hsz := hbel.size; (try simp at hsz); refine ⟨rfl, ?_⟩; rw [HCl.out]; (try simp only [List.nil_append, List.cons_append]); (try dsimp only); ((repeat' apply And.intro) <;> first | (simp [go_sem, *]; done) | omega | (repeat' (first | with_reducible exact Below.refl _ _ | with_reducible assumption | ((with_reducible refine Below.drew ?_)) | ((with_reducible refine below_drewN ?_ _)) | ((with_reducible refine Below.alloc ?_ ?_ _); rotate_left; focus (first | omega | (simp; done) | (simp; omega))) | ((with_reducible refine Below.setCell ?_ ?_ _); rotate_left; focus (first | omega | (simp; done) | (simp; omega))) | ((with_reducible refine Below.trans ?_ (Below.mono (by with_reducible assumption) ?_)); rotate_left; focus (first | omega | (simp; done) | (simp; omega)))))))) | (go_at_call 29; ((with_reducible refine (KT.out _).mono ?_); rintro e w' ⟨rfl, hbel⟩; obtain ⟨hcc, hff⟩ := bcell hbel; have hsz := hbel.size; (try simp at hsz); refine ⟨rfl, ?_⟩; rw [HCl.out]; (try simp only [List.nil_append, List.cons_append]); (try dsimp only); ((repeat' apply And.intro) <;> first | (simp [go_sem, *]; done) | omega | (repeat' (first | with_reducible exact Below.refl _ _ | with_reducible assumption | ((with_reducible refine Below.drew ?_)) | ((with_reducible refine below_drewN ?_ _)) | ((with_reducible refine Below.alloc ?_ ?_ _); rotate_left; focus (first | omega | (simp; done) | (simp; omega))) | ((with_reducible refine Below.setCell ?_ ?_ _); rotate_left; focus (first | omega | (simp; done) | (simp; omega))) | ((with_reducible refine Below.trans ?_ (Below.mono (by with_reducible assumption) ?_)); rotate_left; focus (first | omega | (simp; done) | (simp; omega)))))))))); simp only [Act.put, Nat.reduceAdd, List.setIfInBounds_toArray, List.set_cons_zero, List.set_cons_succ, List.nil_append, List.cons_append]) | (refine wE_eff (by rfl) (by rfl) (fun wq hw => ?_) (fun u hu => ?_); (focus (rw [HCl.out] at hw; (try simp only [List.nil_append, List.cons_append] at hw); (try dsimp only at hw); go_split_ands; go_simp; rw [HCl.out]; (try simp only [List.nil_append, List.cons_append]); (try dsimp only); skip; ((repeat' apply And.intro) <;> first | (simp [go_sem, *]; done) | omega | (repeat' (first | with_reducible exact Below.refl _ _ | with_reducible assumption | ((with_reducible refine Below.drew ?_)) | ((with_reducible refine below_drewN ?_ _)) | ((with_reducible refine Below.alloc ?_ ?_ _); rotate_left; focus (first | omega | (simp; done) | (simp; omega))) | ((with_reducible refine Below.setCell ?_ ?_ _); rotate_left; focus (first | omega | (simp; done) | (simp; omega))) | ((with_reducible refine Below.trans ?_ (Below.mono (by with_reducible assumption) ?_)); rotate_left; focus (first | omega | (simp; done) | (simp; omega)))))))); clear hu; simp only [Act.put, Nat.reduceAdd, List.setIfInBounds_toArray, List.set_cons_zero, List.set_cons_succ, List.nil_append, List.cons_append])))
        refine wE_nil ?_; intro w' hw; rw [HCl.out] at hw; (try simp only [List.nil_append, List.cons_append] at hw); (try dsimp only at hw); clear HCl
        go_split_ands
        go_wp2
        (go_ret; refine ⟨?_, ?_⟩; (focus (exact rfl)); ((repeat' (first | with_reducible exact Below.refl _ _ | with_reducible assumption | ((with_reducible refine Below.drew ?_)) | ((with_reducible refine below_drewN ?_ _)) | ((with_reducible refine Below.alloc ?_ ?_ _); rotate_left; focus (first | omega | (simp; done) | (simp; omega))) | ((with_reducible refine Below.setCell ?_ ?_ _); rotate_left; focus (first | omega | (simp; done) | (simp; omega))) | ((with_reducible refine Below.trans ?_ (Below.mono (by with_reducible assumption) ?_)); rotate_left; focus (first | omega | (simp; done) | (simp; omega))))); done))
theorem spansOf_long (a a2 : Option Addr) (n n2 c c2 : Nat) (h : 200 < n ∨ 100 < n2) (w : World) : Calls Try.prog 8 #[.slice a n c, .slice a2 n2 c2] w fun ee w' => ee = .returned (.bool true) ∧ Below w.heap.size w w' := by
  have KT := Lib.hid two_c
  by_cases h1 : 200 < n
  · have d1 : decide (200 < (n : Int)) = true := by simp; omega
    go_enter Try.func8, Try.ntmps8
    go_wp2_with (go_at_call 29; ((with_reducible refine (KT.out _).mono ?_); rintro e w4 ⟨rfl, hbel⟩; obtain ⟨hcc, hff⟩ := bcell hbel; have hsz := hbel.size; (try simp at hsz); have hF : Below w.heap.size w w4 := (by ((repeat' apply And.intro) <;> first | (simp [go_sem, *]; done) | omega | (repeat' (first | with_reducible exact Below.refl _ _ | with_reducible assumption | ((with_reducible refine Below.drew ?_)) | ((with_reducible refine below_drewN ?_ _)) | ((with_reducible refine Below.alloc ?_ ?_ _); rotate_left; focus (first | omega | (simp; done) | (simp; omega))) | ((with_reducible refine Below.setCell ?_ ?_ _); rotate_left; focus (first | omega | (simp; done) | (simp; omega))) | ((with_reducible refine Below.trans ?_ (Below.mono (by with_reducible assumption) ?_)); rotate_left; focus (first | omega | (simp; done) | (simp; omega))))))); go_split_ands; clear hcc hff hbel))
    (go_ret; refine ⟨?_, ?_⟩; (focus (exact rfl)); ((repeat' (first | with_reducible exact Below.refl _ _ | with_reducible assumption | ((with_reducible refine Below.drew ?_)) | ((with_reducible refine below_drewN ?_ _)) | ((with_reducible refine Below.alloc ?_ ?_ _); rotate_left; focus (first | omega | (simp; done) | (simp; omega))) | ((with_reducible refine Below.setCell ?_ ?_ _); rotate_left; focus (first | omega | (simp; done) | (simp; omega))) | ((with_reducible refine Below.trans ?_ (Below.mono (by with_reducible assumption) ?_)); rotate_left; focus (first | omega | (simp; done) | (simp; omega))))); done))
  · have d1 : decide (200 < (n : Int)) = false := by simp; omega
    have d2 : decide (100 < (n2 : Int)) = true := by simp; omega
    go_enter Try.func8, Try.ntmps8
    go_wp2_with (go_at_call 29; ((with_reducible refine (KT.out _).mono ?_); rintro e w4 ⟨rfl, hbel⟩; obtain ⟨hcc, hff⟩ := bcell hbel; have hsz := hbel.size; (try simp at hsz); have hF : Below w.heap.size w w4 := (by ((repeat' apply And.intro) <;> first | (simp [go_sem, *]; done) | omega | (repeat' (first | with_reducible exact Below.refl _ _ | with_reducible assumption | ((with_reducible refine Below.drew ?_)) | ((with_reducible refine below_drewN ?_ _)) | ((with_reducible refine Below.alloc ?_ ?_ _); rotate_left; focus (first | omega | (simp; done) | (simp; omega))) | ((with_reducible refine Below.setCell ?_ ?_ _); rotate_left; focus (first | omega | (simp; done) | (simp; omega))) | ((with_reducible refine Below.trans ?_ (Below.mono (by with_reducible assumption) ?_)); rotate_left; focus (first | omega | (simp; done) | (simp; omega))))))); go_split_ands; clear hcc hff hbel))
    (go_ret; refine ⟨?_, ?_⟩; (focus (exact rfl)); ((repeat' (first | with_reducible exact Below.refl _ _ | with_reducible assumption | ((with_reducible refine Below.drew ?_)) | ((with_reducible refine below_drewN ?_ _)) | ((with_reducible refine Below.alloc ?_ ?_ _); rotate_left; focus (first | omega | (simp; done) | (simp; omega))) | ((with_reducible refine Below.setCell ?_ ?_ _); rotate_left; focus (first | omega | (simp; done) | (simp; omega))) | ((with_reducible refine Below.trans ?_ (Below.mono (by with_reducible assumption) ?_)); rotate_left; focus (first | omega | (simp; done) | (simp; omega))))); done))
theorem spansOf_law (v0 v1 : Value) {w : World} (s0 : Op.FlatSlice w 12 [.int .i64, .bool, .bool, .int .u64, .int .u64, .int .i64, .int .u64, .int .i64, .int .u16, .int .u16, .int .u16, .int .u16] v0) (s1 : Op.FlatSlice w 1 [.int .i64] v1) :
    Calls Try.prog 8 #[v0, v1] w fun ee w' => ee = .returned (.bool true) ∧ Below w.heap.size w w' := by
  obtain ⟨a, es, c, rfl, _, _, hE, hw⟩ := evs_of s0
  obtain ⟨a2, zs, c2, rfl, _, _, hZ⟩ := ints_of s1
  by_cases h : es.length ≤ 200 ∧ zs.length ≤ 100
  · exact spansOf_core zs es a a2 c c2 h.1 h.2 w hE hZ
  · exact spansOf_long a a2 _ _ c c2 (by omega) w
end Go.Proofs.Ytkbglhkhhoakgaa
