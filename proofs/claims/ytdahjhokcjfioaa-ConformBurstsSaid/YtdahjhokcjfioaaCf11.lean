/- ConformMore. -/
import Derived.Test.YtdahjhokcjfioaaCf10
namespace Go.Proofs.Ytdahjhokcjfioaa
set_option linter.unusedVariables false
set_option linter.unusedSimpArgs false
set_option maxRecDepth 100000
open Go.RowKit Fg Reg
attribute [local irreducible] Reg.wE

def smc (l : List Cm) : Int := l.foldl (fun a x => a + x.by') 0
theorem smc_snoc (l : List Cm) (x : Cm) : smc (l ++ [x]) = smc l + x.by' := by
  unfold smc
  rw [List.foldl_append]; rfl
theorem smc_acc : ∀ (l : List Cm) (a : Int), l.foldl (fun a x => a + x.by') a = a + smc l
  | [], a => by simp [smc]
  | x :: l, a => by
    unfold smc
    rw [List.foldl_cons, List.foldl_cons, smc_acc l, smc_acc l (0 + x.by')]
    omega
theorem smc_nn (l : List Cm) (h : ∀ x ∈ l, 0 ≤ x.by') : 0 ≤ smc l := by
  induction l with
  | nil => exact Int.le_refl 0
  | cons x l ih =>
    have e : smc (x :: l) = x.by' + smc l := by
      unfold smc
      rw [List.foldl_cons, smc_acc l (0 + x.by')]
      unfold smc; omega
    have := ih (fun y hy => h y (List.mem_cons_of_mem _ hy))
    have := h x List.mem_cons_self
    omega
theorem smc_take (l : List Cm) (h : ∀ x ∈ l, 0 ≤ x.by') (k : Nat) : smc (l.take k) ≤ smc l := by
  have e : smc l = smc (l.take k) + smc (l.drop k) := by
    conv => lhs; rw [← List.take_append_drop k l]
    unfold smc
    rw [List.foldl_append, smc_acc (l.drop k)]
    unfold smc; rfl
  have := smc_nn (l.drop k) (fun x hx => h x (List.mem_of_mem_drop hx))
  omega
theorem smc_succ (l : List Cm) (k : Nat) (h : k < l.length) : smc (l.take (k + 1)) = smc (l.take k) + l[k].by' := by
  rw [take_snoc'' l k h, smc_snoc]
theorem blv_ge (s lv last : Int) (e : Ev) (h : 0 ≤ lv) : cb e * 65536 ≤ blv s lv last e := by
  unfold blv; split <;> omega
theorem kk_all {s c : Int} {es : List Ev} (hs : 0 ≤ s) (hwf : ∀ k (h : k < es.length), es[k].wf3) (h : okk (ckr c es)) : ∀ k, k ≤ es.length →
    smc (cms c (es.take k)) = (ckr c (es.take k)).2.2 ∧ ∀ x ∈ cms c (es.take k), 0 ≤ x.by' ∧ x.by' * 65536 ≤ (bur s c (es.take k)).2.2
  | 0, _ => by
    rw [List.take_zero]
    exact ⟨rfl, fun x hx => by cases hx⟩
  | k + 1, hk => by
    obtain ⟨i1, i2⟩ := kk_all hs hwf h k (by omega)
    have hj := jj_all (s := s) hs hwf h k (by omega)
    have hc1 := ckr_succ c es k (by omega)
    have hb1 := bur_succ s c es k (by omega)
    have hw := hwf k (by omega)
    have hcb := (cb_bd es[k] hw).1
    have h1 := okk_all hwf h (k + 1) hk
    cases hc : cp c es[k] with
    | false =>
      rw [cms_no c es k (by omega) hc, hc1, hb1]
      have e1 : ckst c (ckr c (es.take k)) es[k] = ckr c (es.take k) := by unfold ckst; rw [hc]; rfl
      have e2 : bust s c (bur s c (es.take k)) es[k] = bur s c (es.take k) := by unfold bust; rw [hc]; rfl
      rw [e1, e2]
      exact ⟨i1, i2⟩
    | true =>
      rw [hc1] at h1
      obtain ⟨h2, h3, h4⟩ := okk_new hw hc h1
      rw [cms_yes c es k (by omega) hc, hc1, hb1, h4, smc_snoc, i1]
      have e2 : bust s c (bur s c (es.take k)) es[k] = (blv s (bur s c (es.take k)).1 (bur s c (es.take k)).2.1 es[k], es[k].tm, bmx (bur s c (es.take k)).2.2 (blv s (bur s c (es.take k)).1 (bur s c (es.take k)).2.1 es[k])) := by unfold bust; rw [hc]; rfl
      rw [e2]
      have hge := blv_ge s (bur s c (es.take k)).1 (bur s c (es.take k)).2.1 es[k] hj.l0
      refine ⟨rfl, fun x hx => ?_⟩
      dsimp only
      rcases List.mem_append.1 hx with hx | hx
      · have := i2 x hx
        refine ⟨this.1, ?_⟩
        unfold bmx; split <;> omega
      · have e : x = ⟨es[k].tm, cb es[k]⟩ := by simpa using hx
        subst e
        refine ⟨hcb, ?_⟩
        dsimp only
        unfold bmx; split <;> omega
theorem bur_mono {s t c : Int} {es : List Ev} (hs : 0 ≤ s) (hst : s ≤ t) (hwf : ∀ k (h : k < es.length), es[k].wf3) (h : okk (ckr c es)) : ∀ k, k ≤ es.length →
    (bur t c (es.take k)).1 ≤ (bur s c (es.take k)).1 ∧ (bur t c (es.take k)).2.2 ≤ (bur s c (es.take k)).2.2
  | 0, _ => by
    rw [List.take_zero]
    exact ⟨Int.le_refl 0, Int.le_refl 0⟩
  | k + 1, hk => by
    obtain ⟨i1, i2⟩ := bur_mono hs hst hwf h k (by omega)
    have hj := jj_all (s := s) hs hwf h k (by omega)
    have hj2 := jj_all (s := t) (by omega) hwf h k (by omega)
    rw [bur_succ s c es k (by omega), bur_succ t c es k (by omega)]
    cases hc : cp c es[k] with
    | false =>
      have e1 : bust t c (bur t c (es.take k)) es[k] = bur t c (es.take k) := by unfold bust; rw [hc]; rfl
      have e2 : bust s c (bur s c (es.take k)) es[k] = bur s c (es.take k) := by unfold bust; rw [hc]; rfl
      rw [e1, e2]
      exact ⟨i1, i2⟩
    | true =>
      have h1 := okk_all hwf h (k + 1) hk
      rw [ckr_succ c es k (by omega)] at h1
      obtain ⟨h2, _, _⟩ := okk_new (hwf k (by omega)) hc h1
      have hT1 := hj.t
      have hT2 := hj2.t
      have hmul : s * (es[k].tm - (ckr c (es.take k)).1) ≤ t * (es[k].tm - (ckr c (es.take k)).1) := Int.mul_le_mul_of_nonneg_right hst (by omega)
      have hbl : blv t (bur t c (es.take k)).1 (bur t c (es.take k)).2.1 es[k] ≤ blv s (bur s c (es.take k)).1 (bur s c (es.take k)).2.1 es[k] := by
        unfold blv
        rw [hT1, hT2]
        generalize s * (es[k].tm - (ckr c (es.take k)).1) = X at hmul
        generalize t * (es[k].tm - (ckr c (es.take k)).1) = Y at hmul
        split <;> split <;> omega
      have e1 : bust t c (bur t c (es.take k)) es[k] = (blv t (bur t c (es.take k)).1 (bur t c (es.take k)).2.1 es[k], es[k].tm, bmx (bur t c (es.take k)).2.2 (blv t (bur t c (es.take k)).1 (bur t c (es.take k)).2.1 es[k])) := by unfold bust; rw [hc]; rfl
      have e2 : bust s c (bur s c (es.take k)) es[k] = (blv s (bur s c (es.take k)).1 (bur s c (es.take k)).2.1 es[k], es[k].tm, bmx (bur s c (es.take k)).2.2 (blv s (bur s c (es.take k)).1 (bur s c (es.take k)).2.1 es[k])) := by unfold bust; rw [hc]; rfl
      rw [e1, e2]
      refine ⟨hbl, ?_⟩
      dsimp only
      unfold bmx
      split <;> split <;> omega
theorem cl_mono {a b : Int} (h : a ≤ b) : cl a 65536 ≤ cl b 65536 := by
  unfold cl; split <;> split <;> omega
theorem cl_ge {a x : Int} (h : x * 65536 ≤ a) : x ≤ cl a 65536 := by
  unfold cl; split <;> omega
theorem cl_le {a x : Int} (h : a ≤ x * 65536) : cl a 65536 ≤ x := by
  unfold cl; split <;> omega
theorem conf_more {s t c : Int} {es : List Ev} (h0 : 1 ≤ s) (hst : s ≤ t) (ht : t ≤ 4294967295) (hwf : ∀ k (h : k < es.length), es[k].wf3) (h : chkE c es = 0) :
    burV t c es ≤ burV s c es ∧ burV s c es ≤ smc (cms c es) ∧ (∀ x ∈ cms c es, 0 ≤ x.by' ∧ x.by' ≤ burV t c es) ∧ smc (cms c es) ≤ 1099511627776 := by
  have hk := chk_okk h
  have e1 : burV s c es = cl (bur s c es).2.2 65536 := by unfold burV; rw [if_neg (by omega), if_pos h]
  have e2 : burV t c es = cl (bur t c es).2.2 65536 := by unfold burV; rw [if_neg (by omega), if_pos h]
  have hm := bur_mono (s := s) (t := t) (by omega) hst hwf hk es.length (Nat.le_refl _)
  have k1 := kk_all (s := t) (by omega) hwf hk es.length (Nat.le_refl _)
  have j1 := jj_all (s := s) (by omega) hwf hk es.length (Nat.le_refl _)
  rw [List.take_length] at hm k1 j1
  rw [e1, e2]
  refine ⟨cl_mono hm.2, cl_le (by rw [k1.1]; exact j1.m1), fun x hx => ⟨(k1.2 x hx).1, cl_ge (k1.2 x hx).2⟩, by rw [k1.1]; exact hk.2⟩
theorem cmt_size : (Try.prog.info? 161).map (·.size) = some 2 := by kernel_rfl
theorem conformMore_out (s m : Int) (a : Option Addr) (n ce : Nat) (hs : 0 ≤ s) (h : 300 < n ∨ (n ≤ 300 ∧ s < 1) ∨ (n ≤ 300 ∧ 1 ≤ s ∧ 4294967295 < s) ∨ (n ≤ 300 ∧ 1 ≤ s ∧ s ≤ 4294967295 ∧ 4294967295 - s < m)) (w : World) : Calls Try.prog 13 #[.int .u64 s, .int .u64 m, .slice a n ce] w fun e w' => e = .returned (.bool true) ∧ Below w.heap.size w w' := by
  have K := Lib.hid three_c
  rcases h with h | ⟨h1, h⟩ | ⟨h1, h2, h⟩ | ⟨h1, h2, h3, h⟩
  · have d0 : decide ((300 : Int) < n) = true := by simp; omega
    clear h
    go_enter Try.func13, Try.ntmps13
    go_wp2_with (go_at_call 70; ((with_reducible refine (K.out _).mono ?_); rintro e w1 ⟨rfl, hbel⟩; obtain ⟨hcc, hff⟩ := bcell hbel; have hsz := hbel.size; (try simp at hsz); have hF : Below w.heap.size w w1 := (by ((repeat' apply And.intro) <;> first | (simp [go_sem, *]; done) | omega | (repeat' (first | with_reducible exact Below.refl _ _ | with_reducible assumption | ((with_reducible refine Below.drew ?_)) | ((with_reducible refine below_drewN ?_ _)) | ((with_reducible refine Below.alloc ?_ ?_ _); rotate_left; focus (first | omega | (simp; done) | (simp; omega))) | ((with_reducible refine Below.setCell ?_ ?_ _); rotate_left; focus (first | omega | (simp; done) | (simp; omega))) | ((with_reducible refine Below.trans ?_ (Below.mono (by with_reducible assumption) ?_)); rotate_left; focus (first | omega | (simp; done) | (simp; omega))))))); go_split_ands; clear hcc hff hbel))
    (go_ret; refine ⟨?_, ?_⟩; (focus (exact rfl)); ((repeat' (first | with_reducible exact Below.refl _ _ | with_reducible assumption | ((with_reducible refine Below.drew ?_)) | ((with_reducible refine below_drewN ?_ _)) | ((with_reducible refine Below.alloc ?_ ?_ _); rotate_left; focus (first | omega | (simp; done) | (simp; omega))) | ((with_reducible refine Below.setCell ?_ ?_ _); rotate_left; focus (first | omega | (simp; done) | (simp; omega))) | ((with_reducible refine Below.trans ?_ (Below.mono (by with_reducible assumption) ?_)); rotate_left; focus (first | omega | (simp; done) | (simp; omega))))); done))
  · have d0 : decide ((300 : Int) < n) = false := by simp; omega
    have d1 : decide (s < 1) = true := by simpa using h
    clear h h1
    go_enter Try.func13, Try.ntmps13
    go_wp2_with (go_at_call 70; ((with_reducible refine (K.out _).mono ?_); rintro e w1 ⟨rfl, hbel⟩; obtain ⟨hcc, hff⟩ := bcell hbel; have hsz := hbel.size; (try simp at hsz); have hF : Below w.heap.size w w1 := (by ((repeat' apply And.intro) <;> first | (simp [go_sem, *]; done) | omega | (repeat' (first | with_reducible exact Below.refl _ _ | with_reducible assumption | ((with_reducible refine Below.drew ?_)) | ((with_reducible refine below_drewN ?_ _)) | ((with_reducible refine Below.alloc ?_ ?_ _); rotate_left; focus (first | omega | (simp; done) | (simp; omega))) | ((with_reducible refine Below.setCell ?_ ?_ _); rotate_left; focus (first | omega | (simp; done) | (simp; omega))) | ((with_reducible refine Below.trans ?_ (Below.mono (by with_reducible assumption) ?_)); rotate_left; focus (first | omega | (simp; done) | (simp; omega))))))); go_split_ands; clear hcc hff hbel))
    (go_ret; refine ⟨?_, ?_⟩; (focus (exact rfl)); ((repeat' (first | with_reducible exact Below.refl _ _ | with_reducible assumption | ((with_reducible refine Below.drew ?_)) | ((with_reducible refine below_drewN ?_ _)) | ((with_reducible refine Below.alloc ?_ ?_ _); rotate_left; focus (first | omega | (simp; done) | (simp; omega))) | ((with_reducible refine Below.setCell ?_ ?_ _); rotate_left; focus (first | omega | (simp; done) | (simp; omega))) | ((with_reducible refine Below.trans ?_ (Below.mono (by with_reducible assumption) ?_)); rotate_left; focus (first | omega | (simp; done) | (simp; omega))))); done))
  · have d0 : decide ((300 : Int) < n) = false := by simp; omega
    have d1 : decide (s < 1) = false := by simp; omega
    have d2 : decide (4294967295 < s) = true := by simpa using h
    clear h h1 h2
    go_enter Try.func13, Try.ntmps13
    go_wp2_with (go_at_call 70; ((with_reducible refine (K.out _).mono ?_); rintro e w1 ⟨rfl, hbel⟩; obtain ⟨hcc, hff⟩ := bcell hbel; have hsz := hbel.size; (try simp at hsz); have hF : Below w.heap.size w w1 := (by ((repeat' apply And.intro) <;> first | (simp [go_sem, *]; done) | omega | (repeat' (first | with_reducible exact Below.refl _ _ | with_reducible assumption | ((with_reducible refine Below.drew ?_)) | ((with_reducible refine below_drewN ?_ _)) | ((with_reducible refine Below.alloc ?_ ?_ _); rotate_left; focus (first | omega | (simp; done) | (simp; omega))) | ((with_reducible refine Below.setCell ?_ ?_ _); rotate_left; focus (first | omega | (simp; done) | (simp; omega))) | ((with_reducible refine Below.trans ?_ (Below.mono (by with_reducible assumption) ?_)); rotate_left; focus (first | omega | (simp; done) | (simp; omega))))))); go_split_ands; clear hcc hff hbel))
    (go_ret; refine ⟨?_, ?_⟩; (focus (exact rfl)); ((repeat' (first | with_reducible exact Below.refl _ _ | with_reducible assumption | ((with_reducible refine Below.drew ?_)) | ((with_reducible refine below_drewN ?_ _)) | ((with_reducible refine Below.alloc ?_ ?_ _); rotate_left; focus (first | omega | (simp; done) | (simp; omega))) | ((with_reducible refine Below.setCell ?_ ?_ _); rotate_left; focus (first | omega | (simp; done) | (simp; omega))) | ((with_reducible refine Below.trans ?_ (Below.mono (by with_reducible assumption) ?_)); rotate_left; focus (first | omega | (simp; done) | (simp; omega))))); done))
  · have d0 : decide ((300 : Int) < n) = false := by simp; omega
    have d1 : decide (s < 1) = false := by simp; omega
    have d2 : decide (4294967295 < s) = false := by simp; omega
    have W : IntKind.u64.wrap (4294967295 - s) = 4294967295 - s := by rw [wrap_u64]; omega
    have d3 : decide (4294967295 - s < m) = true := by simpa using h
    clear h h1 h2 h3
    go_enter Try.func13, Try.ntmps13
    go_wp2_with (go_at_call 70; ((with_reducible refine (K.out _).mono ?_); rintro e w1 ⟨rfl, hbel⟩; obtain ⟨hcc, hff⟩ := bcell hbel; have hsz := hbel.size; (try simp at hsz); have hF : Below w.heap.size w w1 := (by ((repeat' apply And.intro) <;> first | (simp [go_sem, *]; done) | omega | (repeat' (first | with_reducible exact Below.refl _ _ | with_reducible assumption | ((with_reducible refine Below.drew ?_)) | ((with_reducible refine below_drewN ?_ _)) | ((with_reducible refine Below.alloc ?_ ?_ _); rotate_left; focus (first | omega | (simp; done) | (simp; omega))) | ((with_reducible refine Below.setCell ?_ ?_ _); rotate_left; focus (first | omega | (simp; done) | (simp; omega))) | ((with_reducible refine Below.trans ?_ (Below.mono (by with_reducible assumption) ?_)); rotate_left; focus (first | omega | (simp; done) | (simp; omega))))))); go_split_ands; clear hcc hff hbel))
    (go_ret; refine ⟨?_, ?_⟩; (focus (exact rfl)); ((repeat' (first | with_reducible exact Below.refl _ _ | with_reducible assumption | ((with_reducible refine Below.drew ?_)) | ((with_reducible refine below_drewN ?_ _)) | ((with_reducible refine Below.alloc ?_ ?_ _); rotate_left; focus (first | omega | (simp; done) | (simp; omega))) | ((with_reducible refine Below.setCell ?_ ?_ _); rotate_left; focus (first | omega | (simp; done) | (simp; omega))) | ((with_reducible refine Below.trans ?_ (Below.mono (by with_reducible assumption) ?_)); rotate_left; focus (first | omega | (simp; done) | (simp; omega))))); done))
set_option maxHeartbeats 2000000 in
theorem conformMore_in (s m : Int) (es : List Ev) (ae : Option Addr) (ce : Nat) (h0 : 1 ≤ s) (h1 : s ≤ 4294967295) (hm : 0 ≤ m) (h2 : m ≤ 4294967295 - s) (hn : es.length ≤ 300) (hwf : ∀ k (h : k < es.length), es[k].wf3) (w : World) (hE : EvsV w ae es) :
    Calls Try.prog 13 #[.int .u64 s, .int .u64 m, .slice ae es.length ce] w fun e w' => e = .returned (.bool true) ∧ Below w.heap.size w w' := by
  have K := Lib.hid three_c
  have k1 := fun z (hb : Below w.heap.size w z) => burst_c s 1 es ae ce (by omega) hwf z (hE.below hb)
  have k2 := fun z (hb : Below w.heap.size w z) => burst_c (s + m) 1 es ae ce (by omega) hwf z (hE.below hb)
  have hF1 : burF s 1 es = chkE 1 es := by unfold burF; rw [if_neg (by omega)]
  have hF2 : burF (s + m) 1 es = chkE 1 es := by unfold burF; rw [if_neg (by omega)]
  have d0 : decide ((300 : Int) < es.length) = false := by simp; omega
  have d1 : decide (s < 1) = false := by simp; omega
  have d2 : decide (4294967295 < s) = false := by simp; omega
  have W : IntKind.u64.wrap (4294967295 - s) = 4294967295 - s := by rw [wrap_u64]; omega
  have W2 : IntKind.u64.wrap (s + m) = s + m := by rw [wrap_u64]; omega
  have d3 : decide (4294967295 - s < m) = false := by simp; omega
  by_cases hE0 : chkE 1 es = 0
  · have hmore := conf_more (c := 1) h0 (show s ≤ s + m by omega) (by omega) hwf hE0
    have k3 := fun z (hb : Below w.heap.size w z) => rof48_c es ae ce 1 (by omega) hwf z (hE.below hb)
    have hlen := cms_len 1 es
    rw [hF1, hE0] at k1
    rw [hF2, hE0] at k2
    generalize burV s 1 es = A at *
    generalize burV (s + m) 1 es = B at *
    generalize cms 1 es = L at *
    have K1 := Lib.hid k1
    have K2 := Lib.hid k2
    have K3 := Lib.hid k3
    have CI := Lib.hid cmt_size
    have HM := Lib.hid hmore
    have hLn : L.length ≤ 300 := by omega
    clear k1 k2 k3 hF1 hF2 hE0 hmore hE hwf hn hlen h0 h1 h2 hm
    go_enter Try.func13, Try.ntmps13
    go_wp2_with (first
      | (go_at_call 71; first | ((with_reducible refine (K1.out _ (by repeat' (first | with_reducible exact Below.refl _ _ | with_reducible assumption | ((with_reducible refine Below.drew ?_)) | ((with_reducible refine below_drewN ?_ _)) | ((with_reducible refine Below.alloc ?_ ?_ _); rotate_left; focus (first | omega | (simp; done) | (simp; omega))) | ((with_reducible refine Below.setCell ?_ ?_ _); rotate_left; focus (first | omega | (simp; done) | (simp; omega))) | ((with_reducible refine Below.trans ?_ (Below.mono (by with_reducible assumption) ?_)); rotate_left; focus (first | omega | (simp; done) | (simp; omega)))))).mono ?_); rintro e w1 ⟨rfl, hbel⟩; obtain ⟨hcc, hff⟩ := bcell hbel; have hsz := hbel.size; (try simp at hsz); have hF : Below w.heap.size w w1 := (by ((repeat' apply And.intro) <;> first | (simp [go_sem, *]; done) | omega | (repeat' (first | with_reducible exact Below.refl _ _ | with_reducible assumption | ((with_reducible refine Below.drew ?_)) | ((with_reducible refine below_drewN ?_ _)) | ((with_reducible refine Below.alloc ?_ ?_ _); rotate_left; focus (first | omega | (simp; done) | (simp; omega))) | ((with_reducible refine Below.setCell ?_ ?_ _); rotate_left; focus (first | omega | (simp; done) | (simp; omega))) | ((with_reducible refine Below.trans ?_ (Below.mono (by with_reducible assumption) ?_)); rotate_left; focus (first | omega | (simp; done) | (simp; omega))))))); go_split_ands; clear hcc hff hbel) | ((with_reducible refine (K2.out _ (by repeat' (first | with_reducible exact Below.refl _ _ | with_reducible assumption | ((with_reducible refine Below.drew ?_)) | ((with_reducible refine below_drewN ?_ _)) | ((with_reducible refine Below.alloc ?_ ?_ _); rotate_left; focus (first | omega | (simp; done) | (simp; omega))) | ((with_reducible refine Below.setCell ?_ ?_ _); rotate_left; focus (first | omega | (simp; done) | (simp; omega))) | ((with_reducible refine Below.trans ?_ (Below.mono (by with_reducible assumption) ?_)); rotate_left; focus (first | omega | (simp; done) | (simp; omega)))))).mono ?_); rintro e w2 ⟨rfl, hbel⟩; obtain ⟨hcc, hff⟩ := bcell hbel; have hsz := hbel.size; (try simp at hsz); have hF : Below w.heap.size w w2 := (by ((repeat' apply And.intro) <;> first | (simp [go_sem, *]; done) | omega | (repeat' (first | with_reducible exact Below.refl _ _ | with_reducible assumption | ((with_reducible refine Below.drew ?_)) | ((with_reducible refine below_drewN ?_ _)) | ((with_reducible refine Below.alloc ?_ ?_ _); rotate_left; focus (first | omega | (simp; done) | (simp; omega))) | ((with_reducible refine Below.setCell ?_ ?_ _); rotate_left; focus (first | omega | (simp; done) | (simp; omega))) | ((with_reducible refine Below.trans ?_ (Below.mono (by with_reducible assumption) ?_)); rotate_left; focus (first | omega | (simp; done) | (simp; omega))))))); go_split_ands; clear hcc hff hbel))
      | (go_at_call 73; (with_reducible refine (K3.out _ (by repeat' (first | with_reducible exact Below.refl _ _ | with_reducible assumption | ((with_reducible refine Below.drew ?_)) | ((with_reducible refine below_drewN ?_ _)) | ((with_reducible refine Below.alloc ?_ ?_ _); rotate_left; focus (first | omega | (simp; done) | (simp; omega))) | ((with_reducible refine Below.setCell ?_ ?_ _); rotate_left; focus (first | omega | (simp; done) | (simp; omega))) | ((with_reducible refine Below.trans ?_ (Below.mono (by with_reducible assumption) ?_)); rotate_left; focus (first | omega | (simp; done) | (simp; omega)))))).mono ?_); rintro ee w3 ⟨⟨a3, c3, rfl, hR3⟩, hb3⟩; have hR3 := Lib.hid hR3; have hB3 : Below w.heap.size w w3 := (by repeat' (first | with_reducible exact Below.refl _ _ | with_reducible assumption | ((with_reducible refine Below.drew ?_)) | ((with_reducible refine below_drewN ?_ _)) | ((with_reducible refine Below.alloc ?_ ?_ _); rotate_left; focus (first | omega | (simp; done) | (simp; omega))) | ((with_reducible refine Below.setCell ?_ ?_ _); rotate_left; focus (first | omega | (simp; done) | (simp; omega))) | ((with_reducible refine Below.trans ?_ (Below.mono (by with_reducible assumption) ?_)); rotate_left; focus (first | omega | (simp; done) | (simp; omega))))); clear hb3))
    go_loopw [11, 69] (fun al i wr => ∃ (k : Nat), k ≤ L.length ∧ i = .int .i64 k ∧ al = .int .u64 (smc (L.take k)) ∧ RwV Cm.cells 2 wr a3 L ∧ Below w.heap.size w wr) (fun _ i _ => L.length - (intOf i).toNat)
    case atStart => exact ⟨0, Nat.zero_le _, rfl, rfl, hR3.out, hB3⟩
    case round =>
      obtain ⟨k, hk, rfl, rfl, hR, hB⟩ := hrel
      have hbs := hB.size
      by_cases hlt : k < L.length
      · obtain ⟨b, o, rfl, hbl, hr⟩ := hR k hlt
        have hx := HM.out.2.2.1 L[k] (List.getElem_mem hlt)
        have hss := smc_succ L k hlt
        have htk := smc_take L (fun x hx => (HM.out.2.2.1 x hx).1) (k + 1)
        have hnn := smc_nn (L.take k) (fun x hx => (HM.out.2.2.1 x (List.mem_of_mem_take hx)).1)
        have htot := HM.out.2.2.2
        obtain ⟨e, he⟩ : ∃ e, L[k] = e := ⟨_, rfl⟩
        rw [he] at hr hx hss
        obtain ⟨S, hS⟩ : ∃ S, smc (L.take k) = S := ⟨_, rfl⟩
        rw [hS] at hss hnn ⊢
        have dB : decide (B < e.by') = false := by simp; omega
        have WS : IntKind.u64.wrap (S + e.by') = S + e.by' := by rw [wrap_u64]; omega
        have HS := Lib.hid hss
        have HR := Lib.hid (fun ob => hR.below ((Below.refl wr.heap.size wr).alloc (Nat.le_refl _) ob))
        clear hss htk hnn htot hx he hS hR
        go_wp2_with (first | (refine wpList_load_mid rfl 161 _ rfl b (o + k * 2) rfl _ _ hr Try.underlying161 rfl CI.out ?_) | (refine wpList_store_new rfl 161 _ _ rfl _ #[.int .u64 e.tm, .int .u64 e.by'] rfl rfl CI.out rfl (all_oneCell_toArray (Cm.C.one e)) ?_))
        go_roundw
        case rel => exact ⟨k + 1, by omega, by go_num, by rw [HS.out], HR.out _, (by repeat' (first | with_reducible exact Below.refl _ _ | with_reducible assumption | ((with_reducible refine Below.drew ?_)) | ((with_reducible refine below_drewN ?_ _)) | ((with_reducible refine Below.alloc ?_ ?_ _); rotate_left; focus (first | omega | (simp; done) | (simp; omega))) | ((with_reducible refine Below.setCell ?_ ?_ _); rotate_left; focus (first | omega | (simp; done) | (simp; omega))) | ((with_reducible refine Below.trans ?_ (Below.mono (by with_reducible assumption) ?_)); rotate_left; focus (first | omega | (simp; done) | (simp; omega)))))⟩
        case measure => simp [intOf]; omega
      · obtain rfl : k = L.length := by omega
        rw [List.take_length]
        obtain ⟨S, hS⟩ : ∃ S, smc L = S := ⟨_, rfl⟩
        have hm := HM.out
        rw [hS] at hm ⊢
        have e1 : decide (B ≤ A) = true := by simp; exact hm.1
        have e2 : decide (A ≤ S) = true := by simp; exact hm.2.1
        clear hm hS hR
        go_wp2_with (go_at_call 70; ((with_reducible refine (K.out _).mono ?_); rintro e w5 ⟨rfl, hbel⟩; obtain ⟨hcc, hff⟩ := bcell hbel; have hsz := hbel.size; (try simp at hsz); have hF : Below w.heap.size w w5 := (by ((repeat' apply And.intro) <;> first | (simp [go_sem, *]; done) | omega | (repeat' (first | with_reducible exact Below.refl _ _ | with_reducible assumption | ((with_reducible refine Below.drew ?_)) | ((with_reducible refine below_drewN ?_ _)) | ((with_reducible refine Below.alloc ?_ ?_ _); rotate_left; focus (first | omega | (simp; done) | (simp; omega))) | ((with_reducible refine Below.setCell ?_ ?_ _); rotate_left; focus (first | omega | (simp; done) | (simp; omega))) | ((with_reducible refine Below.trans ?_ (Below.mono (by with_reducible assumption) ?_)); rotate_left; focus (first | omega | (simp; done) | (simp; omega))))))); go_split_ands; clear hcc hff hbel))
        (go_ret; refine ⟨?_, ?_⟩; (focus (exact rfl)); ((repeat' (first | with_reducible exact Below.refl _ _ | with_reducible assumption | ((with_reducible refine Below.drew ?_)) | ((with_reducible refine below_drewN ?_ _)) | ((with_reducible refine Below.alloc ?_ ?_ _); rotate_left; focus (first | omega | (simp; done) | (simp; omega))) | ((with_reducible refine Below.setCell ?_ ?_ _); rotate_left; focus (first | omega | (simp; done) | (simp; omega))) | ((with_reducible refine Below.trans ?_ (Below.mono (by with_reducible assumption) ?_)); rotate_left; focus (first | omega | (simp; done) | (simp; omega))))); done))
  · have v1 : burV s 1 es = 0 := by unfold burV; rw [if_neg (by omega), if_neg hE0]
    have v2 : burV (s + m) 1 es = 0 := by unfold burV; rw [if_neg (by omega), if_neg hE0]
    rw [hF1, v1] at k1
    rw [hF2, v2] at k2
    generalize chkE 1 es = F at *
    have f1 : (F != 0) = true := by simpa using hE0
    have K1 := Lib.hid k1
    have K2 := Lib.hid k2
    clear k1 k2 hF1 hF2 hE0 v1 v2 hE hwf h0 h1 h2 hm
    go_enter Try.func13, Try.ntmps13
    go_wp2_with (first
      | (go_at_call 71; first | ((with_reducible refine (K1.out _ (by repeat' (first | with_reducible exact Below.refl _ _ | with_reducible assumption | ((with_reducible refine Below.drew ?_)) | ((with_reducible refine below_drewN ?_ _)) | ((with_reducible refine Below.alloc ?_ ?_ _); rotate_left; focus (first | omega | (simp; done) | (simp; omega))) | ((with_reducible refine Below.setCell ?_ ?_ _); rotate_left; focus (first | omega | (simp; done) | (simp; omega))) | ((with_reducible refine Below.trans ?_ (Below.mono (by with_reducible assumption) ?_)); rotate_left; focus (first | omega | (simp; done) | (simp; omega)))))).mono ?_); rintro e w1 ⟨rfl, hbel⟩; obtain ⟨hcc, hff⟩ := bcell hbel; have hsz := hbel.size; (try simp at hsz); have hF : Below w.heap.size w w1 := (by ((repeat' apply And.intro) <;> first | (simp [go_sem, *]; done) | omega | (repeat' (first | with_reducible exact Below.refl _ _ | with_reducible assumption | ((with_reducible refine Below.drew ?_)) | ((with_reducible refine below_drewN ?_ _)) | ((with_reducible refine Below.alloc ?_ ?_ _); rotate_left; focus (first | omega | (simp; done) | (simp; omega))) | ((with_reducible refine Below.setCell ?_ ?_ _); rotate_left; focus (first | omega | (simp; done) | (simp; omega))) | ((with_reducible refine Below.trans ?_ (Below.mono (by with_reducible assumption) ?_)); rotate_left; focus (first | omega | (simp; done) | (simp; omega))))))); go_split_ands; clear hcc hff hbel) | ((with_reducible refine (K2.out _ (by repeat' (first | with_reducible exact Below.refl _ _ | with_reducible assumption | ((with_reducible refine Below.drew ?_)) | ((with_reducible refine below_drewN ?_ _)) | ((with_reducible refine Below.alloc ?_ ?_ _); rotate_left; focus (first | omega | (simp; done) | (simp; omega))) | ((with_reducible refine Below.setCell ?_ ?_ _); rotate_left; focus (first | omega | (simp; done) | (simp; omega))) | ((with_reducible refine Below.trans ?_ (Below.mono (by with_reducible assumption) ?_)); rotate_left; focus (first | omega | (simp; done) | (simp; omega)))))).mono ?_); rintro e w2 ⟨rfl, hbel⟩; obtain ⟨hcc, hff⟩ := bcell hbel; have hsz := hbel.size; (try simp at hsz); have hF : Below w.heap.size w w2 := (by ((repeat' apply And.intro) <;> first | (simp [go_sem, *]; done) | omega | (repeat' (first | with_reducible exact Below.refl _ _ | with_reducible assumption | ((with_reducible refine Below.drew ?_)) | ((with_reducible refine below_drewN ?_ _)) | ((with_reducible refine Below.alloc ?_ ?_ _); rotate_left; focus (first | omega | (simp; done) | (simp; omega))) | ((with_reducible refine Below.setCell ?_ ?_ _); rotate_left; focus (first | omega | (simp; done) | (simp; omega))) | ((with_reducible refine Below.trans ?_ (Below.mono (by with_reducible assumption) ?_)); rotate_left; focus (first | omega | (simp; done) | (simp; omega))))))); go_split_ands; clear hcc hff hbel))
      | (go_at_call 70; ((with_reducible refine (K.out _).mono ?_); rintro e w5 ⟨rfl, hbel⟩; obtain ⟨hcc, hff⟩ := bcell hbel; have hsz := hbel.size; (try simp at hsz); have hF : Below w.heap.size w w5 := (by ((repeat' apply And.intro) <;> first | (simp [go_sem, *]; done) | omega | (repeat' (first | with_reducible exact Below.refl _ _ | with_reducible assumption | ((with_reducible refine Below.drew ?_)) | ((with_reducible refine below_drewN ?_ _)) | ((with_reducible refine Below.alloc ?_ ?_ _); rotate_left; focus (first | omega | (simp; done) | (simp; omega))) | ((with_reducible refine Below.setCell ?_ ?_ _); rotate_left; focus (first | omega | (simp; done) | (simp; omega))) | ((with_reducible refine Below.trans ?_ (Below.mono (by with_reducible assumption) ?_)); rotate_left; focus (first | omega | (simp; done) | (simp; omega))))))); go_split_ands; clear hcc hff hbel)))
    (go_ret; refine ⟨?_, ?_⟩; (focus (exact rfl)); ((repeat' (first | with_reducible exact Below.refl _ _ | with_reducible assumption | ((with_reducible refine Below.drew ?_)) | ((with_reducible refine below_drewN ?_ _)) | ((with_reducible refine Below.alloc ?_ ?_ _); rotate_left; focus (first | omega | (simp; done) | (simp; omega))) | ((with_reducible refine Below.setCell ?_ ?_ _); rotate_left; focus (first | omega | (simp; done) | (simp; omega))) | ((with_reducible refine Below.trans ?_ (Below.mono (by with_reducible assumption) ?_)); rotate_left; focus (first | omega | (simp; done) | (simp; omega))))); done))
theorem conformMore_law (s m : Int) (v : Value) {w : World} (w0 : (Lit.int .u64 s).wf = true) (w1 : (Lit.int .u64 m).wf = true) (hs : Op.FlatSlice w 12 [.int .i64, .bool, .bool, .int .u64, .int .u64, .int .i64, .int .u64, .int .i64, .int .u16, .int .u16, .int .u16, .int .u16] v) :
    Calls Try.prog 13 #[.int .u64 s, .int .u64 m, v] w fun e w' => e = .returned (.bool true) ∧ Below w.heap.size w w' := by
  obtain ⟨a, es, c, rfl, _, _, hE, hw⟩ := evs_of3 hs
  have i0 := in_wf w0
  have i1 := in_wf w1
  unfold In at i0 i1
  by_cases h : 300 < es.length ∨ (es.length ≤ 300 ∧ s < 1) ∨ (es.length ≤ 300 ∧ 1 ≤ s ∧ 4294967295 < s) ∨ (es.length ≤ 300 ∧ 1 ≤ s ∧ s ≤ 4294967295 ∧ 4294967295 - s < m)
  · exact conformMore_out s m a _ c i0.1 h w
  · exact conformMore_in s m es a c (by omega) (by omega) i1.1 (by omega) (by omega) hw w hE
end Go.Proofs.Ytdahjhokcjfioaa
