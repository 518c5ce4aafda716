/- Joined texts. -/
import Derived.Test.YtmmahgfijiocfaaBs0
import Derived.Test.YtmmahgfijiocfaaBs2
import Derived.Test.YtmmahgfijiocfaaBs3
import Derived.Test.YtmmahgfijiocfaaBs11
import Derived.Shelf.SlMaps.Clone
import Derived.Ground.SlmcProg
import Derived.Lib.SlicesCompact
set_option linter.unusedVariables false
set_option linter.unusedSimpArgs false
set_option maxRecDepth 100000
set_option maxHeartbeats 16000000
section
namespace Go.Proofs.Ytmmahgfijiocfaa
open Go.RowKit Fg Reg Go.Maps
attribute [local irreducible] Reg.wE VR
def ins (x : Int) (L : List Int) : List Int := L.filter (fun y => decide (y < x)) ++ x :: L.filter (fun y => decide (x < y))
theorem ins_mem {x : Int} {L : List Int} (y : Int) : y ∈ ins x L ↔ y = x ∨ y ∈ L := by
 unfold ins
 simp only [List.mem_append, List.mem_filter, List.mem_cons, decide_eq_true_eq]
 constructor
 ·rintro (⟨h, _⟩ | h | ⟨h, _⟩)
  ·exact .inr h
  ·exact .inl h
  ·exact .inr h
 ·rintro (h | h)
  ·exact .inr (.inl h)
  ·rcases Int.lt_trichotomy y x with g | g | g
   ·exact .inl ⟨h, g⟩
   ·exact .inr (.inl g)
   ·exact .inr (.inr ⟨h, g⟩)
theorem ins_srt {x : Int} {L : List Int} (h : L.Pairwise (· < ·)) : (ins x L).Pairwise (· < ·) := by
 unfold ins
 rw [List.pairwise_append, List.pairwise_cons]
 refine ⟨h.filter _, ⟨fun y hy => by simpa using (List.mem_filter.1 hy).2, h.filter _⟩, fun a ha b hb => ?_⟩
 have h1 : a < x := by simpa using (List.mem_filter.1 ha).2
 rcases List.mem_cons.1 hb with rfl | hb
 ·exact h1
 ·have h2 : x < b := by simpa using (List.mem_filter.1 hb).2
  omega
theorem ins_len {x : Int} : ∀ {L : List Int}, x ∉ L → (ins x L).length = L.length + 1
 | [], _ => rfl
 | y :: L, h => by
  have ih := ins_len (x := x) (L := L) fun g => h (List.mem_cons_of_mem _ g)
  have hy : y ≠ x := fun g => h (by rw [g]; exact List.mem_cons_self)
  unfold ins at ih ⊢
  simp only [List.filter_cons, List.length_append, List.length_cons] at ih ⊢
  rcases Int.lt_trichotomy y x with g | g | g
  ·have g2 : ¬ x < y := by omega
   simp [g, g2]
   omega
  ·exact absurd g hy
  ·have g2 : ¬ y < x := by omega
   simp [g, g2]
   omega
theorem fin_len {f : Int → Option Cls} : ∀ (n : Nat) (x : Int), fin f (n + 1) x = true → (upl f (n + 1) x).length < n + 1 → fin f n x = true
 | 0, x, h, hl => by
  cases hc : f x with
  | none => simp [fin, hc]
  | some c => rw [upl_some hc] at hl; simp at hl
 | n + 1, x, h, hl => by
  cases hc : f x with
  | none => simp [fin, hc]
  | some c =>
   rw [upl_some hc] at hl
   rw [fin_some hc] at h ⊢
   exact fin_len n c.par h (by simpa using hl)
theorem TI.zero {f : Int → Option Cls} {L : List Int} (I : TI f L) : f 0 = none := by
 cases h : f 0 with
 | none => rfl
 | some c =>
  have h1 := I.cls 0 c h
  have := (wrC_zero h1.2.2).1
  omega
theorem TI.nil : TI (fun _ => none) [] := ⟨List.Pairwise.nil, fun x => (by simp), (by simp), fun _ _ h => (by cases h), fun _ _ h => (by cases h), fun x => (by simp [fin])⟩
theorem TI.add {f : Int → Option Cls} {L : List Int} (I : TI f L) {c : Cls} (hi : CIn c) (hw : wrC c = 0) (hs : f c.id = none) (hl : L.length < 64) (hho : hol f c.par = true) (hsh : sh1 c = true → shA f c.par = true) (hd : (upl f 16 c.par).length < 16) : TI (upd f c.id c) (ins c.id L) := by
 have hz := wrC_zero hw
 have hnp : ∀ x cc, f x = some cc → cc.par ≠ c.id := fun x cc hx he => by
  by_cases h0 : cc.par = 0
  ·omega
  ·obtain ⟨p, hp, _⟩ := I.par x cc hx h0
   rw [he, hs] at hp
   cases hp
 have hne : ∀ x, x ≠ c.id → upd f c.id c x = f x := fun x hx => by unfold upd; rw [if_neg hx]
 have heq : upd f c.id c c.id = some c := by unfold upd; rw [if_pos rfl]
 have hfin : ∀ n x, x ≠ c.id → fin f n x = true → fin (upd f c.id c) n x = true := by
  intro n
  induction n with
  | zero => intro x hx h; unfold fin at h ⊢; rw [hne x hx]; exact h
  | succ n ih =>
   intro x hx h
   cases hc : f x with
   | none => unfold fin; rw [hne x hx, hc]
   | some cc =>
    rw [fin_some hc] at h
    rw [fin_some (by rw [hne x hx]; exact hc)]
    exact ih _ (hnp x cc hc) h
 refine ⟨ins_srt I.srt, fun x => ?_, ?_, fun x cc hx => ?_, fun x cc hx hp => ?_, fun x => ?_⟩
 ·rw [ins_mem]
  by_cases h : x = c.id
  ·subst h; rw [heq]; simp
  ·rw [hne x h, I.mem x]; simp [h]
 ·have : c.id ∉ L := fun h => by have := (I.mem c.id).2 h; rw [hs] at this; cases this
  rw [ins_len this]; omega
 ·by_cases h : x = c.id
  ·subst h; rw [heq] at hx; cases hx; exact ⟨rfl, hi, hw⟩
  ·rw [hne x h] at hx; exact I.cls x cc hx
 ·by_cases h : x = c.id
  ·subst h
   rw [heq] at hx
   cases hx
   have h0 : (c.par == 0) = false := by simpa using hp
   unfold hol at hho
   rw [h0, Bool.false_or] at hho
   cases hq : f c.par with
   | none => rw [hq] at hho; cases hho
   | some p =>
    rw [hq] at hho
    refine ⟨p, by rw [hne _ hz.2.2.2.2.1]; exact hq, by simpa using hho, fun hs' => ?_⟩
    have := hsh hs'
    unfold shA at this
    rw [h0, Bool.false_or, hq] at this
    exact this
  ·rw [hne x h] at hx
   obtain ⟨p, h1, h2⟩ := I.par x cc hx hp
   exact ⟨p, by rw [hne _ (hnp x cc hx)]; exact h1, h2⟩
 ·by_cases h : x = c.id
  ·subst h
   rw [fin_some heq]
   exact hfin 15 _ hz.2.2.2.2.1 (fin_len 15 _ (I.dep _) hd)
  ·exact hfin 16 x h (I.dep x)
theorem TI.set {f : Int → Option Cls} {L : List Int} (I : TI f L) {c o : Cls} (hi : CIn c) (hw : wrC c = 0) (hs : f c.id = some o) (hp : o.par = c.par) (hlf : o.leaf = c.leaf) (hsh : sh1 c = true → shA f c.par = true) (hch : sh1 c = false → chS f L c.id = false) : TI (upd f c.id c) L := by
 have hz := wrC_zero hw
 have hne : ∀ x, x ≠ c.id → upd f c.id c x = f x := fun x hx => by unfold upd; rw [if_neg hx]
 have heq : upd f c.id c c.id = some c := by unfold upd; rw [if_pos rfl]
 have hfin : ∀ n x, fin (upd f c.id c) n x = fin f n x := by
  intro n
  induction n with
  | zero =>
   intro x
   by_cases h : x = c.id
   ·subst h; unfold fin; rw [heq, hs]; rfl
   ·unfold fin; rw [hne x h]
  | succ n ih =>
   intro x
   by_cases h : x = c.id
   ·subst h; rw [fin_some heq, fin_some hs, ih, hp]
   ·cases hc : f x with
    | none => unfold fin; rw [hne x h, hc]
    | some cc => rw [fin_some hc, fin_some (by rw [hne x h]; exact hc), ih]
 refine ⟨I.srt, fun x => ?_, I.len, fun x cc hx => ?_, fun x cc hx hq => ?_, fun x => by rw [hfin]; exact I.dep x⟩
 ·by_cases h : x = c.id
  ·subst h; rw [heq, ← I.mem, hs]; simp
  ·rw [hne x h]; exact I.mem x
 ·by_cases h : x = c.id
  ·subst h; rw [heq] at hx; cases hx; exact ⟨rfl, hi, hw⟩
  ·rw [hne x h] at hx; exact I.cls x cc hx
 ·by_cases h : x = c.id
  ·subst h
   rw [heq] at hx
   cases hx
   obtain ⟨p, h1, h2, h3⟩ := I.par c.id o hs (by rw [hp]; exact hq)
   rw [hp] at h1
   refine ⟨p, by rw [hne _ hz.2.2.2.2.1]; exact h1, h2, fun hs' => ?_⟩
   have := hsh hs'
   have h0 : (c.par == 0) = false := by simpa using hq
   unfold shA at this
   rw [h0, Bool.false_or, h1] at this
   exact this
  ·rw [hne x h] at hx
   obtain ⟨p, h1, h2, h3⟩ := I.par x cc hx hq
   by_cases hk : cc.par = c.id
   ·rw [hk] at h1 ⊢
    rw [hs] at h1
    cases h1
    refine ⟨c, heq, by rw [← hlf]; exact h2, fun hs' => ?_⟩
    cases hb : sh1 c with
    | true => rfl
    | false =>
     exfalso
     have h4 := hch hb
     unfold chS at h4
     rw [List.any_eq_false] at h4
     have hxL : x ∈ L := (I.mem x).1 (by rw [hx]; rfl)
     refine h4 x (List.mem_filter.2 ⟨hxL, by unfold sel; rw [hx]; simpa using hk⟩) ?_
     unfold shx
     rw [hx]
     exact hs'
   ·exact ⟨p, by rw [hne _ hk]; exact h1, h2, h3⟩
theorem no_child {f : Int → Option Cls} {L : List Int} (I : TI f L) {i : Int} (hc : ¬ 0 < (L.filter (sel f (fun c => c.par == i))).length) : ∀ x cc, f x = some cc → cc.par ≠ i := fun x cc hx he => by
 have hxL : x ∈ L := (I.mem x).1 (by rw [hx]; rfl)
 have hm : x ∈ L.filter (sel f (fun c => c.par == i)) := List.mem_filter.2 ⟨hxL, by unfold sel; rw [hx]; simpa using he⟩
 exact hc (List.length_pos_of_mem hm)
theorem TI.del {f : Int → Option Cls} {L : List Int} (I : TI f L) {i : Int} {o : Cls} (hs : f i = some o) (hc : ¬ 0 < (L.filter (sel f (fun c => c.par == i))).length) : TI (mdel f i) (L.filter (fun y => decide (y ≠ i))) := by
 have hnc := no_child I hc
 have hne : ∀ x, x ≠ i → mdel f i x = f x := fun x hx => by unfold mdel; rw [if_neg hx]
 have heq : mdel f i i = none := by unfold mdel; rw [if_pos rfl]
 have hof : ∀ x cc, mdel f i x = some cc → x ≠ i ∧ f x = some cc := fun x cc h => by
  by_cases hx : x = i
  ·subst hx; rw [heq] at h; cases h
  ·rw [hne x hx] at h; exact ⟨hx, h⟩
 have hfin : ∀ n x, fin f n x = true → fin (mdel f i) n x = true := by
  intro n
  induction n with
  | zero =>
   intro x h
   by_cases hx : x = i
   ·subst hx; unfold fin; rw [heq]; rfl
   ·unfold fin at h ⊢; rw [hne x hx]; exact h
  | succ n ih =>
   intro x h
   by_cases hx : x = i
   ·subst hx; unfold fin; rw [heq]
   ·cases hq : f x with
    | none => unfold fin; rw [hne x hx, hq]
    | some cc =>
     rw [fin_some hq] at h
     rw [fin_some (by rw [hne x hx]; exact hq)]
     exact ih _ h
 refine ⟨I.srt.filter _, fun x => ?_, Nat.le_trans (List.length_filter_le _ _) I.len, fun x cc hx => I.cls x cc (hof x cc hx).2, fun x cc hx hq => ?_, fun x => hfin 16 x (I.dep x)⟩
 ·rw [List.mem_filter, ← I.mem]
  by_cases hx : x = i
  ·subst hx; rw [heq]; simp
  ·rw [hne x hx]; simp [hx]
 ·obtain ⟨p, h1, h2⟩ := I.par x cc (hof x cc hx).2 hq
  exact ⟨p, by rw [hne _ (hnc x cc (hof x cc hx).2)]; exact h1, h2⟩
def addF (f : Int → Option Cls) (L : List Int) (c : Cls) : Int → Option Cls := if addE f L c = 0 then upd f c.id c else f
def addL (f : Int → Option Cls) (L : List Int) (c : Cls) : List Int := if addE f L c = 0 then ins c.id L else L
def setF (f : Int → Option Cls) (L : List Int) (c : Cls) : Int → Option Cls := if setE f L c = 0 then upd f c.id c else f
def delF (f : Int → Option Cls) (L : List Int) (i : Int) : Int → Option Cls := if delE f L i = 0 then mdel f i else f
def delL (f : Int → Option Cls) (L : List Int) (i : Int) : List Int := if delE f L i = 0 then L.filter (fun y => decide (y ≠ i)) else L
theorem bad_post {w : World} {tb mb : Nat} {f : Int → Option Cls} (h : HT w tb mb f) {e : Int} {ee : Ending} {w' : World} (hp : ee = .returned (.int .i64 e) ∧ Below w.heap.size w w') : ee = .returned (.int .i64 e) ∧ HT w' tb mb f ∧ Only (fun k => k = mb) w w' := ⟨hp.1, h.below hp.2, Only.of_below hp.2⟩
theorem hadd_c {w : World} {tb mb : Nat} {f : Int → Option Cls} {L : List Int} (h : HT w tb mb f) (I : TI f L) {c : Cls} (hi : CIn c) :
  Calls Try.prog 26 #[.pointer (some ⟨tb, 0, none⟩), .agg #[.int .i64 c.id, .int .i64 c.par, .bool c.leaf, .int .u64 c.ra, .int .u64 c.rb, .int .u64 c.rc, .int .u64 c.la, .int .u64 c.lb, .int .u64 c.lc, .int .u64 c.ua, .int .u64 c.ub, .int .u64 c.uc, .int .i64 c.pk, .int .i64 c.bt]] w fun e w' => e = .returned (.int .i64 (addE f L c)) ∧ HT w' tb mb (addF f L c) ∧ Only (fun k => k = mb) w w' := by
 have hr := fun z => cright_c hi z
 by_cases hw : wrC c = 0
 ·rw [hw] at hr
  have hwn : ¬ wrC c ≠ 0 := fun g => g hw
  cases hs : f c.id with
  | some c0 =>
   have he : addE f L c = 8 := by unfold addE; rw [if_neg hwn, if_pos (by rw [hs]; rfl)]
   unfold addF
   rw [he]
   exact (add_same h I hi hr hs).mono fun _ _ hp => bad_post h hp
  | none =>
   have h1 : ¬ (f c.id).isSome = true := by rw [hs]; simp
   by_cases hl : L.length < 64
   ·have h2 : ¬ 64 ≤ L.length := by omega
    cases hho : hol f c.par with
    | false =>
     have he : addE f L c = 23 := by unfold addE; rw [if_neg hwn, if_neg h1, if_neg h2, if_pos hho]
     unfold addF
     rw [he]
     exact (add_cls h I hi hr hs hl hho).mono fun _ _ hp => bad_post h hp
    | true =>
     have h3 : ¬ hol f c.par = false := by rw [hho]; simp
     by_cases hd : (upl f 16 c.par).length < 16
     ·have h5 : ¬ 16 ≤ (upl f 16 c.par).length := by omega
      cases hsh : sh1 c with
      | false =>
       have h4 : ¬ (sh1 c = true ∧ shA f c.par = false) := by rw [hsh]; simp
       have he : addE f L c = 0 := by unfold addE; rw [if_neg hwn, if_neg h1, if_neg h2, if_neg h3, if_neg h4, if_neg h5]
       unfold addF
       rw [if_pos he, he]
       exact add_ok0 h I hi hr hs hl hho hsh hd
      | true =>
       cases hsa : shA f c.par with
       | false =>
        have he : addE f L c = 29 := by unfold addE; rw [if_neg hwn, if_neg h1, if_neg h2, if_neg h3, if_pos ⟨hsh, hsa⟩]
        unfold addF
        rw [he]
        exact (add_lsh h I hi hr hs hl hho hsh hsa).mono fun _ _ hp => bad_post h hp
       | true =>
        have h4 : ¬ (sh1 c = true ∧ shA f c.par = false) := by rw [hsa]; simp
        have he : addE f L c = 0 := by unfold addE; rw [if_neg hwn, if_neg h1, if_neg h2, if_neg h3, if_neg h4, if_neg h5]
        unfold addF
        rw [if_pos he, he]
        exact add_ok1 h I hi hr hs hl hho hsh hsa hd
     ·have h5 : 16 ≤ (upl f 16 c.par).length := by omega
      cases hsh : sh1 c with
      | false =>
       have h4 : ¬ (sh1 c = true ∧ shA f c.par = false) := by rw [hsh]; simp
       have he : addE f L c = 25 := by unfold addE; rw [if_neg hwn, if_neg h1, if_neg h2, if_neg h3, if_neg h4, if_pos h5]
       unfold addF
       rw [he]
       exact (add_dp0 h I hi hr hs hl hho hsh h5).mono fun _ _ hp => bad_post h hp
      | true =>
       cases hsa : shA f c.par with
       | false =>
        have he : addE f L c = 29 := by unfold addE; rw [if_neg hwn, if_neg h1, if_neg h2, if_neg h3, if_pos ⟨hsh, hsa⟩]
        unfold addF
        rw [he]
        exact (add_lsh h I hi hr hs hl hho hsh hsa).mono fun _ _ hp => bad_post h hp
       | true =>
        have h4 : ¬ (sh1 c = true ∧ shA f c.par = false) := by rw [hsa]; simp
        have he : addE f L c = 25 := by unfold addE; rw [if_neg hwn, if_neg h1, if_neg h2, if_neg h3, if_neg h4, if_pos h5]
        unfold addF
        rw [he]
        exact (add_dp1 h I hi hr hs hl hho hsh hsa h5).mono fun _ _ hp => bad_post h hp
   ·have h2 : 64 ≤ L.length := by omega
    have he : addE f L c = 5 := by unfold addE; rw [if_neg hwn, if_neg h1, if_pos h2]
    unfold addF
    rw [he]
    exact (add_full h I hi hr hs h2).mono fun _ _ hp => bad_post h hp
 ·have he : addE f L c = wrC c := by unfold addE; rw [if_pos hw]
  unfold addF
  rw [he, if_neg hw]
  exact (add_wr h _ hw hi hr).mono fun _ _ hp => bad_post h hp
theorem TI.addF {f : Int → Option Cls} {L : List Int} (I : TI f L) {c : Cls} (hi : CIn c) : TI (addF f L c) (addL f L c) := by
 by_cases he : addE f L c = 0
 ·unfold Go.Proofs.Ytmmahgfijiocfaa.addF Go.Proofs.Ytmmahgfijiocfaa.addL
  rw [if_pos he, if_pos he]
  unfold addE at he
  by_cases hw : wrC c = 0
  ·rw [if_neg (fun g => g hw)] at he
   cases hs : f c.id with
   | some c0 => rw [if_pos (by rw [hs]; rfl)] at he; cases he
   | none =>
    rw [if_neg (by rw [hs]; simp)] at he
    by_cases hl : 64 ≤ L.length
    ·rw [if_pos hl] at he; cases he
    ·rw [if_neg hl] at he
     cases hho : hol f c.par with
     | false => rw [if_pos hho] at he; cases he
     | true =>
      rw [if_neg (by rw [hho]; simp)] at he
      by_cases h4 : sh1 c = true ∧ shA f c.par = false
      ·rw [if_pos h4] at he; cases he
      ·rw [if_neg h4] at he
       by_cases h5 : 16 ≤ (upl f 16 c.par).length
       ·rw [if_pos h5] at he; cases he
       ·exact I.add hi hw hs (by omega) hho (fun hsh => by cases hq : shA f c.par with | true => rfl | false => exact absurd ⟨hsh, hq⟩ h4) (by omega)
  ·rw [if_pos hw] at he; exact absurd he hw
 ·unfold Go.Proofs.Ytmmahgfijiocfaa.addF Go.Proofs.Ytmmahgfijiocfaa.addL
  rw [if_neg he, if_neg he]
  exact I
theorem hset_c {w : World} {tb mb : Nat} {f : Int → Option Cls} {L : List Int} (h : HT w tb mb f) (I : TI f L) {c : Cls} (hi : CIn c) :
  Calls Try.prog 27 #[.pointer (some ⟨tb, 0, none⟩), .agg #[.int .i64 c.id, .int .i64 c.par, .bool c.leaf, .int .u64 c.ra, .int .u64 c.rb, .int .u64 c.rc, .int .u64 c.la, .int .u64 c.lb, .int .u64 c.lc, .int .u64 c.ua, .int .u64 c.ub, .int .u64 c.uc, .int .i64 c.pk, .int .i64 c.bt]] w fun e w' => e = .returned (.int .i64 (setE f L c)) ∧ HT w' tb mb (setF f L c) ∧ Only (fun k => k = mb) w w' := by
 have hr := fun z => cright_c hi z
 by_cases hw : wrC c = 0
 ·rw [hw] at hr
  have hwn : ¬ wrC c ≠ 0 := fun g => g hw
  cases hs : f c.id with
  | none =>
   have he : setE f L c = 6 := by unfold setE; rw [if_neg hwn, hs]
   unfold setF
   rw [he]
   exact (set_none h I hi hr hs).mono fun _ _ hp => bad_post h hp
  | some o =>
   by_cases hp : o.par = c.par
   ·by_cases hlf : o.leaf = c.leaf
    ·have h1 : ¬ (o.par ≠ c.par ∨ o.leaf ≠ c.leaf) := by simp [hp, hlf]
     cases hsh : sh1 c with
     | true =>
      cases hsa : shA f c.par with
      | false =>
       have he : setE f L c = 29 := by unfold setE; rw [if_neg hwn, hs]; simp only; rw [if_neg h1, if_pos (.inl ⟨hsh, hsa⟩)]
       unfold setF
       rw [he]
       exact (set_lsh h I hi hr hs hp hlf hsh hsa).mono fun _ _ hp => bad_post h hp
      | true =>
       have he : setE f L c = 0 := by unfold setE; rw [if_neg hwn, hs]; simp only; rw [if_neg h1, if_neg (by rw [hsh, hsa]; simp)]
       unfold setF
       rw [if_pos he, he]
       exact set_ok1 h I hi hr hs hp hlf hsh hsa
     | false =>
      cases hch : chS f L c.id with
      | true =>
       have he : setE f L c = 29 := by unfold setE; rw [if_neg hwn, hs]; simp only; rw [if_neg h1, if_pos (.inr ⟨hsh, hch⟩)]
       unfold setF
       rw [he]
       exact (set_csh h I hi hr hs hp hlf hsh hch).mono fun _ _ hp => bad_post h hp
      | false =>
       have he : setE f L c = 0 := by unfold setE; rw [if_neg hwn, hs]; simp only; rw [if_neg h1, if_neg (by rw [hsh, hch]; simp)]
       unfold setF
       rw [if_pos he, he]
       exact set_ok0 h I hi hr hs hp hlf hsh hch
    ·have he : setE f L c = 1 := by unfold setE; rw [if_neg hwn, hs]; simp only; rw [if_pos (.inr hlf)]
     unfold setF
     rw [he]
     exact (set_leaf h I hi hr hs hp hlf).mono fun _ _ hp => bad_post h hp
   ·have he : setE f L c = 1 := by unfold setE; rw [if_neg hwn, hs]; simp only; rw [if_pos (.inl hp)]
    unfold setF
    rw [he]
    exact (set_par h I hi hr hs hp).mono fun _ _ hp => bad_post h hp
 ·have he : setE f L c = wrC c := by unfold setE; rw [if_pos hw]
  unfold setF
  rw [he, if_neg hw]
  exact (set_wr h _ hw hi hr).mono fun _ _ hp => bad_post h hp
theorem TI.setF {f : Int → Option Cls} {L : List Int} (I : TI f L) {c : Cls} (hi : CIn c) : TI (setF f L c) L := by
 unfold Go.Proofs.Ytmmahgfijiocfaa.setF
 by_cases he : setE f L c = 0
 ·rw [if_pos he]
  unfold setE at he
  by_cases hw : wrC c = 0
  ·rw [if_neg (fun g => g hw)] at he
   cases hs : f c.id with
   | none => rw [hs] at he; simp at he
   | some o =>
    rw [hs] at he
    simp only at he
    by_cases h1 : o.par ≠ c.par ∨ o.leaf ≠ c.leaf
    ·rw [if_pos h1] at he; cases he
    ·rw [if_neg h1] at he
     by_cases h2 : (sh1 c = true ∧ shA f c.par = false) ∨ (sh1 c = false ∧ chS f L c.id = true)
     ·rw [if_pos h2] at he; cases he
     ·exact I.set hi hw hs (Classical.byContradiction fun g => h1 (.inl g)) (Classical.byContradiction fun g => h1 (.inr g)) (fun hsh => by cases hq : shA f c.par with | true => rfl | false => exact absurd (.inl ⟨hsh, hq⟩) h2) (fun hsh => by cases hq : chS f L c.id with | false => rfl | true => exact absurd (.inr ⟨hsh, hq⟩) h2)
  ·rw [if_pos hw] at he; exact absurd he hw
 ·rw [if_neg he]; exact I
theorem hdel_c {w : World} {tb mb : Nat} {f : Int → Option Cls} {L : List Int} (h : HT w tb mb f) (I : TI f L) {i : Int} (hi : iok i) :
  Calls Try.prog 21 #[.pointer (some ⟨tb, 0, none⟩), .int .i64 i] w fun e w' => e = .returned (.int .i64 (delE f L i)) ∧ HT w' tb mb (delF f L i) ∧ Only (fun k => k = mb) w w' := by
 cases hs : f i with
 | none =>
  have he : delE f L i = 6 := by unfold delE; rw [hs]
  unfold delF
  rw [he]
  exact (del_none h hi hs).mono fun _ _ hp => bad_post h hp
 | some o =>
  by_cases hc : 0 < (L.filter (sel f (fun c => c.par == i))).length
  ·have he : delE f L i = 23 := by unfold delE; rw [hs]; simp only; rw [if_pos hc]
   unfold delF
   rw [he]
   exact (del_chi h I hi hs hc).mono fun _ _ hp => bad_post h hp
  ·have he : delE f L i = 0 := by unfold delE; rw [hs]; simp only; rw [if_neg hc]
   unfold delF
   rw [if_pos he, he]
   exact del_ok h I hi hs hc
theorem TI.delF {f : Int → Option Cls} {L : List Int} (I : TI f L) (i : Int) : TI (delF f L i) (delL f L i) := by
 unfold Go.Proofs.Ytmmahgfijiocfaa.delF Go.Proofs.Ytmmahgfijiocfaa.delL
 by_cases he : delE f L i = 0
 ·rw [if_pos he, if_pos he]
  unfold delE at he
  cases hs : f i with
  | none => rw [hs] at he; simp at he
  | some o =>
   rw [hs] at he
   simp only at he
   by_cases hc : 0 < (L.filter (sel f (fun c => c.par == i))).length
   ·rw [if_pos hc] at he; cases he
   ·exact I.del hs hc
 ·rw [if_neg he, if_neg he]; exact I
end Go.Proofs.Ytmmahgfijiocfaa
end
section
namespace Go.Proofs.Ytmmahgfijiocfaa
open Go.RowKit Fg Reg Go.Maps
attribute [local irreducible] Reg.wE VR
theorem pints_c (zs : List Int) (a1 a2 : Option Addr) (c1 c2 : Nat) (hn : zs.length ≤ 100000) (w : World) (h1 : IntsV w a1 zs) (h2 : IntsV w a2 zs) : Calls Try.prog 13 #[.slice a1 zs.length c1, .slice a2 zs.length c2] w fun ee w' => ee = .returned (.bool true) ∧ Below w.heap.size w w' := by
 have H1 := Lib.hid h1
 have H2 := Lib.hid h2
 clear h1 h2
 go_enter Try.func13, Try.ntmps13
 go_wp2_with fail
 go_loopw [13] (fun ii wr => ∃ k : Nat, k ≤ zs.length ∧ ii = .int .i64 k ∧ Below w.heap.size w wr) (fun ii _ => zs.length - (intOf ii).toNat)
 case atStart => exact ⟨0, Nat.zero_le _, rfl, Below.refl _ _⟩
 case round =>
  obtain ⟨k, hk, rfl, hB⟩ := hrel
  have hsz := hB.size
  by_cases hlt : k < zs.length
  ·obtain ⟨b1, o1, rfl, hb1, e1⟩ := (H1.out.below hB) k hlt
   obtain ⟨b2, o2, rfl, hb2, e2⟩ := (H2.out.below hB) k hlt
   generalize zs[k] = y at *
   go_wp2
   go_quiet (fail)
   go_wp2
   go_roundw
   case rel => exact ⟨k + 1, by omega, by go_num, by exact kpb⟩
   case measure => simp [intOf]; omega
  ·obtain rfl : k = zs.length := by omega
   go_wp2
   go_ret
   exact ⟨rfl, hB⟩
def crt (c : Cls) : List Value := [.int .u64 c.ra, .int .u64 c.rb, .int .u64 c.rc]
def rls (f : Int → Option Cls) (M : List Int) : List Cls := (M.map (fun x => gcl (f x))).filter rl1
end Go.Proofs.Ytmmahgfijiocfaa
end
section
namespace Go.Proofs.Ytmmahgfijiocfaa
open Go.RowKit Fg Reg
attribute [local irreducible] Reg.wE
def AC (z : World) (b : Nat) (op : Int) (c : Cls) : Prop := z.cell? ⟨b, 0, none⟩ = some (.int .i64 op) ∧ z.cell? ⟨b, 1, none⟩ = some (.int .i64 c.id) ∧ z.cell? ⟨b, 2, none⟩ = some (.int .i64 c.par) ∧ z.cell? ⟨b, 3, none⟩ = some (.bool c.leaf) ∧ z.cell? ⟨b, 4, none⟩ = some (.int .u64 c.ra) ∧ z.cell? ⟨b, 5, none⟩ = some (.int .u64 c.rb) ∧ z.cell? ⟨b, 6, none⟩ = some (.int .u64 c.rc) ∧ z.cell? ⟨b, 7, none⟩ = some (.int .u64 c.la) ∧ z.cell? ⟨b, 8, none⟩ = some (.int .u64 c.lb) ∧ z.cell? ⟨b, 9, none⟩ = some (.int .u64 c.lc) ∧ z.cell? ⟨b, 10, none⟩ = some (.int .u64 c.ua) ∧ z.cell? ⟨b, 11, none⟩ = some (.int .u64 c.ub) ∧ z.cell? ⟨b, 12, none⟩ = some (.int .u64 c.uc) ∧ z.cell? ⟨b, 13, none⟩ = some (.int .i64 c.pk) ∧ z.cell? ⟨b, 14, none⟩ = some (.int .i64 c.bt) ∧ b < z.heap.size
theorem AC.below {z z' : World} {b : Nat} {op : Int} {c : Cls} (h : AC z b op c) (hb : Below z.heap.size z z') : AC z' b op c := by
 obtain ⟨y0, y1, y2, y3, y4, y5, y6, y7, y8, y9, y10, y11, y12, y13, y14, yl⟩ := h
 exact ⟨(hb.cell yl).trans y0, (hb.cell yl).trans y1, (hb.cell yl).trans y2, (hb.cell yl).trans y3, (hb.cell yl).trans y4, (hb.cell yl).trans y5, (hb.cell yl).trans y6, (hb.cell yl).trans y7, (hb.cell yl).trans y8, (hb.cell yl).trans y9, (hb.cell yl).trans y10, (hb.cell yl).trans y11, (hb.cell yl).trans y12, (hb.cell yl).trans y13, (hb.cell yl).trans y14, Nat.lt_of_lt_of_le yl hb.size⟩
end Go.Proofs.Ytmmahgfijiocfaa
end
section
namespace Go.Proofs.Ytmmahgfijiocfaa
open Go.RowKit Fg Reg Go.Maps
attribute [local irreducible] Reg.wE VR
def t1c : Cls := ⟨1, 0, false, 0, 0, 0, 5, 0, 5, 0, 0, 0, 0, 0⟩
def t2c : Cls := ⟨2, 1, true, 5, 0, 5, 5, 0, 5, 0, 0, 0, 1, 9⟩
def f1t : Int → Option Cls := addF (fun _ => none) [] t1c
def l1t : List Int := addL (fun _ => none) [] t1c
def f2t : Int → Option Cls := addF f1t l1t t2c
def l2t : List Int := addL f1t l1t t2c
end Go.Proofs.Ytmmahgfijiocfaa
end
section
namespace Go.Proofs.Ytmmahgfijiocfaa
open Go.RowKit Fg Reg Go.Maps
attribute [local irreducible] Reg.wE VR
structure HA where
 k : Int
 c : Cls
instance : Inhabited HA := ⟨⟨0, clz⟩⟩
def HA.cells (a : HA) : List Value := [.int .i64 a.k, .int .i64 a.c.id, .int .i64 a.c.par, .bool a.c.leaf, .int .u64 a.c.ra, .int .u64 a.c.rb, .int .u64 a.c.rc, .int .u64 a.c.la, .int .u64 a.c.lb, .int .u64 a.c.lc, .int .u64 a.c.ua, .int .u64 a.c.ub, .int .u64 a.c.uc, .int .i64 a.c.pk, .int .i64 a.c.bt]
def doE (k : Int) (f : Int → Option Cls) (L : List Int) (c : Cls) : Int := if k = 0 then addE f L c else if k = 1 then delE f L c.id else setE f L c
def doF (k : Int) (f : Int → Option Cls) (L : List Int) (c : Cls) : Int → Option Cls := if k = 0 then addF f L c else if k = 1 then delF f L c.id else setF f L c
def doL (k : Int) (f : Int → Option Cls) (L : List Int) (c : Cls) : List Int := if k = 0 then addL f L c else if k = 1 then delL f L c.id else L
theorem TI.doF {f : Int → Option Cls} {L : List Int} (I : TI f L) (k : Int) {c : Cls} (hi : CIn c) : TI (doF k f L c) (doL k f L c) := by
 unfold Go.Proofs.Ytmmahgfijiocfaa.doF Go.Proofs.Ytmmahgfijiocfaa.doL
 by_cases h0 : k = 0
 ·rw [if_pos h0, if_pos h0]; exact I.addF hi
 ·rw [if_neg h0, if_neg h0]
  by_cases h1 : k = 1
  ·rw [if_pos h1, if_pos h1]; exact I.delF c.id
  ·rw [if_neg h1, if_neg h1]; exact I.setF hi
end Go.Proofs.Ytmmahgfijiocfaa
end
section
namespace Go.Proofs.Ytmmahgfijiocfaa
open Go.RowKit Fg Reg Go.Maps
attribute [local irreducible] Reg.wE VR
def clEq (c d : Cls) : Bool := (c.id == d.id) && (c.par == d.par) && (c.leaf == d.leaf) && (c.ra == d.ra) && (c.rb == d.rb) && (c.rc == d.rc) && (c.la == d.la) && (c.lb == d.lb) && (c.lc == d.lc) && (c.ua == d.ua) && (c.ub == d.ub) && (c.uc == d.uc) && (c.pk == d.pk) && (c.bt == d.bt)
def TV (z : World) (v : Value) (f : Int → Option Cls) (L : List Int) : Prop := (v = .pointer none ∧ f = (fun _ => none) ∧ L = []) ∨ ∃ tb mb, v = .pointer (some ⟨tb, 0, none⟩) ∧ HT z tb mb f
theorem TV.below {z z' : World} {v : Value} {f : Int → Option Cls} {L : List Int} (h : TV z v f L) (hb : Below z.heap.size z z') : TV z' v f L := by
 rcases h with h | ⟨tb, mb, h1, h2⟩
 ·exact .inl h
 ·exact .inr ⟨tb, mb, h1, h2.below hb⟩
def tsm (f g : Int → Option Cls) (x : Int) : Bool := match f x, g x with | some c, some d => clEq c d | _, _ => false
structure Tch (f g : Int → Option Cls) (T : List Int) : Prop where
 srt : T.Pairwise (· < ·)
 mem : ∀ x, x ∈ T ↔ f x ≠ g x
def unl (M : List Int) : List Int := Go.Lib.compactUpTo (M.mergeSort (fun x y => decide (x ≤ y))).toArray (M.mergeSort (fun x y => decide (x ≤ y))).toArray.size
end Go.Proofs.Ytmmahgfijiocfaa
end
