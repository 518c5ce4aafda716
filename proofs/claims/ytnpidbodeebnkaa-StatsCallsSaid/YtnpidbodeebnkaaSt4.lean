/- (*stats.Stats).Went. -/
import Derived.Test.YtnpidbodeebnkaaSt3
namespace Go.Proofs.Ytnpidbodeebnkaa
set_option linter.unusedVariables false
set_option linter.unusedSimpArgs false
set_option maxRecDepth 100000
open Go.RowKit Fg Reg
attribute [local irreducible] Reg.wN Reg.wE

theorem QS.some' {z : World} {B m : Nat} {v : Value} {g : Nat → Value} (h : QS z B v m g) (hm : 0 < m) : ∃ b o cap, v = .slice (some ⟨b, o, none⟩) m cap ∧ m ≤ cap ∧ cap ≤ maxLen ∧ QC z B b o cap m g := by
  rcases h with ⟨_, rfl⟩ | h
  · exact absurd hm (by omega)
  · exact h
theorem QS.of_qc {z : World} {B b o cap m : Nat} {g : Nat → Value} (h1 : m ≤ cap) (h2 : cap ≤ maxLen) (h : QC z B b o cap m g) : QS z B (.slice (some ⟨b, o, none⟩) m cap) m g := .inr ⟨b, o, cap, rfl, h1, h2, h⟩
theorem QC.head {z : World} {B b o cap m : Nat} {g : Nat → Value} (h : QC z B b o cap m g) (hm : 0 < m) : z.cell? ⟨b, o, none⟩ = some (g 0) := by have := h.2.2.2 0 hm; simpa using this
attribute [local irreducible] QS QC
/-- Behind the first one. -/
def tlv (b o m cap : Nat) : Value := .slice (if cap = 1 then some ⟨b, o, none⟩ else some ⟨b, o + 1, none⟩) (m - 1) (cap - 1)
/-- The first half: the row is shorter. -/
theorem QS.shorter {z : World} {B b o cap m : Nat} {g : Nat → Value} (hm : 0 < m) (h1 : m ≤ cap) (h2 : cap ≤ maxLen) (h : QC z B b o cap m g) : QS z B (tlv b o m cap) (m - 1) (fun j => g (j + 1)) := h.tail hm h1 h2
set_option maxHeartbeats 8000000 in
theorem went_c {w z : World} {p mw mr : Nat} {cl : Int} {wv : Option Value} {row : Option R5} {v : Value} {m : Nat} {g : Nat → Value} (h : S0 w z p mw mr cl (some v) row) (hq : QS z (p + 1) v m g) (hm0 : 0 < m) (hm : m ≤ 1000) (hc : iok cl) (a dn by' : Int) (hg : g 0 = .int .u64 a) (ha0 : 0 ≤ a) (had : a ≤ dn) (hdn : dn ≤ 18446744073709551615) (hby : 1 ≤ by') (hby2 : by' ≤ 9223372036854775807) (real : Bool) :
    Calls Try.prog 8 #[.pointer (some ⟨p, 0, none⟩), .int .i64 cl, .int .u64 dn, .int .i64 by', .bool real] z fun e z' => e = .returned (.int .i64 0) ∧ ∃ v', S0 w z' p mw mr cl (some v') (some (tog (row.getD r50) ⟨1, by', if real = true then 1 else 0, dn - a, dn - a⟩)) ∧ QS z' (p + 1) v' (m - 1) (fun j => g (j + 1)) := by
  have KW := Lib.hid (waiting_c h (show QS z (p + 1) (wrow (some v)) m g from hq) hc)
  obtain ⟨b, o, cap, rfl, hmc, hcm, hQC⟩ := hq.some' hm0
  have hLW := Lib.hid (fun (z' : World) (h : S0 w z' p mw mr cl (some (Value.slice (some ⟨b, o, none⟩) m cap)) row) => (show (Instr.lookup 52 (.map (some mw)) (.int .i64 cl) false).run Try.prog z' = .ok (Value.slice (some ⟨b, o, none⟩) m cap) z' from h.lookw hc))
  have HT := Lib.hid (fun (z' : World) (h : QC z' (p + 1) b o cap m g) => QS.shorter hm0 hmc hcm h)
  have HLR0 := Lib.hid (fun (z' : World) (v' : Value) (h : S0 w z' p mw mr cl (some v') row) => h.lookr hc)
  have HQb := Lib.hid (fun (z1 z2 : World) (h : QC z1 (p + 1) b o cap m g) (hb : Below z1.heap.size z1 z2) => (show QC z2 (p + 1) b o cap m g from QC.only h (Only.of_below (S := fun _ => False) hb) (fun _ h => h.elim)))
  have hcell := Lib.hid (fun (z' : World) (h : QC z' (p + 1) b o cap m g) => (show z'.cell? ⟨b, o, none⟩ = some (.int .u64 a) by rw [← hg]; exact h.head hm0))
  have em : ((m : Int) == 0) = false := by simp; omega
  have e1 : decide (by' < 1) = false := by simp; omega
  have e2 : decide (dn < a) = false := by simp; omega
  have w1' : IntKind.u64.wrap (dn - a) = dn - a := by rw [wrap_u64]; omega
  have w2' : IntKind.u64.wrap by' = by' := by rw [wrap_u64]; omega
  cases real with
  | true =>
    simp only [if_true]
    generalize hR : row.getD r50 = R at HLR0 ⊢
    have HT0 := Lib.hid (fun z' => tog_c R ⟨1, by', 1, dn - a, dn - a⟩ z')
    generalize tog R ⟨1, by', 1, dn - a, dn - a⟩ = X at HT0 ⊢
    unfold r5v at HT0
    dsimp only at HT0
    unfold r5v at HLR0
    clear hg hq
    have hml : (0 : Int) < m := by omega
    have hml1 : (1 : Int) ≤ m := by omega
    have hmn := map_nn mw
    go_enter Try.func8, Try.ntmps8
    go_wp2_with (go_at_call 14; ((with_reducible refine KW.out.mono ?_); rintro e z1 ⟨rfl, hb⟩; have hS := h.below hb; have hQ := HQb.out _ _ hQC hb; have c0 := hS.c0; have plt := hS.plt; have hlk := hLW.out _ hS; have hcl := hcell.out _ hQ; clear hb h hQC))
    have hSd := hS.below (Below.drew (Below.refl _ _))
    have hQd := HQb.out _ _ hQ (Below.drew (Below.refl _ _))
    have hlkd := hLW.out _ hSd
    obtain ⟨Cl, hCl⟩ : ∃ Cl : List Value → World → Prop, Cl = ((fun ps wz => (wz.cell? ⟨p, 0, none⟩ = some (.map (some mw)) ∧ p < wz.heap.size) ∧ (match ps with | [] => (Instr.lookup 52 (.map (some mw)) (.int .i64 cl) false).run Try.prog wz = .ok (Value.slice (some ⟨b, o, none⟩) m cap) wz ∧ S0 w wz p mw mr cl (some (Value.slice (some ⟨b, o, none⟩) m cap)) row ∧ QC wz (p + 1) b o cap m g | _ => S0 w wz p mw mr cl (some (tlv b o m cap)) row ∧ QS wz (p + 1) (tlv b o m cap) (m - 1) (fun j => g (j + 1))))) := ⟨_, rfl⟩; have HCl := Lib.hid hCl; clear hCl; refine wp_region_eff [12] Cl (by kernel_rfl) (by kernel_rfl) (by rw [HCl.out]; (try simp only [List.nil_append, List.cons_append]); (try dsimp only); exact ⟨⟨hSd.c0, hSd.plt⟩, hlkd, hSd, hQd⟩) ?_
    clear hSd hQd hlkd hlk hcl
    (repeat (first | (refine wE_skip (by rfl) ?_; simp only [Act.put, Nat.reduceAdd, List.setIfInBounds_toArray, List.set_cons_zero, List.set_cons_succ, List.nil_append, List.cons_append]) | (refine wE_open (by rfl) (by rfl) ?_; apply Exists.intro; refine ⟨fun vs wq hw => ?_, ?_⟩; (focus (rw [HCl.out] at hw; (try simp only [List.nil_append, List.cons_append] at hw); (try dsimp only at hw); go_split_ands; go_simp <;> first | with_reducible exact (rfl : Value.bool false = _) | with_reducible exact (rfl : Value.bool true = _) | ((try go_bits) <;> exact rfl))); simp only [Act.put, Nat.reduceAdd, List.setIfInBounds_toArray, List.set_cons_zero, List.set_cons_succ, List.nil_append, List.cons_append]) | (refine wE_seal (by rfl) (by rfl) (by kernel_rfl) ?_; apply Exists.intro; refine ⟨fun wq hw => ?_, ?_⟩; (focus (rw [HCl.out] at hw; (try simp only [List.nil_append, List.cons_append] at hw); (try dsimp only at hw); go_split_ands; go_simp <;> (try go_bits) <;> exact rfl)); simp only [Act.put, Nat.reduceAdd, List.setIfInBounds_toArray, List.set_cons_zero, List.set_cons_succ, List.nil_append, List.cons_append]) | (refine wE_seal (by rfl) (by rfl) (by kernel_rfl) ?_; apply Exists.intro; refine ⟨fun wq hw => ?_, ?_⟩; (focus (rw [HCl.out] at hw; (try simp only [List.nil_append, List.cons_append] at hw); (try dsimp only at hw); go_split_ands; go_simp; fail)); simp only [Act.put, Nat.reduceAdd, List.setIfInBounds_toArray, List.set_cons_zero, List.set_cons_succ, List.nil_append, List.cons_append]) | (refine wE_eff (by rfl) (by rfl) (fun wq hw => ?_) (fun u hu => ?_); (focus (rw [HCl.out] at hw; (try simp only [List.nil_append, List.cons_append] at hw); (try dsimp only at hw); go_split_ands; go_simp; rw [HCl.out]; (try simp only [List.nil_append, List.cons_append]); (try dsimp only); skip; ((repeat' apply And.intro) <;> first | (simp [go_sem, *]; done) | omega | (repeat' (first | with_reducible exact Below.refl _ _ | with_reducible assumption | ((with_reducible refine Below.drew ?_)) | ((with_reducible refine below_drewN ?_ _)) | ((with_reducible refine Below.alloc ?_ ?_ _); rotate_left; focus (first | omega | (simp; done) | (simp; omega))) | ((with_reducible refine Below.setCell ?_ ?_ _); rotate_left; focus (first | omega | (simp; done) | (simp; omega))) | ((with_reducible refine Below.trans ?_ (Below.mono (by with_reducible assumption) ?_)); rotate_left; focus (first | omega | (simp; done) | (simp; omega)))))))); clear hu; simp only [Act.put, Nat.reduceAdd, List.setIfInBounds_toArray, List.set_cons_zero, List.set_cons_succ, List.nil_append, List.cons_append])))
    have o2 := hS.o2
    have o3 := hS.o3
    refine wE_eff (by rfl) (by rfl) (fun wq hw => ?_) (fun u hu => ?_)
    focus
      rw [HCl.out] at hw; (try simp only [List.nil_append, List.cons_append] at hw); (try dsimp only at hw)
      obtain ⟨⟨y0, y1⟩, hlw, hSq, hQq⟩ := hw
      obtain ⟨wp, hr, h1, h2, h3⟩ := hSq.mpw.update ikok Try.underlying52 hc (tlv b o m cap)
      rw [upd_one] at h1
      refine eff_mapUpdate (.tmp 48) (.tmp 49) (.tmp 56) 52 rfl rfl rfl rfl hr ?_
      rw [HCl.out]; (try simp only [List.nil_append, List.cons_append]); (try dsimp only)
      have hS2 := hSq.putw h1 h2
      exact ⟨⟨hS2.c0, hS2.plt⟩, hS2, (HT.out _ hQq).only h2 (fun k hk => by omega)⟩
    clear hu
    simp only [Act.put, Nat.reduceAdd, List.setIfInBounds_toArray, List.set_cons_zero, List.set_cons_succ, List.nil_append, List.cons_append]
    (repeat (first | (refine wE_skip (by rfl) ?_; simp only [Act.put, Nat.reduceAdd, List.setIfInBounds_toArray, List.set_cons_zero, List.set_cons_succ, List.nil_append, List.cons_append]) | (refine wE_open (by rfl) (by rfl) ?_; apply Exists.intro; refine ⟨fun vs wq hw => ?_, ?_⟩; (focus (rw [HCl.out] at hw; (try simp only [List.nil_append, List.cons_append] at hw); (try dsimp only at hw); go_split_ands; go_simp <;> first | with_reducible exact (rfl : Value.bool false = _) | with_reducible exact (rfl : Value.bool true = _) | ((try go_bits) <;> exact rfl))); simp only [Act.put, Nat.reduceAdd, List.setIfInBounds_toArray, List.set_cons_zero, List.set_cons_succ, List.nil_append, List.cons_append])))
    refine wE_nil ?_; intro w' hw; rw [HCl.out] at hw; (try simp only [List.nil_append, List.cons_append] at hw); (try dsimp only at hw); clear HCl
    obtain ⟨_, hS3, hQ3⟩ := hw
    clear hS hQ
    have c0' := hS3.c0
    have c1' := hS3.c1
    have plt' := hS3.plt
    rw [show (Value.slice (if cap = 1 then some ⟨b, o, none⟩ else some ⟨b, o + 1, none⟩) (m - 1) (cap - 1)) = tlv b o m cap from rfl]
    generalize hT2 : tlv b o m cap = tv at *
    have HLR := Lib.hid (fun (z' : World) (h : S0 w z' p mw mr cl (some tv) row) => (show (Instr.lookup 53 (.map (some mr)) (.int .i64 cl) false).run Try.prog z' = .ok (.agg #[.int .u64 (R).a, .int .u64 (R).b, .int .u64 (R).c, .int .u64 (R).d, .int .u64 (R).e]) z' from HLR0.out z' tv h))
    clear HLR0 HT hLW HQb hcell KW
    go_wp2
    have hA : Below w'.heap.size w' (w'.alloc (.cells #[.int .u64 1, .int .u64 by', .int .u64 1, .int .u64 (dn - a), .int .u64 (dn - a)] 39)) := Below.alloc (Below.refl _ _) (Nat.le_refl _) _
    have hN := (hS3.below hA).below (Below.drew (Below.refl _ _))
    have hQn := (hQ3.below hA).below (Below.drew (Below.refl _ _))
    have hLr := HLR.out _ hN
    clear hA
    obtain ⟨Cl, hCl⟩ : ∃ Cl : List Value → World → Prop, Cl = ((fun ps wz => ((wz.cell? ⟨p, 0, none⟩ = some (.map (some mw)) ∧ wz.cell? ⟨p, 1, none⟩ = some (.map (some mr)) ∧ p < wz.heap.size)) ∧ (match ps with | [] => (wz.cell? ⟨w'.heap.size, 0, none⟩ = some (.int .u64 1) ∧ wz.cell? ⟨w'.heap.size, 1, none⟩ = some (.int .u64 by') ∧ wz.cell? ⟨w'.heap.size, 2, none⟩ = some (.int .u64 1) ∧ wz.cell? ⟨w'.heap.size, 3, none⟩ = some (.int .u64 (dn - a)) ∧ wz.cell? ⟨w'.heap.size, 4, none⟩ = some (.int .u64 (dn - a)) ∧ w'.heap.size < wz.heap.size) ∧ ((Instr.lookup 53 (.map (some mr)) (.int .i64 cl) false).run Try.prog wz = .ok (.agg #[.int .u64 (R).a, .int .u64 (R).b, .int .u64 (R).c, .int .u64 (R).d, .int .u64 (R).e]) wz) ∧ S0 w wz p mw mr cl (some tv) row ∧ QS wz (p + 1) tv (m - 1) (fun j => g (j + 1)) | _ => S0 w wz p mw mr cl (some tv) (some X) ∧ QS wz (p + 1) tv (m - 1) (fun j => g (j + 1))))) := ⟨_, rfl⟩; have HCl := Lib.hid hCl; clear hCl; refine wp_region_eff [13] Cl (by kernel_rfl) (by kernel_rfl) (by rw [HCl.out]; (try simp only [List.nil_append, List.cons_append]); (try dsimp only); exact ⟨⟨hN.c0, hN.c1, hN.plt⟩, ⟨by simp [go_sem], by simp [go_sem], by simp [go_sem], by simp [go_sem], by simp [go_sem], by simp⟩, hLr, hN, hQn⟩) ?_
    clear hN hQn hLr
    (repeat (first | (refine wE_skip (by rfl) ?_; simp only [Act.put, Nat.reduceAdd, List.setIfInBounds_toArray, List.set_cons_zero, List.set_cons_succ, List.nil_append, List.cons_append]) | (refine wE_open (by rfl) (by rfl) ?_; apply Exists.intro; refine ⟨fun vs wq hw => ?_, ?_⟩; (focus (rw [HCl.out] at hw; (try simp only [List.nil_append, List.cons_append] at hw); (try dsimp only at hw); go_split_ands; go_simp <;> first | with_reducible exact (rfl : Value.bool false = _) | with_reducible exact (rfl : Value.bool true = _) | ((try go_bits) <;> exact rfl))); simp only [Act.put, Nat.reduceAdd, List.setIfInBounds_toArray, List.set_cons_zero, List.set_cons_succ, List.nil_append, List.cons_append]) | (refine wE_seal (by rfl) (by rfl) (by kernel_rfl) ?_; apply Exists.intro; refine ⟨fun wq hw => ?_, ?_⟩; (focus (rw [HCl.out] at hw; (try simp only [List.nil_append, List.cons_append] at hw); (try dsimp only at hw); go_split_ands; go_simp <;> (try go_bits) <;> exact rfl)); simp only [Act.put, Nat.reduceAdd, List.setIfInBounds_toArray, List.set_cons_zero, List.set_cons_succ, List.nil_append, List.cons_append]) | (refine wE_seal (by rfl) (by rfl) (by kernel_rfl) ?_; apply Exists.intro; refine ⟨fun wq hw => ?_, ?_⟩; (focus (rw [HCl.out] at hw; (try simp only [List.nil_append, List.cons_append] at hw); (try dsimp only at hw); go_split_ands; go_simp; (go_at_call 20; ((with_reducible refine (HT0.out _).mono ?_); rintro e w2 ⟨rfl, hbel⟩; refine ⟨rfl, ?_⟩; rw [HCl.out]; (try simp only [List.nil_append, List.cons_append]); (try dsimp only); (have hSS := S0.below (by with_reducible assumption) hbel); (have hQQ := QS.below (by with_reducible assumption) hbel); obtain ⟨hcc, hff⟩ := bcell hbel; have hsz := hbel.size; (try simp at hsz); exact ⟨⟨hSS.c0, hSS.c1, hSS.plt⟩, (by ((repeat' apply And.intro) <;> first | (simp [go_sem, *]; done) | omega | (repeat' (first | with_reducible exact Below.refl _ _ | with_reducible assumption | ((with_reducible refine Below.drew ?_)) | ((with_reducible refine below_drewN ?_ _)) | ((with_reducible refine Below.alloc ?_ ?_ _); rotate_left; focus (first | omega | (simp; done) | (simp; omega))) | ((with_reducible refine Below.setCell ?_ ?_ _); rotate_left; focus (first | omega | (simp; done) | (simp; omega))) | ((with_reducible refine Below.trans ?_ (Below.mono (by with_reducible assumption) ?_)); rotate_left; focus (first | omega | (simp; done) | (simp; omega))))))), HLR.out _ hSS, hSS, hQQ⟩)))); simp only [Act.put, Nat.reduceAdd, List.setIfInBounds_toArray, List.set_cons_zero, List.set_cons_succ, List.nil_append, List.cons_append]) | (refine wE_eff (by rfl) (by rfl) (fun wq hw => ?_) (fun u hu => ?_); (focus (rw [HCl.out] at hw; (try simp only [List.nil_append, List.cons_append] at hw); (try dsimp only at hw); go_split_ands; go_simp; rw [HCl.out]; (try simp only [List.nil_append, List.cons_append]); (try dsimp only); skip; ((repeat' apply And.intro) <;> first | (simp [go_sem, *]; done) | omega | (repeat' (first | with_reducible exact Below.refl _ _ | with_reducible assumption | ((with_reducible refine Below.drew ?_)) | ((with_reducible refine below_drewN ?_ _)) | ((with_reducible refine Below.alloc ?_ ?_ _); rotate_left; focus (first | omega | (simp; done) | (simp; omega))) | ((with_reducible refine Below.setCell ?_ ?_ _); rotate_left; focus (first | omega | (simp; done) | (simp; omega))) | ((with_reducible refine Below.trans ?_ (Below.mono (by with_reducible assumption) ?_)); rotate_left; focus (first | omega | (simp; done) | (simp; omega)))))))); clear hu; simp only [Act.put, Nat.reduceAdd, List.setIfInBounds_toArray, List.set_cons_zero, List.set_cons_succ, List.nil_append, List.cons_append])))
    refine wE_eff (by rfl) (by rfl) (fun wq hw => ?_) (fun u hu => ?_)
    focus
      rw [HCl.out] at hw; (try simp only [List.nil_append, List.cons_append] at hw); (try dsimp only at hw)
      obtain ⟨⟨y0, y1, y2⟩, hrc, hlk2, hSq, hQq⟩ := hw
      obtain ⟨wp, hr, h1, h2, h3⟩ := hSq.mpr.update ikok Try.underlying53 hc X
      rw [upd_one] at h1
      refine eff_mapUpdate (.tmp 67) (.tmp 68) (.tmp 76) 53 rfl rfl rfl rfl hr ?_
      rw [HCl.out]; (try simp only [List.nil_append, List.cons_append]); (try dsimp only)
      have hS2 := hSq.putr h1 h2
      exact ⟨⟨hS2.c0, hS2.c1, hS2.plt⟩, hS2, hQq.only h2 (fun k hk => by omega)⟩
    clear hu
    simp only [Act.put, Nat.reduceAdd, List.setIfInBounds_toArray, List.set_cons_zero, List.set_cons_succ, List.nil_append, List.cons_append]
    (repeat (first | (refine wE_skip (by rfl) ?_; simp only [Act.put, Nat.reduceAdd, List.setIfInBounds_toArray, List.set_cons_zero, List.set_cons_succ, List.nil_append, List.cons_append]) | (refine wE_open (by rfl) (by rfl) ?_; apply Exists.intro; refine ⟨fun vs wq hw => ?_, ?_⟩; (focus (rw [HCl.out] at hw; (try simp only [List.nil_append, List.cons_append] at hw); (try dsimp only at hw); go_split_ands; go_simp <;> first | with_reducible exact (rfl : Value.bool false = _) | with_reducible exact (rfl : Value.bool true = _) | ((try go_bits) <;> exact rfl))); simp only [Act.put, Nat.reduceAdd, List.setIfInBounds_toArray, List.set_cons_zero, List.set_cons_succ, List.nil_append, List.cons_append])))
    refine wE_nil ?_
    intro w9 hw
    rw [HCl.out] at hw; (try simp only [List.nil_append, List.cons_append] at hw); (try dsimp only at hw)
    clear HCl
    obtain ⟨_, hS9, hQ9⟩ := hw
    go_wp2
    go_ret
    exact ⟨rfl, _, hS9, hQ9⟩
  | false =>
    simp only [Bool.false_eq_true, if_false]
    generalize hR : row.getD r50 = R at HLR0 ⊢
    have HT0 := Lib.hid (fun z' => tog_c R ⟨1, by', 0, dn - a, dn - a⟩ z')
    generalize tog R ⟨1, by', 0, dn - a, dn - a⟩ = X at HT0 ⊢
    unfold r5v at HT0
    dsimp only at HT0
    unfold r5v at HLR0
    clear hg hq
    have hml : (0 : Int) < m := by omega
    have hml1 : (1 : Int) ≤ m := by omega
    have hmn := map_nn mw
    go_enter Try.func8, Try.ntmps8
    go_wp2_with (go_at_call 14; ((with_reducible refine KW.out.mono ?_); rintro e z1 ⟨rfl, hb⟩; have hS := h.below hb; have hQ := HQb.out _ _ hQC hb; have c0 := hS.c0; have plt := hS.plt; have hlk := hLW.out _ hS; have hcl := hcell.out _ hQ; clear hb h hQC))
    have hSd := hS.below (Below.drew (Below.refl _ _))
    have hQd := HQb.out _ _ hQ (Below.drew (Below.refl _ _))
    have hlkd := hLW.out _ hSd
    obtain ⟨Cl, hCl⟩ : ∃ Cl : List Value → World → Prop, Cl = ((fun ps wz => (wz.cell? ⟨p, 0, none⟩ = some (.map (some mw)) ∧ p < wz.heap.size) ∧ (match ps with | [] => (Instr.lookup 52 (.map (some mw)) (.int .i64 cl) false).run Try.prog wz = .ok (Value.slice (some ⟨b, o, none⟩) m cap) wz ∧ S0 w wz p mw mr cl (some (Value.slice (some ⟨b, o, none⟩) m cap)) row ∧ QC wz (p + 1) b o cap m g | _ => S0 w wz p mw mr cl (some (tlv b o m cap)) row ∧ QS wz (p + 1) (tlv b o m cap) (m - 1) (fun j => g (j + 1))))) := ⟨_, rfl⟩; have HCl := Lib.hid hCl; clear hCl; refine wp_region_eff [12] Cl (by kernel_rfl) (by kernel_rfl) (by rw [HCl.out]; (try simp only [List.nil_append, List.cons_append]); (try dsimp only); exact ⟨⟨hSd.c0, hSd.plt⟩, hlkd, hSd, hQd⟩) ?_
    clear hSd hQd hlkd hlk hcl
    (repeat (first | (refine wE_skip (by rfl) ?_; simp only [Act.put, Nat.reduceAdd, List.setIfInBounds_toArray, List.set_cons_zero, List.set_cons_succ, List.nil_append, List.cons_append]) | (refine wE_open (by rfl) (by rfl) ?_; apply Exists.intro; refine ⟨fun vs wq hw => ?_, ?_⟩; (focus (rw [HCl.out] at hw; (try simp only [List.nil_append, List.cons_append] at hw); (try dsimp only at hw); go_split_ands; go_simp <;> first | with_reducible exact (rfl : Value.bool false = _) | with_reducible exact (rfl : Value.bool true = _) | ((try go_bits) <;> exact rfl))); simp only [Act.put, Nat.reduceAdd, List.setIfInBounds_toArray, List.set_cons_zero, List.set_cons_succ, List.nil_append, List.cons_append]) | (refine wE_seal (by rfl) (by rfl) (by kernel_rfl) ?_; apply Exists.intro; refine ⟨fun wq hw => ?_, ?_⟩; (focus (rw [HCl.out] at hw; (try simp only [List.nil_append, List.cons_append] at hw); (try dsimp only at hw); go_split_ands; go_simp <;> (try go_bits) <;> exact rfl)); simp only [Act.put, Nat.reduceAdd, List.setIfInBounds_toArray, List.set_cons_zero, List.set_cons_succ, List.nil_append, List.cons_append]) | (refine wE_seal (by rfl) (by rfl) (by kernel_rfl) ?_; apply Exists.intro; refine ⟨fun wq hw => ?_, ?_⟩; (focus (rw [HCl.out] at hw; (try simp only [List.nil_append, List.cons_append] at hw); (try dsimp only at hw); go_split_ands; go_simp; fail)); simp only [Act.put, Nat.reduceAdd, List.setIfInBounds_toArray, List.set_cons_zero, List.set_cons_succ, List.nil_append, List.cons_append]) | (refine wE_eff (by rfl) (by rfl) (fun wq hw => ?_) (fun u hu => ?_); (focus (rw [HCl.out] at hw; (try simp only [List.nil_append, List.cons_append] at hw); (try dsimp only at hw); go_split_ands; go_simp; rw [HCl.out]; (try simp only [List.nil_append, List.cons_append]); (try dsimp only); skip; ((repeat' apply And.intro) <;> first | (simp [go_sem, *]; done) | omega | (repeat' (first | with_reducible exact Below.refl _ _ | with_reducible assumption | ((with_reducible refine Below.drew ?_)) | ((with_reducible refine below_drewN ?_ _)) | ((with_reducible refine Below.alloc ?_ ?_ _); rotate_left; focus (first | omega | (simp; done) | (simp; omega))) | ((with_reducible refine Below.setCell ?_ ?_ _); rotate_left; focus (first | omega | (simp; done) | (simp; omega))) | ((with_reducible refine Below.trans ?_ (Below.mono (by with_reducible assumption) ?_)); rotate_left; focus (first | omega | (simp; done) | (simp; omega)))))))); clear hu; simp only [Act.put, Nat.reduceAdd, List.setIfInBounds_toArray, List.set_cons_zero, List.set_cons_succ, List.nil_append, List.cons_append])))
    have o2 := hS.o2
    have o3 := hS.o3
    refine wE_eff (by rfl) (by rfl) (fun wq hw => ?_) (fun u hu => ?_)
    focus
      rw [HCl.out] at hw; (try simp only [List.nil_append, List.cons_append] at hw); (try dsimp only at hw)
      obtain ⟨⟨y0, y1⟩, hlw, hSq, hQq⟩ := hw
      obtain ⟨wp, hr, h1, h2, h3⟩ := hSq.mpw.update ikok Try.underlying52 hc (tlv b o m cap)
      rw [upd_one] at h1
      refine eff_mapUpdate (.tmp 48) (.tmp 49) (.tmp 56) 52 rfl rfl rfl rfl hr ?_
      rw [HCl.out]; (try simp only [List.nil_append, List.cons_append]); (try dsimp only)
      have hS2 := hSq.putw h1 h2
      exact ⟨⟨hS2.c0, hS2.plt⟩, hS2, (HT.out _ hQq).only h2 (fun k hk => by omega)⟩
    clear hu
    simp only [Act.put, Nat.reduceAdd, List.setIfInBounds_toArray, List.set_cons_zero, List.set_cons_succ, List.nil_append, List.cons_append]
    (repeat (first | (refine wE_skip (by rfl) ?_; simp only [Act.put, Nat.reduceAdd, List.setIfInBounds_toArray, List.set_cons_zero, List.set_cons_succ, List.nil_append, List.cons_append]) | (refine wE_open (by rfl) (by rfl) ?_; apply Exists.intro; refine ⟨fun vs wq hw => ?_, ?_⟩; (focus (rw [HCl.out] at hw; (try simp only [List.nil_append, List.cons_append] at hw); (try dsimp only at hw); go_split_ands; go_simp <;> first | with_reducible exact (rfl : Value.bool false = _) | with_reducible exact (rfl : Value.bool true = _) | ((try go_bits) <;> exact rfl))); simp only [Act.put, Nat.reduceAdd, List.setIfInBounds_toArray, List.set_cons_zero, List.set_cons_succ, List.nil_append, List.cons_append])))
    refine wE_nil ?_; intro w' hw; rw [HCl.out] at hw; (try simp only [List.nil_append, List.cons_append] at hw); (try dsimp only at hw); clear HCl
    obtain ⟨_, hS3, hQ3⟩ := hw
    clear hS hQ
    have c0' := hS3.c0
    have c1' := hS3.c1
    have plt' := hS3.plt
    rw [show (Value.slice (if cap = 1 then some ⟨b, o, none⟩ else some ⟨b, o + 1, none⟩) (m - 1) (cap - 1)) = tlv b o m cap from rfl]
    generalize hT2 : tlv b o m cap = tv at *
    have HLR := Lib.hid (fun (z' : World) (h : S0 w z' p mw mr cl (some tv) row) => (show (Instr.lookup 53 (.map (some mr)) (.int .i64 cl) false).run Try.prog z' = .ok (.agg #[.int .u64 (R).a, .int .u64 (R).b, .int .u64 (R).c, .int .u64 (R).d, .int .u64 (R).e]) z' from HLR0.out z' tv h))
    clear HLR0 HT hLW HQb hcell KW
    go_wp2
    have hA : Below w'.heap.size w' (w'.alloc (.cells #[.int .u64 1, .int .u64 by', .int .u64 0, .int .u64 (dn - a), .int .u64 (dn - a)] 39)) := Below.alloc (Below.refl _ _) (Nat.le_refl _) _
    have hN := (hS3.below hA).below (Below.drew (Below.refl _ _))
    have hQn := (hQ3.below hA).below (Below.drew (Below.refl _ _))
    have hLr := HLR.out _ hN
    clear hA
    obtain ⟨Cl, hCl⟩ : ∃ Cl : List Value → World → Prop, Cl = ((fun ps wz => ((wz.cell? ⟨p, 0, none⟩ = some (.map (some mw)) ∧ wz.cell? ⟨p, 1, none⟩ = some (.map (some mr)) ∧ p < wz.heap.size)) ∧ (match ps with | [] => (wz.cell? ⟨w'.heap.size, 0, none⟩ = some (.int .u64 1) ∧ wz.cell? ⟨w'.heap.size, 1, none⟩ = some (.int .u64 by') ∧ wz.cell? ⟨w'.heap.size, 2, none⟩ = some (.int .u64 0) ∧ wz.cell? ⟨w'.heap.size, 3, none⟩ = some (.int .u64 (dn - a)) ∧ wz.cell? ⟨w'.heap.size, 4, none⟩ = some (.int .u64 (dn - a)) ∧ w'.heap.size < wz.heap.size) ∧ ((Instr.lookup 53 (.map (some mr)) (.int .i64 cl) false).run Try.prog wz = .ok (.agg #[.int .u64 (R).a, .int .u64 (R).b, .int .u64 (R).c, .int .u64 (R).d, .int .u64 (R).e]) wz) ∧ S0 w wz p mw mr cl (some tv) row ∧ QS wz (p + 1) tv (m - 1) (fun j => g (j + 1)) | _ => S0 w wz p mw mr cl (some tv) (some X) ∧ QS wz (p + 1) tv (m - 1) (fun j => g (j + 1))))) := ⟨_, rfl⟩; have HCl := Lib.hid hCl; clear hCl; refine wp_region_eff [13] Cl (by kernel_rfl) (by kernel_rfl) (by rw [HCl.out]; (try simp only [List.nil_append, List.cons_append]); (try dsimp only); exact ⟨⟨hN.c0, hN.c1, hN.plt⟩, ⟨by simp [go_sem], by simp [go_sem], by simp [go_sem], by simp [go_sem], by simp [go_sem], by simp⟩, hLr, hN, hQn⟩) ?_
    clear hN hQn hLr
    (repeat (first | (refine wE_skip (by rfl) ?_; simp only [Act.put, Nat.reduceAdd, List.setIfInBounds_toArray, List.set_cons_zero, List.set_cons_succ, List.nil_append, List.cons_append]) | (refine wE_open (by rfl) (by rfl) ?_; apply Exists.intro; refine ⟨fun vs wq hw => ?_, ?_⟩; (focus (rw [HCl.out] at hw; (try simp only [List.nil_append, List.cons_append] at hw); (try dsimp only at hw); go_split_ands; go_simp <;> first | with_reducible exact (rfl : Value.bool false = _) | with_reducible exact (rfl : Value.bool true = _) | ((try go_bits) <;> exact rfl))); simp only [Act.put, Nat.reduceAdd, List.setIfInBounds_toArray, List.set_cons_zero, List.set_cons_succ, List.nil_append, List.cons_append]) | (refine wE_seal (by rfl) (by rfl) (by kernel_rfl) ?_; apply Exists.intro; refine ⟨fun wq hw => ?_, ?_⟩; (focus (rw [HCl.out] at hw; (try simp only [List.nil_append, List.cons_append] at hw); (try dsimp only at hw); go_split_ands; go_simp <;> (try go_bits) <;> exact rfl)); simp only [Act.put, Nat.reduceAdd, List.setIfInBounds_toArray, List.set_cons_zero, List.set_cons_succ, List.nil_append, List.cons_append]) | (refine wE_seal (by rfl) (by rfl) (by kernel_rfl) ?_; apply Exists.intro; refine ⟨fun wq hw => ?_, ?_⟩; (focus (rw [HCl.out] at hw; (try simp only [List.nil_append, List.cons_append] at hw); (try dsimp only at hw); go_split_ands; go_simp; (go_at_call 20; ((with_reducible refine (HT0.out _).mono ?_); rintro e w2 ⟨rfl, hbel⟩; refine ⟨rfl, ?_⟩; rw [HCl.out]; (try simp only [List.nil_append, List.cons_append]); (try dsimp only); (have hSS := S0.below (by with_reducible assumption) hbel); (have hQQ := QS.below (by with_reducible assumption) hbel); obtain ⟨hcc, hff⟩ := bcell hbel; have hsz := hbel.size; (try simp at hsz); exact ⟨⟨hSS.c0, hSS.c1, hSS.plt⟩, (by ((repeat' apply And.intro) <;> first | (simp [go_sem, *]; done) | omega | (repeat' (first | with_reducible exact Below.refl _ _ | with_reducible assumption | ((with_reducible refine Below.drew ?_)) | ((with_reducible refine below_drewN ?_ _)) | ((with_reducible refine Below.alloc ?_ ?_ _); rotate_left; focus (first | omega | (simp; done) | (simp; omega))) | ((with_reducible refine Below.setCell ?_ ?_ _); rotate_left; focus (first | omega | (simp; done) | (simp; omega))) | ((with_reducible refine Below.trans ?_ (Below.mono (by with_reducible assumption) ?_)); rotate_left; focus (first | omega | (simp; done) | (simp; omega))))))), HLR.out _ hSS, hSS, hQQ⟩)))); simp only [Act.put, Nat.reduceAdd, List.setIfInBounds_toArray, List.set_cons_zero, List.set_cons_succ, List.nil_append, List.cons_append]) | (refine wE_eff (by rfl) (by rfl) (fun wq hw => ?_) (fun u hu => ?_); (focus (rw [HCl.out] at hw; (try simp only [List.nil_append, List.cons_append] at hw); (try dsimp only at hw); go_split_ands; go_simp; rw [HCl.out]; (try simp only [List.nil_append, List.cons_append]); (try dsimp only); skip; ((repeat' apply And.intro) <;> first | (simp [go_sem, *]; done) | omega | (repeat' (first | with_reducible exact Below.refl _ _ | with_reducible assumption | ((with_reducible refine Below.drew ?_)) | ((with_reducible refine below_drewN ?_ _)) | ((with_reducible refine Below.alloc ?_ ?_ _); rotate_left; focus (first | omega | (simp; done) | (simp; omega))) | ((with_reducible refine Below.setCell ?_ ?_ _); rotate_left; focus (first | omega | (simp; done) | (simp; omega))) | ((with_reducible refine Below.trans ?_ (Below.mono (by with_reducible assumption) ?_)); rotate_left; focus (first | omega | (simp; done) | (simp; omega)))))))); clear hu; simp only [Act.put, Nat.reduceAdd, List.setIfInBounds_toArray, List.set_cons_zero, List.set_cons_succ, List.nil_append, List.cons_append])))
    refine wE_eff (by rfl) (by rfl) (fun wq hw => ?_) (fun u hu => ?_)
    focus
      rw [HCl.out] at hw; (try simp only [List.nil_append, List.cons_append] at hw); (try dsimp only at hw)
      obtain ⟨⟨y0, y1, y2⟩, hrc, hlk2, hSq, hQq⟩ := hw
      obtain ⟨wp, hr, h1, h2, h3⟩ := hSq.mpr.update ikok Try.underlying53 hc X
      rw [upd_one] at h1
      refine eff_mapUpdate (.tmp 67) (.tmp 68) (.tmp 76) 53 rfl rfl rfl rfl hr ?_
      rw [HCl.out]; (try simp only [List.nil_append, List.cons_append]); (try dsimp only)
      have hS2 := hSq.putr h1 h2
      exact ⟨⟨hS2.c0, hS2.c1, hS2.plt⟩, hS2, hQq.only h2 (fun k hk => by omega)⟩
    clear hu
    simp only [Act.put, Nat.reduceAdd, List.setIfInBounds_toArray, List.set_cons_zero, List.set_cons_succ, List.nil_append, List.cons_append]
    (repeat (first | (refine wE_skip (by rfl) ?_; simp only [Act.put, Nat.reduceAdd, List.setIfInBounds_toArray, List.set_cons_zero, List.set_cons_succ, List.nil_append, List.cons_append]) | (refine wE_open (by rfl) (by rfl) ?_; apply Exists.intro; refine ⟨fun vs wq hw => ?_, ?_⟩; (focus (rw [HCl.out] at hw; (try simp only [List.nil_append, List.cons_append] at hw); (try dsimp only at hw); go_split_ands; go_simp <;> first | with_reducible exact (rfl : Value.bool false = _) | with_reducible exact (rfl : Value.bool true = _) | ((try go_bits) <;> exact rfl))); simp only [Act.put, Nat.reduceAdd, List.setIfInBounds_toArray, List.set_cons_zero, List.set_cons_succ, List.nil_append, List.cons_append])))
    refine wE_nil ?_
    intro w9 hw
    rw [HCl.out] at hw; (try simp only [List.nil_append, List.cons_append] at hw); (try dsimp only at hw)
    clear HCl
    obtain ⟨_, hS9, hQ9⟩ := hw
    go_wp2
    go_ret
    exact ⟨rfl, _, hS9, hQ9⟩
end Go.Proofs.Ytnpidbodeebnkaa
