/- Nodes in memory; height, ahead, the sides. -/
import Derived.Test.YtikmdkmejbcmmaaAv1
import Derived.Test.YtikmdkmejbcmmaaRank1
import Derived.Test.YtikmdkmejbcmmaaOpenA
namespace Go.Proofs.Ytikmdkmejbcmmaa
set_option linter.unusedVariables false
set_option linter.unusedSimpArgs false
set_option maxRecDepth 100000
open Go.RowKit Fg Reg
attribute [local irreducible] Reg.wE

def pt : Tr → Value
  | .nil => .pointer none
  | .node b _ _ _ => .pointer (some ⟨b, 0, none⟩)
/-- A node in memory, whatever it knows of itself. -/
structure NC (z : World) (b : Nat) (x : It) (vl vr : Value) (h : Int) (m : It) : Prop where
  c0 : z.cell? ⟨b, 0, none⟩ = some (.int .u64 x.ka)
  c1 : z.cell? ⟨b, 1, none⟩ = some (.int .i64 x.ki)
  c2 : z.cell? ⟨b, 2, none⟩ = some (.int .u64 x.va)
  c3 : z.cell? ⟨b, 3, none⟩ = some (.int .i64 x.vi)
  c4 : z.cell? ⟨b, 4, none⟩ = some vl
  c5 : z.cell? ⟨b, 5, none⟩ = some vr
  c6 : z.cell? ⟨b, 6, none⟩ = some (.int .i64 h)
  c7 : z.cell? ⟨b, 7, none⟩ = some (.int .u64 m.ka)
  c8 : z.cell? ⟨b, 8, none⟩ = some (.int .i64 m.ki)
  c9 : z.cell? ⟨b, 9, none⟩ = some (.int .u64 m.va)
  c10 : z.cell? ⟨b, 10, none⟩ = some (.int .i64 m.vi)
  fz : ∀ j, z.frozen? ⟨b, j, none⟩ = false
  lt : b < z.heap.size
/-- A tree in memory: each node knows its height and its best item. -/
def NT (z : World) : Tr → Prop
  | .nil => True
  | .node b x l r => NC z b x (pt l) (pt r) (hgt (.node b x l r)) (bst (.node b x l r)) ∧ NT z l ∧ NT z r
theorem NC.only {S : Nat → Prop} {z z' : World} {b : Nat} {x m : It} {vl vr : Value} {h : Int} (H : NC z b x vl vr h m) (ho : Only S z z') (hs : ¬ S b) : NC z' b x vl vr h m := by
  obtain ⟨c0, c1, c2, c3, c4, c5, c6, c7, c8, c9, c10, fz, lt⟩ := H
  exact ⟨(ho.cell lt hs).trans c0, (ho.cell lt hs).trans c1, (ho.cell lt hs).trans c2, (ho.cell lt hs).trans c3, (ho.cell lt hs).trans c4, (ho.cell lt hs).trans c5, (ho.cell lt hs).trans c6, (ho.cell lt hs).trans c7, (ho.cell lt hs).trans c8, (ho.cell lt hs).trans c9, (ho.cell lt hs).trans c10, fun j => (ho.frozen lt hs).trans (fz j), Nat.lt_of_lt_of_le lt ho.size⟩
theorem NT.only {S : Nat → Prop} {z z' : World} (ho : Only S z z') : ∀ {t : Tr}, NT z t → (∀ k ∈ fp t, ¬ S k) → NT z' t
  | .nil, _, _ => trivial
  | .node b x l r, ⟨h1, h2, h3⟩, hs => ⟨h1.only ho (hs b (by simp [fp])), NT.only ho h2 (fun k hk => hs k (by simp [fp, hk])), NT.only ho h3 (fun k hk => hs k (by simp [fp, hk]))⟩
theorem NT.below {z z' : World} (hb : Below z.heap.size z z') {t : Tr} (h : NT z t) : NT z' t := NT.only (Only.of_below (S := fun _ => False) hb) h fun _ _ h => h
theorem NC.below {z z' : World} (hb : Below z.heap.size z z') {b : Nat} {x m : It} {vl vr : Value} {h : Int} (H : NC z b x vl vr h m) : NC z' b x vl vr h m := H.only (Only.of_below (S := fun _ => False) hb) fun h => h
theorem NT.lt {z : World} : ∀ {t : Tr}, NT z t → ∀ k ∈ fp t, k < z.heap.size
  | .nil, _, k, hk => by simp [fp] at hk
  | .node b x l r, ⟨h1, h2, h3⟩, k, hk => by
    simp only [fp, List.mem_cons, List.mem_append] at hk
    rcases hk with rfl | hk | hk
    · exact h1.lt
    · exact NT.lt h2 k hk
    · exact NT.lt h3 k hk
theorem NC.setL {z : World} {b : Nat} {x m : It} {vl vr : Value} {h : Int} (H : NC z b x vl vr h m) (v : Value) : NC (z.setCell ⟨b, 4, none⟩ v) b x v vr h m := by
  obtain ⟨c0, c1, c2, c3, c4, c5, c6, c7, c8, c9, c10, fz, lt⟩ := H
  exact ⟨by simp [go_sem, *], by simp [go_sem, *], by simp [go_sem, *], by simp [go_sem, *], by simp [go_sem, *], by simp [go_sem, *], by simp [go_sem, *], by simp [go_sem, *], by simp [go_sem, *], by simp [go_sem, *], by simp [go_sem, *], fun j => by simp [go_sem, *], by simpa [go_sem] using lt⟩
theorem NC.setR {z : World} {b : Nat} {x m : It} {vl vr : Value} {h : Int} (H : NC z b x vl vr h m) (v : Value) : NC (z.setCell ⟨b, 5, none⟩ v) b x vl v h m := by
  obtain ⟨c0, c1, c2, c3, c4, c5, c6, c7, c8, c9, c10, fz, lt⟩ := H
  exact ⟨by simp [go_sem, *], by simp [go_sem, *], by simp [go_sem, *], by simp [go_sem, *], by simp [go_sem, *], by simp [go_sem, *], by simp [go_sem, *], by simp [go_sem, *], by simp [go_sem, *], by simp [go_sem, *], by simp [go_sem, *], fun j => by simp [go_sem, *], by simpa [go_sem] using lt⟩
theorem NC.setH {z : World} {b : Nat} {x m : It} {vl vr : Value} {h : Int} (H : NC z b x vl vr h m) (k : Int) : NC (z.setCell ⟨b, 6, none⟩ (.int .i64 k)) b x vl vr k m := by
  obtain ⟨c0, c1, c2, c3, c4, c5, c6, c7, c8, c9, c10, fz, lt⟩ := H
  exact ⟨by simp [go_sem, *], by simp [go_sem, *], by simp [go_sem, *], by simp [go_sem, *], by simp [go_sem, *], by simp [go_sem, *], by simp [go_sem, *], by simp [go_sem, *], by simp [go_sem, *], by simp [go_sem, *], by simp [go_sem, *], fun j => by simp [go_sem, *], by simpa [go_sem] using lt⟩
theorem NT.set {z : World} {b o : Nat} {v : Value} {t : Tr} (h : NT z t) (hb : b ∉ fp t) : NT (z.setCell ⟨b, o, none⟩ v) t :=
  NT.only ((Only.refl (fun k => k = b) z).setOne o none v) h fun k hk he => by subst he; exact hb hk

theorem hei_c (t : Tr) (w : World) (h : NT w t) : Calls Try.prog 68 #[pt t] w fun e w' => e = .returned (.int .i64 (hgt t)) ∧ w = w' := by
  cases t with
  | nil =>
    show Calls Try.prog 68 #[.pointer none] w fun e w' => e = .returned (.int .i64 (0 : Nat)) ∧ w = w'
    go_enter Try.func68, Try.ntmps68
    go_wp2
    go_ret
    exact ⟨rfl, rfl⟩
  | node b x l r =>
    obtain ⟨⟨c0, c1, c2, c3, c4, c5, c6, c7, c8, c9, c10, fz, lt⟩, -, -⟩ := h
    show Calls Try.prog 68 #[.pointer (some ⟨b, 0, none⟩)] w fun e w' => e = .returned (.int .i64 (hgt (.node b x l r) : Nat)) ∧ w = w'
    generalize hgt (.node b x l r) = H at *
    clear c0 c1 c2 c3 c4 c5 c7 c8 c9 c10 fz
    go_enter Try.func68, Try.ntmps68
    go_wp2
    go_ret
    exact ⟨rfl, rfl⟩
theorem sd1_c (b : Nat) (w : World) : Calls Try.prog 84 #[.pointer (some ⟨b, 0, none⟩)] w fun e w' => e = .returned (.pointer (some ⟨b, 4, none⟩)) ∧ w = w' := by
  go_enter Try.func84, Try.ntmps84
  go_wp2
  go_ret
  exact ⟨rfl, rfl⟩
theorem sd2_c (b : Nat) (w : World) : Calls Try.prog 85 #[.pointer (some ⟨b, 0, none⟩)] w fun e w' => e = .returned (.pointer (some ⟨b, 5, none⟩)) ∧ w = w' := by
  go_enter Try.func85, Try.ntmps85
  go_wp2
  go_ret
  exact ⟨rfl, rfl⟩
theorem kcmp_kl (a b : It) : decide (kcmp a.ka a.ki b.ka b.ki < 0) = kl a b := by
  unfold kl kcmp
  rw [decide_eq_decide]
  split
  · omega
  · split <;> omega
theorem kcmp_v (a b : It) (h : ¬ (a.va = b.va ∧ a.vi = b.vi)) : decide (kcmp a.va a.vi b.va b.vi < 0) = ahd a b := by
  unfold ahd
  rw [if_neg h]
  unfold kcmp
  rw [decide_eq_decide, if_neg h]
  split <;> omega
theorem ahd_c (a b : It) (w : World) : Calls Try.prog 62 #[.agg #[.int .u64 (a).ka, .int .i64 (a).ki, .int .u64 (a).va, .int .i64 (a).vi], .agg #[.int .u64 (b).ka, .int .i64 (b).ki, .int .u64 (b).va, .int .i64 (b).vi]] w fun ee w' => ee = .returned (.bool (ahd a b)) ∧ Below w.heap.size w w' := by
  by_cases h : a.va = b.va ∧ a.vi = b.vi
  · have e1 : ahd a b = kl a b := by unfold ahd; rw [if_pos h]
    rw [e1, ← kcmp_kl]
    have k1 := fun z => kcmp_c a.ka a.ki b.ka b.ki z
    obtain ⟨h1, h2⟩ := h
    generalize kcmp a.ka a.ki b.ka b.ki = X at *
    rw [h1, h2]
    have K1 := Lib.hid k1
    clear k1 h1 h2 e1
    generalize a.ka = p0 at *
    generalize a.ki = p1 at *
    generalize b.ka = q0 at *
    generalize b.ki = q1 at *
    generalize b.va = q2 at *
    generalize b.vi = q3 at *
    go_enter Try.func62, Try.ntmps62
    go_wp2_with (go_at_call 66; ((with_reducible refine (K1.out _).mono ?_); rintro e w1 ⟨rfl, hbel⟩; obtain ⟨hcc, hff⟩ := bcell hbel; have hsz := hbel.size; (try simp at hsz); have hF : Below w.heap.size w w1 := (by ((repeat' apply And.intro) <;> first | (simp [go_sem, *]; done) | omega | (repeat' (first | with_reducible exact Below.refl _ _ | with_reducible assumption | ((with_reducible refine Below.drew ?_)) | ((with_reducible refine below_drewN ?_ _)) | ((with_reducible refine Below.alloc ?_ ?_ _); rotate_left; focus (first | omega | (simp; done) | (simp; omega))) | ((with_reducible refine Below.setCell ?_ ?_ _); rotate_left; focus (first | omega | (simp; done) | (simp; omega))) | ((with_reducible refine Below.trans ?_ (Below.mono (by with_reducible assumption) ?_)); rotate_left; focus (first | omega | (simp; done) | (simp; omega))))))); go_split_ands; clear hcc hff hbel))
    (go_ret; refine ⟨?_, ?_⟩; (focus (exact rfl)); ((repeat' (first | with_reducible exact Below.refl _ _ | with_reducible assumption | ((with_reducible refine Below.drew ?_)) | ((with_reducible refine below_drewN ?_ _)) | ((with_reducible refine Below.alloc ?_ ?_ _); rotate_left; focus (first | omega | (simp; done) | (simp; omega))) | ((with_reducible refine Below.setCell ?_ ?_ _); rotate_left; focus (first | omega | (simp; done) | (simp; omega))) | ((with_reducible refine Below.trans ?_ (Below.mono (by with_reducible assumption) ?_)); rotate_left; focus (first | omega | (simp; done) | (simp; omega))))); done))
  · rw [← kcmp_v a b h]
    have k1 := fun z => kcmp_c a.va a.vi b.va b.vi z
    generalize kcmp a.va a.vi b.va b.vi = X at *
    have K1 := Lib.hid k1
    have hq : (a.va == b.va && a.vi == b.vi) = false := by
      rw [Bool.eq_false_iff]; intro hh; simp at hh; exact h hh
    by_cases h1 : a.va = b.va
    · have h2 : (a.vi == b.vi) = false := by rw [beq_eq_false_iff_ne]; exact fun g => h ⟨h1, g⟩
      rw [h1] at K1 ⊢
      clear k1 h h1 hq
      generalize a.ka = p0 at *
      generalize a.ki = p1 at *
      generalize b.ka = q0 at *
      generalize b.ki = q1 at *
      generalize a.vi = p3 at *
      generalize b.va = q2 at *
      generalize b.vi = q3 at *
      go_enter Try.func62, Try.ntmps62
      go_wp2_with (go_at_call 66; ((with_reducible refine (K1.out _).mono ?_); rintro e w1 ⟨rfl, hbel⟩; obtain ⟨hcc, hff⟩ := bcell hbel; have hsz := hbel.size; (try simp at hsz); have hF : Below w.heap.size w w1 := (by ((repeat' apply And.intro) <;> first | (simp [go_sem, *]; done) | omega | (repeat' (first | with_reducible exact Below.refl _ _ | with_reducible assumption | ((with_reducible refine Below.drew ?_)) | ((with_reducible refine below_drewN ?_ _)) | ((with_reducible refine Below.alloc ?_ ?_ _); rotate_left; focus (first | omega | (simp; done) | (simp; omega))) | ((with_reducible refine Below.setCell ?_ ?_ _); rotate_left; focus (first | omega | (simp; done) | (simp; omega))) | ((with_reducible refine Below.trans ?_ (Below.mono (by with_reducible assumption) ?_)); rotate_left; focus (first | omega | (simp; done) | (simp; omega))))))); go_split_ands; clear hcc hff hbel))
      all_goals first | (go_ret; refine ⟨?_, ?_⟩; (focus (exact rfl)); ((repeat' (first | with_reducible exact Below.refl _ _ | with_reducible assumption | ((with_reducible refine Below.drew ?_)) | ((with_reducible refine below_drewN ?_ _)) | ((with_reducible refine Below.alloc ?_ ?_ _); rotate_left; focus (first | omega | (simp; done) | (simp; omega))) | ((with_reducible refine Below.setCell ?_ ?_ _); rotate_left; focus (first | omega | (simp; done) | (simp; omega))) | ((with_reducible refine Below.trans ?_ (Below.mono (by with_reducible assumption) ?_)); rotate_left; focus (first | omega | (simp; done) | (simp; omega))))); done)) | (exfalso; simp_all)
    · have h2 : (a.va == b.va) = false := by rw [beq_eq_false_iff_ne]; exact h1
      clear k1 h hq
      generalize a.ka = p0 at *
      generalize a.ki = p1 at *
      generalize b.ka = q0 at *
      generalize b.ki = q1 at *
      generalize a.va = p2 at *
      generalize a.vi = p3 at *
      generalize b.va = q2 at *
      generalize b.vi = q3 at *
      go_enter Try.func62, Try.ntmps62
      go_wp2_with (go_at_call 66; ((with_reducible refine (K1.out _).mono ?_); rintro e w1 ⟨rfl, hbel⟩; obtain ⟨hcc, hff⟩ := bcell hbel; have hsz := hbel.size; (try simp at hsz); have hF : Below w.heap.size w w1 := (by ((repeat' apply And.intro) <;> first | (simp [go_sem, *]; done) | omega | (repeat' (first | with_reducible exact Below.refl _ _ | with_reducible assumption | ((with_reducible refine Below.drew ?_)) | ((with_reducible refine below_drewN ?_ _)) | ((with_reducible refine Below.alloc ?_ ?_ _); rotate_left; focus (first | omega | (simp; done) | (simp; omega))) | ((with_reducible refine Below.setCell ?_ ?_ _); rotate_left; focus (first | omega | (simp; done) | (simp; omega))) | ((with_reducible refine Below.trans ?_ (Below.mono (by with_reducible assumption) ?_)); rotate_left; focus (first | omega | (simp; done) | (simp; omega))))))); go_split_ands; clear hcc hff hbel))
      all_goals first | (go_ret; refine ⟨?_, ?_⟩; (focus (exact rfl)); ((repeat' (first | with_reducible exact Below.refl _ _ | with_reducible assumption | ((with_reducible refine Below.drew ?_)) | ((with_reducible refine below_drewN ?_ _)) | ((with_reducible refine Below.alloc ?_ ?_ _); rotate_left; focus (first | omega | (simp; done) | (simp; omega))) | ((with_reducible refine Below.setCell ?_ ?_ _); rotate_left; focus (first | omega | (simp; done) | (simp; omega))) | ((with_reducible refine Below.trans ?_ (Below.mono (by with_reducible assumption) ?_)); rotate_left; focus (first | omega | (simp; done) | (simp; omega))))); done)) | (exfalso; simp_all)
end Go.Proofs.Ytikmdkmejbcmmaa
