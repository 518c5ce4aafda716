/- Insert, Delete. -/
import Derived.Test.YtikmdkmejbcmmaaAv11
namespace Go.Proofs.Ytikmdkmejbcmmaa
set_option linter.unusedVariables false
set_option linter.unusedSimpArgs false
set_option maxRecDepth 100000
open Go.RowKit Fg Reg
attribute [local irreducible] Reg.wE NT

/-- The head of a tree, the tree, and what may have turned. -/
def PT (w z : World) (a : Nat) (rv : Value) (n : Int) (t : Tr) (S : Nat → Prop) : Prop :=
  z.cell? ⟨a, 0, none⟩ = some rv ∧ z.cell? ⟨a, 1, none⟩ = some (.int .i64 n) ∧ z.frozen? ⟨a, 0, none⟩ = false ∧ z.frozen? ⟨a, 1, none⟩ = false ∧ a < z.heap.size ∧ NT z t ∧ Only S w z
theorem PT.out {w z : World} {a : Nat} {rv : Value} {n : Int} {t : Tr} {S : Nat → Prop} (h : PT w z a rv n t S) : z.cell? ⟨a, 0, none⟩ = some rv ∧ z.cell? ⟨a, 1, none⟩ = some (.int .i64 n) ∧ z.frozen? ⟨a, 0, none⟩ = false ∧ z.frozen? ⟨a, 1, none⟩ = false ∧ a < z.heap.size ∧ NT z t ∧ Only S w z := h
theorem PT.drew {w z : World} {a : Nat} {rv : Value} {n : Int} {t : Tr} {S : Nat → Prop} (h : PT w z a rv n t S) : PT w z.drew a rv n t S := by
  obtain ⟨h1, h2, h3, h4, h5, h6, h7⟩ := h
  exact ⟨by simpa [go_sem] using h1, by simpa [go_sem] using h2, by simpa [go_sem] using h3, by simpa [go_sem] using h4, by simpa [go_sem] using h5, NT.below (Below.drew (Below.refl _ _)) h6, h7.drew⟩
theorem PT.only {w z z' : World} {a : Nat} {rv : Value} {n : Int} {t0 t t' : Tr} (h : PT w z a rv n t (fun k => k = a ∨ k ∈ fp t0)) (ho : Only (fun k => k ∈ fp t0) z z') (ha : a ∉ fp t0) (hN : NT z' t') : PT w z' a rv n t' (fun k => k = a ∨ k ∈ fp t0) := by
  obtain ⟨h1, h2, h3, h4, h5, h6, h7⟩ := h
  exact ⟨(ho.cell h5 ha).trans h1, (ho.cell h5 ha).trans h2, (ho.frozen h5 ha).trans h3, (ho.frozen h5 ha).trans h4, Nat.lt_of_lt_of_le h5 ho.size, hN, h7.trans (ho.mono fun k hk => .inr hk)⟩
theorem PT.set {w z : World} {a : Nat} {rv : Value} {n : Int} {t0 t : Tr} (h : PT w z a rv n t (fun k => k = a ∨ k ∈ fp t0)) (ha : a ∉ fp t) {v v2 : Value} (hv : v = v2) : PT w (z.setCell ⟨a, 0, none⟩ v) a v2 n t (fun k => k = a ∨ k ∈ fp t0) := by
  subst hv
  obtain ⟨h1, h2, h3, h4, h5, h6, h7⟩ := h
  exact ⟨by simp [go_sem, *], by simp [go_sem, *], by simpa [go_sem] using h3, by simpa [go_sem] using h4, by simpa [go_sem] using h5, h6.set ha, h7.setCell (p := ⟨a, 0, none⟩) (.inl (.inl rfl)) _⟩
theorem PT.bel {w z : World} {a : Nat} {rv : Value} {n : Int} {t : Tr} {S : Nat → Prop} (h : PT w w a rv n t S) (hb : Below w.heap.size w z) : PT w z a rv n t S := by
  obtain ⟨h1, h2, h3, h4, h5, h6, h7⟩ := h
  exact ⟨(hb.cell h5).trans h1, (hb.cell h5).trans h2, (hb.frozen h5).trans h3, (hb.frozen h5).trans h4, Nat.lt_of_lt_of_le h5 hb.size, NT.below hb h6, Only.of_below hb⟩
theorem insL_len (x : It) : ∀ l, (insL x l).length = l.length + 1
  | [] => rfl
  | y :: l => by unfold insL; split <;> simp [insL_len x l]
theorem insL_mem (x z : It) : ∀ l, z ∈ insL x l ↔ z = x ∨ z ∈ l
  | [] => by simp [insL]
  | y :: l => by
    unfold insL
    split
    · simp
    · simp only [List.mem_cons, insL_mem x z l]
      constructor
      · rintro (h | h | h) <;> simp [h]
      · rintro (h | h | h) <;> simp [h]
theorem insL_ss (x : It) : ∀ l, SS l → (∀ y ∈ l, ke y x = false) → SS (insL x l)
  | [], _, _ => by simp [insL, SS]
  | y :: l, hs, hn => by
    unfold SS at hs
    rw [List.pairwise_cons] at hs
    unfold insL
    split
    · rename_i h
      unfold SS
      rw [List.pairwise_cons, List.pairwise_cons]
      refine ⟨fun z hz => ?_, hs.1, hs.2⟩
      rcases List.mem_cons.1 hz with rfl | hz
      · exact h
      · exact kl_trans h (hs.1 z hz)
    · rename_i h
      have hyx : kl y x = true := by
        rcases kl_tri x y with g | g | g
        · exact absurd g h
        · rw [ke_comm, hn y (by simp)] at g; exact absurd g (by simp)
        · exact g
      unfold SS
      rw [List.pairwise_cons]
      refine ⟨fun z hz => ?_, insL_ss x l hs.2 fun z hz => hn z (by simp [hz])⟩
      rcases (insL_mem x z l).1 hz with rfl | hz
      · exact hyx
      · exact hs.1 z hz
theorem remL_len (k : It) : ∀ l, SS l → (∃ y ∈ l, ke y k = true) → (remL k l).length + 1 = l.length
  | [], _, ⟨y, hy, _⟩ => by simp at hy
  | y :: l, hs, hk => by
    unfold SS at hs
    rw [List.pairwise_cons] at hs
    cases h : ke y k
    · have e : remL k (y :: l) = y :: remL k l := by unfold remL; rw [List.filter_cons]; simp [h]
      obtain ⟨z, hz, hzk⟩ := hk
      have hz2 : z ∈ l := by
        rcases List.mem_cons.1 hz with rfl | hz
        · rw [h] at hzk; exact absurd hzk (by simp)
        · exact hz
      rw [e, List.length_cons, List.length_cons, remL_len k l hs.2 ⟨z, hz2, hzk⟩]
    · have e : remL k (y :: l) = remL k l := by unfold remL; rw [List.filter_cons]; simp [h]
      rw [e, remL_no fun z hz => (kl_nke (show kl k z = true by rw [← kl_ke_l h]; exact hs.1 z hz)).2]
      rfl
theorem fnd_none {k : It} {l : List It} (h : fndL k l = none) : ∀ y ∈ l, ke y k = false := by
  unfold fndL at h
  rw [List.find?_eq_none] at h
  intro y hy
  have := h y hy
  simpa using this
theorem fnd_some {k y : It} {l : List It} (h : fndL k l = some y) : ∃ z ∈ l, ke z k = true := by
  unfold fndL at h
  exact ⟨y, List.mem_of_find?_eq_some h, by simpa using List.find?_some h⟩
theorem ins_n (k v : It) (w : World) : Calls Try.prog 18 #[.pointer none, .agg #[.int .u64 (k).ka, .int .i64 (k).ki], .agg #[.int .u64 (v).ka, .int .i64 (v).ki]] w fun e w' => e = .returned (.int .i64 7) ∧ Below w.heap.size w w' := by
  go_enter Try.func18, Try.ntmps18
  go_wp2
  go_ret
  refine ⟨rfl, ?_⟩
  (repeat' (first | assumption | exact Below.refl _ _ | refine Below.setCell ?_ (by first | (simp; done) | omega | (simp; omega)) _ | refine Below.alloc ?_ (by first | (simp; done) | omega | (simp; omega)) _ | refine Below.drew ?_))
theorem del_n (k : It) (w : World) : Calls Try.prog 16 #[.pointer none, .agg #[.int .u64 (k).ka, .int .i64 (k).ki]] w fun e w' => e = .returned (.int .i64 7) ∧ Below w.heap.size w w' := by
  have KF := Lib.hid (fun z => fnd_n k z)
  go_enter Try.func16, Try.ntmps16
  go_wp2_with (go_at_call 26; (with_reducible refine (KF.out _).mono ?_); rintro _ w1 ⟨rfl, hbel⟩; have hsz := hbel.size; (try simp at hsz); have HB1 := Lib.hid (Below.trans (by (repeat' (first | assumption | exact Below.refl _ _ | refine Below.setCell ?_ (by first | (simp; done) | omega | (simp; omega)) _ | refine Below.alloc ?_ (by first | (simp; done) | omega | (simp; omega)) _ | refine Below.drew ?_)) : Below w.heap.size w _) (hbel.mono (by first | (simp; done) | omega | (simp; omega)))); clear hbel)
  go_ret
  refine ⟨rfl, ?_⟩
  have hb := HB1.out
  (repeat' (first | assumption | exact Below.refl _ _ | refine Below.setCell ?_ (by first | (simp; done) | omega | (simp; omega)) _ | refine Below.alloc ?_ (by first | (simp; done) | omega | (simp; omega)) _ | refine Below.drew ?_))
theorem ins_same (a : Nat) (t : Tr) (k v y : It) (w : World) (h : TR w a t) (hf : fndL k (tl t) = some y) : Calls Try.prog 18 #[.pointer (some ⟨a, 0, none⟩), .agg #[.int .u64 (k).ka, .int .i64 (k).ki], .agg #[.int .u64 (v).ka, .int .i64 (v).ki]] w fun e w' => e = .returned (.int .i64 8) ∧ Below w.heap.size w w' := by
  have HTR := Lib.hid h
  obtain ⟨r0, r1, f0, f1, lt, nt, nd, bl, ss, ha⟩ := h
  have kf := fun z hz => fnd_c a t k z hz
  simp only [hf, fres] at kf
  have KF := Lib.hid kf
  have HT := Lib.hid nt
  have HA := Lib.hid ha
  clear kf hf r0 r1 f0 f1 nt nd bl ss ha
  go_enter Try.func18, Try.ntmps18
  go_wp2_with (go_at_call 26; (with_reducible refine (KF.out _ (HTR.out.below (by (repeat' (first | assumption | exact Below.refl _ _ | refine Below.setCell ?_ (by first | (simp; done) | omega | (simp; omega)) _ | refine Below.alloc ?_ (by first | (simp; done) | omega | (simp; omega)) _ | refine Below.drew ?_))))).mono ?_); rintro _ w1 ⟨rfl, hbel⟩; have hsz := hbel.size; (try simp at hsz); have k0 := hbel.cell (p := ⟨w.heap.size, 0, none⟩) (by first | (simp; done) | omega | (simp; omega)); have k1 := hbel.cell (p := ⟨w.heap.size, 1, none⟩) (by first | (simp; done) | omega | (simp; omega)); have j0 := hbel.cell (p := ⟨w.heap.size + 1, 0, none⟩) (by first | (simp; done) | omega | (simp; omega)); have j1 := hbel.cell (p := ⟨w.heap.size + 1, 1, none⟩) (by first | (simp; done) | omega | (simp; omega)); simp [go_sem] at k0 k1 j0 j1; have HB1 := Lib.hid (Below.trans (by (repeat' (first | assumption | exact Below.refl _ _ | refine Below.setCell ?_ (by first | (simp; done) | omega | (simp; omega)) _ | refine Below.alloc ?_ (by first | (simp; done) | omega | (simp; omega)) _ | refine Below.drew ?_)) : Below w.heap.size w _) (hbel.mono (by first | (simp; done) | omega | (simp; omega)))); clear hbel)
  go_ret
  refine ⟨rfl, ?_⟩
  have hb := HB1.out
  (repeat' (first | assumption | exact Below.refl _ _ | refine Below.setCell ?_ (by first | (simp; done) | omega | (simp; omega)) _ | refine Below.alloc ?_ (by first | (simp; done) | omega | (simp; omega)) _ | refine Below.drew ?_))
theorem del_none (a : Nat) (t : Tr) (k : It) (w : World) (h : TR w a t) (hf : fndL k (tl t) = none) : Calls Try.prog 16 #[.pointer (some ⟨a, 0, none⟩), .agg #[.int .u64 (k).ka, .int .i64 (k).ki]] w fun e w' => e = .returned (.int .i64 6) ∧ Below w.heap.size w w' := by
  have HTR := Lib.hid h
  obtain ⟨r0, r1, f0, f1, lt, nt, nd, bl, ss, ha⟩ := h
  have kf := fun z hz => fnd_c a t k z hz
  simp only [hf, fres] at kf
  have KF := Lib.hid kf
  have HT := Lib.hid nt
  have HA := Lib.hid ha
  clear kf hf r0 r1 f0 f1 nt nd bl ss ha
  go_enter Try.func16, Try.ntmps16
  go_wp2_with (go_at_call 26; (with_reducible refine (KF.out _ (HTR.out.below (by (repeat' (first | assumption | exact Below.refl _ _ | refine Below.setCell ?_ (by first | (simp; done) | omega | (simp; omega)) _ | refine Below.alloc ?_ (by first | (simp; done) | omega | (simp; omega)) _ | refine Below.drew ?_))))).mono ?_); rintro _ w1 ⟨rfl, hbel⟩; have hsz := hbel.size; (try simp at hsz); have k0 := hbel.cell (p := ⟨w.heap.size, 0, none⟩) (by first | (simp; done) | omega | (simp; omega)); have k1 := hbel.cell (p := ⟨w.heap.size, 1, none⟩) (by first | (simp; done) | omega | (simp; omega)); simp [go_sem] at k0 k1; have HB1 := Lib.hid (Below.trans (by (repeat' (first | assumption | exact Below.refl _ _ | refine Below.setCell ?_ (by first | (simp; done) | omega | (simp; omega)) _ | refine Below.alloc ?_ (by first | (simp; done) | omega | (simp; omega)) _ | refine Below.drew ?_)) : Below w.heap.size w _) (hbel.mono (by first | (simp; done) | omega | (simp; omega)))); clear hbel)
  go_ret
  refine ⟨rfl, ?_⟩
  have hb := HB1.out
  (repeat' (first | assumption | exact Below.refl _ _ | refine Below.setCell ?_ (by first | (simp; done) | omega | (simp; omega)) _ | refine Below.alloc ?_ (by first | (simp; done) | omega | (simp; omega)) _ | refine Below.drew ?_))
attribute [local irreducible] PT
set_option maxHeartbeats 4000000 in
theorem ins_c (a : Nat) (t : Tr) (k v : It) (w : World) (h : TR w a t) (hf : fndL k (tl t) = none) (hh : hgt t ≤ 800) (hl : (tl t).length < 1000000) :
    Calls Try.prog 18 #[.pointer (some ⟨a, 0, none⟩), .agg #[.int .u64 (k).ka, .int .i64 (k).ki], .agg #[.int .u64 (v).ka, .int .i64 (v).ki]] w fun e w' => ∃ nb, w.heap.size ≤ nb ∧ e = .returned (.int .i64 0) ∧ TR w' a (putT nb (⟨k.ka, k.ki, v.ka, v.ki⟩ : It) t) ∧ Only (fun k => k = a ∨ k ∈ fp t) w w' := by
  have HTR := Lib.hid h
  obtain ⟨r0, r1, f0, f1, lt, nt, nd, bl, ss, ha⟩ := h
  have kf := fun z hz => fnd_c a t k z hz
  simp only [hf, fres] at kf
  have KF := Lib.hid kf
  have HT := Lib.hid nt
  have HA := Lib.hid ha
  have HPA := Lib.hid (fun nb hn => putT_all nb (⟨k.ka, k.ki, v.ka, v.ki⟩ : It) t bl ss hn)
  have HSI := Lib.hid (insL_ss (⟨k.ka, k.ki, v.ka, v.ki⟩ : It) (tl t) ss (fnd_none hf))
  obtain ⟨u, hu⟩ := pt_ptr t
  have kp := fun z hz => put_c (⟨k.ka, k.ki, v.ka, v.ki⟩ : It) t z hz nd bl ss hh
  have HU := Lib.hid hu
  rw [hu] at r0
  have HFA : Hid (∀ nb, w.heap.size ≤ nb → a ∉ fp (putT nb (⟨k.ka, k.ki, v.ka, v.ki⟩ : It) t)) := Lib.hid fun nb hn hm => by
    rcases (putT_mem (⟨k.ka, k.ki, v.ka, v.ki⟩ : It) t bl ss nb (fun h9 => by have := NT.lt nt _ h9; omega) a).1 hm with h9 | h9
    · omega
    · exact ha h9
  have hpt0 : PT w w a (.pointer u) (tl t).length t (fun k => k = a ∨ k ∈ fp t) := by unfold PT; exact ⟨r0, r1, f0, f1, lt, nt, Only.refl _ _⟩
  have W0 : IntKind.i64.wrap (((tl t).length : Int) + 1) = ((tl t).length : Int) + 1 := by rw [IntKind.wrap_i64]; omega
  obtain ⟨n, hn⟩ : ∃ n : Int, ((tl t).length : Int) = n := ⟨_, rfl⟩
  have HN := Lib.hid hn
  rw [hn] at W0 hpt0
  have HPZ : Hid (∀ z, Below w.heap.size w z → z.cell? ⟨a, 0, none⟩ = some (.pointer u) ∧ z.frozen? ⟨a, 0, none⟩ = false ∧ a < z.heap.size ∧ PT w z a (.pointer u) n t (fun k => k = a ∨ k ∈ fp t)) := Lib.hid fun z hz => by
    have h9 := hpt0.bel hz
    have h8 := PT.out h9
    exact ⟨h8.1, h8.2.2.1, h8.2.2.2.2.1, h9⟩
  have HND := Lib.hid nd
  clear kf hf r0 r1 f0 f1 nt nd bl ss ha hl hpt0 hu hn hh
  go_enter Try.func18, Try.ntmps18
  go_wp2_with (go_at_call 26; (with_reducible refine (KF.out _ (HTR.out.below (by (repeat' (first | assumption | exact Below.refl _ _ | refine Below.setCell ?_ (by first | (simp; done) | omega | (simp; omega)) _ | refine Below.alloc ?_ (by first | (simp; done) | omega | (simp; omega)) _ | refine Below.drew ?_))))).mono ?_); rintro _ w1 ⟨rfl, hbel⟩; have hsz := hbel.size; (try simp at hsz); have k0 := hbel.cell (p := ⟨w.heap.size, 0, none⟩) (by first | (simp; done) | omega | (simp; omega)); have k1 := hbel.cell (p := ⟨w.heap.size, 1, none⟩) (by first | (simp; done) | omega | (simp; omega)); have j0 := hbel.cell (p := ⟨w.heap.size + 1, 0, none⟩) (by first | (simp; done) | omega | (simp; omega)); have j1 := hbel.cell (p := ⟨w.heap.size + 1, 1, none⟩) (by first | (simp; done) | omega | (simp; omega)); simp [go_sem] at k0 k1 j0 j1; have HB1 := Lib.hid (Below.trans (by (repeat' (first | assumption | exact Below.refl _ _ | refine Below.setCell ?_ (by first | (simp; done) | omega | (simp; omega)) _ | refine Below.alloc ?_ (by first | (simp; done) | omega | (simp; omega)) _ | refine Below.drew ?_)) : Below w.heap.size w _) (hbel.mono (by first | (simp; done) | omega | (simp; omega)))); clear hbel)
  obtain ⟨Cl, hCl⟩ : ∃ Cl : List (Nat × Value) → World → Prop, Cl = ((fun ps wz => (wz.cell? ⟨w.heap.size, 0, none⟩ = some (.int .u64 (k).ka) ∧ wz.cell? ⟨w.heap.size, 1, none⟩ = some (.int .i64 (k).ki) ∧ w.heap.size < wz.heap.size) ∧ (wz.cell? ⟨w.heap.size + 1, 0, none⟩ = some (.int .u64 (v).ka) ∧ wz.cell? ⟨w.heap.size + 1, 1, none⟩ = some (.int .i64 (v).ki) ∧ w.heap.size + 1 < wz.heap.size) ∧ (match ps with
      | [] => wz.cell? ⟨a, 0, none⟩ = some (.pointer u) ∧ wz.frozen? ⟨a, 0, none⟩ = false ∧ a < wz.heap.size ∧ PT w wz a (.pointer u) n t (fun k => k = a ∨ k ∈ fp t)
      | [(_, u4)] => u4 = .pointer u ∧ wz.cell? ⟨a, 0, none⟩ = some (.pointer u) ∧ wz.frozen? ⟨a, 0, none⟩ = false ∧ a < wz.heap.size ∧ PT w wz a (.pointer u) n t (fun k => k = a ∨ k ∈ fp t)
      | [_, (_, v9)] => ∃ nb uv, v9 = .pointer uv ∧ pt (putT nb (⟨k.ka, k.ki, v.ka, v.ki⟩ : It) t) = .pointer uv ∧ w.heap.size ≤ nb ∧ wz.cell? ⟨a, 0, none⟩ = some (.pointer u) ∧ wz.frozen? ⟨a, 0, none⟩ = false ∧ a < wz.heap.size ∧ PT w wz a (.pointer u) n (putT nb (⟨k.ka, k.ki, v.ka, v.ki⟩ : It) t) (fun k => k = a ∨ k ∈ fp t)
      | _ => ∃ nb uv, pt (putT nb (⟨k.ka, k.ki, v.ka, v.ki⟩ : It) t) = .pointer uv ∧ w.heap.size ≤ nb ∧ PT w wz a (.pointer uv) n (putT nb (⟨k.ka, k.ki, v.ka, v.ki⟩ : It) t) (fun k => k = a ∨ k ∈ fp t)))) := ⟨_, rfl⟩; have HCl := Lib.hid hCl; clear hCl; refine Reg2.wp_region_lineS [(0, false), (1, false), (2, false), (3, false), (5, false), (6, false), (7, false), (4, false), (8, false), (9, false), (10, false), (11, false)] [4, 8, 11] Cl (by kernel_rfl) (by kernel_rfl) (by kernel_rfl) (by rw [HCl.out]; (try simp only [List.nil_append, List.cons_append]); (try dsimp only); exact (by
    have hb1 := HB1.out
    exact ⟨⟨Eq.trans (Below.cell (B := w1.heap.size) (by (repeat' (first | assumption | exact Below.refl _ _ | refine Below.setCell ?_ (by first | (simp; done) | omega | (simp; omega)) _ | refine Below.alloc ?_ (by first | (simp; done) | omega | (simp; omega)) _ | refine Below.drew ?_))) (by first | (simp; done) | omega | (simp; omega))) k0, Eq.trans (Below.cell (B := w1.heap.size) (by (repeat' (first | assumption | exact Below.refl _ _ | refine Below.setCell ?_ (by first | (simp; done) | omega | (simp; omega)) _ | refine Below.alloc ?_ (by first | (simp; done) | omega | (simp; omega)) _ | refine Below.drew ?_))) (by first | (simp; done) | omega | (simp; omega))) k1, by simp [go_sem]; omega⟩, ⟨Eq.trans (Below.cell (B := w1.heap.size) (by (repeat' (first | assumption | exact Below.refl _ _ | refine Below.setCell ?_ (by first | (simp; done) | omega | (simp; omega)) _ | refine Below.alloc ?_ (by first | (simp; done) | omega | (simp; omega)) _ | refine Below.drew ?_))) (by first | (simp; done) | omega | (simp; omega))) j0, Eq.trans (Below.cell (B := w1.heap.size) (by (repeat' (first | assumption | exact Below.refl _ _ | refine Below.setCell ?_ (by first | (simp; done) | omega | (simp; omega)) _ | refine Below.alloc ?_ (by first | (simp; done) | omega | (simp; omega)) _ | refine Below.drew ?_))) (by first | (simp; done) | omega | (simp; omega))) j1, by simp [go_sem]; omega⟩, HPZ.out _ (by (repeat' (first | assumption | exact Below.refl _ _ | refine Below.setCell ?_ (by first | (simp; done) | omega | (simp; omega)) _ | refine Below.alloc ?_ (by first | (simp; done) | omega | (simp; omega)) _ | refine Below.drew ?_)))⟩)) ?_
  (repeat (first | (refine Reg2.wS_skip (by (simp only [List.getElem?_toArray, List.getElem?_cons_succ, List.getElem?_cons_zero]) <;> rfl) (by rfl) ?_; simp only [Act.put, Nat.reduceAdd, List.setIfInBounds_toArray, List.set_cons_zero, List.set_cons_succ, List.nil_append, List.cons_append]) | (refine Reg2.wS_open (by (simp only [List.getElem?_toArray, List.getElem?_cons_succ, List.getElem?_cons_zero]) <;> rfl) (by rfl) (by rfl) ?_; apply Exists.intro; refine ⟨fun vs wq hw => ?_, ?_⟩; (focus (rw [HCl.out] at hw; (try simp only [List.nil_append, List.cons_append] at hw); (try dsimp only at hw); go_split_ands; go_simp <;> first | with_reducible exact (rfl : Value.bool false = _) | with_reducible exact (rfl : Value.bool true = _) | ((try go_bits) <;> exact rfl))); simp only [Act.put, Nat.reduceAdd, List.setIfInBounds_toArray, List.set_cons_zero, List.set_cons_succ, List.nil_append, List.cons_append])))
  -- the load
  refine Reg2.wS_eff (by (simp only [List.getElem?_toArray, List.getElem?_cons_succ, List.getElem?_cons_zero]) <;> rfl) (by rfl) (by rfl) (fun wq hw => ?_) (fun u hu => ?_)
  focus
    rw [HCl.out] at hw; (try simp only [List.nil_append, List.cons_append] at hw); (try dsimp only at hw)
    obtain ⟨⟨i0, i1, i4⟩, ⟨j0, j1, j4⟩, g1, g2, g3, g4⟩ := hw
    go_simp
    rw [HCl.out]; (try simp only [List.nil_append, List.cons_append]); (try dsimp only)
    first | exact ⟨⟨i0, i1, i4⟩, ⟨j0, j1, j4⟩, rfl, g1, g2, g3, g4⟩ | exact ⟨⟨i0, i1, i4⟩, ⟨j0, j1, j4⟩, trivial, g1, g2, g3, g4⟩
  obtain ⟨wz, hz⟩ := hu
  rw [HCl.out] at hz
  (try simp only [List.nil_append, List.cons_append] at hz)
  (try dsimp only at hz)
  obtain ⟨-, -, rfl, -, -, -, -⟩ := hz
  clear wz
  simp only [Act.put, Nat.reduceAdd, List.setIfInBounds_toArray, List.set_cons_zero, List.set_cons_succ, List.nil_append, List.cons_append]
  (repeat (first | (refine Reg2.wS_skip (by (simp only [List.getElem?_toArray, List.getElem?_cons_succ, List.getElem?_cons_zero]) <;> rfl) (by rfl) ?_; simp only [Act.put, Nat.reduceAdd, List.setIfInBounds_toArray, List.set_cons_zero, List.set_cons_succ, List.nil_append, List.cons_append]) | (refine Reg2.wS_open (by (simp only [List.getElem?_toArray, List.getElem?_cons_succ, List.getElem?_cons_zero]) <;> rfl) (by rfl) (by rfl) ?_; apply Exists.intro; refine ⟨fun vs wq hw => ?_, ?_⟩; (focus (rw [HCl.out] at hw; (try simp only [List.nil_append, List.cons_append] at hw); (try dsimp only at hw); go_split_ands; go_simp <;> first | with_reducible exact (rfl : Value.bool false = _) | with_reducible exact (rfl : Value.bool true = _) | ((try go_bits) <;> exact rfl))); simp only [Act.put, Nat.reduceAdd, List.setIfInBounds_toArray, List.set_cons_zero, List.set_cons_succ, List.nil_append, List.cons_append])))
  -- the call
  refine Reg2.wS_eff (by (simp only [List.getElem?_toArray, List.getElem?_cons_succ, List.getElem?_cons_zero]) <;> rfl) (by rfl) (by rfl) (fun wq hw => ?_) (fun u hu => ?_)
  focus
    rw [HCl.out] at hw; (try simp only [List.nil_append, List.cons_append] at hw); (try dsimp only at hw)
    obtain ⟨⟨i0, i1, i4⟩, ⟨j0, j1, j4⟩, -, g1, g2, g3, g4⟩ := hw
    have hp := PT.out g4
    go_simp
    go_at_call 55
    have kq := kp wq hp.2.2.2.2.2.1
    have kq := by simpa only [HU.out] using kq
    (with_reducible refine kq.mono ?_)
    rintro e w' ⟨nb, hnb, rfl, hN, hO⟩
    have hws : w.heap.size ≤ wq.heap.size := hp.2.2.2.2.2.2.size
    obtain ⟨uv, huv⟩ := pt_ptr (putT nb (⟨k.ka, k.ki, v.ka, v.ki⟩ : It) t)
    refine ⟨_, rfl, ?_⟩
    rw [HCl.out]; (try simp only [List.nil_append, List.cons_append]); (try dsimp only)
    have hxs : ∀ j, w.heap.size ≤ j → ¬ j ∈ fp t := fun j hj h => by have := NT.lt HT.out _ h; omega
    exact ⟨⟨(hO.cell i4 (hxs _ (by omega))).trans i0, (hO.cell i4 (hxs _ (by omega))).trans i1, Nat.lt_of_lt_of_le i4 hO.size⟩, ⟨(hO.cell j4 (hxs _ (by omega))).trans j0, (hO.cell j4 (hxs _ (by omega))).trans j1, Nat.lt_of_lt_of_le j4 hO.size⟩, nb, uv, huv, huv, by omega, (hO.cell g3 HA.out).trans g1, (hO.frozen g3 HA.out).trans g2, Nat.lt_of_lt_of_le g3 hO.size, g4.only hO HA.out hN⟩
  obtain ⟨wz, hz⟩ := hu
  rw [HCl.out] at hz
  (try simp only [List.nil_append, List.cons_append] at hz)
  (try dsimp only at hz)
  obtain ⟨-, -, nb0, uv0, rfl, -, -, -⟩ := hz
  clear wz
  simp only [Act.put, Nat.reduceAdd, List.setIfInBounds_toArray, List.set_cons_zero, List.set_cons_succ, List.nil_append, List.cons_append]
  (repeat (first | (refine Reg2.wS_skip (by (simp only [List.getElem?_toArray, List.getElem?_cons_succ, List.getElem?_cons_zero]) <;> rfl) (by rfl) ?_; simp only [Act.put, Nat.reduceAdd, List.setIfInBounds_toArray, List.set_cons_zero, List.set_cons_succ, List.nil_append, List.cons_append]) | (refine Reg2.wS_open (by (simp only [List.getElem?_toArray, List.getElem?_cons_succ, List.getElem?_cons_zero]) <;> rfl) (by rfl) (by rfl) ?_; apply Exists.intro; refine ⟨fun vs wq hw => ?_, ?_⟩; (focus (rw [HCl.out] at hw; (try simp only [List.nil_append, List.cons_append] at hw); (try dsimp only at hw); go_split_ands; go_simp <;> first | with_reducible exact (rfl : Value.bool false = _) | with_reducible exact (rfl : Value.bool true = _) | ((try go_bits) <;> exact rfl))); simp only [Act.put, Nat.reduceAdd, List.setIfInBounds_toArray, List.set_cons_zero, List.set_cons_succ, List.nil_append, List.cons_append])))
  -- the store
  refine Reg2.wS_eff (by (simp only [List.getElem?_toArray, List.getElem?_cons_succ, List.getElem?_cons_zero]) <;> rfl) (by rfl) (by rfl) (fun wq hw => ?_) (fun u hu => ?_)
  focus
    rw [HCl.out] at hw; (try simp only [List.nil_append, List.cons_append] at hw); (try dsimp only at hw)
    obtain ⟨⟨i0, i1, i4⟩, ⟨j0, j1, j4⟩, nb, uv, hvv, huv, hnb, g1, g2, g3, g4⟩ := hw
    cases hvv
    go_simp
    rw [HCl.out]; (try simp only [List.nil_append, List.cons_append]); (try dsimp only)
    have hp := PT.out g4
    have hne : ¬ w.heap.size = a := by omega
    have hne2 : ¬ w.heap.size + 1 = a := by omega
    refine ⟨⟨by simp [go_sem, *], by simp [go_sem, *], by simpa [go_sem] using i4⟩, ⟨by simp [go_sem, *], by simp [go_sem, *], by simpa [go_sem] using j4⟩, nb, _, huv, hnb, g4.set (HFA.out nb hnb) (huv ▸ rfl)⟩
  clear hu
  simp only [Act.put, Nat.reduceAdd, List.setIfInBounds_toArray, List.set_cons_zero, List.set_cons_succ, List.nil_append, List.cons_append]
  refine Reg2.wS_nil ?_; intro w' hw; rw [HCl.out] at hw; (try simp only [List.nil_append, List.cons_append] at hw); (try dsimp only at hw); clear HCl
  obtain ⟨-, -, nb, uv, huv, hnb, g4⟩ := hw
  have hp := PT.out g4
  have HP2 := Lib.hid hp
  have c1 := hp.2.1
  have e1 := hp.2.2.2.1
  have la := hp.2.2.2.2.1
  clear hp g4
  go_wp2
  go_ret
  have hp := HP2.out
  have hpa := HPA.out nb (fun h9 => by have := NT.lt HT.out _ h9; omega)
  have hlen : ((tl (putT nb (⟨k.ka, k.ki, v.ka, v.ki⟩ : It) t)).length : Int) = n + 1 := by rw [hpa.2.2.2.2, insL_len, ← HN.out]; simp
  refine ⟨nb, hnb, rfl, ⟨by simpa [go_sem] using (huv ▸ hp.1), by rw [hlen]; simp [go_sem, *], by simpa [go_sem] using hp.2.2.1, by simpa [go_sem] using hp.2.2.2.1, by simpa [go_sem] using hp.2.2.2.2.1, NT.set hp.2.2.2.2.2.1 (HFA.out nb hnb), (List.Perm.nodup_iff hpa.2.2.2.1).2 (List.nodup_cons.2 ⟨fun h9 => by have := NT.lt HT.out _ h9; omega, HND.out⟩), hpa.1, by rw [hpa.2.2.2.2]; exact HSI.out, HFA.out nb hnb⟩, hp.2.2.2.2.2.2.setCell (p := ⟨a, 1, none⟩) (.inl (.inl rfl)) _⟩
set_option maxHeartbeats 4000000 in
theorem del_c (a : Nat) (t : Tr) (k y : It) (w : World) (h : TR w a t) (hf : fndL k (tl t) = some y) (hh : hgt t ≤ 800) (hl : (tl t).length < 1000000) :
    Calls Try.prog 16 #[.pointer (some ⟨a, 0, none⟩), .agg #[.int .u64 (k).ka, .int .i64 (k).ki]] w fun e w' => e = .returned (.int .i64 0) ∧ TR w' a (cutT k t) ∧ Only (fun k => k = a ∨ k ∈ fp t) w w' := by
  have HTR := Lib.hid h
  obtain ⟨r0, r1, f0, f1, lt, nt, nd, bl, ss, ha⟩ := h
  have kf := fun z hz => fnd_c a t k z hz
  simp only [hf, fres] at kf
  have KF := Lib.hid kf
  have HT := Lib.hid nt
  have HA := Lib.hid ha
  have hky := fnd_some hf
  have HPA := Lib.hid (cutT_all k t bl ss hky)
  have HLE := Lib.hid (remL_len k (tl t) ss hky)
  have HSR : Hid (SS (remL k (tl t))) := Lib.hid (by unfold SS remL at *; exact ss.filter _)
  obtain ⟨u, hu⟩ := pt_ptr t
  have kp := fun z hz => cut_c t k z hz nd bl ss hh hky
  have HU := Lib.hid hu
  rw [hu] at r0
  have HFA : Hid (a ∉ fp (cutT k t)) := Lib.hid fun hm => ha (cnt_mem HPA.out.2.2.2.1 a hm)
  have hpt0 : PT w w a (.pointer u) (tl t).length t (fun k => k = a ∨ k ∈ fp t) := by unfold PT; exact ⟨r0, r1, f0, f1, lt, nt, Only.refl _ _⟩
  have W0 : IntKind.i64.wrap (((tl t).length : Int) - 1) = ((tl t).length : Int) - 1 := by rw [IntKind.wrap_i64]; omega
  obtain ⟨n, hn⟩ : ∃ n : Int, ((tl t).length : Int) = n := ⟨_, rfl⟩
  have HN := Lib.hid hn
  rw [hn] at W0 hpt0
  have HPZ : Hid (∀ z, Below w.heap.size w z → z.cell? ⟨a, 0, none⟩ = some (.pointer u) ∧ z.frozen? ⟨a, 0, none⟩ = false ∧ a < z.heap.size ∧ PT w z a (.pointer u) n t (fun k => k = a ∨ k ∈ fp t)) := Lib.hid fun z hz => by
    have h9 := hpt0.bel hz
    have h8 := PT.out h9
    exact ⟨h8.1, h8.2.2.1, h8.2.2.2.2.1, h9⟩
  have HND := Lib.hid nd
  clear kf hf r0 r1 f0 f1 nt nd bl ss ha hl hpt0 hu hn hh hky
  go_enter Try.func16, Try.ntmps16
  go_wp2_with (go_at_call 26; (with_reducible refine (KF.out _ (HTR.out.below (by (repeat' (first | assumption | exact Below.refl _ _ | refine Below.setCell ?_ (by first | (simp; done) | omega | (simp; omega)) _ | refine Below.alloc ?_ (by first | (simp; done) | omega | (simp; omega)) _ | refine Below.drew ?_))))).mono ?_); rintro _ w1 ⟨rfl, hbel⟩; have hsz := hbel.size; (try simp at hsz); have k0 := hbel.cell (p := ⟨w.heap.size, 0, none⟩) (by first | (simp; done) | omega | (simp; omega)); have k1 := hbel.cell (p := ⟨w.heap.size, 1, none⟩) (by first | (simp; done) | omega | (simp; omega)); simp [go_sem] at k0 k1; have HB1 := Lib.hid (Below.trans (by (repeat' (first | assumption | exact Below.refl _ _ | refine Below.setCell ?_ (by first | (simp; done) | omega | (simp; omega)) _ | refine Below.alloc ?_ (by first | (simp; done) | omega | (simp; omega)) _ | refine Below.drew ?_)) : Below w.heap.size w _) (hbel.mono (by first | (simp; done) | omega | (simp; omega)))); clear hbel)
  obtain ⟨Cl, hCl⟩ : ∃ Cl : List (Nat × Value) → World → Prop, Cl = ((fun ps wz => (wz.cell? ⟨w.heap.size, 0, none⟩ = some (.int .u64 (k).ka) ∧ wz.cell? ⟨w.heap.size, 1, none⟩ = some (.int .i64 (k).ki) ∧ w.heap.size < wz.heap.size) ∧ (match ps with
      | [] => wz.cell? ⟨a, 0, none⟩ = some (.pointer u) ∧ wz.frozen? ⟨a, 0, none⟩ = false ∧ a < wz.heap.size ∧ PT w wz a (.pointer u) n t (fun k => k = a ∨ k ∈ fp t)
      | [(_, u4)] => u4 = .pointer u ∧ wz.cell? ⟨a, 0, none⟩ = some (.pointer u) ∧ wz.frozen? ⟨a, 0, none⟩ = false ∧ a < wz.heap.size ∧ PT w wz a (.pointer u) n t (fun k => k = a ∨ k ∈ fp t)
      | [_, (_, v9)] => ∃  uv, v9 = .pointer uv ∧ pt (cutT k t) = .pointer uv ∧  wz.cell? ⟨a, 0, none⟩ = some (.pointer u) ∧ wz.frozen? ⟨a, 0, none⟩ = false ∧ a < wz.heap.size ∧ PT w wz a (.pointer u) n (cutT k t) (fun k => k = a ∨ k ∈ fp t)
      | _ => ∃  uv, pt (cutT k t) = .pointer uv ∧  PT w wz a (.pointer uv) n (cutT k t) (fun k => k = a ∨ k ∈ fp t)))) := ⟨_, rfl⟩; have HCl := Lib.hid hCl; clear hCl; refine Reg2.wp_region_lineS [(0, false), (1, false), (2, false), (3, false), (5, false), (4, false), (6, false), (7, false), (8, false), (9, false)] [4, 6, 9] Cl (by kernel_rfl) (by kernel_rfl) (by kernel_rfl) (by rw [HCl.out]; (try simp only [List.nil_append, List.cons_append]); (try dsimp only); exact (by
    have hb1 := HB1.out
    exact ⟨⟨Eq.trans (Below.cell (B := w1.heap.size) (by (repeat' (first | assumption | exact Below.refl _ _ | refine Below.setCell ?_ (by first | (simp; done) | omega | (simp; omega)) _ | refine Below.alloc ?_ (by first | (simp; done) | omega | (simp; omega)) _ | refine Below.drew ?_))) (by first | (simp; done) | omega | (simp; omega))) k0, Eq.trans (Below.cell (B := w1.heap.size) (by (repeat' (first | assumption | exact Below.refl _ _ | refine Below.setCell ?_ (by first | (simp; done) | omega | (simp; omega)) _ | refine Below.alloc ?_ (by first | (simp; done) | omega | (simp; omega)) _ | refine Below.drew ?_))) (by first | (simp; done) | omega | (simp; omega))) k1, by simp [go_sem]; omega⟩, HPZ.out _ (by (repeat' (first | assumption | exact Below.refl _ _ | refine Below.setCell ?_ (by first | (simp; done) | omega | (simp; omega)) _ | refine Below.alloc ?_ (by first | (simp; done) | omega | (simp; omega)) _ | refine Below.drew ?_)))⟩)) ?_
  (repeat (first | (refine Reg2.wS_skip (by (simp only [List.getElem?_toArray, List.getElem?_cons_succ, List.getElem?_cons_zero]) <;> rfl) (by rfl) ?_; simp only [Act.put, Nat.reduceAdd, List.setIfInBounds_toArray, List.set_cons_zero, List.set_cons_succ, List.nil_append, List.cons_append]) | (refine Reg2.wS_open (by (simp only [List.getElem?_toArray, List.getElem?_cons_succ, List.getElem?_cons_zero]) <;> rfl) (by rfl) (by rfl) ?_; apply Exists.intro; refine ⟨fun vs wq hw => ?_, ?_⟩; (focus (rw [HCl.out] at hw; (try simp only [List.nil_append, List.cons_append] at hw); (try dsimp only at hw); go_split_ands; go_simp <;> first | with_reducible exact (rfl : Value.bool false = _) | with_reducible exact (rfl : Value.bool true = _) | ((try go_bits) <;> exact rfl))); simp only [Act.put, Nat.reduceAdd, List.setIfInBounds_toArray, List.set_cons_zero, List.set_cons_succ, List.nil_append, List.cons_append])))
  -- the load
  refine Reg2.wS_eff (by (simp only [List.getElem?_toArray, List.getElem?_cons_succ, List.getElem?_cons_zero]) <;> rfl) (by rfl) (by rfl) (fun wq hw => ?_) (fun u hu => ?_)
  focus
    rw [HCl.out] at hw; (try simp only [List.nil_append, List.cons_append] at hw); (try dsimp only at hw)
    obtain ⟨⟨i0, i1, i4⟩, g1, g2, g3, g4⟩ := hw
    go_simp
    rw [HCl.out]; (try simp only [List.nil_append, List.cons_append]); (try dsimp only)
    first | exact ⟨⟨i0, i1, i4⟩, rfl, g1, g2, g3, g4⟩ | exact ⟨⟨i0, i1, i4⟩, trivial, g1, g2, g3, g4⟩
  obtain ⟨wz, hz⟩ := hu
  rw [HCl.out] at hz
  (try simp only [List.nil_append, List.cons_append] at hz)
  (try dsimp only at hz)
  obtain ⟨-, rfl, -, -, -, -⟩ := hz
  clear wz
  simp only [Act.put, Nat.reduceAdd, List.setIfInBounds_toArray, List.set_cons_zero, List.set_cons_succ, List.nil_append, List.cons_append]
  (repeat (first | (refine Reg2.wS_skip (by (simp only [List.getElem?_toArray, List.getElem?_cons_succ, List.getElem?_cons_zero]) <;> rfl) (by rfl) ?_; simp only [Act.put, Nat.reduceAdd, List.setIfInBounds_toArray, List.set_cons_zero, List.set_cons_succ, List.nil_append, List.cons_append]) | (refine Reg2.wS_open (by (simp only [List.getElem?_toArray, List.getElem?_cons_succ, List.getElem?_cons_zero]) <;> rfl) (by rfl) (by rfl) ?_; apply Exists.intro; refine ⟨fun vs wq hw => ?_, ?_⟩; (focus (rw [HCl.out] at hw; (try simp only [List.nil_append, List.cons_append] at hw); (try dsimp only at hw); go_split_ands; go_simp <;> first | with_reducible exact (rfl : Value.bool false = _) | with_reducible exact (rfl : Value.bool true = _) | ((try go_bits) <;> exact rfl))); simp only [Act.put, Nat.reduceAdd, List.setIfInBounds_toArray, List.set_cons_zero, List.set_cons_succ, List.nil_append, List.cons_append])))
  -- the call
  refine Reg2.wS_eff (by (simp only [List.getElem?_toArray, List.getElem?_cons_succ, List.getElem?_cons_zero]) <;> rfl) (by rfl) (by rfl) (fun wq hw => ?_) (fun u hu => ?_)
  focus
    rw [HCl.out] at hw; (try simp only [List.nil_append, List.cons_append] at hw); (try dsimp only at hw)
    obtain ⟨⟨i0, i1, i4⟩, -, g1, g2, g3, g4⟩ := hw
    have hp := PT.out g4
    go_simp
    go_at_call 54
    have kq := kp wq hp.2.2.2.2.2.1
    have kq := by simpa only [HU.out] using kq
    (with_reducible refine kq.mono ?_)
    rintro e w' ⟨rfl, hN, hO⟩
    have hws : w.heap.size ≤ wq.heap.size := hp.2.2.2.2.2.2.size
    obtain ⟨uv, huv⟩ := pt_ptr (cutT k t)
    refine ⟨_, rfl, ?_⟩
    rw [HCl.out]; (try simp only [List.nil_append, List.cons_append]); (try dsimp only)
    have hxs : ∀ j, w.heap.size ≤ j → ¬ j ∈ fp t := fun j hj h => by have := NT.lt HT.out _ h; omega
    exact ⟨⟨(hO.cell i4 (hxs _ (by omega))).trans i0, (hO.cell i4 (hxs _ (by omega))).trans i1, Nat.lt_of_lt_of_le i4 hO.size⟩, uv, huv, huv, (hO.cell g3 HA.out).trans g1, (hO.frozen g3 HA.out).trans g2, Nat.lt_of_lt_of_le g3 hO.size, g4.only hO HA.out hN⟩
  obtain ⟨wz, hz⟩ := hu
  rw [HCl.out] at hz
  (try simp only [List.nil_append, List.cons_append] at hz)
  (try dsimp only at hz)
  obtain ⟨-, uv0, rfl, -, -⟩ := hz
  clear wz
  simp only [Act.put, Nat.reduceAdd, List.setIfInBounds_toArray, List.set_cons_zero, List.set_cons_succ, List.nil_append, List.cons_append]
  (repeat (first | (refine Reg2.wS_skip (by (simp only [List.getElem?_toArray, List.getElem?_cons_succ, List.getElem?_cons_zero]) <;> rfl) (by rfl) ?_; simp only [Act.put, Nat.reduceAdd, List.setIfInBounds_toArray, List.set_cons_zero, List.set_cons_succ, List.nil_append, List.cons_append]) | (refine Reg2.wS_open (by (simp only [List.getElem?_toArray, List.getElem?_cons_succ, List.getElem?_cons_zero]) <;> rfl) (by rfl) (by rfl) ?_; apply Exists.intro; refine ⟨fun vs wq hw => ?_, ?_⟩; (focus (rw [HCl.out] at hw; (try simp only [List.nil_append, List.cons_append] at hw); (try dsimp only at hw); go_split_ands; go_simp <;> first | with_reducible exact (rfl : Value.bool false = _) | with_reducible exact (rfl : Value.bool true = _) | ((try go_bits) <;> exact rfl))); simp only [Act.put, Nat.reduceAdd, List.setIfInBounds_toArray, List.set_cons_zero, List.set_cons_succ, List.nil_append, List.cons_append])))
  -- the store
  refine Reg2.wS_eff (by (simp only [List.getElem?_toArray, List.getElem?_cons_succ, List.getElem?_cons_zero]) <;> rfl) (by rfl) (by rfl) (fun wq hw => ?_) (fun u hu => ?_)
  focus
    rw [HCl.out] at hw; (try simp only [List.nil_append, List.cons_append] at hw); (try dsimp only at hw)
    obtain ⟨⟨i0, i1, i4⟩,  uv, hvv, huv,  g1, g2, g3, g4⟩ := hw
    cases hvv
    go_simp
    rw [HCl.out]; (try simp only [List.nil_append, List.cons_append]); (try dsimp only)
    have hp := PT.out g4
    have hne : ¬ w.heap.size = a := by omega
    have hne2 : ¬ w.heap.size + 1 = a := by omega
    refine ⟨⟨by simp [go_sem, *], by simp [go_sem, *], by simpa [go_sem] using i4⟩,  _, huv,  g4.set (HFA.out) (huv ▸ rfl)⟩
  clear hu
  simp only [Act.put, Nat.reduceAdd, List.setIfInBounds_toArray, List.set_cons_zero, List.set_cons_succ, List.nil_append, List.cons_append]
  refine Reg2.wS_nil ?_; intro w' hw; rw [HCl.out] at hw; (try simp only [List.nil_append, List.cons_append] at hw); (try dsimp only at hw); clear HCl
  obtain ⟨-,  uv, huv,  g4⟩ := hw
  have hp := PT.out g4
  have HP2 := Lib.hid hp
  have c1 := hp.2.1
  have e1 := hp.2.2.2.1
  have la := hp.2.2.2.2.1
  clear hp g4
  go_wp2
  go_ret
  have hp := HP2.out
  have hpa := HPA.out
  have hlen : ((tl (cutT k t)).length : Int) = n - 1 := by rw [hpa.2.2.2.2, ← HN.out, ← HLE.out]; simp
  refine ⟨rfl, ⟨by simpa [go_sem] using (huv ▸ hp.1), by rw [hlen]; simp [go_sem, *], by simpa [go_sem] using hp.2.2.1, by simpa [go_sem] using hp.2.2.2.1, by simpa [go_sem] using hp.2.2.2.2.1, NT.set hp.2.2.2.2.2.1 HFA.out, List.nodup_iff_count.2 fun j => Nat.le_trans (hpa.2.2.2.1 j) (List.nodup_iff_count.1 HND.out j), hpa.1, by rw [hpa.2.2.2.2]; exact HSR.out, HFA.out⟩, hp.2.2.2.2.2.2.setCell (p := ⟨a, 1, none⟩) (.inl (.inl rfl)) _⟩
end Go.Proofs.Ytikmdkmejbcmmaa
