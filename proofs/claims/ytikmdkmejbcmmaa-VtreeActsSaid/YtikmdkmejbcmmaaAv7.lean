/- put. -/
import Derived.Test.YtikmdkmejbcmmaaAv6
import Derived.Test.YtikmdkmejbcmmaaRegS
namespace Go.Proofs.Ytikmdkmejbcmmaa
set_option linter.unusedVariables false
set_option linter.unusedSimpArgs false
set_option maxRecDepth 100000
open Go.RowKit Fg Reg
attribute [local irreducible] Reg.wE NT

/-- A node, what is on its sides, and what may have turned. -/
def PB (w z : World) (b : Nat) (y : It) (vl vr : Value) (H : Int) (M : It) (t1 t2 : Tr) (S : Nat → Prop) : Prop := NC z b y vl vr H M ∧ NT z t1 ∧ NT z t2 ∧ Only S w z
theorem PB.mk {w z : World} {b : Nat} {y : It} {vl vr : Value} {H : Int} {M : It} {t1 t2 : Tr} {S : Nat → Prop} (h1 : NC z b y vl vr H M) (h2 : NT z t1) (h3 : NT z t2) (h4 : Only S w z) : PB w z b y vl vr H M t1 t2 S := ⟨h1, h2, h3, h4⟩
theorem PB.out {w z : World} {b : Nat} {y : It} {vl vr : Value} {H : Int} {M : It} {t1 t2 : Tr} {S : Nat → Prop} (h : PB w z b y vl vr H M t1 t2 S) : NC z b y vl vr H M ∧ NT z t1 ∧ NT z t2 ∧ Only S w z := h
theorem only_new {S S2 : Nat → Prop} {a b c : World} (h : Only S a b) (k : Only S2 b c) (hs : ∀ i, S2 i → S i ∨ a.heap.size ≤ i) : Only S a c :=
  ⟨k.os.trans h.os, k.tape.trans h.tape, k.output.trans h.output, Nat.le_trans h.size k.size, fun i hi hn => (k.block i (Nat.lt_of_lt_of_le hi h.size) (fun h2 => by rcases hs i h2 with h3 | h3; exact hn h3; omega)).trans (h.block i hi hn)⟩
theorem putT_mem (x : It) (t : Tr) (hb : bal t) (hs : SS (tl t)) (nb : Nat) (hn : nb ∉ fp t) (k : Nat) : k ∈ fp (putT nb x t) ↔ k = nb ∨ k ∈ fp t := by
  rw [(putT_all nb x t hb hs hn).2.2.2.1.mem_iff, List.mem_cons]
attribute [local irreducible] PB
set_option maxHeartbeats 4000000 in
theorem put_c (x : It) : ∀ (t : Tr) (w : World), NT w t → (fp t).Nodup → bal t → SS (tl t) → hgt t ≤ 800 →
    Calls Try.prog 55 #[pt t, .agg #[.int .u64 (x).ka, .int .i64 (x).ki, .int .u64 (x).va, .int .i64 (x).vi]] w fun e w' => ∃ nb, w.heap.size ≤ nb ∧ e = .returned (pt (putT nb x t)) ∧ NT w' (putT nb x t) ∧ Only (fun k => k ∈ fp t) w w' := by
  intro t
  induction t with
  | nil =>
    intro w hT hnd0 hbt hst hgt0
    show Calls Try.prog 55 #[.pointer none, .agg #[.int .u64 (x).ka, .int .i64 (x).ki, .int .u64 (x).va, .int .i64 (x).vi]] w _
    go_enter Try.func55, Try.ntmps55
    go_wp2_with fail
    have hn : ∀ (z : World), Below w.heap.size w z → NT z .nil := fun z _ => by unfold NT; trivial
    have kl := fun (z : World) (hz : NC z (w.heap.size + 1) x (pt .nil) (pt .nil) 0 (⟨0, 0, 0, 0⟩ : It)) => lrn_c (w.heap.size + 1) x .nil .nil 0 ⟨0, 0, 0, 0⟩ z hz (by unfold NT; trivial) (by unfold NT; trivial) (by simp [fp]) (by simp [fp]) (by simp [hgt]) (by simp [hgt])
    with_reducible refine (kl _ ⟨by simp [go_sem], by simp [go_sem], by simp [go_sem], by simp [go_sem], by simp [go_sem, pt], by simp [go_sem, pt], by simp [go_sem], by simp [go_sem], by simp [go_sem], by simp [go_sem], by simp [go_sem], fun j => by simp [go_sem], by simp⟩).mono ?_
    rintro _ w1 ⟨rfl, hN, hO⟩
    go_wp2
    go_ret
    refine ⟨w.heap.size + 1, by omega, rfl, hN, only_new (((Only.refl _ w).alloc _).alloc _) hO fun k hk => .inr (by omega)⟩
  | node b y l r ihl ihr =>
    intro w hT hnd0 hbt hst hgt0
    have hTT := hT
    unfold NT at hTT
    obtain ⟨hN, hl, hr⟩ := hTT
    have hnd := hnd0
    simp only [fp, List.nodup_cons, List.mem_append, not_or, List.nodup_append] at hnd
    obtain ⟨⟨hbln, hbrn⟩, hndl, hndr, hdj⟩ := hnd
    have hdisj : ∀ k, k ∈ fp l → k ∈ fp r → False := fun k h1 h2 => hdj k h1 k h2 rfl
    obtain ⟨-, -, hbl, hbr⟩ := hbt
    obtain ⟨hsl, hsr, -, -, -⟩ := ss_parts (show SS (tl l ++ y :: tl r) from hst)
    have hmeml := fun nb k (h : w.heap.size ≤ nb) => putT_mem x l hbl hsl nb (fun hh => by have := NT.lt hl _ hh; omega) k
    have hmemr := fun nb k (h : w.heap.size ≤ nb) => putT_mem x r hbr hsr nb (fun hh => by have := NT.lt hr _ hh; omega) k
    rw [hgt_node] at hgt0
    have ltb := hN.lt
    obtain ⟨H, hH⟩ : ∃ H : Int, ((hgt (.node b y l r) : Nat) : Int) = H := ⟨_, rfl⟩
    obtain ⟨M, hM⟩ : ∃ M, bst (.node b y l r) = M := ⟨_, rfl⟩
    rw [hH, hM] at hN
    clear hH hM
    obtain ⟨ul, hul⟩ := pt_ptr l
    obtain ⟨ur, hur⟩ := pt_ptr r
    rw [hul, hur] at hN
    have HN := Lib.hid hN
    have c0 := hN.c0
    have c1 := hN.c1
    have kc := fun z => kcmp_c x.ka x.ki y.ka y.ki z
    have hck := kcmp_kl x y
    clear hN
    show Calls Try.prog 55 #[.pointer (some ⟨b, 0, none⟩), .agg #[.int .u64 (x).ka, .int .i64 (x).ki, .int .u64 (x).va, .int .i64 (x).vi]] w _
    generalize kcmp x.ka x.ki y.ka y.ki = X at *
    have KC := Lib.hid kc
    cases hkl : kl x y with
    | true =>
      rw [hkl] at hck
      have HU1 := Lib.hid hul
      have HU2 := Lib.hid hur
      have kp := ihl
      clear ihl ihr kc
      go_enter Try.func55, Try.ntmps55
      go_wp2
      obtain ⟨Cl, hCl⟩ : ∃ Cl : List Value → World → Prop, Cl = ((fun ps wz => (wz.cell? ⟨w.heap.size, 0, none⟩ = some (.int .u64 (x).ka) ∧ wz.cell? ⟨w.heap.size, 1, none⟩ = some (.int .i64 (x).ki) ∧ wz.cell? ⟨w.heap.size, 2, none⟩ = some (.int .u64 (x).va) ∧ wz.cell? ⟨w.heap.size, 3, none⟩ = some (.int .i64 (x).vi) ∧ w.heap.size < wz.heap.size) ∧ wz.cell? ⟨b, 0, none⟩ = some (.int .u64 y.ka) ∧ wz.cell? ⟨b, 1, none⟩ = some (.int .i64 y.ki) ∧ b < wz.heap.size ∧ b < w.heap.size ∧ w.heap.size ≤ wz.heap.size ∧ Below w.heap.size w wz)) := ⟨_, rfl⟩; have HCl := Lib.hid hCl; clear hCl; refine wp_region_eff [] Cl (by kernel_rfl) (by kernel_rfl) (by rw [HCl.out]; (try simp only [List.nil_append, List.cons_append]); (try dsimp only); ((repeat' apply And.intro) <;> first | (simp [go_sem, *]; done) | omega | (repeat' (first | with_reducible exact Below.refl _ _ | with_reducible assumption | ((with_reducible refine Below.drew ?_)) | ((with_reducible refine below_drewN ?_ _)) | ((with_reducible refine Below.alloc ?_ ?_ _); rotate_left; focus (first | omega | (simp; done) | (simp; omega))) | ((with_reducible refine Below.setCell ?_ ?_ _); rotate_left; focus (first | omega | (simp; done) | (simp; omega))) | ((with_reducible refine Below.trans ?_ (Below.mono (by with_reducible assumption) ?_)); rotate_left; focus (first | omega | (simp; done) | (simp; omega))))))) ?_
      (repeat (first | (refine wE_skip (by rfl) ?_; simp only [Act.put, Nat.reduceAdd, List.setIfInBounds_toArray, List.set_cons_zero, List.set_cons_succ, List.nil_append, List.cons_append]) | (refine wE_open (by rfl) (by rfl) ?_; apply Exists.intro; refine ⟨fun vs wq hw => ?_, ?_⟩; (focus (rw [HCl.out] at hw; (try simp only [List.nil_append, List.cons_append] at hw); (try dsimp only at hw); go_split_ands; go_simp <;> first | with_reducible exact (rfl : Value.bool false = _) | with_reducible exact (rfl : Value.bool true = _) | ((try go_bits) <;> exact rfl))); simp only [Act.put, Nat.reduceAdd, List.setIfInBounds_toArray, List.set_cons_zero, List.set_cons_succ, List.nil_append, List.cons_append]) | (refine wE_seal (by rfl) (by rfl) (by kernel_rfl) ?_; apply Exists.intro; refine ⟨fun wq hw => ?_, ?_⟩; (focus (rw [HCl.out] at hw; (try simp only [List.nil_append, List.cons_append] at hw); (try dsimp only at hw); go_split_ands; go_simp <;> (try go_bits) <;> exact rfl)); simp only [Act.put, Nat.reduceAdd, List.setIfInBounds_toArray, List.set_cons_zero, List.set_cons_succ, List.nil_append, List.cons_append]) | (refine wE_seal (by rfl) (by rfl) (by kernel_rfl) ?_; apply Exists.intro; refine ⟨fun wq hw => ?_, ?_⟩; (focus (rw [HCl.out] at hw; (try simp only [List.nil_append, List.cons_append] at hw); (try dsimp only at hw); go_split_ands; go_simp; (go_at_call 66; ((with_reducible refine (KC.out _).mono ?_); rintro e w' ⟨rfl, hbel⟩; obtain ⟨hcc, hff⟩ := bcell hbel; have hsz := hbel.size; (try simp at hsz); refine ⟨rfl, ?_⟩; rw [HCl.out]; (try simp only [List.nil_append, List.cons_append]); (try dsimp only); ((repeat' apply And.intro) <;> first | (simp [go_sem, *]; done) | omega | (repeat' (first | with_reducible exact Below.refl _ _ | with_reducible assumption | ((with_reducible refine Below.drew ?_)) | ((with_reducible refine below_drewN ?_ _)) | ((with_reducible refine Below.alloc ?_ ?_ _); rotate_left; focus (first | omega | (simp; done) | (simp; omega))) | ((with_reducible refine Below.setCell ?_ ?_ _); rotate_left; focus (first | omega | (simp; done) | (simp; omega))) | ((with_reducible refine Below.trans ?_ (Below.mono (by with_reducible assumption) ?_)); rotate_left; focus (first | omega | (simp; done) | (simp; omega)))))))))); simp only [Act.put, Nat.reduceAdd, List.setIfInBounds_toArray, List.set_cons_zero, List.set_cons_succ, List.nil_append, List.cons_append]) | (refine wE_eff (by rfl) (by rfl) (fun wq hw => ?_) (fun u hu => ?_); (focus (rw [HCl.out] at hw; (try simp only [List.nil_append, List.cons_append] at hw); (try dsimp only at hw); go_split_ands; go_simp; rw [HCl.out]; (try simp only [List.nil_append, List.cons_append]); (try dsimp only); fail; ((repeat' apply And.intro) <;> first | (simp [go_sem, *]; done) | omega | (repeat' (first | with_reducible exact Below.refl _ _ | with_reducible assumption | ((with_reducible refine Below.drew ?_)) | ((with_reducible refine below_drewN ?_ _)) | ((with_reducible refine Below.alloc ?_ ?_ _); rotate_left; focus (first | omega | (simp; done) | (simp; omega))) | ((with_reducible refine Below.setCell ?_ ?_ _); rotate_left; focus (first | omega | (simp; done) | (simp; omega))) | ((with_reducible refine Below.trans ?_ (Below.mono (by with_reducible assumption) ?_)); rotate_left; focus (first | omega | (simp; done) | (simp; omega)))))))); clear hu; simp only [Act.put, Nat.reduceAdd, List.setIfInBounds_toArray, List.set_cons_zero, List.set_cons_succ, List.nil_append, List.cons_append])))
      refine wE_nil ?_; intro w' hw; rw [HCl.out] at hw; (try simp only [List.nil_append, List.cons_append] at hw); (try dsimp only at hw); clear HCl
      go_split_ands
      rename Below w.heap.size w _ => hbq
      rename World => w1
      go_wp2
      have hN1 := HN.out.below hbq
      have hl1 := NT.below hbq hl
      have hr1 := NT.below hbq hr
      obtain ⟨Cl, hCl⟩ : ∃ Cl : List (Nat × Value) → World → Prop, Cl = ((fun ps wz => (wz.cell? ⟨w.heap.size, 0, none⟩ = some (.int .u64 (x).ka) ∧ wz.cell? ⟨w.heap.size, 1, none⟩ = some (.int .i64 (x).ki) ∧ wz.cell? ⟨w.heap.size, 2, none⟩ = some (.int .u64 (x).va) ∧ wz.cell? ⟨w.heap.size, 3, none⟩ = some (.int .i64 (x).vi) ∧ w.heap.size < wz.heap.size) ∧ wz.frozen? ⟨b, 4, none⟩ = false ∧ b < wz.heap.size ∧ (match ps with
          | [] => wz.cell? ⟨b, 4, none⟩ = some (.pointer ul) ∧ PB w wz b y (.pointer ul) (.pointer ur) H M l r (fun k => k ∈ fp (.node b y l r))
          | [(_, u4)] => u4 = .pointer ul ∧ wz.cell? ⟨b, 4, none⟩ = some (.pointer ul) ∧ PB w wz b y (.pointer ul) (.pointer ur) H M l r (fun k => k ∈ fp (.node b y l r))
          | [_, (_, v)] => ∃ nb uv, v = .pointer uv ∧ pt (putT nb x l) = .pointer uv ∧ w.heap.size ≤ nb ∧ wz.cell? ⟨b, 4, none⟩ = some (.pointer ul) ∧ PB w wz b y (.pointer ul) (.pointer ur) H M (putT nb x l) r (fun k => k ∈ fp (.node b y l r))
          | _ => ∃ nb uv, pt (putT nb x l) = .pointer uv ∧ w.heap.size ≤ nb ∧ PB w wz b y (pt (putT nb x l)) (.pointer ur) H M (putT nb x l) r (fun k => k ∈ fp (.node b y l r))))) := ⟨_, rfl⟩; have HCl := Lib.hid hCl; clear hCl; refine Reg2.wp_region_lineS [(0, false), (1, false), (2, false), (3, false), (5, false), (4, false), (6, false), (7, false), (8, false), (9, false)] [4, 6, 9] Cl (by kernel_rfl) (by kernel_rfl) (by kernel_rfl) (by rw [HCl.out]; (try simp only [List.nil_append, List.cons_append]); (try dsimp only); exact ⟨⟨by simp [go_sem, *], by simp [go_sem, *], by simp [go_sem, *], by simp [go_sem, *], by simpa [go_sem] using (show w.heap.size < w1.heap.size by assumption)⟩, by simpa [go_sem] using hN1.fz 4, by simpa [go_sem] using hN1.lt, by simpa [go_sem] using hN1.c4, PB.mk (hN1.below (Below.drew (Below.refl _ _))) (NT.below (Below.drew (Below.refl _ _)) hl1) (NT.below (Below.drew (Below.refl _ _)) hr1) (Only.of_below hbq).drew⟩) ?_
      (repeat (first | (refine Reg2.wS_skip (by (simp only [List.getElem?_toArray, List.getElem?_cons_succ, List.getElem?_cons_zero]) <;> rfl) (by rfl) ?_; simp only [Act.put, Nat.reduceAdd, List.setIfInBounds_toArray, List.set_cons_zero, List.set_cons_succ, List.nil_append, List.cons_append]) | (refine Reg2.wS_open (by (simp only [List.getElem?_toArray, List.getElem?_cons_succ, List.getElem?_cons_zero]) <;> rfl) (by rfl) (by rfl) ?_; apply Exists.intro; refine ⟨fun vs wq hw => ?_, ?_⟩; (focus (rw [HCl.out] at hw; (try simp only [List.nil_append, List.cons_append] at hw); (try dsimp only at hw); go_split_ands; go_simp <;> first | with_reducible exact (rfl : Value.bool false = _) | with_reducible exact (rfl : Value.bool true = _) | ((try go_bits) <;> exact rfl))); simp only [Act.put, Nat.reduceAdd, List.setIfInBounds_toArray, List.set_cons_zero, List.set_cons_succ, List.nil_append, List.cons_append])))
      -- the load
      refine Reg2.wS_eff (by (simp only [List.getElem?_toArray, List.getElem?_cons_succ, List.getElem?_cons_zero]) <;> rfl) (by rfl) (by rfl) (fun wq hw => ?_) (fun u hu => ?_)
      focus
        rw [HCl.out] at hw; (try simp only [List.nil_append, List.cons_append] at hw); (try dsimp only at hw)
        obtain ⟨⟨i0, i1, i2, i3, i4⟩, g1, g2, g3, g4⟩ := hw
        go_simp
        rw [HCl.out]; (try simp only [List.nil_append, List.cons_append]); (try dsimp only)
        first | exact ⟨⟨i0, i1, i2, i3, i4⟩, g1, g2, rfl, g3, g4⟩ | exact ⟨⟨i0, i1, i2, i3, i4⟩, g1, g2, trivial, g3, g4⟩
      obtain ⟨wz, hz⟩ := hu
      rw [HCl.out] at hz
      (try simp only [List.nil_append, List.cons_append] at hz)
      (try dsimp only at hz)
      obtain ⟨-, -, -, rfl, -, -⟩ := hz
      clear wz
      simp only [Act.put, Nat.reduceAdd, List.setIfInBounds_toArray, List.set_cons_zero, List.set_cons_succ, List.nil_append, List.cons_append]
      -- the call
      refine Reg2.wS_eff (by (simp only [List.getElem?_toArray, List.getElem?_cons_succ, List.getElem?_cons_zero]) <;> rfl) (by rfl) (by rfl) (fun wq hw => ?_) (fun u hu => ?_)
      focus
        rw [HCl.out] at hw; (try simp only [List.nil_append, List.cons_append] at hw); (try dsimp only at hw)
        obtain ⟨⟨i0, i1, i2, i3, i4⟩, g1, g2, -, g3, g4⟩ := hw
        obtain ⟨p1, p2, p3, p4⟩ := PB.out g4
        go_simp
        go_at_call 55
        have kq := kp wq p2 hndl hbl hsl (by omega)
        rw [HU1.out] at kq
        (with_reducible refine kq.mono ?_)
        rintro e w' ⟨nb, hnb, rfl, hN, hO⟩
        have hws : w.heap.size ≤ wq.heap.size := p4.size
        have hbn : b ∉ fp l := hbln
        obtain ⟨uv, huv⟩ := pt_ptr (putT nb x l)
        refine ⟨_, rfl, ?_⟩
        rw [HCl.out]; (try simp only [List.nil_append, List.cons_append]); (try dsimp only)
        have hxs : ¬ w.heap.size ∈ fp l := fun h => by have := NT.lt hl _ h; omega
        refine ⟨⟨(hO.cell i4 hxs).trans i0, (hO.cell i4 hxs).trans i1, (hO.cell i4 hxs).trans i2, (hO.cell i4 hxs).trans i3, Nat.lt_of_lt_of_le i4 hO.size⟩, (hO.frozen g2 hbn).trans g1, Nat.lt_of_lt_of_le g2 hO.size, nb, uv, huv, huv, by omega, (hO.cell g2 hbn).trans g3, PB.mk (p1.only hO hbn) hN (NT.only hO p3 (fun k hk hh => hdisj k hh hk)) (p4.trans (hO.mono fun k hk => by simp [fp, hk]))⟩
      obtain ⟨wz, hz⟩ := hu
      rw [HCl.out] at hz
      (try simp only [List.nil_append, List.cons_append] at hz)
      (try dsimp only at hz)
      obtain ⟨-, -, -, nb0, uv0, rfl, -, -, -, -⟩ := hz
      clear wz
      simp only [Act.put, Nat.reduceAdd, List.setIfInBounds_toArray, List.set_cons_zero, List.set_cons_succ, List.nil_append, List.cons_append]
      (repeat (first | (refine Reg2.wS_skip (by (simp only [List.getElem?_toArray, List.getElem?_cons_succ, List.getElem?_cons_zero]) <;> rfl) (by rfl) ?_; simp only [Act.put, Nat.reduceAdd, List.setIfInBounds_toArray, List.set_cons_zero, List.set_cons_succ, List.nil_append, List.cons_append]) | (refine Reg2.wS_open (by (simp only [List.getElem?_toArray, List.getElem?_cons_succ, List.getElem?_cons_zero]) <;> rfl) (by rfl) (by rfl) ?_; apply Exists.intro; refine ⟨fun vs wq hw => ?_, ?_⟩; (focus (rw [HCl.out] at hw; (try simp only [List.nil_append, List.cons_append] at hw); (try dsimp only at hw); go_split_ands; go_simp <;> first | with_reducible exact (rfl : Value.bool false = _) | with_reducible exact (rfl : Value.bool true = _) | ((try go_bits) <;> exact rfl))); simp only [Act.put, Nat.reduceAdd, List.setIfInBounds_toArray, List.set_cons_zero, List.set_cons_succ, List.nil_append, List.cons_append])))
      -- the store
      refine Reg2.wS_eff (by (simp only [List.getElem?_toArray, List.getElem?_cons_succ, List.getElem?_cons_zero]) <;> rfl) (by rfl) (by rfl) (fun wq hw => ?_) (fun u hu => ?_)
      focus
        rw [HCl.out] at hw; (try simp only [List.nil_append, List.cons_append] at hw); (try dsimp only at hw)
        obtain ⟨⟨i0, i1, i2, i3, i4⟩, g1, g2, nb, uv, hvv, huv, hnb, g3, g4⟩ := hw
        obtain ⟨p1, p2, p3, p4⟩ := PB.out g4
        cases hvv
        go_simp
        rw [HCl.out]; (try simp only [List.nil_append, List.cons_append]); (try dsimp only)
        have hne : ¬ w.heap.size = b := by omega
        have hfb : b ∉ fp (putT nb x l) := fun h => by
          have := (hmeml nb b hnb).1 h
          rcases this with h | h
          · omega
          · exact hbln h
        refine ⟨⟨by simp [go_sem, *], by simp [go_sem, *], by simp [go_sem, *], by simp [go_sem, *], by simpa [go_sem] using i4⟩, by simpa [go_sem] using g1, by simpa [go_sem] using g2, nb, _, huv, hnb, PB.mk (huv ▸ p1.setL _) (p2.set hfb) (p3.set hbrn) (p4.setCell (p := ⟨b, 4, none⟩) (.inl (by simp [fp])) _)⟩
      clear hu
      simp only [Act.put, Nat.reduceAdd, List.setIfInBounds_toArray, List.set_cons_zero, List.set_cons_succ, List.nil_append, List.cons_append]
      refine Reg2.wS_nil ?_; intro w' hw; rw [HCl.out] at hw; (try simp only [List.nil_append, List.cons_append] at hw); (try dsimp only at hw); clear HCl
      obtain ⟨-, -, -, nb, uv, huv, hnb, g4⟩ := hw
      obtain ⟨p1, p2, p3, p4⟩ := PB.out g4
      clear g4
      go_wp2_with fail
      have hpa := putT_all nb x l hbl hsl (fun h => by have := NT.lt hl _ h; omega)
      have kb := blc_c b y (putT nb x l) r H M _ (HU2.out ▸ p1) p2 p3 (by
        have hp := hpa.2.2.2.1
        have hs := hnd0
        have h9 : nb ∉ fp (.node b y l r) := fun h => by have := NT.lt hT _ h; omega
        refine (List.Perm.nodup_iff (List.Perm.cons b ((hp).append_right _))).2 ?_
        simp only [fp, List.nodup_cons, List.mem_cons, List.mem_append, not_or, List.nodup_append, List.cons_append] at hs h9 ⊢
        grind) (by omega) (by omega)
      with_reducible refine kb.mono ?_
      rintro _ w9 ⟨rfl, hN9, hO9⟩
      go_wp2
      go_ret
      have eT : putT nb x (.node b y l r) = blc b y (putT nb x l) r := by
        show (if kl x y then _ else _) = _
        rw [hkl]
        rfl
      refine ⟨nb, hnb, by rw [eT]; rfl, by rw [eT]; exact hN9, only_new p4 hO9 fun k hk => ?_⟩
      rcases hk with rfl | hk | hk
      · exact .inl (by simp [fp])
      · rcases (hmeml nb k hnb).1 hk with h | h
        · exact .inr (by omega)
        · exact .inl (by simp [fp, h])
      · exact .inl (by simp [fp, hk])
    | false =>
      rw [hkl] at hck
      have HU1 := Lib.hid hur
      have HU2 := Lib.hid hul
      have kp := ihr
      clear ihl ihr kc
      go_enter Try.func55, Try.ntmps55
      go_wp2
      obtain ⟨Cl, hCl⟩ : ∃ Cl : List Value → World → Prop, Cl = ((fun ps wz => (wz.cell? ⟨w.heap.size, 0, none⟩ = some (.int .u64 (x).ka) ∧ wz.cell? ⟨w.heap.size, 1, none⟩ = some (.int .i64 (x).ki) ∧ wz.cell? ⟨w.heap.size, 2, none⟩ = some (.int .u64 (x).va) ∧ wz.cell? ⟨w.heap.size, 3, none⟩ = some (.int .i64 (x).vi) ∧ w.heap.size < wz.heap.size) ∧ wz.cell? ⟨b, 0, none⟩ = some (.int .u64 y.ka) ∧ wz.cell? ⟨b, 1, none⟩ = some (.int .i64 y.ki) ∧ b < wz.heap.size ∧ b < w.heap.size ∧ w.heap.size ≤ wz.heap.size ∧ Below w.heap.size w wz)) := ⟨_, rfl⟩; have HCl := Lib.hid hCl; clear hCl; refine wp_region_eff [] Cl (by kernel_rfl) (by kernel_rfl) (by rw [HCl.out]; (try simp only [List.nil_append, List.cons_append]); (try dsimp only); ((repeat' apply And.intro) <;> first | (simp [go_sem, *]; done) | omega | (repeat' (first | with_reducible exact Below.refl _ _ | with_reducible assumption | ((with_reducible refine Below.drew ?_)) | ((with_reducible refine below_drewN ?_ _)) | ((with_reducible refine Below.alloc ?_ ?_ _); rotate_left; focus (first | omega | (simp; done) | (simp; omega))) | ((with_reducible refine Below.setCell ?_ ?_ _); rotate_left; focus (first | omega | (simp; done) | (simp; omega))) | ((with_reducible refine Below.trans ?_ (Below.mono (by with_reducible assumption) ?_)); rotate_left; focus (first | omega | (simp; done) | (simp; omega))))))) ?_
      (repeat (first | (refine wE_skip (by rfl) ?_; simp only [Act.put, Nat.reduceAdd, List.setIfInBounds_toArray, List.set_cons_zero, List.set_cons_succ, List.nil_append, List.cons_append]) | (refine wE_open (by rfl) (by rfl) ?_; apply Exists.intro; refine ⟨fun vs wq hw => ?_, ?_⟩; (focus (rw [HCl.out] at hw; (try simp only [List.nil_append, List.cons_append] at hw); (try dsimp only at hw); go_split_ands; go_simp <;> first | with_reducible exact (rfl : Value.bool false = _) | with_reducible exact (rfl : Value.bool true = _) | ((try go_bits) <;> exact rfl))); simp only [Act.put, Nat.reduceAdd, List.setIfInBounds_toArray, List.set_cons_zero, List.set_cons_succ, List.nil_append, List.cons_append]) | (refine wE_seal (by rfl) (by rfl) (by kernel_rfl) ?_; apply Exists.intro; refine ⟨fun wq hw => ?_, ?_⟩; (focus (rw [HCl.out] at hw; (try simp only [List.nil_append, List.cons_append] at hw); (try dsimp only at hw); go_split_ands; go_simp <;> (try go_bits) <;> exact rfl)); simp only [Act.put, Nat.reduceAdd, List.setIfInBounds_toArray, List.set_cons_zero, List.set_cons_succ, List.nil_append, List.cons_append]) | (refine wE_seal (by rfl) (by rfl) (by kernel_rfl) ?_; apply Exists.intro; refine ⟨fun wq hw => ?_, ?_⟩; (focus (rw [HCl.out] at hw; (try simp only [List.nil_append, List.cons_append] at hw); (try dsimp only at hw); go_split_ands; go_simp; (go_at_call 66; ((with_reducible refine (KC.out _).mono ?_); rintro e w' ⟨rfl, hbel⟩; obtain ⟨hcc, hff⟩ := bcell hbel; have hsz := hbel.size; (try simp at hsz); refine ⟨rfl, ?_⟩; rw [HCl.out]; (try simp only [List.nil_append, List.cons_append]); (try dsimp only); ((repeat' apply And.intro) <;> first | (simp [go_sem, *]; done) | omega | (repeat' (first | with_reducible exact Below.refl _ _ | with_reducible assumption | ((with_reducible refine Below.drew ?_)) | ((with_reducible refine below_drewN ?_ _)) | ((with_reducible refine Below.alloc ?_ ?_ _); rotate_left; focus (first | omega | (simp; done) | (simp; omega))) | ((with_reducible refine Below.setCell ?_ ?_ _); rotate_left; focus (first | omega | (simp; done) | (simp; omega))) | ((with_reducible refine Below.trans ?_ (Below.mono (by with_reducible assumption) ?_)); rotate_left; focus (first | omega | (simp; done) | (simp; omega)))))))))); simp only [Act.put, Nat.reduceAdd, List.setIfInBounds_toArray, List.set_cons_zero, List.set_cons_succ, List.nil_append, List.cons_append]) | (refine wE_eff (by rfl) (by rfl) (fun wq hw => ?_) (fun u hu => ?_); (focus (rw [HCl.out] at hw; (try simp only [List.nil_append, List.cons_append] at hw); (try dsimp only at hw); go_split_ands; go_simp; rw [HCl.out]; (try simp only [List.nil_append, List.cons_append]); (try dsimp only); fail; ((repeat' apply And.intro) <;> first | (simp [go_sem, *]; done) | omega | (repeat' (first | with_reducible exact Below.refl _ _ | with_reducible assumption | ((with_reducible refine Below.drew ?_)) | ((with_reducible refine below_drewN ?_ _)) | ((with_reducible refine Below.alloc ?_ ?_ _); rotate_left; focus (first | omega | (simp; done) | (simp; omega))) | ((with_reducible refine Below.setCell ?_ ?_ _); rotate_left; focus (first | omega | (simp; done) | (simp; omega))) | ((with_reducible refine Below.trans ?_ (Below.mono (by with_reducible assumption) ?_)); rotate_left; focus (first | omega | (simp; done) | (simp; omega)))))))); clear hu; simp only [Act.put, Nat.reduceAdd, List.setIfInBounds_toArray, List.set_cons_zero, List.set_cons_succ, List.nil_append, List.cons_append])))
      refine wE_nil ?_; intro w' hw; rw [HCl.out] at hw; (try simp only [List.nil_append, List.cons_append] at hw); (try dsimp only at hw); clear HCl
      go_split_ands
      rename Below w.heap.size w _ => hbq
      rename World => w1
      go_wp2
      have hN1 := HN.out.below hbq
      have hl1 := NT.below hbq hl
      have hr1 := NT.below hbq hr
      obtain ⟨Cl, hCl⟩ : ∃ Cl : List (Nat × Value) → World → Prop, Cl = ((fun ps wz => (wz.cell? ⟨w.heap.size, 0, none⟩ = some (.int .u64 (x).ka) ∧ wz.cell? ⟨w.heap.size, 1, none⟩ = some (.int .i64 (x).ki) ∧ wz.cell? ⟨w.heap.size, 2, none⟩ = some (.int .u64 (x).va) ∧ wz.cell? ⟨w.heap.size, 3, none⟩ = some (.int .i64 (x).vi) ∧ w.heap.size < wz.heap.size) ∧ wz.frozen? ⟨b, 5, none⟩ = false ∧ b < wz.heap.size ∧ (match ps with
          | [] => wz.cell? ⟨b, 5, none⟩ = some (.pointer ur) ∧ PB w wz b y (.pointer ul) (.pointer ur) H M r l (fun k => k ∈ fp (.node b y l r))
          | [(_, u4)] => u4 = .pointer ur ∧ wz.cell? ⟨b, 5, none⟩ = some (.pointer ur) ∧ PB w wz b y (.pointer ul) (.pointer ur) H M r l (fun k => k ∈ fp (.node b y l r))
          | [_, (_, v)] => ∃ nb uv, v = .pointer uv ∧ pt (putT nb x r) = .pointer uv ∧ w.heap.size ≤ nb ∧ wz.cell? ⟨b, 5, none⟩ = some (.pointer ur) ∧ PB w wz b y (.pointer ul) (.pointer ur) H M (putT nb x r) l (fun k => k ∈ fp (.node b y l r))
          | _ => ∃ nb uv, pt (putT nb x r) = .pointer uv ∧ w.heap.size ≤ nb ∧ PB w wz b y (.pointer ul) (pt (putT nb x r)) H M (putT nb x r) l (fun k => k ∈ fp (.node b y l r))))) := ⟨_, rfl⟩; have HCl := Lib.hid hCl; clear hCl; refine Reg2.wp_region_lineS [(0, false), (1, false), (2, false), (3, false), (5, false), (4, false), (6, false), (7, false), (8, false), (9, false)] [4, 6, 9] Cl (by kernel_rfl) (by kernel_rfl) (by kernel_rfl) (by rw [HCl.out]; (try simp only [List.nil_append, List.cons_append]); (try dsimp only); exact ⟨⟨by simp [go_sem, *], by simp [go_sem, *], by simp [go_sem, *], by simp [go_sem, *], by simpa [go_sem] using (show w.heap.size < w1.heap.size by assumption)⟩, by simpa [go_sem] using hN1.fz 5, by simpa [go_sem] using hN1.lt, by simpa [go_sem] using hN1.c5, PB.mk (hN1.below (Below.drew (Below.refl _ _))) (NT.below (Below.drew (Below.refl _ _)) hr1) (NT.below (Below.drew (Below.refl _ _)) hl1) (Only.of_below hbq).drew⟩) ?_
      (repeat (first | (refine Reg2.wS_skip (by (simp only [List.getElem?_toArray, List.getElem?_cons_succ, List.getElem?_cons_zero]) <;> rfl) (by rfl) ?_; simp only [Act.put, Nat.reduceAdd, List.setIfInBounds_toArray, List.set_cons_zero, List.set_cons_succ, List.nil_append, List.cons_append]) | (refine Reg2.wS_open (by (simp only [List.getElem?_toArray, List.getElem?_cons_succ, List.getElem?_cons_zero]) <;> rfl) (by rfl) (by rfl) ?_; apply Exists.intro; refine ⟨fun vs wq hw => ?_, ?_⟩; (focus (rw [HCl.out] at hw; (try simp only [List.nil_append, List.cons_append] at hw); (try dsimp only at hw); go_split_ands; go_simp <;> first | with_reducible exact (rfl : Value.bool false = _) | with_reducible exact (rfl : Value.bool true = _) | ((try go_bits) <;> exact rfl))); simp only [Act.put, Nat.reduceAdd, List.setIfInBounds_toArray, List.set_cons_zero, List.set_cons_succ, List.nil_append, List.cons_append])))
      -- the load
      refine Reg2.wS_eff (by (simp only [List.getElem?_toArray, List.getElem?_cons_succ, List.getElem?_cons_zero]) <;> rfl) (by rfl) (by rfl) (fun wq hw => ?_) (fun u hu => ?_)
      focus
        rw [HCl.out] at hw; (try simp only [List.nil_append, List.cons_append] at hw); (try dsimp only at hw)
        obtain ⟨⟨i0, i1, i2, i3, i4⟩, g1, g2, g3, g4⟩ := hw
        go_simp
        rw [HCl.out]; (try simp only [List.nil_append, List.cons_append]); (try dsimp only)
        first | exact ⟨⟨i0, i1, i2, i3, i4⟩, g1, g2, rfl, g3, g4⟩ | exact ⟨⟨i0, i1, i2, i3, i4⟩, g1, g2, trivial, g3, g4⟩
      obtain ⟨wz, hz⟩ := hu
      rw [HCl.out] at hz
      (try simp only [List.nil_append, List.cons_append] at hz)
      (try dsimp only at hz)
      obtain ⟨-, -, -, rfl, -, -⟩ := hz
      clear wz
      simp only [Act.put, Nat.reduceAdd, List.setIfInBounds_toArray, List.set_cons_zero, List.set_cons_succ, List.nil_append, List.cons_append]
      -- the call
      refine Reg2.wS_eff (by (simp only [List.getElem?_toArray, List.getElem?_cons_succ, List.getElem?_cons_zero]) <;> rfl) (by rfl) (by rfl) (fun wq hw => ?_) (fun u hu => ?_)
      focus
        rw [HCl.out] at hw; (try simp only [List.nil_append, List.cons_append] at hw); (try dsimp only at hw)
        obtain ⟨⟨i0, i1, i2, i3, i4⟩, g1, g2, -, g3, g4⟩ := hw
        obtain ⟨p1, p2, p3, p4⟩ := PB.out g4
        go_simp
        go_at_call 55
        have kq := kp wq p2 hndr hbr hsr (by omega)
        rw [HU1.out] at kq
        (with_reducible refine kq.mono ?_)
        rintro e w' ⟨nb, hnb, rfl, hN, hO⟩
        have hws : w.heap.size ≤ wq.heap.size := p4.size
        have hbn : b ∉ fp r := hbrn
        obtain ⟨uv, huv⟩ := pt_ptr (putT nb x r)
        refine ⟨_, rfl, ?_⟩
        rw [HCl.out]; (try simp only [List.nil_append, List.cons_append]); (try dsimp only)
        have hxs : ¬ w.heap.size ∈ fp r := fun h => by have := NT.lt hr _ h; omega
        refine ⟨⟨(hO.cell i4 hxs).trans i0, (hO.cell i4 hxs).trans i1, (hO.cell i4 hxs).trans i2, (hO.cell i4 hxs).trans i3, Nat.lt_of_lt_of_le i4 hO.size⟩, (hO.frozen g2 hbn).trans g1, Nat.lt_of_lt_of_le g2 hO.size, nb, uv, huv, huv, by omega, (hO.cell g2 hbn).trans g3, PB.mk (p1.only hO hbn) hN (NT.only hO p3 (fun k hk hh => hdisj k hk hh)) (p4.trans (hO.mono fun k hk => by simp [fp, hk]))⟩
      obtain ⟨wz, hz⟩ := hu
      rw [HCl.out] at hz
      (try simp only [List.nil_append, List.cons_append] at hz)
      (try dsimp only at hz)
      obtain ⟨-, -, -, nb0, uv0, rfl, -, -, -, -⟩ := hz
      clear wz
      simp only [Act.put, Nat.reduceAdd, List.setIfInBounds_toArray, List.set_cons_zero, List.set_cons_succ, List.nil_append, List.cons_append]
      (repeat (first | (refine Reg2.wS_skip (by (simp only [List.getElem?_toArray, List.getElem?_cons_succ, List.getElem?_cons_zero]) <;> rfl) (by rfl) ?_; simp only [Act.put, Nat.reduceAdd, List.setIfInBounds_toArray, List.set_cons_zero, List.set_cons_succ, List.nil_append, List.cons_append]) | (refine Reg2.wS_open (by (simp only [List.getElem?_toArray, List.getElem?_cons_succ, List.getElem?_cons_zero]) <;> rfl) (by rfl) (by rfl) ?_; apply Exists.intro; refine ⟨fun vs wq hw => ?_, ?_⟩; (focus (rw [HCl.out] at hw; (try simp only [List.nil_append, List.cons_append] at hw); (try dsimp only at hw); go_split_ands; go_simp <;> first | with_reducible exact (rfl : Value.bool false = _) | with_reducible exact (rfl : Value.bool true = _) | ((try go_bits) <;> exact rfl))); simp only [Act.put, Nat.reduceAdd, List.setIfInBounds_toArray, List.set_cons_zero, List.set_cons_succ, List.nil_append, List.cons_append])))
      -- the store
      refine Reg2.wS_eff (by (simp only [List.getElem?_toArray, List.getElem?_cons_succ, List.getElem?_cons_zero]) <;> rfl) (by rfl) (by rfl) (fun wq hw => ?_) (fun u hu => ?_)
      focus
        rw [HCl.out] at hw; (try simp only [List.nil_append, List.cons_append] at hw); (try dsimp only at hw)
        obtain ⟨⟨i0, i1, i2, i3, i4⟩, g1, g2, nb, uv, hvv, huv, hnb, g3, g4⟩ := hw
        obtain ⟨p1, p2, p3, p4⟩ := PB.out g4
        cases hvv
        go_simp
        rw [HCl.out]; (try simp only [List.nil_append, List.cons_append]); (try dsimp only)
        have hne : ¬ w.heap.size = b := by omega
        have hfb : b ∉ fp (putT nb x r) := fun h => by
          have := (hmemr nb b hnb).1 h
          rcases this with h | h
          · omega
          · exact hbrn h
        refine ⟨⟨by simp [go_sem, *], by simp [go_sem, *], by simp [go_sem, *], by simp [go_sem, *], by simpa [go_sem] using i4⟩, by simpa [go_sem] using g1, by simpa [go_sem] using g2, nb, _, huv, hnb, PB.mk (huv ▸ p1.setR _) (p2.set hfb) (p3.set hbln) (p4.setCell (p := ⟨b, 5, none⟩) (.inl (by simp [fp])) _)⟩
      clear hu
      simp only [Act.put, Nat.reduceAdd, List.setIfInBounds_toArray, List.set_cons_zero, List.set_cons_succ, List.nil_append, List.cons_append]
      refine Reg2.wS_nil ?_; intro w' hw; rw [HCl.out] at hw; (try simp only [List.nil_append, List.cons_append] at hw); (try dsimp only at hw); clear HCl
      obtain ⟨-, -, -, nb, uv, huv, hnb, g4⟩ := hw
      obtain ⟨p1, p2, p3, p4⟩ := PB.out g4
      clear g4
      go_wp2_with fail
      have hpa := putT_all nb x r hbr hsr (fun h => by have := NT.lt hr _ h; omega)
      have kb := blc_c b y l (putT nb x r) H M _ (HU2.out ▸ p1) p3 p2 (by
        have hp := hpa.2.2.2.1
        have hs := hnd0
        have h9 : nb ∉ fp (.node b y l r) := fun h => by have := NT.lt hT _ h; omega
        refine (List.Perm.nodup_iff (List.Perm.cons b ((hp).append_left _))).2 ?_
        simp only [fp, List.nodup_cons, List.mem_cons, List.mem_append, not_or, List.nodup_append, List.cons_append] at hs h9 ⊢
        grind) (by omega) (by omega)
      with_reducible refine kb.mono ?_
      rintro _ w9 ⟨rfl, hN9, hO9⟩
      go_wp2
      go_ret
      have eT : putT nb x (.node b y l r) = blc b y l (putT nb x r) := by
        show (if kl x y then _ else _) = _
        rw [hkl]
        rfl
      refine ⟨nb, hnb, by rw [eT]; rfl, by rw [eT]; exact hN9, only_new p4 hO9 fun k hk => ?_⟩
      rcases hk with rfl | hk | hk
      · exact .inl (by simp [fp])
      · exact .inl (by simp [fp, hk])
      · rcases (hmemr nb k hnb).1 hk with h | h
        · exact .inr (by omega)
        · exact .inl (by simp [fp, h])
end Go.Proofs.Ytikmdkmejbcmmaa
