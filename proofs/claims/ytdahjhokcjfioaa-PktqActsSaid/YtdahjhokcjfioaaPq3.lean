import Derived.Test.YtdahjhokcjfioaaPq2
namespace Go.Proofs.Ytdahjhokcjfioaa
set_option linter.unusedVariables false
set_option linter.unusedSimpArgs false
set_option maxRecDepth 100000
open Go.RowKit Fg Reg
attribute [local irreducible] Reg.wE

/-- The queue of a law, and what lies below is as it was. -/
structure TQ (w z : World) (q s n f m : Nat) (xs : Nat → Pk) (c0 c1 c2 c3 c4 c5 mo bs : Int) : Prop where
  pq : PQ z q (w.heap.size + 1) w.heap.size n f m xs c0 c1 c2 c3 c4 c5 mo bs
  bel : Below w.heap.size w z
  hq : w.heap.size + 1 < q
theorem PQ.size {z : World} {q x s n f m : Nat} {xs : Nat → Pk} {c0 c1 c2 c3 c4 c5 mo bs : Int} (h : PQ z q x s n f m xs c0 c1 c2 c3 c4 c5 mo bs) : q < z.heap.size ∧ x < z.heap.size ∧ s < z.heap.size := ⟨h.1.2.2.2.2.2.2.2.2.2.2.2.2.2.2.2.2, h.2.1.size⟩
theorem TQ.below {w z z' : World} {q s n f m : Nat} {xs : Nat → Pk} {c0 c1 c2 c3 c4 c5 mo bs : Int} (h : TQ w z q s n f m xs c0 c1 c2 c3 c4 c5 mo bs) (hb : Below z.heap.size z z') : TQ w z' q s n f m xs c0 c1 c2 c3 c4 c5 mo bs :=
  ⟨h.pq.below hb, h.bel.trans (hb.mono (by have := h.bel.size; omega)), h.hq⟩
theorem TQ.alloc {w z : World} {q s n f m : Nat} {xs : Nat → Pk} {c0 c1 c2 c3 c4 c5 mo bs : Int} (h : TQ w z q s n f m xs c0 c1 c2 c3 c4 c5 mo bs) (o : Obj) : TQ w (z.alloc o) q s n f m xs c0 c1 c2 c3 c4 c5 mo bs :=
  h.below (Below.alloc (Below.refl _ _) (Nat.le_refl _) o)
theorem TQ.setC {w z : World} {q s n f m b : Nat} {xs : Nat → Pk} {c0 c1 c2 c3 c4 c5 mo bs : Int} (h : TQ w z q s n f m xs c0 c1 c2 c3 c4 c5 mo bs) (hb : q < b) (o : Nat) (t : Option Nat) (u : Value) : TQ w (z.setCell ⟨b, o, t⟩ u) q s n f m xs c0 c1 c2 c3 c4 c5 mo bs := by
  have hq := h.hq
  have ho := (Only.refl (fun k => k = b) z).setOne o t u
  exact ⟨h.pq.keep ho (by omega) (by omega) (by omega), ho.below h.bel h.bel.size (fun k hk => by omega), hq⟩
theorem TQ.drew {w z : World} {q s n f m : Nat} {xs : Nat → Pk} {c0 c1 c2 c3 c4 c5 mo bs : Int} (h : TQ w z q s n f m xs c0 c1 c2 c3 c4 c5 mo bs) : TQ w z.drew q s n f m xs c0 c1 c2 c3 c4 c5 mo bs := h.below (Below.drew (Below.refl _ _))
theorem TQ.only {w z z' : World} {q s n f m f' m' : Nat} {xs xs' : Nat → Pk} {c0 c1 c2 c3 c4 c5 mo bs d0 d1 d2 d3 d4 d5 mo' bs' : Int} (h : TQ w z q s n f m xs c0 c1 c2 c3 c4 c5 mo bs)
    (hP : PQ z' q (w.heap.size + 1) w.heap.size n f' m' xs' d0 d1 d2 d3 d4 d5 mo' bs') (ho : Only (fun k => k = w.heap.size + 1 ∨ k = w.heap.size ∨ k = q) z z') : TQ w z' q s n f' m' xs' d0 d1 d2 d3 d4 d5 mo' bs' := by
  have hq := h.hq
  exact ⟨hP, ho.below h.bel h.bel.size (fun k hk => by omega), hq⟩
theorem tpush {w z : World} {q s n f m : Nat} (pi pn pa pb pc pd : Int) {xs : Nat → Pk} {c0 c1 c2 c3 c4 c5 mo bs : Int} (h : TQ w z q s n f m xs c0 c1 c2 c3 c4 c5 mo bs) (hl1 : 1 ≤ pn) (hl2 : pn ≤ 16384) (hb : 0 ≤ c0 ∧ c0 ≤ 1000000 ∧ 0 ≤ c1 ∧ c1 ≤ 1000000 ∧ 0 ≤ c2 ∧ c2 ≤ 1000000 ∧ 0 ≤ c3 ∧ c3 ≤ 1099511627776 ∧ 0 ≤ c4 ∧ c4 ≤ 1099511627776 ∧ 0 ≤ c5 ∧ c5 ≤ 1099511627776 ∧ 0 ≤ bs ∧ bs ≤ mo ∧ mo ≤ 1048576) (hr : ¬ mo - bs < pn) (hmn : m < n) :
    Calls Try.prog 18 #[.pointer (some ⟨q, 0, none⟩), .agg #[.int .u64 (pi), .int .i64 (pn), .int .u16 (pa), .int .u16 (pb), .int .u16 (pc), .int .u16 (pd)]] z fun e z' => e = .returned (.int .i64 0) ∧ TQ w z' q s n f (m + 1) (updp xs (ato f m n) ⟨pi, pn, pa, pb, pc, pd⟩) (c0 + 1) c1 c2 (c3 + pn) c4 c5 mo (bs + pn) :=
  (qpush_ok q _ _ n f m pi pn pa pb pc pd xs _ _ _ _ _ _ _ _ z h.pq hl1 hl2 hb hr hmn).mono fun _ _ ⟨he, hP, ho⟩ => ⟨he, h.only hP ho⟩
theorem tlong {w z : World} {q s n f m : Nat} (pi pn pa pb pc pd : Int) {xs : Nat → Pk} {c0 c1 c2 c3 c4 c5 mo bs : Int} (h : TQ w z q s n f m xs c0 c1 c2 c3 c4 c5 mo bs) (hl1 : 1 ≤ pn) (hl2 : pn ≤ 16384) (hb : 0 ≤ c0 ∧ c0 ≤ 1000000 ∧ 0 ≤ c1 ∧ c1 ≤ 1000000 ∧ 0 ≤ c2 ∧ c2 ≤ 1000000 ∧ 0 ≤ c3 ∧ c3 ≤ 1099511627776 ∧ 0 ≤ c4 ∧ c4 ≤ 1099511627776 ∧ 0 ≤ c5 ∧ c5 ≤ 1099511627776 ∧ 0 ≤ bs ∧ bs ≤ mo ∧ mo ≤ 1048576) (hr : mo - bs < pn) :
    Calls Try.prog 18 #[.pointer (some ⟨q, 0, none⟩), .agg #[.int .u64 (pi), .int .i64 (pn), .int .u16 (pa), .int .u16 (pb), .int .u16 (pc), .int .u16 (pd)]] z fun e z' => e = .returned (.int .i64 30) ∧ TQ w z' q s n f m xs c0 c1 (c2 + 1) c3 c4 (c5 + pn) mo bs :=
  (qpush_long q _ _ n f m pi pn pa pb pc pd xs _ _ _ _ _ _ _ _ z h.pq hl1 hl2 hb hr).mono fun _ _ ⟨he, hP, ho⟩ => ⟨he, h.only hP ho⟩
theorem tfull {w z : World} {q s n f : Nat} (pi pn pa pb pc pd : Int) {xs : Nat → Pk} {c0 c1 c2 c3 c4 c5 mo bs : Int} (h : TQ w z q s n f n xs c0 c1 c2 c3 c4 c5 mo bs) (hl1 : 1 ≤ pn) (hl2 : pn ≤ 16384) (hb : 0 ≤ c0 ∧ c0 ≤ 1000000 ∧ 0 ≤ c1 ∧ c1 ≤ 1000000 ∧ 0 ≤ c2 ∧ c2 ≤ 1000000 ∧ 0 ≤ c3 ∧ c3 ≤ 1099511627776 ∧ 0 ≤ c4 ∧ c4 ≤ 1099511627776 ∧ 0 ≤ c5 ∧ c5 ≤ 1099511627776 ∧ 0 ≤ bs ∧ bs ≤ mo ∧ mo ≤ 1048576) (hr : ¬ mo - bs < pn) :
    Calls Try.prog 18 #[.pointer (some ⟨q, 0, none⟩), .agg #[.int .u64 (pi), .int .i64 (pn), .int .u16 (pa), .int .u16 (pb), .int .u16 (pc), .int .u16 (pd)]] z fun e z' => e = .returned (.int .i64 30) ∧ TQ w z' q s n f n xs c0 c1 (c2 + 1) c3 c4 (c5 + pn) mo bs :=
  (qpush_full q _ _ n f pi pn pa pb pc pd xs _ _ _ _ _ _ _ _ z h.pq hl1 hl2 hb hr).mono fun _ _ ⟨he, hP, ho⟩ => ⟨he, h.only hP ho⟩
theorem tbad {w z : World} {q s n f m : Nat} (pi pn pa pb pc pd : Int) {xs : Nat → Pk} {c0 c1 c2 c3 c4 c5 mo bs : Int} (h : TQ w z q s n f m xs c0 c1 c2 c3 c4 c5 mo bs) (hl : pn < 1 ∨ (1 ≤ pn ∧ 16384 < pn)) :
    Calls Try.prog 18 #[.pointer (some ⟨q, 0, none⟩), .agg #[.int .u64 (pi), .int .i64 (pn), .int .u16 (pa), .int .u16 (pb), .int .u16 (pc), .int .u16 (pd)]] z fun e z' => e = .returned (.int .i64 26) ∧ TQ w z' q s n f m xs c0 c1 c2 c3 c4 c5 mo bs :=
  (qpush_bad q _ _ n f m pi pn pa pb pc pd xs _ _ _ _ _ _ _ _ z h.pq hl).mono fun _ _ ⟨he, hb⟩ => ⟨he, h.below hb⟩
theorem tpop {w z : World} {q s n f m : Nat} (pi pn pa pb pc pd : Int) {xs : Nat → Pk} {c0 c1 c2 c3 c4 c5 mo bs : Int} (h : TQ w z q s n f m xs c0 c1 c2 c3 c4 c5 mo bs) (hl1 : 1 ≤ pn) (hl2 : pn ≤ 16384) (hb : 0 ≤ c0 ∧ c0 ≤ 1000000 ∧ 0 ≤ c1 ∧ c1 ≤ 1000000 ∧ 0 ≤ c2 ∧ c2 ≤ 1000000 ∧ 0 ≤ c3 ∧ c3 ≤ 1099511627776 ∧ 0 ≤ c4 ∧ c4 ≤ 1099511627776 ∧ 0 ≤ c5 ∧ c5 ≤ 1099511627776 ∧ 0 ≤ bs ∧ bs ≤ mo ∧ mo ≤ 1048576) (hbs : pn ≤ bs) (hm : 0 < m) (hp : xs f = ⟨pi, pn, pa, pb, pc, pd⟩) :
    Calls Try.prog 19 #[.pointer (some ⟨q, 0, none⟩)] z fun e z' => e = .returned (.tuple #[.agg #[.int .u64 (pi), .int .i64 (pn), .int .u16 (pa), .int .u16 (pb), .int .u16 (pc), .int .u16 (pd)], .int .i64 0]) ∧ TQ w z' q s n (ato f 1 n) (m - 1) (updp xs f pz) c0 (c1 + 1) c2 c3 (c4 + pn) c5 mo (bs - pn) :=
  (qpop_ok q _ _ n f m pi pn pa pb pc pd xs _ _ _ _ _ _ _ _ z h.pq hl1 hl2 hb hbs hm hp).mono fun _ _ ⟨he, hP, ho⟩ => ⟨he, h.only hP ho⟩
theorem tnone {w z : World} {q s n f : Nat} {xs : Nat → Pk} {c0 c1 c2 c3 c4 c5 mo bs : Int} (h : TQ w z q s n f 0 xs c0 c1 c2 c3 c4 c5 mo bs) :
    Calls Try.prog 19 #[.pointer (some ⟨q, 0, none⟩)] z fun e z' => e = .returned (.tuple #[.agg #[.int .u64 0, .int .i64 0, .int .u16 0, .int .u16 0, .int .u16 0, .int .u16 0], .int .i64 6]) ∧ TQ w z' q s n f 0 xs c0 c1 c2 c3 c4 c5 mo bs :=
  (qpop_none q _ _ n f xs _ _ _ _ _ _ _ _ z h.pq).mono fun _ _ ⟨he, hb⟩ => ⟨he, h.below hb⟩
theorem thead {w z : World} {q s n f m : Nat} (pi pn pa pb pc pd : Int) {xs : Nat → Pk} {c0 c1 c2 c3 c4 c5 mo bs : Int} (h : TQ w z q s n f m xs c0 c1 c2 c3 c4 c5 mo bs) (hm : 0 < m) (hp : xs f = ⟨pi, pn, pa, pb, pc, pd⟩) :
    Calls Try.prog 78 #[.pointer (some ⟨q, 0, none⟩)] z fun e z' => e = .returned (.int .i64 pn) ∧ TQ w z' q s n f m xs c0 c1 c2 c3 c4 c5 mo bs :=
  (qhead_c q _ _ n f m pi pn pa pb pc pd xs _ _ _ _ _ _ _ _ z h.pq hm hp).mono fun _ _ ⟨he, hb⟩ => ⟨he, h.below hb⟩
theorem tbyt {w z : World} {q s n f m : Nat} {xs : Nat → Pk} {c0 c1 c2 c3 c4 c5 mo bs : Int} (h : TQ w z q s n f m xs c0 c1 c2 c3 c4 c5 mo bs) :
    Calls Try.prog 24 #[.pointer (some ⟨q, 0, none⟩)] z fun e z' => e = .returned (.int .i64 bs) ∧ TQ w z' q s n f m xs c0 c1 c2 c3 c4 c5 mo bs :=
  (qbyt_c q _ _ n f m xs _ _ _ _ _ _ _ _ z h.pq).mono fun _ _ ⟨he, hb⟩ => ⟨he, h.below hb⟩
theorem tcnt {w z : World} {q s n f m : Nat} {xs : Nat → Pk} {c0 c1 c2 c3 c4 c5 mo bs : Int} (h : TQ w z q s n f m xs c0 c1 c2 c3 c4 c5 mo bs) :
    Calls Try.prog 21 #[.pointer (some ⟨q, 0, none⟩)] z fun e z' => e = .returned (.agg #[.int .u64 (c0), .int .u64 (c1), .int .u64 (c2), .int .u64 (c3), .int .u64 (c4), .int .u64 (c5)]) ∧ TQ w z' q s n f m xs c0 c1 c2 c3 c4 c5 mo bs :=
  (qcnt_c q _ _ n f m xs _ _ _ _ _ _ _ _ z h.pq).mono fun _ _ ⟨he, hb⟩ => ⟨he, h.below hb⟩
theorem tlen {w z : World} {q s n f m : Nat} {xs : Nat → Pk} {c0 c1 c2 c3 c4 c5 mo bs : Int} (h : TQ w z q s n f m xs c0 c1 c2 c3 c4 c5 mo bs) :
    Calls Try.prog 23 #[.pointer (some ⟨q, 0, none⟩)] z fun e z' => e = .returned (.int .i64 m) ∧ TQ w z' q s n f m xs c0 c1 c2 c3 c4 c5 mo bs :=
  (qlen_c q _ _ n f m xs _ _ _ _ _ _ _ _ z h.pq).mono fun _ _ ⟨he, hb⟩ => ⟨he, h.below hb⟩
theorem tnew (n : Nat) (b : Int) (s : Nat) (h1 : 1 ≤ n) (h2 : n ≤ 64) (hb1 : 1 ≤ b) (hb2 : b ≤ 1048576) (w : World) : Calls Try.prog 16 #[.int .i64 n, .int .i64 b] w fun e w' => ∃ q, e = .returned (.tuple #[.pointer (some ⟨q, 0, none⟩), .int .i64 0]) ∧ TQ w w' q s n 0 0 (fun _ => pz) 0 0 0 0 0 0 b 0 :=
  (qnew_ok n b h1 h2 hb1 hb2 w).mono fun _ _ ⟨q, he, hP, hb, hq⟩ => ⟨q, he, hP, hb, hq⟩

/-- The rings of the queue of a hundred bytes. -/
def hx1 : Nat → Pk := updp (fun _ => pz) 0 ⟨0, 60, 0, 0, 0, 0⟩
def hx2 : Nat → Pk := updp hx1 1 ⟨0, 40, 0, 0, 0, 0⟩
def hx3 : Nat → Pk := updp hx2 0 pz
set_option maxHeartbeats 4000000 in
theorem hundred_in (w : World)
    (k0 : ∀ w, Calls Try.prog 16 #[.int .i64 2, .int .i64 100] w fun e w' => ∃ q, e = .returned (.tuple #[.pointer (some ⟨q, 0, none⟩), .int .i64 0]) ∧ TQ w w' q 0 2 0 0 (fun _ => pz) 0 0 0 0 0 0 100 0)
    (k1 : ∀ z q, TQ w z q 0 2 0 0 (fun _ => pz) 0 0 0 0 0 0 100 0 → Calls Try.prog 18 #[.pointer (some ⟨q, 0, none⟩), .agg #[.int .u64 0, .int .i64 60, .int .u16 0, .int .u16 0, .int .u16 0, .int .u16 0]] z fun e z' => e = .returned (.int .i64 0) ∧ TQ w z' q 0 2 0 1 hx1 1 0 0 60 0 0 100 60)
    (k2 : ∀ z q, TQ w z q 0 2 0 1 hx1 1 0 0 60 0 0 100 60 → Calls Try.prog 18 #[.pointer (some ⟨q, 0, none⟩), .agg #[.int .u64 0, .int .i64 50, .int .u16 0, .int .u16 0, .int .u16 0, .int .u16 0]] z fun e z' => e = .returned (.int .i64 30) ∧ TQ w z' q 0 2 0 1 hx1 1 0 1 60 0 50 100 60)
    (k3 : ∀ z q, TQ w z q 0 2 0 1 hx1 1 0 1 60 0 50 100 60 → Calls Try.prog 18 #[.pointer (some ⟨q, 0, none⟩), .agg #[.int .u64 0, .int .i64 40, .int .u16 0, .int .u16 0, .int .u16 0, .int .u16 0]] z fun e z' => e = .returned (.int .i64 0) ∧ TQ w z' q 0 2 0 2 hx2 2 0 1 100 0 50 100 100)
    (k4 : ∀ z q, TQ w z q 0 2 0 2 hx2 2 0 1 100 0 50 100 100 → Calls Try.prog 18 #[.pointer (some ⟨q, 0, none⟩), .agg #[.int .u64 0, .int .i64 1, .int .u16 0, .int .u16 0, .int .u16 0, .int .u16 0]] z fun e z' => e = .returned (.int .i64 30) ∧ TQ w z' q 0 2 0 2 hx2 2 0 2 100 0 51 100 100)
    (k5 : ∀ z q, TQ w z q 0 2 0 2 hx2 2 0 2 100 0 51 100 100 → Calls Try.prog 19 #[.pointer (some ⟨q, 0, none⟩)] z fun e z' => e = .returned (.tuple #[.agg #[.int .u64 0, .int .i64 60, .int .u16 0, .int .u16 0, .int .u16 0, .int .u16 0], .int .i64 0]) ∧ TQ w z' q 0 2 1 1 hx3 2 1 2 100 60 51 100 40)
    (k6 : ∀ z q, TQ w z q 0 2 1 1 hx3 2 1 2 100 60 51 100 40 → Calls Try.prog 78 #[.pointer (some ⟨q, 0, none⟩)] z fun e z' => e = .returned (.int .i64 40) ∧ TQ w z' q 0 2 1 1 hx3 2 1 2 100 60 51 100 40)
    (k7 : ∀ z q, TQ w z q 0 2 1 1 hx3 2 1 2 100 60 51 100 40 → Calls Try.prog 24 #[.pointer (some ⟨q, 0, none⟩)] z fun e z' => e = .returned (.int .i64 40) ∧ TQ w z' q 0 2 1 1 hx3 2 1 2 100 60 51 100 40)
    (k8 : ∀ z q, TQ w z q 0 2 1 1 hx3 2 1 2 100 60 51 100 40 → Calls Try.prog 21 #[.pointer (some ⟨q, 0, none⟩)] z fun e z' => e = .returned (.agg #[.int .u64 (2), .int .u64 (1), .int .u64 (2), .int .u64 (100), .int .u64 (60), .int .u64 (51)]) ∧ TQ w z' q 0 2 1 1 hx3 2 1 2 100 60 51 100 40) : Calls Try.prog 15 #[] w fun ee w' => ee = .returned (.bool true) ∧ Below w.heap.size w w' := by
  have K0 := Lib.hid k0
  have K1 := Lib.hid k1
  have K2 := Lib.hid k2
  have K3 := Lib.hid k3
  have K4 := Lib.hid k4
  have K5 := Lib.hid k5
  have K6 := Lib.hid k6
  have K7 := Lib.hid k7
  have K8 := Lib.hid k8
  clear k0 k1 k2 k3 k4 k5 k6 k7 k8
  go_enter Try.func15, Try.ntmps15
  go_wp2_with (go_at_call 16; ((with_reducible refine (K0.out _).mono ?_); rintro e w1 ⟨q, rfl, hT⟩))
  go_wp2_with (first
    | (go_at_call 18; first
      | ((with_reducible refine (K1.out _ _ hT).mono ?_); clear hT; rintro e w1 ⟨rfl, hT⟩)
      | ((with_reducible refine (K2.out _ _ hT).mono ?_); clear hT; rintro e w2 ⟨rfl, hT⟩)
      | ((with_reducible refine (K3.out _ _ hT).mono ?_); clear hT; rintro e w3 ⟨rfl, hT⟩)
      | ((with_reducible refine (K4.out _ _ hT).mono ?_); clear hT; rintro e w4 ⟨rfl, hT⟩))
    | (go_at_call 19; ((with_reducible refine (K5.out _ _ hT).mono ?_); clear hT; rintro e w5 ⟨rfl, hT⟩; (have hs5 := hT.bel.size); (have hp5 := hT.pq.size)))
    | (go_at_call 78; ((with_reducible refine (K6.out _ _ (by with_reducible first | exact hT | exact TQ.alloc hT _)).mono ?_); clear hT; rintro e w6 ⟨rfl, hT⟩))
    | (go_at_call 24; ((with_reducible refine (K7.out _ _ hT).mono ?_); clear hT; rintro e w7 ⟨rfl, hT⟩))
    | (go_at_call 21; ((with_reducible refine (K8.out _ _ hT).mono ?_); clear hT; rintro e w8 ⟨rfl, hT⟩)))
  go_ret
  exact ⟨rfl, hT.bel⟩
theorem hundred_c (w : World) : Calls Try.prog 15 #[] w fun ee w' => ee = .returned (.bool true) ∧ Below w.heap.size w w' := by
  refine hundred_in w (fun w => tnew 2 100 0 (by omega) (by omega) (by omega) (by omega) w) (fun z q h => ?_) (fun z q h => ?_) (fun z q h => ?_) (fun z q h => ?_) (fun z q h => ?_) (fun z q h => ?_) (fun z q h => tbyt h) (fun z q h => tcnt h)
  · exact tpush 0 60 0 0 0 0 h (by omega) (by omega) (by omega) (by omega) (by omega)
  · exact tlong 0 50 0 0 0 0 h (by omega) (by omega) (by omega) (by omega)
  · exact tpush 0 40 0 0 0 0 h (by omega) (by omega) (by omega) (by omega) (by omega)
  · exact tlong 0 1 0 0 0 0 h (by omega) (by omega) (by omega) (by omega)
  · exact tpop 0 60 0 0 0 0 h (by omega) (by omega) (by omega) (by omega) (by omega) rfl
  · exact thead 0 40 0 0 0 0 h (by omega) rfl
end Go.Proofs.Ytdahjhokcjfioaa
