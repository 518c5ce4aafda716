import Derived.Test.YtpjanaljmnfccaaPq6
namespace Go.Proofs.Ytpjanaljmnfccaa
set_option linter.unusedVariables false
set_option linter.unusedSimpArgs false
set_option maxRecDepth 100000
open Go.RowKit Fg Reg
attribute [local irreducible] Reg.wE

/-- The queue, and a row of packets that the law gathers. -/
structure OQ (w z : World) (B q n f m : Nat) (xs : Nat → Pk) (c0 c1 c2 c3 c4 c5 mo bs : Int) (v : Value) (m1 : Nat) (g : Nat → Pk) : Prop where
  tq : TQ w z q 0 n f m xs c0 c1 c2 c3 c4 c5 mo bs
  own : z.ownsRow B 50 6 v m1 (pcs g m1)
  hB : q < B
  big : B ≤ z.heap.size
theorem OQ.below {w z z' : World} {B q n f m m1 : Nat} {xs g : Nat → Pk} {v : Value} {c0 c1 c2 c3 c4 c5 mo bs : Int} (h : OQ w z B q n f m xs c0 c1 c2 c3 c4 c5 mo bs v m1 g) (hb : Below z.heap.size z z') : OQ w z' B q n f m xs c0 c1 c2 c3 c4 c5 mo bs v m1 g :=
  ⟨h.tq.below hb, own_bel h.own hb, h.hB, Nat.le_trans h.big hb.size⟩
theorem OQ.alloc {w z : World} {B q n f m m1 : Nat} {xs g : Nat → Pk} {v : Value} {c0 c1 c2 c3 c4 c5 mo bs : Int} (h : OQ w z B q n f m xs c0 c1 c2 c3 c4 c5 mo bs v m1 g) (o : Obj) : OQ w (z.alloc o) B q n f m xs c0 c1 c2 c3 c4 c5 mo bs v m1 g :=
  h.below (Below.alloc (Below.refl _ _) (Nat.le_refl _) o)
theorem OQ.set {w z z' : World} {B q n f m m1 f' m' : Nat} {xs xs' g : Nat → Pk} {v : Value} {c0 c1 c2 c3 c4 c5 mo bs : Int} {d0 d1 d2 d3 d4 d5 mo' bs' : Int} (h : OQ w z B q n f m xs c0 c1 c2 c3 c4 c5 mo bs v m1 g)
    (hP : PQ z' q (w.heap.size + 1) w.heap.size n f' m' xs' d0 d1 d2 d3 d4 d5 mo' bs') (ho : Only (fun k => k = w.heap.size + 1 ∨ k = w.heap.size ∨ k = q) z z') : OQ w z' B q n f' m' xs' d0 d1 d2 d3 d4 d5 mo' bs' v m1 g := by
  have hq := h.tq.hq
  have hB := h.hB
  exact ⟨h.tq.only hP ho, own_only h.own ho (fun k hk => by omega), hB, Nat.le_trans h.big ho.size⟩
theorem OQ.lt {w z : World} {B q n f m m1 : Nat} {xs g : Nat → Pk} {v : Value} {c0 c1 c2 c3 c4 c5 mo bs : Int} {z' : World} (h : OQ w z B q n f m xs c0 c1 c2 c3 c4 c5 mo bs v m1 g) (ho : Only (fun k => k = w.heap.size + 1 ∨ k = w.heap.size ∨ k = q) z z') : Only (fun k => k < B) z z' := by
  have hq := h.tq.hq
  have hB := h.hB
  exact ho.mono (fun k hk => by omega)
theorem opush {w z : World} {B q n f m m1 : Nat} {xs g : Nat → Pk} {v : Value} {c0 c1 c2 c3 c4 c5 mo bs : Int} (pi pn pa pb pc pd : Int) (h : OQ w z B q n f m xs c0 c1 c2 c3 c4 c5 mo bs v m1 g) (hl1 : 1 ≤ pn) (hl2 : pn ≤ 16384) (hb : 0 ≤ c0 ∧ c0 ≤ 1000000 ∧ 0 ≤ c1 ∧ c1 ≤ 1000000 ∧ 0 ≤ c2 ∧ c2 ≤ 1000000 ∧ 0 ≤ c3 ∧ c3 ≤ 1099511627776 ∧ 0 ≤ c4 ∧ c4 ≤ 1099511627776 ∧ 0 ≤ c5 ∧ c5 ≤ 1099511627776 ∧ 0 ≤ bs ∧ bs ≤ mo ∧ mo ≤ 1048576) (hr : ¬ mo - bs < pn) (hmn : m < n) :
    Calls Try.prog 24 #[.pointer (some ⟨q, 0, none⟩), .agg #[.int .u64 (pi), .int .i64 (pn), .int .u16 (pa), .int .u16 (pb), .int .u16 (pc), .int .u16 (pd)]] z fun e z' => e = .returned (.int .i64 0) ∧ OQ w z' B q n f (m + 1) (updp xs (ato f m n) ⟨pi, pn, pa, pb, pc, pd⟩) (c0 + 1) c1 c2 (c3 + pn) c4 c5 mo (bs + pn) v m1 g ∧ Only (fun k => k < B) z z' :=
  (qpush_ok q _ _ n f m pi pn pa pb pc pd xs _ _ _ _ _ _ _ _ z h.tq.pq hl1 hl2 hb hr hmn).mono fun _ _ ⟨he, hP, ho⟩ => ⟨he, h.set hP ho, h.lt ho⟩
theorem olong {w z : World} {B q n f m m1 : Nat} {xs g : Nat → Pk} {v : Value} {c0 c1 c2 c3 c4 c5 mo bs : Int} (pi pn pa pb pc pd : Int) (h : OQ w z B q n f m xs c0 c1 c2 c3 c4 c5 mo bs v m1 g) (hl1 : 1 ≤ pn) (hl2 : pn ≤ 16384) (hb : 0 ≤ c0 ∧ c0 ≤ 1000000 ∧ 0 ≤ c1 ∧ c1 ≤ 1000000 ∧ 0 ≤ c2 ∧ c2 ≤ 1000000 ∧ 0 ≤ c3 ∧ c3 ≤ 1099511627776 ∧ 0 ≤ c4 ∧ c4 ≤ 1099511627776 ∧ 0 ≤ c5 ∧ c5 ≤ 1099511627776 ∧ 0 ≤ bs ∧ bs ≤ mo ∧ mo ≤ 1048576) (hr : mo - bs < pn) :
    Calls Try.prog 24 #[.pointer (some ⟨q, 0, none⟩), .agg #[.int .u64 (pi), .int .i64 (pn), .int .u16 (pa), .int .u16 (pb), .int .u16 (pc), .int .u16 (pd)]] z fun e z' => e = .returned (.int .i64 30) ∧ OQ w z' B q n f m xs c0 c1 (c2 + 1) c3 c4 (c5 + pn) mo bs v m1 g ∧ Only (fun k => k < B) z z' :=
  (qpush_long q _ _ n f m pi pn pa pb pc pd xs _ _ _ _ _ _ _ _ z h.tq.pq hl1 hl2 hb hr).mono fun _ _ ⟨he, hP, ho⟩ => ⟨he, h.set hP ho, h.lt ho⟩
theorem ofull {w z : World} {B q n f m1 : Nat} {xs g : Nat → Pk} {v : Value} {c0 c1 c2 c3 c4 c5 mo bs : Int} (pi pn pa pb pc pd : Int) (h : OQ w z B q n f n xs c0 c1 c2 c3 c4 c5 mo bs v m1 g) (hl1 : 1 ≤ pn) (hl2 : pn ≤ 16384) (hb : 0 ≤ c0 ∧ c0 ≤ 1000000 ∧ 0 ≤ c1 ∧ c1 ≤ 1000000 ∧ 0 ≤ c2 ∧ c2 ≤ 1000000 ∧ 0 ≤ c3 ∧ c3 ≤ 1099511627776 ∧ 0 ≤ c4 ∧ c4 ≤ 1099511627776 ∧ 0 ≤ c5 ∧ c5 ≤ 1099511627776 ∧ 0 ≤ bs ∧ bs ≤ mo ∧ mo ≤ 1048576) (hr : ¬ mo - bs < pn) :
    Calls Try.prog 24 #[.pointer (some ⟨q, 0, none⟩), .agg #[.int .u64 (pi), .int .i64 (pn), .int .u16 (pa), .int .u16 (pb), .int .u16 (pc), .int .u16 (pd)]] z fun e z' => e = .returned (.int .i64 30) ∧ OQ w z' B q n f n xs c0 c1 (c2 + 1) c3 c4 (c5 + pn) mo bs v m1 g ∧ Only (fun k => k < B) z z' :=
  (qpush_full q _ _ n f pi pn pa pb pc pd xs _ _ _ _ _ _ _ _ z h.tq.pq hl1 hl2 hb hr).mono fun _ _ ⟨he, hP, ho⟩ => ⟨he, h.set hP ho, h.lt ho⟩
theorem obad {w z : World} {B q n f m m1 : Nat} {xs g : Nat → Pk} {v : Value} {c0 c1 c2 c3 c4 c5 mo bs : Int} (pi pn pa pb pc pd : Int) (h : OQ w z B q n f m xs c0 c1 c2 c3 c4 c5 mo bs v m1 g) (hl : pn < 1 ∨ (1 ≤ pn ∧ 16384 < pn)) :
    Calls Try.prog 24 #[.pointer (some ⟨q, 0, none⟩), .agg #[.int .u64 (pi), .int .i64 (pn), .int .u16 (pa), .int .u16 (pb), .int .u16 (pc), .int .u16 (pd)]] z fun e z' => e = .returned (.int .i64 26) ∧ OQ w z' B q n f m xs c0 c1 c2 c3 c4 c5 mo bs v m1 g :=
  (qpush_bad q _ _ n f m pi pn pa pb pc pd xs _ _ _ _ _ _ _ _ z h.tq.pq hl).mono fun _ _ ⟨he, hb⟩ => ⟨he, h.below hb⟩
theorem opop {w z : World} {B q n f m m1 : Nat} {xs g : Nat → Pk} {v : Value} {c0 c1 c2 c3 c4 c5 mo bs : Int} (pi pn pa pb pc pd : Int) (h : OQ w z B q n f m xs c0 c1 c2 c3 c4 c5 mo bs v m1 g) (hl1 : 1 ≤ pn) (hl2 : pn ≤ 16384) (hb : 0 ≤ c0 ∧ c0 ≤ 1000000 ∧ 0 ≤ c1 ∧ c1 ≤ 1000000 ∧ 0 ≤ c2 ∧ c2 ≤ 1000000 ∧ 0 ≤ c3 ∧ c3 ≤ 1099511627776 ∧ 0 ≤ c4 ∧ c4 ≤ 1099511627776 ∧ 0 ≤ c5 ∧ c5 ≤ 1099511627776 ∧ 0 ≤ bs ∧ bs ≤ mo ∧ mo ≤ 1048576) (hbs : pn ≤ bs) (hm : 0 < m) (hp : xs f = ⟨pi, pn, pa, pb, pc, pd⟩) :
    Calls Try.prog 23 #[.pointer (some ⟨q, 0, none⟩)] z fun e z' => e = .returned (.tuple #[.agg #[.int .u64 (pi), .int .i64 (pn), .int .u16 (pa), .int .u16 (pb), .int .u16 (pc), .int .u16 (pd)], .int .i64 0]) ∧ OQ w z' B q n (ato f 1 n) (m - 1) (updp xs f pz) c0 (c1 + 1) c2 c3 (c4 + pn) c5 mo (bs - pn) v m1 g ∧ Only (fun k => k < B) z z' :=
  (qpop_ok q _ _ n f m pi pn pa pb pc pd xs _ _ _ _ _ _ _ _ z h.tq.pq hl1 hl2 hb hbs hm hp).mono fun _ _ ⟨he, hP, ho⟩ => ⟨he, h.set hP ho, h.lt ho⟩
/-- One more in the row. -/
theorem OQ.app {w z z' : World} {B q n f m m1 : Nat} {xs g : Nat → Pk} {v v' : Value} {c0 c1 c2 c3 c4 c5 mo bs : Int} {p : Pk} (h : OQ w z B q n f m xs c0 c1 c2 c3 c4 c5 mo bs v m1 g) (h2 : z'.ownsRow B 50 6 v' (m1 + 1) (pcs g m1 ++ [Value.int .u64 (p).i, Value.int .i64 (p).n, Value.int .u16 (p).a, Value.int .u16 (p).b, Value.int .u16 (p).c, Value.int .u16 (p).d])) (h3 : z.grownBy z' v.ownBlock) : OQ w z' B q n f m xs c0 c1 c2 c3 c4 c5 mo bs v' (m1 + 1) (updp g m1 p) := by
  have hr : ∀ k, v.ownBlock = some k → B ≤ k := by
    intro k hk
    rcases h.own.2 with ⟨rfl, _⟩ | ⟨b, cap, cur, rfl, hb, _⟩
    · simp [Value.ownBlock] at hk
    · simp [Value.ownBlock] at hk; omega
  refine ⟨h.tq.above (only_of_grown h3 hr) h.hB, ?_, h.hB, Nat.le_trans h.big h3.size⟩
  have e : pcs (updp g m1 p) (m1 + 1) = pcs g m1 ++ [Value.int .u64 (p).i, Value.int .i64 (p).n, Value.int .u16 (p).a, Value.int .u16 (p).b, Value.int .u16 (p).c, Value.int .u16 (p).d] := by
    rw [pcs, pcs_congr (g' := g) m1 (fun j hj => by unfold updp; rw [if_neg (by omega)])]
    unfold updp
    rw [if_pos rfl]
  rw [e]; exact h2

theorem po_out (t b : Int) (ao : Option Addr) (len c : Nat) (h : decide (100 < (len : Int)) = true ∨ (decide (100 < (len : Int)) = false ∧ t < 1) ∨ (decide (100 < (len : Int)) = false ∧ 1 ≤ t ∧ 64 < t) ∨ (decide (100 < (len : Int)) = false ∧ 1 ≤ t ∧ t ≤ 64 ∧ b < 1) ∨ (decide (100 < (len : Int)) = false ∧ 1 ≤ t ∧ t ≤ 64 ∧ 1 ≤ b ∧ 1048576 < b)) (w : World) : Calls Try.prog 8 #[.int .i64 t, .int .i64 b, .slice ao len c] w fun e w' => e = .returned (.bool true) ∧ Below w.heap.size w w' := by
  have K1 := Lib.hid hundred_c
  rcases h with h | ⟨h1, h⟩ | ⟨h1, h2, h⟩ | ⟨h1, h2, h3, h⟩ | ⟨h1, h2, h3, h4, h⟩
  all_goals
    go_enter Try.func8, Try.ntmps8
    go_wp2_with (go_at_call 30; ((with_reducible refine (K1.out _).mono ?_); rintro e w1 ⟨rfl, hbel⟩; obtain ⟨hcc, hff⟩ := bcell hbel; have hsz := hbel.size; (try simp at hsz); have hF : Below w.heap.size w w1 := (by ((repeat' apply And.intro) <;> first | (simp [go_sem, *]; done) | omega | (repeat' (first | (with_reducible refine RP.drew ?_) | (focus (with_reducible refine RP.alloc ?_ _)) | (focus (with_reducible refine RP.other ?_ (by with_reducible assumption) (by with_reducible assumption) _ _ _)) | (focus (with_reducible refine RP.other ?_ (by omega) (by omega) _ _ _)) | (with_reducible refine RP.below ?_ (by with_reducible assumption)) | (with_reducible refine Only.setQ ?_ _ _ _) | ((with_reducible refine Only.trans ?_ (by with_reducible assumption))) | with_reducible exact Below.refl _ _ | with_reducible assumption | ((with_reducible refine Below.drew ?_)) | ((with_reducible refine below_drewN ?_ _)) | ((with_reducible refine Below.alloc ?_ ?_ _); rotate_left; focus (first | omega | (simp; done) | (simp; omega))) | ((with_reducible refine Below.setCell ?_ ?_ _); rotate_left; focus (first | omega | (simp; done) | (simp; omega))) | ((with_reducible refine Below.trans ?_ (Below.mono (by with_reducible assumption) ?_)); rotate_left; focus (first | omega | (simp; done) | (simp; omega))) | with_reducible exact Only.refl _ _ | (with_reducible refine Only.drew ?_) | (with_reducible refine Only.setL ?_ _ _ _) | (with_reducible refine Only.setR ?_ _ _ _) | (with_reducible refine Only.alloc ?_ _) | (with_reducible refine EL.drew ?_) | (focus (with_reducible refine EL.other ?_ (by omega) _ _ _)) | ((with_reducible refine Only.setCell ?_ (Or.inr ?_) _); rotate_left; focus (first | omega | (simp; done) | (simp; omega))) | (focus (with_reducible refine EL.alloc ?_ (by (first | omega | (simp; omega))) _)) | (with_reducible refine EL.other ?_ (by with_reducible assumption) _ _ _) | (with_reducible refine EL.set ?_ (by with_reducible assumption) (by with_reducible assumption) _) | (focus (with_reducible refine EL.set ?_ (by omega) (by with_reducible assumption) _)) | ((with_reducible refine EL.below ?_ (by with_reducible assumption) ?_); rotate_left; focus (first | omega | (simp; omega))) | ((with_reducible refine Only.trans ?_ (Only.of_below (by with_reducible assumption)))) )))); go_split_ands; clear hcc hff hbel))
    (go_ret; refine ⟨?_, ?_⟩; (focus (exact rfl)); ((repeat' (first | (with_reducible refine RP.drew ?_) | (focus (with_reducible refine RP.alloc ?_ _)) | (focus (with_reducible refine RP.other ?_ (by with_reducible assumption) (by with_reducible assumption) _ _ _)) | (focus (with_reducible refine RP.other ?_ (by omega) (by omega) _ _ _)) | (with_reducible refine RP.below ?_ (by with_reducible assumption)) | (with_reducible refine Only.setQ ?_ _ _ _) | ((with_reducible refine Only.trans ?_ (by with_reducible assumption))) | with_reducible exact Below.refl _ _ | with_reducible assumption | ((with_reducible refine Below.drew ?_)) | ((with_reducible refine below_drewN ?_ _)) | ((with_reducible refine Below.alloc ?_ ?_ _); rotate_left; focus (first | omega | (simp; done) | (simp; omega))) | ((with_reducible refine Below.setCell ?_ ?_ _); rotate_left; focus (first | omega | (simp; done) | (simp; omega))) | ((with_reducible refine Below.trans ?_ (Below.mono (by with_reducible assumption) ?_)); rotate_left; focus (first | omega | (simp; done) | (simp; omega))) | with_reducible exact Only.refl _ _ | (with_reducible refine Only.drew ?_) | (with_reducible refine Only.setL ?_ _ _ _) | (with_reducible refine Only.setR ?_ _ _ _) | (with_reducible refine Only.alloc ?_ _) | (with_reducible refine EL.drew ?_) | (focus (with_reducible refine EL.other ?_ (by omega) _ _ _)) | ((with_reducible refine Only.setCell ?_ (Or.inr ?_) _); rotate_left; focus (first | omega | (simp; done) | (simp; omega))) | (focus (with_reducible refine EL.alloc ?_ (by (first | omega | (simp; omega))) _)) | (with_reducible refine EL.other ?_ (by with_reducible assumption) _ _ _) | (with_reducible refine EL.set ?_ (by with_reducible assumption) (by with_reducible assumption) _) | (focus (with_reducible refine EL.set ?_ (by omega) (by with_reducible assumption) _)) | ((with_reducible refine EL.below ?_ (by with_reducible assumption) ?_); rotate_left; focus (first | omega | (simp; omega))) | ((with_reducible refine Only.trans ?_ (Only.of_below (by with_reducible assumption)))) )); done))
end Go.Proofs.Ytpjanaljmnfccaa
