/- PktqActs: both queues, side by side. -/
import Derived.Test.YtdahjhokcjfioaaPa5
import Derived.Test.YtdahjhokcjfioaaPq6
namespace Go.Proofs.Ytdahjhokcjfioaa
set_option linter.unusedVariables false
set_option linter.unusedSimpArgs false
set_option maxRecDepth 100000
open Go.RowKit Fg Reg
attribute [local irreducible] Reg.wE

/-- The reference's queue in its variable, and its row. -/
structure WV (n : Nat) (b : Int) (z : World) (TT : Nat) (a : Option Addr) (c : Nat) (L : List Pk) (c0 c1 c2 c3 c4 c5 : Int) : Prop where
  row : RwV pkc 6 z a L
  blk : ∀ ad, a = some ad → TT < ad.block
  nil : a = none → c = 0
  cap : L.length ≤ c ∧ c ≤ maxLen
  var : z.cell? ⟨TT, 0, none⟩ = some (.int .i64 (n : Int)) ∧ z.cell? ⟨TT, 1, none⟩ = some (.int .i64 b) ∧ z.cell? ⟨TT, 2, none⟩ = some (.slice a L.length c) ∧ z.cell? ⟨TT, 3, none⟩ = some (.int .u64 (c0)) ∧ z.cell? ⟨TT, 4, none⟩ = some (.int .u64 (c1)) ∧ z.cell? ⟨TT, 5, none⟩ = some (.int .u64 (c2)) ∧ z.cell? ⟨TT, 6, none⟩ = some (.int .u64 (c3)) ∧ z.cell? ⟨TT, 7, none⟩ = some (.int .u64 (c4)) ∧ z.cell? ⟨TT, 8, none⟩ = some (.int .u64 (c5))
  frz : z.frozen? ⟨TT, 0, none⟩ = false ∧ z.frozen? ⟨TT, 1, none⟩ = false ∧ z.frozen? ⟨TT, 2, none⟩ = false ∧ z.frozen? ⟨TT, 3, none⟩ = false ∧ z.frozen? ⟨TT, 4, none⟩ = false ∧ z.frozen? ⟨TT, 5, none⟩ = false ∧ z.frozen? ⟨TT, 6, none⟩ = false ∧ z.frozen? ⟨TT, 7, none⟩ = false ∧ z.frozen? ⟨TT, 8, none⟩ = false
  lt : TT < z.heap.size
theorem WV.only {n : Nat} {b : Int} {z z' : World} {TT : Nat} {a : Option Addr} {c : Nat} {L : List Pk} {c0 c1 c2 c3 c4 c5 : Int} {S : Nat → Prop} (h : WV n b z TT a c L c0 c1 c2 c3 c4 c5) (ho : Only S z z') (hS2 : ∀ k, TT ≤ k → ¬ S k) : WV n b z' TT a c L c0 c1 c2 c3 c4 c5 := by
  have hlt := h.lt
  have hcc := fun o => ho.cell (o := o) hlt (hS2 TT (Nat.le_refl _))
  have hff := fun o => ho.frozen (o := o) hlt (hS2 TT (Nat.le_refl _))
  refine ⟨h.row.only ho (fun ad e => hS2 _ (Nat.le_of_lt (h.blk ad e))), h.blk, h.nil, h.cap, ?_, ?_, Nat.lt_of_lt_of_le hlt ho.size⟩
  · simp only [hcc]; exact h.var
  · simp only [hff]; exact h.frz
theorem WV.below {n : Nat} {b : Int} {z z' : World} {TT : Nat} {a : Option Addr} {c : Nat} {L : List Pk} {c0 c1 c2 c3 c4 c5 : Int} (h : WV n b z TT a c L c0 c1 c2 c3 c4 c5) (hb : Below z.heap.size z z') : WV n b z' TT a c L c0 c1 c2 c3 c4 c5 :=
  h.only (Only.of_below (S := fun _ => False) hb) (fun _ _ h => h)
theorem WV.alloc {n : Nat} {b : Int} {z : World} {TT : Nat} {a : Option Addr} {c : Nat} {L : List Pk} {c0 c1 c2 c3 c4 c5 : Int} (h : WV n b z TT a c L c0 c1 c2 c3 c4 c5) (o : Obj) : WV n b (z.alloc o) TT a c L c0 c1 c2 c3 c4 c5 :=
  h.below (Below.alloc (Below.refl _ _) (Nat.le_refl _) o)
/-- Both queues. -/
structure PA (w : World) (n : Nat) (b : Int) (z : World) (TT q : Nat) (f : Nat) (xs : Nat → Pk) (a : Option Addr) (c : Nat) (L : List Pk) (c0 c1 c2 c3 c4 c5 : Int) : Prop where
  tq : TQ w z q 0 n f L.length xs c0 c1 c2 c3 c4 c5 b (lsum L)
  wv : WV n b z TT a c L c0 c1 c2 c3 c4 c5
  hT : q < TT
  qp : QP xs f L.length n 0 (fun j => L.getD j pz)
  ok : ∀ p ∈ L, 1 ≤ p.n ∧ p.n ≤ 16384
  cs : c1 + L.length = c0 ∧ c4 + lsum L = c3
  le : lsum L ≤ b
theorem PA.below {w : World} {n : Nat} {b : Int} {z z' : World} {TT q f : Nat} {xs : Nat → Pk} {a : Option Addr} {c : Nat} {L : List Pk} {c0 c1 c2 c3 c4 c5 : Int} (h : PA w n b z TT q f xs a c L c0 c1 c2 c3 c4 c5) (hb : Below z.heap.size z z') : PA w n b z' TT q f xs a c L c0 c1 c2 c3 c4 c5 :=
  ⟨h.tq.below hb, h.wv.below hb, h.hT, h.qp, h.ok, h.cs, h.le⟩
theorem PA.hq {w : World} {n : Nat} {b : Int} {z : World} {TT q f : Nat} {xs : Nat → Pk} {a : Option Addr} {c : Nat} {L : List Pk} {c0 c1 c2 c3 c4 c5 : Int} (h : PA w n b z TT q f xs a c L c0 c1 c2 c3 c4 c5) : ∀ j (hj : j < L.length), xs (ato f j n) = L[j] := fun j hj => by
  have := h.qp j hj
  simpa [List.getD, hj] using this
theorem pa_cnt {w : World} {n : Nat} {b : Int} {z : World} {TT q f : Nat} {xs : Nat → Pk} {a : Option Addr} {c : Nat} {L : List Pk} {c0 c1 c2 c3 c4 c5 : Int} (h : PA w n b z TT q f xs a c L c0 c1 c2 c3 c4 c5) : Calls Try.prog 21 #[.pointer (some ⟨q, 0, none⟩)] z fun e w' => e = .returned (.agg #[.int .u64 (c0), .int .u64 (c1), .int .u64 (c2), .int .u64 (c3), .int .u64 (c4), .int .u64 (c5)]) ∧ Below z.heap.size z w' :=
  qcnt_c q _ _ n f L.length xs c0 c1 c2 c3 c4 c5 b (lsum L) z h.tq.pq
theorem pa_len {w : World} {n : Nat} {b : Int} {z : World} {TT q f : Nat} {xs : Nat → Pk} {a : Option Addr} {c : Nat} {L : List Pk} {c0 c1 c2 c3 c4 c5 : Int} (h : PA w n b z TT q f xs a c L c0 c1 c2 c3 c4 c5) : Calls Try.prog 23 #[.pointer (some ⟨q, 0, none⟩)] z fun e w' => e = .returned (.int .i64 L.length) ∧ Below z.heap.size z w' :=
  qlen_c q _ _ n f L.length xs c0 c1 c2 c3 c4 c5 b (lsum L) z h.tq.pq
theorem pa_byt {w : World} {n : Nat} {b : Int} {z : World} {TT q f : Nat} {xs : Nat → Pk} {a : Option Addr} {c : Nat} {L : List Pk} {c0 c1 c2 c3 c4 c5 : Int} (h : PA w n b z TT q f xs a c L c0 c1 c2 c3 c4 c5) : Calls Try.prog 24 #[.pointer (some ⟨q, 0, none⟩)] z fun e w' => e = .returned (.int .i64 (lsum L)) ∧ Below z.heap.size z w' :=
  qbyt_c q _ _ n f L.length xs c0 c1 c2 c3 c4 c5 b (lsum L) z h.tq.pq
theorem pa_same {w : World} {n : Nat} {b : Int} {z : World} {TT q f : Nat} {xs : Nat → Pk} {a : Option Addr} {c : Nat} {L : List Pk} {c0 c1 c2 c3 c4 c5 : Int} (h : PA w n b z TT q f xs a c L c0 c1 c2 c3 c4 c5) : Calls Try.prog 22 #[.pointer (some ⟨q, 0, none⟩), .agg #[.int .i64 (n : Int), .int .i64 b, .slice a L.length c, .int .u64 (c0), .int .u64 (c1), .int .u64 (c2), .int .u64 (c3), .int .u64 (c4), .int .u64 (c5)]] z fun e w' => e = .returned (.bool true) ∧ Below z.heap.size z w' :=
  same1_c q _ _ n f xs c0 c1 c2 c3 c4 c5 b n b L a c h.ok h.hq z h.tq.pq h.wv.row
theorem tfull2 {w z : World} {q s n f m : Nat} (pi pn pa pb pc pd : Int) {xs : Nat → Pk} {c0 c1 c2 c3 c4 c5 mo bs : Int} (h : TQ w z q s n f m xs c0 c1 c2 c3 c4 c5 mo bs) (hmn : m = n) (hl1 : 1 ≤ pn) (hl2 : pn ≤ 16384) (hb : 0 ≤ c0 ∧ c0 ≤ 1000000 ∧ 0 ≤ c1 ∧ c1 ≤ 1000000 ∧ 0 ≤ c2 ∧ c2 ≤ 1000000 ∧ 0 ≤ c3 ∧ c3 ≤ 1099511627776 ∧ 0 ≤ c4 ∧ c4 ≤ 1099511627776 ∧ 0 ≤ c5 ∧ c5 ≤ 1099511627776 ∧ 0 ≤ bs ∧ bs ≤ mo ∧ mo ≤ 1048576) (hr : ¬ mo - bs < pn) :
    Calls Try.prog 18 #[.pointer (some ⟨q, 0, none⟩), .agg #[.int .u64 (pi), .int .i64 (pn), .int .u16 (pa), .int .u16 (pb), .int .u16 (pc), .int .u16 (pd)]] z fun e z' => e = .returned (.int .i64 30) ∧ TQ w z' q s n f m xs c0 c1 (c2 + 1) c3 c4 (c5 + pn) mo bs ∧ Only (fun k => k = w.heap.size + 1 ∨ k = w.heap.size ∨ k = q) z z' := by
  subst hmn
  exact (qpush_full q _ _ m f pi pn pa pb pc pd xs _ _ _ _ _ _ _ _ z h.pq hl1 hl2 hb hr).mono fun _ _ ⟨he, hP, ho⟩ => ⟨he, h.only hP ho, ho⟩
theorem tlong2 {w z : World} {q s n f m : Nat} (pi pn pa pb pc pd : Int) {xs : Nat → Pk} {c0 c1 c2 c3 c4 c5 mo bs : Int} (h : TQ w z q s n f m xs c0 c1 c2 c3 c4 c5 mo bs) (hl1 : 1 ≤ pn) (hl2 : pn ≤ 16384) (hb : 0 ≤ c0 ∧ c0 ≤ 1000000 ∧ 0 ≤ c1 ∧ c1 ≤ 1000000 ∧ 0 ≤ c2 ∧ c2 ≤ 1000000 ∧ 0 ≤ c3 ∧ c3 ≤ 1099511627776 ∧ 0 ≤ c4 ∧ c4 ≤ 1099511627776 ∧ 0 ≤ c5 ∧ c5 ≤ 1099511627776 ∧ 0 ≤ bs ∧ bs ≤ mo ∧ mo ≤ 1048576) (hr : mo - bs < pn) :
    Calls Try.prog 18 #[.pointer (some ⟨q, 0, none⟩), .agg #[.int .u64 (pi), .int .i64 (pn), .int .u16 (pa), .int .u16 (pb), .int .u16 (pc), .int .u16 (pd)]] z fun e z' => e = .returned (.int .i64 30) ∧ TQ w z' q s n f m xs c0 c1 (c2 + 1) c3 c4 (c5 + pn) mo bs ∧ Only (fun k => k = w.heap.size + 1 ∨ k = w.heap.size ∨ k = q) z z' :=
  (qpush_long q _ _ n f m pi pn pa pb pc pd xs _ _ _ _ _ _ _ _ z h.pq hl1 hl2 hb hr).mono fun _ _ ⟨he, hP, ho⟩ => ⟨he, h.only hP ho, ho⟩
theorem tpush2 {w z : World} {q s n f m : Nat} (pi pn pa pb pc pd : Int) {xs : Nat → Pk} {c0 c1 c2 c3 c4 c5 mo bs : Int} (h : TQ w z q s n f m xs c0 c1 c2 c3 c4 c5 mo bs) (hl1 : 1 ≤ pn) (hl2 : pn ≤ 16384) (hb : 0 ≤ c0 ∧ c0 ≤ 1000000 ∧ 0 ≤ c1 ∧ c1 ≤ 1000000 ∧ 0 ≤ c2 ∧ c2 ≤ 1000000 ∧ 0 ≤ c3 ∧ c3 ≤ 1099511627776 ∧ 0 ≤ c4 ∧ c4 ≤ 1099511627776 ∧ 0 ≤ c5 ∧ c5 ≤ 1099511627776 ∧ 0 ≤ bs ∧ bs ≤ mo ∧ mo ≤ 1048576) (hr : ¬ mo - bs < pn) (hmn : m < n) :
    Calls Try.prog 18 #[.pointer (some ⟨q, 0, none⟩), .agg #[.int .u64 (pi), .int .i64 (pn), .int .u16 (pa), .int .u16 (pb), .int .u16 (pc), .int .u16 (pd)]] z fun e z' => e = .returned (.int .i64 0) ∧ TQ w z' q s n f (m + 1) (updp xs (ato f m n) ⟨pi, pn, pa, pb, pc, pd⟩) (c0 + 1) c1 c2 (c3 + pn) c4 c5 mo (bs + pn) ∧ Only (fun k => k = w.heap.size + 1 ∨ k = w.heap.size ∨ k = q) z z' :=
  (qpush_ok q _ _ n f m pi pn pa pb pc pd xs _ _ _ _ _ _ _ _ z h.pq hl1 hl2 hb hr hmn).mono fun _ _ ⟨he, hP, ho⟩ => ⟨he, h.only hP ho, ho⟩
theorem tpop2 {w z : World} {q s n f m : Nat} (pi pn pa pb pc pd : Int) {xs : Nat → Pk} {c0 c1 c2 c3 c4 c5 mo bs : Int} (h : TQ w z q s n f m xs c0 c1 c2 c3 c4 c5 mo bs) (hl1 : 1 ≤ pn) (hl2 : pn ≤ 16384) (hb : 0 ≤ c0 ∧ c0 ≤ 1000000 ∧ 0 ≤ c1 ∧ c1 ≤ 1000000 ∧ 0 ≤ c2 ∧ c2 ≤ 1000000 ∧ 0 ≤ c3 ∧ c3 ≤ 1099511627776 ∧ 0 ≤ c4 ∧ c4 ≤ 1099511627776 ∧ 0 ≤ c5 ∧ c5 ≤ 1099511627776 ∧ 0 ≤ bs ∧ bs ≤ mo ∧ mo ≤ 1048576) (hbs : pn ≤ bs) (hm : 0 < m) (hp : xs f = ⟨pi, pn, pa, pb, pc, pd⟩) :
    Calls Try.prog 19 #[.pointer (some ⟨q, 0, none⟩)] z fun e z' => e = .returned (.tuple #[.agg #[.int .u64 (pi), .int .i64 (pn), .int .u16 (pa), .int .u16 (pb), .int .u16 (pc), .int .u16 (pd)], .int .i64 0]) ∧ TQ w z' q s n (ato f 1 n) (m - 1) (updp xs f pz) c0 (c1 + 1) c2 c3 (c4 + pn) c5 mo (bs - pn) ∧ Only (fun k => k = w.heap.size + 1 ∨ k = w.heap.size ∨ k = q) z z' :=
  (qpop_ok q _ _ n f m pi pn pa pb pc pd xs _ _ _ _ _ _ _ _ z h.pq hl1 hl2 hb hbs hm hp).mono fun _ _ ⟨he, hP, ho⟩ => ⟨he, h.only hP ho, ho⟩
/-- One more behind. -/
theorem qp_push {xs : Nat → Pk} {f n : Nat} {L : List Pk} {p : Pk} (h : QP xs f L.length n 0 (fun j => L.getD j pz)) (hf : f < n) (hm : L.length < n) : QP (updp xs (ato f L.length n) p) f (L.length + 1) n 0 (fun j => (L ++ [p]).getD j pz) := by
  have h1 : QP xs f L.length n 0 (fun j => (L ++ [p]).getD j pz) := fun j hj => by
    rw [h j hj]
    simp [List.getD, List.getElem?_append_left hj]
  exact h1.push hf hm p (by simp [List.getD])
/-- The first one taken away. -/
theorem qp_pop {xs : Nat → Pk} {f n : Nat} {L : List Pk} {p : Pk} (h : QP xs f (L.length + 1) n 0 (fun j => (p :: L).getD j pz)) (hf : f < n) (hm : L.length + 1 ≤ n) : QP (updp xs f pz) (ato f 1 n) L.length n 0 (fun j => L.getD j pz) := fun j hj => by
  have := QP.pop h hf (by omega) hm pz j (by omega)
  rw [this]
  simp [List.getD, Nat.add_comm]
end Go.Proofs.Ytdahjhokcjfioaa
