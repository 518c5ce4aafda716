/- LinkSends: what the law knows of its link and its row; one more that is sent. -/
import Derived.Test.YtohdcpkacdaanaaLs2
namespace Go.Proofs.Ytohdcpkacdaanaa
set_option linter.unusedVariables false
set_option linter.unusedSimpArgs false
set_option maxRecDepth 100000
open Go.RowKit Fg Reg
attribute [local irreducible] Reg.wE TK LK

theorem own_only {S : Nat → Prop} {w w' : World} {base : Nat} {e : TypeId} {size n : Nat} {v : Value} {xs : List Value} (h : w.ownsRow base e size v n xs) (ho : Only S w w') (hS : ∀ k, S k → k < base) : w'.ownsRow base e size v n xs := by
  refine ⟨h.1, ?_⟩
  rcases h.2 with h' | ⟨g, cap, cur, h1, h2, h3, h4⟩
  · exact .inl h'
  · refine .inr ⟨g, cap, cur, h1, h2, ?_, h4⟩
    have hlt : g < w.heap.size := by
      rcases Nat.lt_or_ge g w.heap.size with h | h
      · exact h
      · rw [Array.getElem?_eq_none h] at h3; cases h3
    exact (ho.block g hlt (fun e => by have := hS g e; omega)).trans h3
theorem own_bel {w w' : World} {base : Nat} {e : TypeId} {size n : Nat} {v : Value} {xs : List Value} (h : w.ownsRow base e size v n xs) (hb : Below w.heap.size w w') : w'.ownsRow base e size v n xs :=
  own_only (S := fun _ => False) h (Only.of_below hb) (fun _ h => h.elim)
theorem only_grown {w w' : World} {row : Option Nat} {B : Nat} (h : w.grownBy w' row) (hr : ∀ k, row = some k → B ≤ k) : Only (fun k => B ≤ k) w w' :=
  ⟨h.os, h.tape, h.output, h.size, fun k hk hn => h.block k hk fun e => hn (hr k e.symm)⟩
theorem own_blk {z : World} {B m size : Nat} {e : TypeId} {v : Value} {xs : List Value} (h : z.ownsRow B e size v m xs) : ∀ k, v.ownBlock = some k → B ≤ k := by
  intro k hk
  rcases h.2 with ⟨rfl, _⟩ | ⟨b, cap, cur, rfl, hb, _⟩
  · simp [Value.ownBlock] at hk
  · simp [Value.ownBlock] at hk; omega
section
attribute [local semireducible] TK
theorem TK.keep {S : Nat → Prop} {w z z' : World} {x : Nat} {pk bt bs t un : Int} (h : TK w z x pk bt bs t un) (ho : Only S z z') (hx : ¬ S x) (hS : ∀ k, S k → w.heap.size ≤ k) : TK w z' x pk bt bs t un :=
  ⟨h.1.keep ho hx, ho.below h.2.1 h.2.1.size hS, h.2.2⟩
theorem TK.mk {w z : World} {x : Nat} {pk bt bs t un : Int} (h : LK z x pk bt bs t un) (hb : Below w.heap.size w z) (hx : w.heap.size ≤ x) : TK w z x pk bt bs t un := ⟨h, hb, hx⟩
theorem TK.bel {w z : World} {x : Nat} {pk bt bs t un : Int} (h : TK w z x pk bt bs t un) : Below w.heap.size w z := h.2.1
theorem TK.xlt {w z : World} {x : Nat} {pk bt bs t un : Int} (h : TK w z x pk bt bs t un) : x < z.heap.size := h.1.size
end
structure SQ (w z : World) (B : Nat) (t pk bt bs un : Int) (v : Value) (ws : List Snt) : Prop where
  tk : TK w z w.heap.size pk bt bs t un
  own : z.ownsRow B 73 3 v ws.length (ws.flatMap Snt.cells)
  hB : w.heap.size < B
  big : B ≤ z.heap.size
theorem SQ.lk {w z : World} {B : Nat} {t pk bt bs un : Int} {v : Value} {ws : List Snt} (h : SQ w z B t pk bt bs un v ws) : LK z w.heap.size pk bt bs t un := h.tk.lk
theorem SQ.below {w z z' : World} {B : Nat} {t pk bt bs un : Int} {v : Value} {ws : List Snt} (h : SQ w z B t pk bt bs un v ws) (hb : Below z.heap.size z z') : SQ w z' B t pk bt bs un v ws :=
  ⟨h.tk.below hb, own_bel h.own hb, h.hB, Nat.le_trans h.big hb.size⟩
theorem SQ.set {w z z' : World} {B : Nat} {t pk bt bs un pk' bt' bs' un' : Int} {v : Value} {ws : List Snt} (h : SQ w z B t pk bt bs un v ws) (hT : TK w z' w.heap.size pk' bt' bs' t un') (ho : Only (fun k => k = w.heap.size) z z') : SQ w z' B t pk' bt' bs' un' v ws :=
  ⟨hT, own_only h.own ho (fun k hk => by have := h.hB; omega), h.hB, Nat.le_trans h.big ho.size⟩
theorem SQ.grow {w z z' : World} {B n : Nat} {t pk bt bs un : Int} {v v' : Value} {ws ws' : List Snt} (h : SQ w z B t pk bt bs un v ws) (ho : z'.ownsRow B 73 3 v' n (ws'.flatMap Snt.cells)) (hn : n = ws'.length) (hg : z.grownBy z' v.ownBlock) : SQ w z' B t pk bt bs un v' ws' := by
  have hO := only_grown hg (own_blk h.own)
  have hB := h.hB
  subst hn
  exact ⟨h.tk.keep hO (by omega) (fun k hk => by omega), ho, h.hB, Nat.le_trans h.big hO.size⟩
theorem ssend {w z : World} {B : Nat} {t pk bt bs un : Int} {v : Value} {ws : List Snt} (now i n a b c d : Int) (h : SQ w z B t pk bt bs un v ws) (h0 : 0 ≤ now) (h1 : now ≤ 4611686018427387904) (hn : 1 ≤ n ∧ n ≤ 16384) (hu : un ≤ now) (ht : 1 ≤ t ∧ t ≤ 65536)
    (hp : 0 ≤ pk ∧ pk < 4611686018427387904) (hb : 0 ≤ bt ∧ bt < 4611686018427387904) (hs : 0 ≤ bs ∧ bs < 4611686018427387904) :
    Calls Try.prog 37 #[.pointer (some ⟨w.heap.size, 0, none⟩), .int .u64 now, .agg #[.int .u64 i, .int .i64 n, .int .u16 a, .int .u16 b, .int .u16 c, .int .u16 d]] z fun e z' => e = .returned (.tuple #[.int .u64 (now + n * t), .int .i64 (0)]) ∧ SQ w z' B t (pk + 1) (bt + n) (bs + n * t) (now + n * t) v ws ∧ Only (fun k => k = w.heap.size) z z' :=
  (send_ok' w.heap.size pk bt bs t un now i n a b c d z w h.tk h0 h1 hn hu ht hp hb hs _ _ _ _ rfl rfl rfl rfl).mono fun e z' ⟨h1, h2, h3⟩ => ⟨h1, h.set h2 h3, h3⟩
/-- A Send that is refused. -/
theorem sbad {w z : World} {B : Nat} {t pk bt bs un : Int} {v : Value} {ws : List Snt} (now i n a b c d : Int) (h : SQ w z B t pk bt bs un v ws) (h0 : 0 ≤ now) (hw : ¬ wrongs now n un = 0) :
    Calls Try.prog 37 #[.pointer (some ⟨w.heap.size, 0, none⟩), .int .u64 now, .agg #[.int .u64 i, .int .i64 n, .int .u16 a, .int .u16 b, .int .u16 c, .int .u16 d]] z fun e z' => e = .returned (.tuple #[.int .u64 (0), .int .i64 (wrongs now n un)]) ∧ Below z.heap.size z z' := by
  unfold wrongs at hw ⊢
  by_cases g1 : 4611686018427387904 < now
  · rw [if_pos g1]
    exact send_clock _ _ _ _ _ _ _ _ _ _ _ _ _ _ h.lk g1
  · rw [if_neg g1] at hw ⊢
    by_cases g2 : n < 1 ∨ 16384 < n
    · rw [if_pos g2]
      exact send_len _ _ _ _ _ _ _ _ _ _ _ _ _ _ h.lk h0 (by omega) g2
    · rw [if_neg g2] at hw ⊢
      by_cases g3 : now < un
      · rw [if_pos g3]
        exact send_busy _ _ _ _ _ _ _ _ _ _ _ _ _ _ h.lk h0 (by omega) (by omega) g3
      · rw [if_neg g3] at hw
        exact absurd rfl hw
end Go.Proofs.Ytohdcpkacdaanaa
