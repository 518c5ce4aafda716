/- Joined texts. -/
import Derived.Test.YtmmahgfijiocfaaBs0
import Derived.Test.YtmmahgfijiocfaaBs2
import Derived.Test.YtmmahgfijiocfaaBs4
import Derived.Test.YtmmahgfijiocfaaBs8
import Derived.Test.YtmmahgfijiocfaaBs9
import Derived.Test.YtmmahgfijiocfaaBs12
import Derived.Lib.SliceRun
import Derived.Shelf.SlicesE.Compact
import Derived.Ground.SlgnProg
import Derived.Laws.AppendOwn
import Derived.Laws.AppendOwnNone
set_option linter.unusedVariables false
set_option linter.unusedSimpArgs false
set_option maxRecDepth 100000
set_option maxHeartbeats 16000000
section
namespace Go.Proofs.Ytmmahgfijiocfaa
open Go.RowKit Fg Reg
theorem results_var {P : Program} {fn : Func} {s : Nat} {T : TypeId} {w : World} (hr : fn.results = #[.cell s T]) (tmps : Array Value) (g : Nat) (hs : tmps.getD s undef = .pointer (some ⟨g, 0, none⟩)) (cells : Array Value) (d : TypeDesc) (hv : VR w g T cells)
  (hu : P.underlying T = some d) (hd : d.isRow = true) (hi : (P.info? T).map (·.size) = some cells.size) : (results fn tmps).run P w = .ok (.agg cells) w := by
 have h := run_loadVar_mid (P := P) w g 0 T cells.toList d hv.range hu hd (by simpa using hi)
 have hs' : tmps[s]?.getD undef = .pointer (some ⟨g, 0, none⟩) := by simpa using hs
 unfold results
 rw [hr]
 simp [Sem.run_bind, Sem.run_pure, Result.andThen_ok, asAddr, hs', h]
theorem VR.grown2 {z z' : World} {p : Nat} {ty : TypeId} {cs : Array Value} {row : Option Nat} (h : VR z p ty cs) (hg : z.grownBy z' row) (hne : row ≠ some p) : VR z' p ty cs := h.frame (hg.block p h.lt fun e => hne e.symm)
theorem news_new (w : World) (cs : List Value) (t : TypeId) : ∀ (j : Nat) (u : Value), cs[j]? = some u → (w.alloc (.cells cs.toArray t)).cell? ((⟨w.heap.size, 0, none⟩ : Addr).add j) = some u := fun j u hu => by
 rw [Addr.add_mid, Nat.zero_add]
 exact (VR.new w cs.toArray t).cell j (by simpa using hu)
theorem own_rwv {α : Type} {cells : α → List Value} {s : Nat} (hs : ∀ x, (cells x).length = s) {w : World} {base n c : Nat} {e : TypeId} {ao : Option Addr} {X : List α} (h : w.ownsRow base e s (.slice ao n c) n (X.flatMap cells)) (hn : X.length = n) : RwV cells s w ao X := fun k hk => by
 rcases h.2 with ⟨_, h0⟩ | ⟨g, cap, cur, hv, hb, hg, hc, hm, hz, ht⟩
 ·omega
 ·simp only [Value.slice.injEq] at hv
  obtain ⟨rfl, -, -⟩ := hv
  refine ⟨g, 0, rfl, (Array.getElem?_eq_some_iff.1 hg).1, fun j v hj => ?_⟩
  rw [cell_of_row w g (0 + k * s + j) cur _ _ hg, Nat.zero_add, ← Array.getElem?_toList]
  have hjl : j < s := by rw [← hs X[k]]; exact (List.getElem?_eq_some_iff.1 hj).1
  have hks : k * s + j < n * s := by
   have : (k + 1) * s ≤ n * s := Nat.mul_le_mul_right s (by omega)
   rw [Nat.add_mul] at this
   omega
  have h1 : (cur.toList.take (n * s))[k * s + j]? = cur.toList[k * s + j]? := by rw [List.getElem?_take, if_pos hks]
  rw [← h1, ht]
  clear h1 ht hz hg hks
  induction X generalizing k n with
  | nil => exact absurd hk (Nat.not_lt_zero _)
  | cons x X ih =>
   rw [List.flatMap_cons]
   cases k with
   | zero => rw [List.getElem?_append_left (by rw [hs]; omega), Nat.zero_mul, Nat.zero_add]; exact hj
   | succ k =>
    rw [List.getElem?_append_right (by rw [hs, Nat.add_mul]; omega), hs, show (k + 1) * s + j - s = k * s + j by rw [Nat.add_mul]; omega]
    have hk2 : k < X.length := by simpa using hk
    have go : ∀ (Y : List α) (i : Nat) (hi : i < Y.length), (cells Y[i])[j]? = some v → (Y.flatMap cells)[i * s + j]? = some v := by
     intro Y
     induction Y with
     | nil => intro i hi; exact absurd hi (Nat.not_lt_zero _)
     | cons y Y ih2 =>
      intro i hi hv2
      rw [List.flatMap_cons]
      cases i with
      | zero => rw [List.getElem?_append_left (by rw [hs]; omega), Nat.zero_mul, Nat.zero_add]; exact hv2
      | succ i =>
       rw [List.getElem?_append_right (by rw [hs, Nat.add_mul]; omega), hs, show (i + 1) * s + j - s = i * s + j by rw [Nat.add_mul]; omega]
       exact ih2 i (by simpa using hi) (by simpa using hv2)
    exact go X k hk2 (by simpa using hj)
theorem RwV.map_only {α : Type} {cells : α → List Value} {s : Nat} (hs : ∀ x, 0 < (cells x).length) {z z' : World} {ao : Option Addr} {X : List α} (h : RwV cells s z ao X) {mb : Nat} (hm : ∃ es ck, z.heap[mb]? = some (.map es ck)) (ho : Only (fun k => k = mb) z z') : RwV cells s z' ao X := fun k hk => by
 obtain ⟨b, o, e, h1, h2⟩ := h k hk
 have hne : b ≠ mb := by
  rintro rfl
  obtain ⟨es, ck, hb⟩ := hm
  have := h2 0 _ (List.getElem?_eq_getElem (hs _))
  simp [World.cell?, hb] at this
 exact ⟨b, o, e, Nat.lt_of_lt_of_le h1 ho.size, fun j v hv => by rw [World.cell?_of_block (ho.block b h1 hne)]; exact h2 j v hv⟩
end Go.Proofs.Ytmmahgfijiocfaa
end
section
namespace Go.Proofs.Ytmmahgfijiocfaa
open Go.RowKit Fg Reg Go.Maps
attribute [local irreducible] Reg.wE VR
theorem HT.onlyB {B : Nat} {z z' : World} {tb mb : Nat} {f : Int → Option Cls} (h : HT z tb mb f) (ho : Only (fun k => B ≤ k) z z') (h1 : tb < B) (h2 : mb < B) : HT z' tb mb f := by
 obtain ⟨n, hn⟩ := h.mp
 exact ⟨(ho.cell h.lt (by omega)).trans h.c0, Nat.lt_of_lt_of_le h.lt ho.size, h.ne, n, hn.frame (ho.block mb hn.lt (by omega))⟩
theorem TV.only {B : Nat} {z z' : World} {v : Value} {f : Int → Option Cls} {L : List Int} (h : TV z v f L) (hB : z.heap.size ≤ B) (ho : Only (fun k => B ≤ k) z z') : TV z' v f L := by
 rcases h with h | ⟨tb, mb, h1, h2⟩
 ·exact .inl h
 ·exact .inr ⟨tb, mb, h1, h2.onlyB ho (by have := h2.lt; omega) (by have := h2.mlt; omega)⟩
def trl (f g : Int → Option Cls) (x : Int) : Bool := rl1 (gcl (f x)) || rl1 (gcl (g x))
def WI (z : World) (b : Nat) (D : List Int) : Prop := ∀ j (h : j < D.length), z.cell? ⟨b, j, none⟩ = some (.int .i64 D[j]) ∧ z.frozen? ⟨b, j, none⟩ = false
theorem WI.frame {z z' : World} {b : Nat} {D : List Int} (h : WI z b D) (he : z'.heap[b]? = z.heap[b]?) : WI z' b D := fun j hj => ⟨(World.cell?_of_block he).trans (h j hj).1, (World.frozen?_of_block he).trans (h j hj).2⟩
theorem WI.below {z z' : World} {b : Nat} {D : List Int} (h : WI z b D) (hb : Below z.heap.size z z') (hl : b < z.heap.size) : WI z' b D := h.frame (hb.block b hl)
end Go.Proofs.Ytmmahgfijiocfaa
end
section
namespace Go.Proofs.Ytmmahgfijiocfaa
open Go.RowKit Fg Reg
def QR (z : World) (B s : Nat) (v : Value) (m : Nat) (xs : List Value) (bk : Option Nat) : Prop :=
 xs.length = m * s ∧ ((v = .slice none 0 0 ∧ m = 0 ∧ bk = none) ∨ ∃ b o cap, bk = some b ∧ v = .slice (some ⟨b, o, none⟩) m cap ∧ m ≤ cap ∧ cap ≤ maxLen ∧ B ≤ b ∧ b < z.heap.size ∧
  (∀ j, j < cap * s → (z.cell? ⟨b, o + j, none⟩).isSome = true ∧ z.frozen? ⟨b, o + j, none⟩ = false) ∧ ∀ j x, xs[j]? = some x → z.cell? ⟨b, o + j, none⟩ = some x)
theorem QR.nil (z : World) (B s : Nat) : QR z B s (.slice none 0 0) 0 [] none := ⟨by simp, .inl ⟨rfl, rfl, rfl⟩⟩
theorem QR.lt {z : World} {B s m : Nat} {v : Value} {xs : List Value} {bk : Option Nat} (h : QR z B s v m xs bk) : ∀ b, bk = some b → B ≤ b ∧ b < z.heap.size := fun b hb => by
 rcases h.2 with ⟨_, _, h3⟩ | ⟨b', o, cap, h1, _, _, _, h2, h3, _⟩
 ·rw [h3] at hb; cases hb
 ·rw [h1] at hb; cases hb; exact ⟨h2, h3⟩
theorem QR.only {S : Nat → Prop} {z z' : World} {B s m : Nat} {v : Value} {xs : List Value} {bk : Option Nat} (h : QR z B s v m xs bk) (ho : Only S z z') (hS : ∀ b, bk = some b → ¬ S b) : QR z' B s v m xs bk := by
 obtain ⟨h0, h | ⟨b, o, cap, h1, h2, h3, h4, h5, h6, h7, h8⟩⟩ := h
 ·exact ⟨h0, .inl h⟩
 ·have hn := hS b h1
  exact ⟨h0, .inr ⟨b, o, cap, h1, h2, h3, h4, h5, Nat.lt_of_lt_of_le h6 ho.size, fun j hj => ⟨by rw [ho.cell h6 hn]; exact (h7 j hj).1, by rw [ho.frozen h6 hn]; exact (h7 j hj).2⟩, fun j x hj => by rw [ho.cell h6 hn]; exact h8 j x hj⟩⟩
theorem QR.below {z z' : World} {B s m : Nat} {v : Value} {xs : List Value} {bk : Option Nat} (h : QR z B s v m xs bk) (hb : Below z.heap.size z z') : QR z' B s v m xs bk := h.only (Only.of_below (S := fun _ => False) hb) (fun _ _ h => h)
def tlq (s : Nat) (b o m cap : Nat) : Value := .slice (if cap = 1 then some ⟨b, o, none⟩ else some ⟨b, o + s, none⟩) (m - 1) (cap - 1)
theorem setCells_only (b : Nat) : ∀ (us : List Value) (o : Nat) (w : World), Only (fun k => k = b) w (w.setCells b o us)
 | [], _, w => Only.refl _ _
 | u :: us, o, w => ((Only.refl (fun k => k = b) w).setCell (p := ⟨b, o, none⟩) (.inl rfl) u).trans (setCells_only b us (o + 1) _)
section
variable {P : Program} (w : World)
end
end Go.Proofs.Ytmmahgfijiocfaa
end
section
namespace Go.Proofs.Ytmmahgfijiocfaa
open Go.RowKit Fg Reg Go.Maps
attribute [local irreducible] Reg.wE VR
theorem WI.set {z : World} {b : Nat} {D : List Int} (h : WI z b D) (i : Nat) (x : Int) (hi : i < D.length) : WI (z.setCell ⟨b, i, none⟩ (.int .i64 x)) b (D.set i x) := fun j hj => by
 have hj2 : j < D.length := by simpa using hj
 rw [World.frozen?_setCell]
 refine ⟨?_, (h j hj2).2⟩
 rw [List.getElem_set]
 by_cases e : i = j
 ·subst e
  rw [if_pos rfl]
  exact World.cell?_setCell_same _ _ _ (h i hi).1
 ·rw [if_neg e, World.cell?_setCell_other _ _ _ _ (by intro g; injection g with _ g2; exact e g2)]
  exact (h j hj2).1
theorem WI.pre {z : World} {b : Nat} {D E : List Int} (h : WI z b (D ++ E)) : WI z b D := fun j hj => by
 have := h j (by simp; omega)
 rw [List.getElem_append_left hj] at this
 exact this
theorem filt_all {p : Int → Bool} {D : List Int} (h : ∀ x ∈ D, p x = false) : D.filter (fun x => !p x) = D := List.filter_eq_self.2 fun x hx => by rw [h x hx]; rfl
end Go.Proofs.Ytmmahgfijiocfaa
end
section
namespace Go.Proofs.Ytmmahgfijiocfaa
open Go.RowKit Fg Reg Go.Maps Go.Sort
attribute [local irreducible] Reg.wE VR
theorem tdlf_nil (f : Value) (w : World) : Calls Try.prog 59 #[.slice none 0 0, f] w fun ee w' => ee = .returned (.slice none 0 0) ∧ Below w.heap.size w w' := by
 have K : Hid (∀ z, Calls Try.prog 80 #[.slice none 0 0, f] z fun ee w' => ee = .returned (.int .i64 (-1)) ∧ Below z.heap.size z w') := Lib.hid (fun z => by
  go_enter Try.func80, Try.ntmps80
  go_wp2_with fail
  refine wp_loop_rounds 1 ?_
  rw [rounds_succ]
  go_wp2
  go_ret
  exact ⟨rfl, by first | exact Below.refl _ _ | exact bub⟩)
 go_enter Try.func59, Try.ntmps59
 go_wp2_with (first | go_guarded | (go_at_call 80; (with_reducible refine (K.out _).mono ?_); rintro _ w1 ⟨rfl, hbel⟩; have HB := Lib.hid hbel; clear hbel))
 go_ret
 exact ⟨rfl, HB.out⟩
theorem own_wi {w : World} {base n c : Nat} {ad : Addr} {C : List Int} (h : w.ownsRow base 3 1 (.slice (some ad) n c) n (C.map (Value.int .i64))) : ∃ b, ad = ⟨b, 0, none⟩ ∧ WI w b C ∧ base ≤ b ∧ b < w.heap.size ∧ n ≤ c ∧ c ≤ maxLen := by
 have hn : n = C.length := by have := h.1; simpa using this.symm
 rcases h.2 with ⟨h0, _⟩ | ⟨g, cap, cur, hv, hb, hg, hc, hm, hs, ht⟩
 ·cases h0
 ·simp only [Value.slice.injEq, Option.some.injEq] at hv
  obtain ⟨rfl, -, rfl⟩ := hv
  refine ⟨g, rfl, fun k hk => ⟨?_, by simp [World.frozen?, hg]⟩, hb, (Array.getElem?_eq_some_iff.1 hg).1, hc, hm⟩
  rw [cell_of_row w g k cur _ _ hg]
  have h1 : (cur.toList.take (n * 1))[k]? = cur.toList[k]? := by rw [List.getElem?_take]; simp; omega
  rw [← Array.getElem?_toList, ← h1, ht]
  simp [hk]
theorem wi_ints {z : World} {b : Nat} {C : List Int} (h : WI z b C) (hb : b < z.heap.size) : IntsV z (some ⟨b, 0, none⟩) C := fun k hk => ⟨b, 0, rfl, hb, by rw [Nat.zero_add]; exact (h k hk).1⟩
def TW (z : World) (ao : Option Addr) (cap : Nat) (T : List Int) : Prop := (ao = none ∧ cap = 0 ∧ T = []) ∨ ∃ b, ao = some ⟨b, 0, none⟩ ∧ WI z b T ∧ b < z.heap.size
end Go.Proofs.Ytmmahgfijiocfaa
end
