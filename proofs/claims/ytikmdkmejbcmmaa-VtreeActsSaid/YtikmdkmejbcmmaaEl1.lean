/- Tables of rows in memory. -/
import Derived.Test.YtikmdkmejbcmmaaEl0
namespace Go.Proofs.Ytikmdkmejbcmmaa
set_option linter.unusedVariables false
set_option linter.unusedSimpArgs false
set_option maxRecDepth 100000
open Go.RowKit Fg Reg
attribute [local irreducible] Reg.wE NT

def pv (p : Int × Int) : Value := .agg #[.int .u64 p.1, .int .u64 p.2]
/-- The blocks that a call to the table turns. -/
def SB (mb a : Nat) (t : Tr) : Nat → Prop := fun k => k = mb ∨ k = a ∨ k ∈ fp t
structure TBL (w : World) (tb mb a : Nat) (t : Tr) (L : List Rw) : Prop where
  c0 : w.cell? ⟨tb, 0, none⟩ = some (.map (some mb))
  c1 : w.cell? ⟨tb, 1, none⟩ = some (.pointer (some ⟨a, 0, none⟩))
  lt : tb < w.heap.size
  mp : Mp ikv pv iok (lookL L) L.length w mb
  tr : TR w a t
  tm : TM t L
  rs : RS L
  ne1 : tb ≠ mb
  ne2 : ∀ k, k = a ∨ k ∈ fp t → k ≠ tb ∧ k ≠ mb
theorem TBL.notS {w : World} {tb mb a : Nat} {t : Tr} {L : List Rw} (h : TBL w tb mb a t L) : ¬ SB mb a t tb := fun g => by
  rcases g with g | g
  · exact h.ne1 g
  · exact (h.ne2 tb g).1 rfl
theorem TBL.len {w : World} {tb mb a : Nat} {t : Tr} {L : List Rw} (h : TBL w tb mb a t L) : (tl t).length = L.length := tm_len h.tm h.tr.ss h.rs
theorem TBL.only {S : Nat → Prop} {w w' : World} {tb mb a : Nat} {t : Tr} {L : List Rw} (h : TBL w tb mb a t L) (ho : Only S w w') (hs : ∀ k, k = tb ∨ SB mb a t k → ¬ S k) : TBL w' tb mb a t L :=
  ⟨(ho.cell h.lt (hs tb (.inl rfl))).trans h.c0, (ho.cell h.lt (hs tb (.inl rfl))).trans h.c1, Nat.lt_of_lt_of_le h.lt ho.size, h.mp.frame (ho.block mb h.mp.lt (hs mb (.inr (.inl rfl)))), h.tr.only ho (fun k hk => hs k (.inr (.inr hk))), h.tm, h.rs, h.ne1, h.ne2⟩
theorem TBL.below {w w' : World} {tb mb a : Nat} {t : Tr} {L : List Rw} (h : TBL w tb mb a t L) (hb : Below w.heap.size w w') : TBL w' tb mb a t L := h.only (Only.of_below (S := fun _ => False) hb) fun _ _ h => h
theorem TBL.lts {w : World} {tb mb a : Nat} {t : Tr} {L : List Rw} (h : TBL w tb mb a t L) : ∀ k, k = tb ∨ SB mb a t k → k < w.heap.size := fun k hk => by
  rcases hk with rfl | rfl | rfl | hk
  · exact h.lt
  · exact h.mp.lt
  · exact h.tr.lt
  · exact NT.lt h.tr.nt k hk
theorem TBL.trm {w w' : World} {tb mb a : Nat} {t : Tr} {L : List Rw} (h : TBL w tb mb a t L) (ho : Only (fun k => k = mb) w w') : TR w' a t := h.tr.only ho fun k hk g => (h.ne2 k hk).2 g
theorem ikey_map (L : List Rw) : ∀ x, x ∈ L.map Rw.id ↔ (lookL L x).isSome = true := fun x => look_is.symm
theorem mp_rows {w : World} {b n : Nat} {L : List Rw} {f : Int → Option (Int × Int)} (h : Mp ikv pv iok f n w b) (hf : f = lookL L) (hr : RS L) : Mp ikv pv iok (lookL L) L.length w b := by
  subst hf
  have := h.fit ikv_inj (L.map Rw.id) (ids_nodup hr) (ikey_map L)
  rwa [List.length_map] at this
theorem TBL.dropped {w w1 w2 : World} {tb mb a : Nat} {t : Tr} {L : List Rw} {r : Rw} (h : TBL w tb mb a t L) (hr : r ∈ L) {n : Nat} (h1 : Mp ikv pv iok (mdel (lookL L) r.id) n w1 mb) (h2 : Only (fun k => k = mb) w w1)
    (h3 : TR w2 a (cutT r.it t)) (h4 : Only (fun k => k = a ∨ k ∈ fp t) w1 w2) : TBL w2 tb mb a (cutT r.it t) (dropL r.id L) ∧ Only (SB mb a t) w w2 ∧ ∀ k ∈ fp (cutT r.it t), k ∈ fp t := by
  have hf := tm_fnd h.tm h.tr.ss hr
  have hfp : ∀ k ∈ fp (cutT r.it t), k ∈ fp t := fun k hk => cnt_mem (cutT_all r.it t h.tr.bl h.tr.ss (fnd_some hf)).2.2.2.1 k hk
  have lt1 : tb < w1.heap.size := Nat.lt_of_lt_of_le h.lt h2.size
  have n1 : ¬ (tb = a ∨ tb ∈ fp t) := fun g => (h.ne2 tb g).1 rfl
  have n2 : ¬ (mb = a ∨ mb ∈ fp t) := fun g => (h.ne2 mb g).2 rfl
  refine ⟨⟨?_, ?_, Nat.lt_of_lt_of_le lt1 h4.size, ?_, h3, tm_rem h.tm h.rs hr (tl_cut h.tr hf), drop_rs h.rs, h.ne1, fun k hk => h.ne2 k (hk.imp (fun g => g) (hfp k))⟩, ?_, hfp⟩
  · exact (h4.cell lt1 n1).trans ((h2.cell h.lt h.ne1).trans h.c0)
  · exact (h4.cell lt1 n1).trans ((h2.cell h.lt h.ne1).trans h.c1)
  · exact (mp_rows h1 (look_drop r.id L h.rs).symm (drop_rs h.rs)).frame (h4.block mb h1.lt n2)
  · exact (h2.mono fun k hk => .inl hk).trans (h4.mono fun k hk => .inr hk)
theorem TBL.put {w w1 w2 : World} {tb mb a nb : Nat} {t : Tr} {L : List Rw} {x : Rw} (h : TBL w tb mb a t L) (hx : rfd x.id L = none) {n : Nat} (h1 : Mp ikv pv iok (upd (lookL L) x.id (x.a, x.b)) n w1 mb) (h2 : Only (fun k => k = mb) w w1)
    (hn : w1.heap.size ≤ nb) (h3 : TR w2 a (putT nb x.it t)) (h4 : Only (fun k => k = a ∨ k ∈ fp t) w1 w2) : TBL w2 tb mb a (putT nb x.it t) (setL x L) ∧ Only (SB mb a t) w w2 ∧ ∀ k ∈ fp (putT nb x.it t), k ∈ fp t ∨ w.heap.size ≤ k := by
  have lt1 : tb < w1.heap.size := Nat.lt_of_lt_of_le h.lt h2.size
  have hsz := h2.size
  have hml := h.mp.lt
  have n1 : ¬ (tb = a ∨ tb ∈ fp t) := fun g => (h.ne2 tb g).1 rfl
  have n2 : ¬ (mb = a ∨ mb ∈ fp t) := fun g => (h.ne2 mb g).2 rfl
  have hT : TR w1 a t := h.tr.only h2 fun k hk g => (h.ne2 k hk).2 g
  have hmem := putT_mem x.it t hT.bl hT.ss nb (fun h9 => by have := NT.lt hT.nt _ h9; omega)
  refine ⟨⟨?_, ?_, Nat.lt_of_lt_of_le lt1 h4.size, ?_, h3, tm_ins h.tm h.rs hx (tl_put hT hn), set_rs h.rs, h.ne1, fun k hk => ?_⟩, ?_, fun k hk => ?_⟩
  · exact (h4.cell lt1 n1).trans ((h2.cell h.lt h.ne1).trans h.c0)
  · exact (h4.cell lt1 n1).trans ((h2.cell h.lt h.ne1).trans h.c1)
  · exact (mp_rows h1 (look_set x L h.rs).symm (set_rs h.rs)).frame (h4.block mb h1.lt n2)
  · rcases hk with hk | hk
    · exact h.ne2 k (.inl hk)
    · rcases (hmem k).1 hk with g | g
      · have := h.lt; omega
      · exact h.ne2 k (.inr g)
  · exact (h2.mono fun k hk => .inl hk).trans (h4.mono fun k hk => .inr hk)
  · rcases (hmem k).1 hk with g | g
    · exact .inr (by omega)
    · exact .inl g
/-- A table of the call's own. -/
structure OT (w wc : World) (tb mb a : Nat) (t : Tr) (L : List Rw) : Prop where
  hb : Below w.heap.size w wc
  tbl : TBL wc tb mb a t L
  fr : ∀ k, k = tb ∨ SB mb a t k → w.heap.size ≤ k
theorem OT.step {w wc wz : World} {tb mb a : Nat} {t : Tr} {L : List Rw} (h : OT w wc tb mb a t L) (hb : Below wc.heap.size wc wz) : OT w wz tb mb a t L := ⟨h.hb.trans (hb.mono h.hb.size), h.tbl.below hb, h.fr⟩
theorem OT.turn {w wc wz : World} {tb mb a : Nat} {t t' : Tr} {L L' : List Rw} (h : OT w wc tb mb a t L) (hT : TBL wz tb mb a t' L') (hO : Only (SB mb a t) wc wz) (hf : ∀ k ∈ fp t', k ∈ fp t ∨ wc.heap.size ≤ k) : OT w wz tb mb a t' L' :=
  ⟨h.hb.trans (onlyB hO h.hb.size fun k hk => h.fr k (.inr hk)), hT, fun k hk => by
    rcases hk with hk | hk | hk | hk
    · exact h.fr k (.inl hk)
    · exact h.fr k (.inr (.inl hk))
    · exact h.fr k (.inr (.inr (.inl hk)))
    · rcases hf k hk with g | g
      · exact h.fr k (.inr (.inr (.inr g)))
      · have := h.hb.size; omega⟩
end Go.Proofs.Ytikmdkmejbcmmaa
