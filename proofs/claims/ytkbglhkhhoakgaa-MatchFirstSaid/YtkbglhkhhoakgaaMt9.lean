/- match.New. -/
import Derived.Test.YtkbglhkhhoakgaaMt8
namespace Go.Proofs.Ytkbglhkhhoakgaa
set_option linter.unusedVariables false
set_option linter.unusedSimpArgs false
set_option maxRecDepth 100000
open Go.RowKit Fg Reg
attribute [local irreducible] Reg.wE

theorem kok4 : KeyOk Try.prog 25 kv4 ok4 where
  keyed := hd_keyed
  lit x hx := by
    obtain ⟨a, b, c, d⟩ := x
    obtain ⟨h0, h1, h2, h3⟩ := hx
    dsimp only at h0 h1 h2 h3
    have A : WideMaps.ArrKey Try.prog 25 23 4 := ⟨Try.underlying25, by kernel_rfl, by kernel_rfl, by kernel_rfl⟩
    have he := Try.underlying23
    have wf : ∀ n : Nat, n < 65536 → (Lit.int .u16 (n : Int)).wf = true := fun n hn => WalkArith.wf_u16 (by omega)
    have hsz : ∃ m, Try.prog.types.size = m + 1 := ⟨Try.prog.types.size - 1, by kernel_rfl⟩
    have hkt := A.keyType hsz
    obtain ⟨m, hm⟩ := hsz
    refine ⟨.string (keyBytes [.int .u16 a, .int .u16 b, .int .u16 c, .int .u16 d]), ?_⟩
    unfold keyOf kv4
    simp only [A.hu]
    rw [if_pos (by simp [hkt, Value.formed, A.hu, A.size]), hm]
    unfold Program.keyLits
    simp only [A.hu, Value.cells]
    rw [if_pos (by rw [A.size]; rfl), show List.range 4 = [0, 1, 2, 3] from rfl, List.mapM_cons, List.mapM_cons, List.mapM_cons, List.mapM_cons, List.mapM_nil]
    simp [A.one, Program.keyLits, he, wf a h0, wf b h1, wf c h2, wf d h3]
  inj x y hx hy h := by
    obtain ⟨a, b, c, d⟩ := x
    obtain ⟨a', b', c', d'⟩ := y
    simp [kv4] at h
    simp only [Prod.mk.injEq]
    omega
theorem int_info4 : (Try.prog.info? 3).map (fun i => (i.zero, i.size, i.bytes)) = some (some (.int .i64 0), 1, 8) := by kernel_rfl
theorem int_parts : ∃ i, Try.prog.info? 3 = some i ∧ i.zero = some (.int .i64 0) ∧ i.size = 1 ∧ i.bytes = 8 := by
  obtain ⟨i, hi, h⟩ := Option.map_eq_some_iff.1 int_info4
  simp only [Prod.mk.injEq] at h
  exact ⟨i, hi, h.1, h.2.1, h.2.2⟩
/-- A table that is being made. -/
structure NT (w z : World) (p mb : Nat) (a0 : Option Addr) (c0 : Nat) (v : Value) (rs : List Rl) (k : Nat) (F : H4 → Option Nat) (ms : List Int) : Prop where
  c0 : z.cell? ⟨p, 0, none⟩ = some (.slice a0 rs.length c0)
  c1 : z.cell? ⟨p, 1, none⟩ = some (.map (some mb))
  c2 : z.cell? ⟨p, 2, none⟩ = some v
  z2 : z.frozen? ⟨p, 2, none⟩ = false
  plt : p < z.heap.size
  mlt : mb < p
  mge : w.heap.size ≤ mb
  alt : ∀ ad, a0 = some ad → ad.block < mb
  rls : RlsV z a0 rs
  mp : Mp kv4 vvn ok4 F k z mb
  own : z.ownsRow (p + 1) 3 1 v ms.length (ms.map (Value.int .i64))
  bel : Below w.heap.size w z
variable {w z : World} {p mb : Nat} {a0 : Option Addr} {c0 : Nat} {v : Value} {rs : List Rl} {k : Nat} {F : H4 → Option Nat} {ms : List Int}
theorem NT.below {z' : World} (h : NT w z p mb a0 c0 v rs k F ms) (hb : Below z.heap.size z z') : NT w z' p mb a0 c0 v rs k F ms where
  c0 := (hb.cell (p := ⟨p, 0, none⟩) h.plt).trans h.c0
  c1 := (hb.cell (p := ⟨p, 1, none⟩) h.plt).trans h.c1
  c2 := (hb.cell (p := ⟨p, 2, none⟩) h.plt).trans h.c2
  z2 := (hb.frozen (p := ⟨p, 2, none⟩) h.plt).trans h.z2
  plt := Nat.lt_of_lt_of_le h.plt hb.size
  mlt := h.mlt
  mge := h.mge
  alt := h.alt
  rls := h.rls.below hb
  mp := h.mp.below hb h.mp.lt
  own := row_bel h.own hb
  bel := h.bel.trans (hb.mono h.bel.size)
theorem NT.alloc (h : NT w z p mb a0 c0 v rs k F ms) (o : Obj) : NT w (z.alloc o) p mb a0 c0 v rs k F ms := h.below (Below.alloc (Below.refl _ _) (Nat.le_refl _) o)
theorem NT.step (h : NT w z p mb a0 c0 v rs k F ms) {F' : H4 → Option Nat} {k' : Nat} {ms' : List Int} (hm : Mp kv4 vvn ok4 F' k' z mb) (hms : ms' = ms) : NT w z p mb a0 c0 v rs k' F' ms' := by
  subst hms
  exact ⟨h.c0, h.c1, h.c2, h.z2, h.plt, h.mlt, h.mge, h.alt, h.rls, hm, h.own, h.bel⟩
theorem NT.put (h : NT w z p mb a0 c0 v rs k F ms) {z' : World} {F' : H4 → Option Nat} (hm : Mp kv4 vvn ok4 F' (k + 1) z' mb) (ho : Only (fun i => i = mb) z z') : NT w z' p mb a0 c0 v rs (k + 1) F' ms := by
  have hne : ¬ p = mb := by have := h.mlt; omega
  exact ⟨(ho.cell h.plt hne).trans h.c0, (ho.cell h.plt hne).trans h.c1, (ho.cell h.plt hne).trans h.c2, (ho.frozen h.plt hne).trans h.z2, Nat.lt_of_lt_of_le h.plt ho.size, h.mlt, h.mge, h.alt,
    RwV.only (cells := Rl.cells) h.rls ho (fun ad hd he => by have := h.alt ad hd; omega), hm,
    row_only h.own ho (fun i hi hb => by have := h.mlt; omega), ho.below h.bel h.bel.size (fun i hi => by have := h.mge; omega)⟩
theorem NT.app (h : NT w z p mb a0 c0 v rs k F ms) {z' : World} {v' : Value} {ms' : List Int} (hown : z'.ownsRow (p + 1) 3 1 v' ms'.length (ms'.map (Value.int .i64))) (hg : z.grownBy z' v.ownBlock) :
    NT w (z'.setCell ⟨p, 2, none⟩ v') p mb a0 c0 v' rs (k + 1) F ms' := by
  have hpm := h.mlt
  have hob := row_blk h.own
  have hmp := h.mp.lt
  have hgp : some p ≠ v.ownBlock := fun e => by have := (hob p e.symm).1; omega
  have hgm : some mb ≠ v.ownBlock := fun e => by have := (hob mb e.symm).1; omega
  have O1 : Only (fun i => p ≤ i) z z' := (only_grown' hg).mono (fun i hi => by have := (hob i hi).1; omega)
  have O2 : Only (fun i => p ≤ i) z (z'.setCell ⟨p, 2, none⟩ v') := O1.setCell (.inl (Nat.le_refl _)) v'
  have hsz := hg.size
  have hplt := h.plt
  have s0 : z'.cell? ⟨p, 0, none⟩ = some (.slice a0 rs.length c0) := hg.cell h.c0 hgp
  have s1 : z'.cell? ⟨p, 1, none⟩ = some (.map (some mb)) := hg.cell h.c1 hgp
  have s2 : z'.cell? ⟨p, 2, none⟩ = some v := hg.cell h.c2 hgp
  have f2 : z'.frozen? ⟨p, 2, none⟩ = false := (World.frozen?_of_block (hg.block p hplt hgp)).trans h.z2
  refine ⟨?_, ?_, ?_, ?_, ?_, hpm, h.mge, h.alt, RwV.only (cells := Rl.cells) h.rls O2 (fun ad hd he => by have := h.alt ad hd; omega), ?_, row_only hown ((Only.refl (fun k => k = p) z').setOne 2 none v') (fun i hi hb => by omega), O2.below h.bel h.bel.size (fun i hi => by have := h.mge; omega)⟩
  · simp [go_sem, s0]
  · simp [go_sem, s1]
  · simp [go_sem, s2]
  · simp [go_sem, f2]
  · simp [World.setCell]; omega
  · exact ((h.mp.frame (hg.block mb hmp hgm)).setCell (by simp; omega) v').mono (by omega)

/-- A table that was made of rules. -/
structure TB (w : World) (p : Nat) (rs : List Rl) : Prop where
  lt : p < w.heap.size
  tab : ∃ mb a0 c0 F n a1 c1 ms, w.cell? ⟨p, 0, none⟩ = some (.slice a0 rs.length c0) ∧ w.cell? ⟨p, 1, none⟩ = some (.map (some mb)) ∧ w.cell? ⟨p, 2, none⟩ = some (.slice a1 ms.length c1) ∧
    RlsV w a0 rs ∧ Mp kv4 vvn ok4 F n w mb ∧ RwV (fun x => [Value.int .i64 x]) 1 w a1 ms ∧ TInv rs rs.length F ms ∧ ms.length ≤ rs.length
theorem int_cells : CellsOf (fun x => [Value.int .i64 x]) 1 := ⟨fun _ => rfl, fun x v hv => by simp at hv; subst hv; rfl, by decide⟩
theorem int_flat (ms : List Int) : ms.map (Value.int .i64) = ms.flatMap (fun x => [Value.int .i64 x]) := by
  induction ms with
  | nil => rfl
  | cons x l ih => simp [ih]
theorem TB.below {w w' : World} {p : Nat} {rs : List Rl} (h : TB w p rs) (hb : Below w.heap.size w w') : TB w' p rs := by
  obtain ⟨hlt, mb, a0, c0, F, n, a1, c1, ms, h0, h1, h2, h3, h4, h5, h6, h7⟩ := h
  exact ⟨Nat.lt_of_lt_of_le hlt hb.size, mb, a0, c0, F, n, a1, c1, ms, (hb.cell (p := ⟨p, 0, none⟩) hlt).trans h0, (hb.cell (p := ⟨p, 1, none⟩) hlt).trans h1, (hb.cell (p := ⟨p, 2, none⟩) hlt).trans h2, h3.below hb, h4.below hb h4.lt, h5.below hb, h6, h7⟩
theorem NT.done (h : NT w z p mb a0 c0 v rs rs.length F ms) (ht : TInv rs rs.length F ms) (hl : ms.length ≤ rs.length) : TB z p rs := by
  have ho := h.own
  rw [int_flat] at ho
  obtain ⟨a1, c1, rfl, hr, _⟩ := RwV.of_own int_cells ho
  exact ⟨h.plt, mb, a0, c0, F, rs.length, a1, c1, ms, h.c0, h.c1, h.c2, h.rls, h.mp, hr, ht, hl⟩
/-- What New hands back. -/
def NewPost (w : World) (rs : List Rl) (e : Ending) (w' : World) : Prop :=
  Below w.heap.size w w' ∧ ((rwv rs = 0 ∧ ∃ p, e = .returned (.tuple #[.pointer (some ⟨p, 0, none⟩), .int .i64 0]) ∧ TB w' p rs ∧ w.heap.size ≤ p) ∨ (rwv rs = 1 ∧ e = .returned (.tuple #[.pointer none, .int .i64 1])))
theorem new_long (n : Nat) (a : Option Addr) (c : Nat) (hn : 32 < n) (w : World) : Calls Try.prog 13 #[.slice a n c] w fun ee w' => ee = .returned (.tuple #[.pointer none, .int .i64 2]) ∧ Below w.heap.size w w' := by
  have d1 : decide (32 < (n : Int)) = true := by simp; omega
  go_enter Try.func13, Try.ntmps13
  go_wp2
  (go_ret2; refine ⟨?_, ?_⟩; (focus (exact rfl)); ((repeat' (first | with_reducible exact Below.refl _ _ | with_reducible assumption | ((with_reducible refine Below.drew ?_)) | ((with_reducible refine below_drewN ?_ _)) | ((with_reducible refine Below.alloc ?_ ?_ _); rotate_left; focus (first | omega | (simp; done) | (simp; omega))) | ((with_reducible refine Below.setCell ?_ ?_ _); rotate_left; focus (first | omega | (simp; done) | (simp; omega))) | ((with_reducible refine Below.trans ?_ (Below.mono (by with_reducible assumption) ?_)); rotate_left; focus (first | omega | (simp; done) | (simp; omega))))); done))
end Go.Proofs.Ytkbglhkhhoakgaa
