/- meter.Of's closures. -/
import Derived.Test.YtdahjhokcjfioaaEv3
import Derived.Test.YtdahjhokcjfioaaMeter8
namespace Go.Proofs.Ytdahjhokcjfioaa
set_option linter.unusedVariables false
set_option linter.unusedSimpArgs false
set_option maxRecDepth 100000
open Go.RowKit Fg Reg
attribute [local irreducible] Reg.wE

/-- Is it one that counts? -/
def ocnt (zs : List Int) (e : Ev) : Bool := !e.inn && has zs e.cls
theorem cnt_c (e : Ev) (bx : Nat) (zs : List Int) (az : Option Addr) (cz : Nat) (hz : zs.length ≤ 4611686018427387904) (w : World) (hx : w.cell? ⟨bx, 0, none⟩ = some (.slice az zs.length cz)) (hxl : bx < w.heap.size) (hZ : IntsV w az zs) :
    Calls Try.prog 125 #[.agg #[.int .i64 (e).op, .bool (e).inn, .bool (e).real, .int .u64 (e).tm, .int .u64 (e).dn, .int .i64 (e).cls, .int .u64 (e).id, .int .i64 (e).ln, .int .u16 (e).a, .int .u16 (e).b, .int .u16 (e).c, .int .u16 (e).d], .pointer (some ⟨bx, 0, none⟩)] w fun ee w' => ee = .returned (.bool (ocnt zs e)) ∧ Below w.heap.size w w' := by
  obtain ⟨op, inn, real, tm, dn, cls, id, ln, a, b, c, d⟩ := e
  have HA := Lib.hid (fun o : Obj => hZ.below ((Below.refl w.heap.size w).alloc (Nat.le_refl _) o))
  have KN := Lib.hid (fun (z : World) (h : IntsV z az zs) => con_c zs az cz cls hz z h)
  unfold ocnt
  dsimp only
  clear hZ
  cases inn with
  | true =>
    simp only [Bool.not_true, Bool.false_and]
    go_enter Try.func125, Try.ntmps125
    go_wp2
    (go_ret; refine ⟨?_, ?_⟩; (focus (exact rfl)); ((repeat' (first | with_reducible exact Below.refl _ _ | with_reducible assumption | ((with_reducible refine Below.drew ?_)) | ((with_reducible refine below_drewN ?_ _)) | ((with_reducible refine Below.alloc ?_ ?_ _); rotate_left; focus (first | omega | (simp; done) | (simp; omega))) | ((with_reducible refine Below.setCell ?_ ?_ _); rotate_left; focus (first | omega | (simp; done) | (simp; omega))) | ((with_reducible refine Below.trans ?_ (Below.mono (by with_reducible assumption) ?_)); rotate_left; focus (first | omega | (simp; done) | (simp; omega))))); done))
  | false =>
    simp only [Bool.not_false, Bool.true_and]
    go_enter Try.func125, Try.ntmps125
    go_wp2_with (go_at_call 120; (with_reducible refine (KN.out _ (HA.out _)).mono ?_); rintro ee wz ⟨rfl, rfl⟩)
    (go_ret; refine ⟨?_, ?_⟩; (focus (exact rfl)); ((repeat' (first | with_reducible exact Below.refl _ _ | with_reducible assumption | ((with_reducible refine Below.drew ?_)) | ((with_reducible refine below_drewN ?_ _)) | ((with_reducible refine Below.alloc ?_ ?_ _); rotate_left; focus (first | omega | (simp; done) | (simp; omega))) | ((with_reducible refine Below.setCell ?_ ?_ _); rotate_left; focus (first | omega | (simp; done) | (simp; omega))) | ((with_reducible refine Below.trans ?_ (Below.mono (by with_reducible assumption) ?_)); rotate_left; focus (first | omega | (simp; done) | (simp; omega))))); done))

/-- What is in memory while meter.Of goes on. -/
structure MF (w z : World) (lx cx mx bx x : Nat) (az : Option Addr) (n cz : Nat) (W s a k b last : Int) : Prop where
  tm : TM w z x W s a k b
  l0 : z.cell? ⟨lx, 0, none⟩ = some (.int .u64 last)
  lf : z.frozen? ⟨lx, 0, none⟩ = false
  c0 : z.cell? ⟨cx, 0, none⟩ = some (.func (.func 125) #[] #[.pointer (some ⟨bx, 0, none⟩)])
  m0 : z.cell? ⟨mx, 0, none⟩ = some (.pointer (some ⟨x, 0, none⟩))
  b0 : z.cell? ⟨bx, 0, none⟩ = some (.slice az n cz)
  ls : lx < z.heap.size
  cs : cx < z.heap.size
  ms : mx < z.heap.size
  bs : bx < z.heap.size
  lx1 : ¬ lx = x
  cx1 : ¬ cx = x
  mx1 : ¬ mx = x
  bx1 : ¬ bx = x
  lc : ¬ cx = lx
  lm : ¬ mx = lx
  lb : ¬ bx = lx
  lw : w.heap.size ≤ lx
theorem MF.up {w z z' : World} {lx cx mx bx x : Nat} {az : Option Addr} {n cz : Nat} {W s a k b last a' k' b' : Int} (h : MF w z lx cx mx bx x az n cz W s a k b last) (hT : TM w z' x W s a' k' b') (ho : Only (fun k => k = x) z z') : MF w z' lx cx mx bx x az n cz W s a' k' b' last :=
  ⟨hT, (ho.cell h.ls h.lx1).trans h.l0, (ho.frozen h.ls h.lx1).trans h.lf, (ho.cell h.cs h.cx1).trans h.c0, (ho.cell h.ms h.mx1).trans h.m0, (ho.cell h.bs h.bx1).trans h.b0,
    Nat.lt_of_lt_of_le h.ls ho.size, Nat.lt_of_lt_of_le h.cs ho.size, Nat.lt_of_lt_of_le h.ms ho.size, Nat.lt_of_lt_of_le h.bs ho.size, h.lx1, h.cx1, h.mx1, h.bx1, h.lc, h.lm, h.lb, h.lw⟩
theorem MF.below {w z z' : World} {lx cx mx bx x : Nat} {az : Option Addr} {n cz : Nat} {W s a k b last : Int} (h : MF w z lx cx mx bx x az n cz W s a k b last) (hb : Below z.heap.size z z') : MF w z' lx cx mx bx x az n cz W s a k b last :=
  h.up (h.tm.below hb) (Only.of_below hb)
theorem MF.setL {w z : World} {lx cx mx bx x : Nat} {az : Option Addr} {n cz : Nat} {W s a k b last : Int} (h : MF w z lx cx mx bx x az n cz W s a k b last) (t : Int) : MF w (z.setCell ⟨lx, 0, none⟩ (.int .u64 t)) lx cx mx bx x az n cz W s a k b t := by
  have ho : Only (fun k => k = lx) z (z.setCell ⟨lx, 0, none⟩ (.int .u64 t)) := (Only.refl (fun k => k = lx) z).setCell (.inl rfl) _
  have h0 := h.l0
  have hf := h.lf
  exact ⟨h.tm.setC (p := ⟨lx, 0, none⟩) h.lx1 h.lw _, by simp [go_sem, h0], by simp [go_sem, hf], (ho.cell h.cs h.lc).trans h.c0, (ho.cell h.ms h.lm).trans h.m0, (ho.cell h.bs h.lb).trans h.b0,
    Nat.lt_of_lt_of_le h.ls ho.size, Nat.lt_of_lt_of_le h.cs ho.size, Nat.lt_of_lt_of_le h.ms ho.size, Nat.lt_of_lt_of_le h.bs ho.size, h.lx1, h.cx1, h.mx1, h.bx1, h.lc, h.lm, h.lb, h.lw⟩
/-- One event: an error, and the meter behind it. -/
def ofst (W q : Int) (zs : List Int) (a n b : Int) (e : Ev) : Int × Int × Int × Int := if ocnt zs e = true then adds W q a n b e.tm e.ln else (0, a, n, b)
end Go.Proofs.Ytdahjhokcjfioaa
