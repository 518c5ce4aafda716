/- meter.Of's closures, and each. -/
import Derived.Test.YtdahjhokcjfioaaMo1
namespace Go.Proofs.Ytdahjhokcjfioaa
set_option linter.unusedVariables false
set_option linter.unusedSimpArgs false
set_option maxRecDepth 100000
open Go.RowKit Fg Reg
attribute [local irreducible] Reg.wE TM

set_option maxHeartbeats 2000000 in
theorem of2_c (e : Ev) (lx cx mx bx x : Nat) (zs : List Int) (az : Option Addr) (cz : Nat) (W a n b last : Int) (s : Nat) (h1 : 0 < W) (hs : s ≤ 8) (hI : Inv a n b) (ht : 0 ≤ e.tm) (hm2 : e.ln ≤ 9223372036854775807) (hz : zs.length ≤ 4611686018427387904) (w z : World)
    (hM : MF w z lx cx mx bx x az zs.length cz W s a n b last) (hZ : IntsV w az zs) :
    Calls Try.prog 127 #[.agg #[.int .i64 (e).op, .bool (e).inn, .bool (e).real, .int .u64 (e).tm, .int .u64 (e).dn, .int .i64 (e).cls, .int .u64 (e).id, .int .i64 (e).ln, .int .u16 (e).a, .int .u16 (e).b, .int .u16 (e).c, .int .u16 (e).d], .pointer (some ⟨lx, 0, none⟩), .pointer (some ⟨cx, 0, none⟩), .pointer (some ⟨mx, 0, none⟩)] z fun r z' => r = .returned (.int .i64 (ofst W (2 ^ s) zs a n b e).1) ∧ MF w z' lx cx mx bx x az zs.length cz W s (ofst W (2 ^ s) zs a n b e).2.1 (ofst W (2 ^ s) zs a n b e).2.2.1 (ofst W (2 ^ s) zs a n b e).2.2.2 e.tm := by
  have k1 := fun y h1 h2 h3 => cnt_c e bx zs az cz hz y h1 h2 h3
  have k2 := fun y hT => add_is (x := x) (w := w) (W := W) (s := s) (t := e.tm) (m := e.ln) h1 hs hI ht hm2 (adds W (2 ^ s) a n b e.tm e.ln).1 (adds W (2 ^ s) a n b e.tm e.ln).2.1 (adds W (2 ^ s) a n b e.tm e.ln).2.2.1 (adds W (2 ^ s) a n b e.tm e.ln).2.2.2 rfl y hT
  have HM := Lib.hid (fun (o : Obj) => (hM.setL e.tm).below ((Below.refl _ _).alloc (Nat.le_refl _) o))
  have HZ := Lib.hid (fun (o : Obj) => hZ.below ((hM.setL e.tm).below ((Below.refl _ _).alloc (Nat.le_refl _) o)).tm.bl)
  have hl0 := hM.l0
  have hlf := hM.lf
  have hc0 := hM.c0
  have hb0 := hM.b0
  have hls := hM.ls
  have hcs := hM.cs
  have hbs := hM.bs
  have hlc := hM.lc
  have hlb := hM.lb
  obtain ⟨op, inn, real, tm, dn, cls, id, ln, ha, hb, hc, hd⟩ := e
  unfold ofst
  dsimp only at *
  have n1 : ¬ lx = z.heap.size := by omega
  have n2 : ¬ cx = z.heap.size := by omega
  have n3 : ¬ bx = z.heap.size := by omega
  have n4 : ¬ z.heap.size = lx := by omega
  cases hcn : ocnt zs ⟨op, inn, real, tm, dn, cls, id, ln, ha, hb, hc, hd⟩ with
  | false =>
    rw [hcn] at k1
    simp only [Bool.false_eq_true, if_false]
    have K1 := Lib.hid k1
    clear k1 k2 hM hZ hcn hI
    go_enter Try.func127, Try.ntmps127
    go_wp2_with (go_at_call 125; (with_reducible refine (K1.out _ (by go_simp) (by go_simp) (HZ.out _)).mono ?_); rintro ee w3 ⟨rfl, hb3⟩; have hM3 := Lib.hid ((HM.out _).below hb3))
    go_ret
    exact ⟨rfl, hM3.out⟩
  | true =>
    rw [hcn] at k1
    simp only [if_true]
    generalize (adds W (2 ^ s) a n b tm ln).1 = E' at *
    generalize (adds W (2 ^ s) a n b tm ln).2.1 = A' at *
    generalize (adds W (2 ^ s) a n b tm ln).2.2.1 = N' at *
    generalize (adds W (2 ^ s) a n b tm ln).2.2.2 = B' at *
    have K1 := Lib.hid k1
    have K2 := Lib.hid k2
    clear k1 k2 hM hZ hcn hI
    go_enter Try.func127, Try.ntmps127
    go_wp2_with (first
      | (go_at_call 125; (with_reducible refine (K1.out _ (by go_simp) (by go_simp) (HZ.out _)).mono ?_); rintro ee w3 ⟨rfl, hb3⟩; have hM3 := Lib.hid ((HM.out _).below hb3); have hm0 := hM3.out.m0; have hms := hM3.out.ms; obtain ⟨hcc, hff⟩ := bcell hb3; have hsz := hb3.size; (try simp at hsz); have f3 : w3.cell? ⟨z.heap.size, 3, none⟩ = some (.int .u64 tm) := (by simp [go_sem, *]); have f7 : w3.cell? ⟨z.heap.size, 7, none⟩ = some (.int .i64 ln) := (by simp [go_sem, *]); have hzs : z.heap.size < w3.heap.size := (by omega); clear hcc hff hb3)
      | (go_at_call 123; (with_reducible refine (K2.out _ hM3.out.tm).mono ?_); rintro ee w4 ⟨rfl, hT4, hO4⟩; have hM4 := Lib.hid (hM3.out.up hT4 hO4)))
    go_ret
    exact ⟨rfl, hM4.out⟩

def osf (W q : Int) (zs : List Int) (st : Int × Int × Int × Int) (e : Ev) : Int × Int × Int × Int := if st.1 = 0 then ofst W q zs st.2.1 st.2.2.1 st.2.2.2 e else st
def orun (W q : Int) (zs : List Int) (es : List Ev) : Int × Int × Int × Int := es.foldl (osf W q zs) (0, 0, 0, 0)
def lst (es : List Ev) : Int := es.foldl (fun _ e => e.tm) 0
theorem orun_succ (W q : Int) (zs : List Int) (es : List Ev) (k : Nat) (h : k < es.length) : orun W q zs (es.take (k + 1)) = osf W q zs (orun W q zs (es.take k)) es[k] := by
  unfold orun
  rw [take_snoc'' es k h, List.foldl_append]; rfl
theorem lst_succ (es : List Ev) (k : Nat) (h : k < es.length) : lst (es.take (k + 1)) = es[k].tm := by
  unfold lst
  rw [take_snoc'' es k h, List.foldl_append]; rfl
theorem osf_stuck (W q : Int) (zs : List Int) : ∀ (l : List Ev) (st : Int × Int × Int × Int), st.1 ≠ 0 → l.foldl (osf W q zs) st = st
  | [], _, _ => rfl
  | e :: l, st, h => by
    have : osf W q zs st e = st := by unfold osf; rw [if_neg h]
    rw [List.foldl_cons, this]
    exact osf_stuck W q zs l st h
theorem orun_stuck (W q : Int) (zs : List Int) (es : List Ev) (k : Nat) (h : (orun W q zs (es.take k)).1 ≠ 0) : orun W q zs es = orun W q zs (es.take k) := by
  have e : es = es.take k ++ es.drop k := (List.take_append_drop k es).symm
  have : orun W q zs es = (es.drop k).foldl (osf W q zs) (orun W q zs (es.take k)) := by
    conv => lhs; rw [e]
    unfold orun; rw [List.foldl_append]
  rw [this, osf_stuck _ _ _ _ _ h]
theorem inv_ofst {W a n b : Int} {s : Nat} {zs : List Int} {e : Ev} (h : Inv a n b) : Inv (ofst W (2 ^ s) zs a n b e).2.1 (ofst W (2 ^ s) zs a n b e).2.2.1 (ofst W (2 ^ s) zs a n b e).2.2.2 := by
  unfold ofst
  split
  · exact inv_adds h
  · exact h
end Go.Proofs.Ytdahjhokcjfioaa
