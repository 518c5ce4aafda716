/- Joined texts. -/
import Derived.Test.YtghjdkdjdpgdiaaBs0
import Derived.Test.YtghjdkdjdpgdiaaBs9
import Derived.Laws.AppendOwn
import Derived.Laws.OwnMore
set_option linter.unusedVariables false
set_option linter.unusedSimpArgs false
set_option maxRecDepth 100000
set_option maxHeartbeats 16000000
section
namespace Go.Proofs.Ytghjdkdjdpgdiaa
open Go.RowKit Fg Reg
structure Sp where
 fr : Int
 tt : Int
 fi : Nat
 la : Nat
 op : Bool
instance : Inhabited Sp := ⟨⟨0, 0, 0, 0, false⟩⟩
def Sp.cells (s : Sp) : List Value := [.int .u64 s.fr, .int .u64 s.tt, .int .i64 s.fi, .int .i64 s.la, .bool s.op]
structure SS where
 p : Nat
 cl : List Sp
 fr : Int
 fi : Nat
def SS.rows (s : SS) : List Sp := s.cl ++ if s.p = 0 then [] else [⟨s.fr, 0, s.fi, 0, true⟩]
def sstep (zs : List Int) (s : SS) (i : Nat) (e : Ev) : SS :=
 if has zs e.cls = true then
  if e.inn = true then (if s.p = 0 then ⟨1, s.cl, e.tm, i⟩ else ⟨s.p + 1, s.cl, s.fr, s.fi⟩)
  else if s.p = 1 then ⟨0, s.cl ++ [⟨s.fr, e.tm, s.fi, i, false⟩], s.fr, s.fi⟩
  else ⟨s.p - 1, s.cl, s.fr, s.fi⟩
 else s
def srun (zs : List Int) (es : List Ev) : Nat → SS
 | 0 => ⟨0, [], 0, 0⟩
 | k + 1 => match es[k]? with
  | none => srun zs es k
  | some e => sstep zs (srun zs es k) k e
theorem srun_succ (zs : List Int) (es : List Ev) (k : Nat) (h : k < es.length) : srun zs es (k + 1) = sstep zs (srun zs es k) k es[k] := by
 rw [srun, List.getElem?_eq_getElem h]
theorem srun_p (zs : List Int) (es : List Ev) : ∀ k, (srun zs es k).p ≤ k ∧ (srun zs es k).cl.length ≤ k
 | 0 => ⟨Nat.le_refl _, Nat.le_refl _⟩
 | k + 1 => by
  have ih := srun_p zs es k
  rw [srun]
  split
  ·omega
  ·unfold sstep
   (repeat' split) <;> (try simp) <;> omega
theorem sp_len (l : List Sp) : (l.flatMap Sp.cells).length = l.length * 5 := by
 induction l with
 | nil => rfl
 | cons x l ih => rw [List.flatMap_cons, List.length_append, ih, List.length_cons]; show 5 + _ = _; omega
theorem sp_close (cl : List Sp) (fr tm : Int) (fi k : Nat) :
  ((((cl ++ [(⟨fr, 0, fi, 0, true⟩ : Sp)]).flatMap Sp.cells).set (cl.length * 5 + 1) (.int .u64 tm)).set (cl.length * 5 + 3) (.int .i64 k)).set (cl.length * 5 + 4) (.bool false) = (cl ++ [(⟨fr, tm, fi, k, false⟩ : Sp)]).flatMap Sp.cells := by
 have hl := sp_len cl
 rw [List.flatMap_append, List.flatMap_append, List.set_append_right _ _ (by omega), List.set_append_right _ _ (by omega), List.set_append_right _ _ (by omega), hl]
 rw [show cl.length * 5 + 1 - cl.length * 5 = 1 by omega, show cl.length * 5 + 3 - cl.length * 5 = 3 by omega, show cl.length * 5 + 4 - cl.length * 5 = 4 by omega]
 rfl
theorem below_grown {B : Nat} {w z z' : World} {row : Option Nat} (h : Below B w z) (hg : z.grownBy z' row) (hB : B ≤ z.heap.size) (hr : ∀ k, row = some k → B ≤ k) : Below B w z' :=
 (Only.of_grown hg hr).below h hB (fun k hk => hk)
theorem own_blk {z : World} {B m size : Nat} {e : TypeId} {v : Value} {xs : List Value} (h : z.ownsRow B e size v m xs) : ∀ k, v.ownBlock = some k → B ≤ k := by
 intro k hk
 rcases h.2 with ⟨rfl, _⟩ | ⟨b, cap, cur, rfl, hb, _⟩
 ·simp [Value.ownBlock] at hk
 ·simp [Value.ownBlock] at hk; omega
theorem sp_info : (Try.prog.info? 103).map (fun i => (i.zero, i.size, i.bytes)) = some (some (.agg #[.int .u64 0, .int .u64 0, .int .i64 0, .int .i64 0, .bool false]), 5, 40) := by kernel_rfl
theorem sp_parts : ∃ i, Try.prog.info? 103 = some i ∧ i.zero = some (.agg #[.int .u64 0, .int .u64 0, .int .i64 0, .int .i64 0, .bool false]) ∧ i.size = 5 ∧ i.bytes = 40 := by
 obtain ⟨i, hi, h⟩ := Option.map_eq_some_iff.1 sp_info
 simp only [Prod.mk.injEq] at h
 exact ⟨i, hi, h.1, h.2.1, h.2.2⟩
theorem of_c (zs : List Int) (es : List Ev) (a a2 : Option Addr) (c c2 : Nat) (hn : es.length ≤ 100000) (hn2 : zs.length ≤ 100000) (w : World) (hE : EvsV w a es) (hZ : IntsV w a2 zs) :
  Calls Try.prog 49 #[.slice a es.length c, .slice a2 zs.length c2] w fun e w' => (∃ v, e = .returned v ∧ w'.ownsRow w.heap.size 103 5 v (srun zs es es.length).rows.length ((srun zs es es.length).rows.flatMap Sp.cells)) ∧ Below w.heap.size w w' := by
 obtain ⟨ie, HI0, HZ0, HZ1, HZ2⟩ := sp_parts
 have KC := Lib.hid (fun x w' (hb : Below w.heap.size w w') => con_c zs a2 c2 x (by omega) w' (hZ.below hb))
 have HE := Lib.hid hE
 have HS := Lib.hid (srun_succ zs es)
 have HP := Lib.hid (srun_p zs es)
 have EI := Lib.hid ev_info
 clear hE hZ
 go_enter Try.func49, Try.ntmps49
 go_wp2_with fail
 go_loopw [5, 6, 12] (fun uo vp i wr => ∃ (k : Nat) (vo : Value), k ≤ es.length ∧ i = .int .i64 k ∧ vo = uo ∧ vp = .int .i64 (srun zs es k).p ∧ wr.ownsRow w.heap.size 103 5 vo (srun zs es k).rows.length ((srun zs es k).rows.flatMap Sp.cells) ∧ Below w.heap.size w wr) (fun _ _ i _ => es.length - (intOf i).toNat)
 case atStart => exact ⟨0, _, Nat.zero_le _, rfl, rfl, rfl, World.ownsRow_nil _ _ _ _, Below.refl _ _⟩
 case round =>
  obtain ⟨k, vo, hk, rfl, rfl, rfl, hO, hB⟩ := hrel
  by_cases hlt : k < es.length
  ·have hs := HS.out k hlt
   have hp := HP.out k
   obtain ⟨b, o, rfl, hb, hr⟩ := (HE.out.below hB) k hlt
   have hrow := hr
   generalize es[k] = e at hs hr
   generalize srun zs es k = s at hs hp hO
   obtain ⟨s', hs'⟩ : ∃ s', srun zs es (k + 1) = s' := ⟨_, rfl⟩
   rw [hs'] at hs
   have HN := Lib.hid hs'
   clear hs'
   have hB1 : ∀ ob, Below w.heap.size w (wr.alloc ob) := fun ob => hB.alloc hB.size ob
   have hO1 := fun ob => hO.alloc ob
   have hws := hB.size
   unfold sstep at hs
   cases hh : has zs e.cls with
   | false =>
    have KF : ∀ w', Below w.heap.size w w' → _ := KC.out e.cls
    rw [hh] at hs KF
    obtain rfl : s' = s := hs
    have KG := Lib.hid KF
    clear hrow KF
    go_wp2_with (first
     | (refine wpList_load_mid rfl 97 _ rfl b (o + k * 12) rfl _ _ hr Try.underlying97 rfl EI.out ?_)
     | (refine wpList_store_new rfl 97 _ _ rfl _ #[.int .i64 e.op, .bool e.inn, .bool e.real, .int .u64 e.tm, .int .u64 e.dn, .int .i64 e.cls, .int .u64 e.id, .int .i64 e.ln, .int .u16 e.a, .int .u16 e.b, .int .u16 e.c, .int .u16 e.d] rfl rfl EI.out rfl (all_oneCell_toArray e.one) ?_)
     | (go_at_call 61; (with_reducible refine (KG.out _ (hB1 _)).mono ?_); rintro e1 w1 ⟨rfl, rfl⟩))
    go_roundw
    case rel => exact ⟨k + 1, _, by omega, by go_num, rfl, by rw [HN.out], by rw [HN.out]; exact hO1 _, hB1 _⟩
    case measure => simp [intOf]; omega
   | true =>
    have KF : ∀ w', Below w.heap.size w w' → _ := KC.out e.cls
    rw [hh] at hs KF
    rw [if_pos rfl] at hs
    have KG := Lib.hid KF
    clear hrow KF
    obtain ⟨p, cl, fr, fi⟩ := s
    have hpk : p ≤ k := hp.1
    have hcl : cl.length ≤ k := hp.2
    clear hp
    cases hi : e.inn with
    | true =>
     rw [hi, if_pos rfl] at hs
     by_cases h0 : p = 0
     ·subst h0
      rw [if_pos rfl] at hs
      subst hs
      have e0 : (SS.mk 0 cl fr fi).rows = cl := by simp [SS.rows]
      rw [e0] at hO1
      have e1 : (SS.mk 1 cl e.tm k).rows = cl ++ [⟨e.tm, 0, k, 0, true⟩] := by simp [SS.rows]
      have hB2 := fun ob => Nat.le_trans hws (Below.alloc (Below.refl _ _) (Nat.le_refl _) ob : Below wr.heap.size wr (wr.alloc ob)).size
      go_wp2_with (first
       | (refine wpList_load_mid rfl 97 _ rfl b (o + k * 12) rfl _ _ hr Try.underlying97 rfl EI.out ?_)
       | (refine wpList_store_new rfl 97 _ _ rfl _ #[.int .i64 e.op, .bool e.inn, .bool e.real, .int .u64 e.tm, .int .u64 e.dn, .int .i64 e.cls, .int .u64 e.id, .int .i64 e.ln, .int .u16 e.a, .int .u16 e.b, .int .u16 e.c, .int .u16 e.d] rfl rfl EI.out rfl (all_oneCell_toArray e.one) ?_)
       | (go_at_call 61; (with_reducible refine (KG.out _ (hB1 _)).mono ?_); rintro e1 w1 ⟨rfl, rfl⟩)
       | (at_builtin; refine wpList_append_own _ rfl _ _ 100 rfl w.heap.size 103 ie (.agg #[.int .u64 0, .int .u64 0, .int .i64 0, .int .i64 0, .bool false]) 5 40 Try.underlying100 HI0 HZ0 HZ1 HZ2 rfl (by decide) vo cl.length (cl.flatMap Sp.cells) rfl (World.ownsRow.alloc (hO1 _) _) ⟨_, 0, none⟩ 1 1 (Sp.cells ⟨e.tm, 0, k, 0, true⟩) rfl rfl ?c1 ?c2 ?c3 ?c4 ?c5 ?_))
      (case c1 => (intro j u hu; unfold Sp.cells at hu; rcases j with _ | _ | _ | _ | _ | j <;> simp at hu <;> (try subst hu) <;> simp [Addr.add, go_sem])); (case c2 => (intro u hu; simp [Sp.cells] at hu; rcases hu with rfl | rfl | rfl | rfl | rfl <;> rfl)); (case c3 => (unfold maxLen; omega)); (case c4 => omega); (case c5 => (simp; omega))
      intro v' w5 hown' hgrow _
      go_wp2
      go_roundw
      case rel =>
       refine ⟨k + 1, _, by omega, by go_num, rfl, by rw [HN.out]; rfl, ?_, ?_⟩
       ·rw [HN.out, e1]; simpa [List.flatMap_append, Sp.cells] using hown'
       ·exact below_grown ((hB1 _).alloc (hB1 _).size _) hgrow ((hB1 _).alloc (hB1 _).size _).size (own_blk hO)
      case measure => simp [intOf]; omega
     ·rw [if_neg h0] at hs
      subst hs
      have d0 : ((p : Int) == 0) = false := by simp; omega
      have W1 : IntKind.i64.wrap ((p : Int) + 1) = (p : Int) + 1 := by rw [IntKind.wrap_i64]; omega
      have e1 : (SS.mk (p + 1) cl fr fi).rows = (SS.mk p cl fr fi).rows := by simp [SS.rows, h0]
      go_wp2_with (first
       | (refine wpList_load_mid rfl 97 _ rfl b (o + k * 12) rfl _ _ hr Try.underlying97 rfl EI.out ?_)
       | (refine wpList_store_new rfl 97 _ _ rfl _ #[.int .i64 e.op, .bool e.inn, .bool e.real, .int .u64 e.tm, .int .u64 e.dn, .int .i64 e.cls, .int .u64 e.id, .int .i64 e.ln, .int .u16 e.a, .int .u16 e.b, .int .u16 e.c, .int .u16 e.d] rfl rfl EI.out rfl (all_oneCell_toArray e.one) ?_)
       | (go_at_call 61; (with_reducible refine (KG.out _ (hB1 _)).mono ?_); rintro e1 w1 ⟨rfl, rfl⟩))
      go_roundw
      case rel => exact ⟨k + 1, _, by omega, by go_num, rfl, by rw [HN.out]; simp, by rw [HN.out, e1]; exact hO1 _, hB1 _⟩
      case measure => simp [intOf]; omega
    | false =>
     rw [hi, if_neg (by simp)] at hs
     by_cases h1 : p = 1
     ·subst h1
      rw [if_pos rfl] at hs
      subst hs
      have e0 : (SS.mk 1 cl fr fi).rows = cl ++ [⟨fr, 0, fi, 0, true⟩] := by simp [SS.rows]
      rw [e0] at hO1 hO
      have e1 : (SS.mk 0 (cl ++ [⟨fr, e.tm, fi, k, false⟩]) fr fi).rows = cl ++ [⟨fr, e.tm, fi, k, false⟩] := by simp [SS.rows]
      obtain ⟨g, cap, rfl⟩ : ∃ g cap, vo = Value.slice (some ⟨g, 0, none⟩) (cl.length + 1) cap := by
       rcases hO.2 with ⟨_, h⟩ | ⟨g, cap, cur, h, _⟩
       ·simp at h
       ·exact ⟨g, cap, by simpa using h⟩
      have hO2 : wr.ownsRow w.heap.size 103 5 (.slice (some ⟨g, 0, none⟩) (cl.length + 1) cap) (cl.length + 1) ((cl ++ [(⟨fr, 0, fi, 0, true⟩ : Sp)]).flatMap Sp.cells) := by simpa using hO
      have hg := (hO2.lt g rfl).2
      have hgB := (hO2.lt g rfl).1
      have hl5 := sp_len cl
      have c1 : wr.cell? ⟨g, cl.length * 5 + 1, none⟩ = some (.int .u64 0) := by rw [hO2.cellAt _ (by omega), List.flatMap_append, List.getElem?_append_right (by omega), hl5]; simp [Sp.cells]
      have c3 : wr.cell? ⟨g, cl.length * 5 + 3, none⟩ = some (.int .i64 0) := by rw [hO2.cellAt _ (by omega), List.flatMap_append, List.getElem?_append_right (by omega), hl5]; simp [Sp.cells]
      have c4 : wr.cell? ⟨g, cl.length * 5 + 4, none⟩ = some (.bool true) := by rw [hO2.cellAt _ (by omega), List.flatMap_append, List.getElem?_append_right (by omega), hl5]; simp [Sp.cells]
      have f1 := hO2.frozenAt (cl.length * 5 + 1)
      have f3 := hO2.frozenAt (cl.length * 5 + 3)
      have f4 := hO2.frozenAt (cl.length * 5 + 4)
      have HO := Lib.hid hO2
      have HB := Lib.hid hB1
      have W1 : IntKind.i64.wrap (cl.length : Int) = cl.length := by rw [IntKind.wrap_i64]; omega
      clear hO1 hO2 hO hB1
      go_wp2_with (first
       | (refine wpList_load_mid rfl 97 _ rfl b (o + k * 12) rfl _ _ hr Try.underlying97 rfl EI.out ?_)
       | (refine wpList_store_new rfl 97 _ _ rfl _ #[.int .i64 e.op, .bool e.inn, .bool e.real, .int .u64 e.tm, .int .u64 e.dn, .int .i64 e.cls, .int .u64 e.id, .int .i64 e.ln, .int .u16 e.a, .int .u16 e.b, .int .u16 e.c, .int .u16 e.d] rfl rfl EI.out rfl (all_oneCell_toArray e.one) ?_)
       | (go_at_call 61; (with_reducible refine (KG.out _ (HB.out _)).mono ?_); rintro e1 w1 ⟨rfl, rfl⟩))
      go_roundw
      case rel =>
       refine ⟨k + 1, _, by omega, by go_num, rfl, by rw [HN.out]; rfl, ?_, ?_⟩
       ·have h3 := (((HO.out.stored (cl.length * 5 + 1) (.int .u64 e.tm)).1.stored (cl.length * 5 + 3) (.int .i64 k)).1.stored (cl.length * 5 + 4) (.bool false)).1
        rw [HN.out, e1]
        rw [sp_close] at h3
        have h4 := fun ob => h3.alloc ob
        simpa using h4 _
       ·exact blb
      case measure => simp [intOf]; omega
     ·rw [if_neg h1] at hs
      subst hs
      have d0 : ((p : Int) == 1) = false := by simp; omega
      by_cases h0 : p = 0
      ·subst h0
       go_wp2_with (first
        | (refine wpList_load_mid rfl 97 _ rfl b (o + k * 12) rfl _ _ hr Try.underlying97 rfl EI.out ?_)
        | (refine wpList_store_new rfl 97 _ _ rfl _ #[.int .i64 e.op, .bool e.inn, .bool e.real, .int .u64 e.tm, .int .u64 e.dn, .int .i64 e.cls, .int .u64 e.id, .int .i64 e.ln, .int .u16 e.a, .int .u16 e.b, .int .u16 e.c, .int .u16 e.d] rfl rfl EI.out rfl (all_oneCell_toArray e.one) ?_)
        | (go_at_call 61; (with_reducible refine (KG.out _ (hB1 _)).mono ?_); rintro e1 w1 ⟨rfl, rfl⟩))
       go_roundw
       case rel => exact ⟨k + 1, _, by omega, by go_num, rfl, by rw [HN.out]; rfl, by rw [HN.out]; exact hO1 _, hB1 _⟩
       case measure => simp [intOf]; omega
      ·have W1 : IntKind.i64.wrap ((p : Int) - 1) = ((p - 1 : Nat) : Int) := by rw [IntKind.wrap_i64]; omega
       have d1 : decide (1 < (p : Int)) = true := by simp; omega
       have e1 : (SS.mk (p - 1) cl fr fi).rows = (SS.mk p cl fr fi).rows := by simp [SS.rows, h0, show ¬ p - 1 = 0 by omega]
       go_wp2_with (first
        | (refine wpList_load_mid rfl 97 _ rfl b (o + k * 12) rfl _ _ hr Try.underlying97 rfl EI.out ?_)
        | (refine wpList_store_new rfl 97 _ _ rfl _ #[.int .i64 e.op, .bool e.inn, .bool e.real, .int .u64 e.tm, .int .u64 e.dn, .int .i64 e.cls, .int .u64 e.id, .int .i64 e.ln, .int .u16 e.a, .int .u16 e.b, .int .u16 e.c, .int .u16 e.d] rfl rfl EI.out rfl (all_oneCell_toArray e.one) ?_)
        | (go_at_call 61; (with_reducible refine (KG.out _ (hB1 _)).mono ?_); rintro e1 w1 ⟨rfl, rfl⟩))
       go_roundw
       case rel => exact ⟨k + 1, _, by omega, by go_num, rfl, by rw [HN.out], by rw [HN.out, e1]; exact hO1 _, hB1 _⟩
       case measure => simp [intOf]; omega
  ·obtain rfl : k = es.length := by omega
   clear hlt HE KC HS HP
   go_wp2
   go_ret
   exact ⟨⟨_, rfl, hO⟩, hB⟩
end Go.Proofs.Ytghjdkdjdpgdiaa
end
section
namespace Go.Proofs.Ytghjdkdjdpgdiaa
open Go.RowKit Fg Reg
attribute [local irreducible] Reg.wE
theorem Sp.one (x : Sp) : ∀ v ∈ x.cells, v.oneCell' = true := by
 intro v hv
 unfold Sp.cells at hv
 simp only [List.mem_cons, List.not_mem_nil, or_false] at hv
 rcases hv with rfl | rfl | rfl | rfl | rfl <;> rfl
def SpV (z : World) (B : Nat) (a : Option Addr) (l : List Sp) : Prop := ∀ k (h : k < l.length), ∃ g, a = some ⟨g, 0, none⟩ ∧ B ≤ g ∧ g < z.heap.size ∧ z.rangeAt g (k * 5) l[k].cells
theorem SpV.below {z z' : World} {B : Nat} {a : Option Addr} {l : List Sp} (h : SpV z B a l) (hb : Below z.heap.size z z') : SpV z' B a l := fun k hk => by
 obtain ⟨g, e, h0, h1, h2⟩ := h k hk
 exact ⟨g, e, h0, Nat.lt_of_lt_of_le h1 hb.size, fun j v hv => (hb.cell (p := ⟨g, k * 5 + j, none⟩) h1).trans (h2 j v hv)⟩
theorem sp_get (l : List Sp) (k j : Nat) (hk : k < l.length) (hj : j < 5) : (l.flatMap Sp.cells)[k * 5 + j]? = l[k].cells[j]? := by
 induction l generalizing k with
 | nil => exact absurd hk (Nat.not_lt_zero _)
 | cons x l ih =>
  have hl : x.cells.length = 5 := rfl
  rw [List.flatMap_cons]
  cases k with
  | zero => rw [List.getElem?_append_left (by omega), Nat.zero_mul, Nat.zero_add]; rfl
  | succ k =>
   rw [List.getElem?_append_right (by omega), hl, show (k + 1) * 5 + j - 5 = k * 5 + j by omega]
   exact ih k (by simpa using hk)
theorem spv_of {z : World} {B : Nat} {v : Value} {t : TypeId} {l : List Sp} (h : z.ownsRow B t 5 v l.length (l.flatMap Sp.cells)) : ∃ a cap, v = .slice a l.length cap ∧ SpV z B a l := by
 rcases h.2 with ⟨h1, h2⟩ | ⟨b, cap, cur, rfl, h2, h3, h4⟩
 ·exact ⟨none, 0, by rw [h2]; exact h1, fun k hk => absurd hk (by omega)⟩
 ·refine ⟨_, cap, rfl, fun k hk => ⟨b, rfl, h2, (h.lt b rfl).2, fun j v hv => ?_⟩⟩
  have hj : j < 5 := (List.getElem?_eq_some_iff.1 hv).1
  rw [h.cellAt _ (by omega), sp_get l k j hk hj]
  exact hv
theorem sp_all (zs : List Int) (es : List Ev) : ∀ k, ∀ x ∈ (srun zs es k).cl, x.op = false
 | 0 => by simp [srun]
 | k + 1 => by
  have ih := sp_all zs es k
  rw [srun]
  split
  ·exact ih
  ·unfold sstep
   (repeat' split) <;> (try exact ih)
   intro x hx
   rcases List.mem_append.1 hx with h | h
   ·exact ih x h
   ·simp at h; subst h; rfl
theorem ofv_c (zs : List Int) (es : List Ev) (a a2 : Option Addr) (c c2 : Nat) (hn : es.length ≤ 100000) (hn2 : zs.length ≤ 100000) (w : World) (hE : EvsV w a es) (hZ : IntsV w a2 zs) :
  Calls Try.prog 49 #[.slice a es.length c, .slice a2 zs.length c2] w fun e w' => (∃ ao cap, e = .returned (.slice ao (srun zs es es.length).rows.length cap) ∧ SpV w' w.heap.size ao (srun zs es es.length).rows) ∧ Below w.heap.size w w' :=
 (of_c zs es a a2 c c2 hn hn2 w hE hZ).mono fun e w' ⟨⟨v, he, ho⟩, hb⟩ => by
  obtain ⟨ao, cap, rfl, hs⟩ := spv_of ho
  exact ⟨⟨ao, cap, he, hs⟩, hb⟩
theorem bl_c (zs : List Int) (es : List Ev) (a a2 : Option Addr) (c c2 : Nat) (hn : es.length ≤ 100000) (hn2 : zs.length ≤ 100000) (w : World) (hE : EvsV w a es) (hZ : IntsV w a2 zs) :
  Calls Try.prog 50 #[.slice a es.length c, .slice a2 zs.length c2] w fun ee w' => ee = .returned (.bool (decide (0 < (srun zs es es.length).p))) ∧ Below w.heap.size w w' := by
 have K := Lib.hid (ofv_c zs es a a2 c c2 hn hn2 w hE hZ)
 have hp := srun_p zs es es.length
 have hal := sp_all zs es es.length
 clear hE hZ
 generalize srun zs es es.length = s at K hp hal
 obtain ⟨p, cl, fr, fi⟩ := s
 by_cases h0 : p = 0
 ·subst h0
  have e0 : (SS.mk 0 cl fr fi).rows = cl := by simp [SS.rows]
  rw [e0] at K
  have hc1 : cl.length ≤ es.length := hp.2
  rcases List.eq_nil_or_concat cl with rfl | ⟨l, x, rfl⟩
  ·go_enter Try.func50, Try.ntmps50
   go_wp2_with (go_at_call 49; (with_reducible refine (K.out).mono ?_); rintro e w1 ⟨⟨ao, cap, rfl, hS⟩, hb⟩; clear hS)
   (go_ret; refine ⟨?_, ?_⟩; (focus (exact rfl)); exact blb)
  ·have hx : x.op = false := hal x (by simp)
   have hl : (l.concat x).length = l.length + 1 := by simp
   rw [hl] at K hc1
   have W1 : IntKind.i64.wrap (l.length : Int) = l.length := by rw [IntKind.wrap_i64]; omega
   go_enter Try.func50, Try.ntmps50
   go_wp2_with (go_at_call 49; (with_reducible refine (K.out).mono ?_); rintro e w1 ⟨⟨ao, cap, rfl, hS⟩, hb⟩; (obtain ⟨g, rfl, h0, h1, h2⟩ := hS l.length (by simp)); (have c4 := h2 4 (.bool false) (by simp [Sp.cells, hx])); clear hS h2)
   (go_ret; refine ⟨?_, ?_⟩; (focus (exact rfl)); exact blb)
 ·have e0 : (SS.mk p cl fr fi).rows = cl ++ [⟨fr, 0, fi, 0, true⟩] := by simp [SS.rows, h0]
  rw [e0] at K
  have hc1 : cl.length ≤ es.length := hp.2
  have hl : (cl ++ [(⟨fr, 0, fi, 0, true⟩ : Sp)]).length = cl.length + 1 := by simp
  rw [hl] at K
  have W1 : IntKind.i64.wrap (cl.length : Int) = cl.length := by rw [IntKind.wrap_i64]; omega
  have hd : decide (0 < p) = true := by simp; omega
  rw [hd]
  go_enter Try.func50, Try.ntmps50
  go_wp2_with (go_at_call 49; (with_reducible refine (K.out).mono ?_); rintro e w1 ⟨⟨ao, cap, rfl, hS⟩, hb⟩; (obtain ⟨g, rfl, h0, h1, h2⟩ := hS cl.length (by simp)); (have c4 := h2 4 (.bool true) (by simp [Sp.cells])); clear hS h2)
  (go_ret; refine ⟨?_, ?_⟩; (focus (exact rfl)); exact blb)
theorem tw1_c (t : Int) (w : World) : Calls Try.prog 47 #[.int .u64 t] w fun ee w' => ee = .returned (.agg #[.int .i64 0, .bool true, .bool false, .int .u64 (t), .int .u64 0, .int .i64 3, .int .u64 0, .int .i64 0, .int .u16 0, .int .u16 0, .int .u16 0, .int .u16 0]) ∧ Below w.heap.size w w' := by
 have EI := Lib.hid ev_info
 go_enter Try.func47, Try.ntmps47
 go_wp2_with (refine wpList_store_new rfl 97 _ _ rfl _ #[.int .i64 ((⟨0, true, false, t, 0, 3, 0, 0, 0, 0, 0, 0⟩ : Ev)).op, .bool ((⟨0, true, false, t, 0, 3, 0, 0, 0, 0, 0, 0⟩ : Ev)).inn, .bool ((⟨0, true, false, t, 0, 3, 0, 0, 0, 0, 0, 0⟩ : Ev)).real, .int .u64 ((⟨0, true, false, t, 0, 3, 0, 0, 0, 0, 0, 0⟩ : Ev)).tm, .int .u64 ((⟨0, true, false, t, 0, 3, 0, 0, 0, 0, 0, 0⟩ : Ev)).dn, .int .i64 ((⟨0, true, false, t, 0, 3, 0, 0, 0, 0, 0, 0⟩ : Ev)).cls, .int .u64 ((⟨0, true, false, t, 0, 3, 0, 0, 0, 0, 0, 0⟩ : Ev)).id, .int .i64 ((⟨0, true, false, t, 0, 3, 0, 0, 0, 0, 0, 0⟩ : Ev)).ln, .int .u16 ((⟨0, true, false, t, 0, 3, 0, 0, 0, 0, 0, 0⟩ : Ev)).a, .int .u16 ((⟨0, true, false, t, 0, 3, 0, 0, 0, 0, 0, 0⟩ : Ev)).b, .int .u16 ((⟨0, true, false, t, 0, 3, 0, 0, 0, 0, 0, 0⟩ : Ev)).c, .int .u16 ((⟨0, true, false, t, 0, 3, 0, 0, 0, 0, 0, 0⟩ : Ev)).d] rfl rfl EI.out rfl (all_oneCell_toArray (Ev.one _)) ?_)
 refine bodyPost_ret (v := .agg #[.int .i64 0, .bool true, .bool false, .int .u64 (t), .int .u64 0, .int .i64 3, .int .u64 0, .int .i64 0, .int .u16 0, .int .u16 0, .int .u16 0, .int .u16 0]) (by simp [results, Try.results47, go_sem, *]) rfl ⟨rfl, blb⟩
theorem tw2_c (t : Int) (w : World) : Calls Try.prog 48 #[.int .u64 t] w fun ee w' => ee = .returned (.agg #[.int .i64 0, .bool false, .bool false, .int .u64 (t), .int .u64 0, .int .i64 3, .int .u64 0, .int .i64 0, .int .u16 0, .int .u16 0, .int .u16 0, .int .u16 0]) ∧ Below w.heap.size w w' := by
 have EI := Lib.hid ev_info
 go_enter Try.func48, Try.ntmps48
 go_wp2_with (refine wpList_store_new rfl 97 _ _ rfl _ #[.int .i64 ((⟨0, false, false, t, 0, 3, 0, 0, 0, 0, 0, 0⟩ : Ev)).op, .bool ((⟨0, false, false, t, 0, 3, 0, 0, 0, 0, 0, 0⟩ : Ev)).inn, .bool ((⟨0, false, false, t, 0, 3, 0, 0, 0, 0, 0, 0⟩ : Ev)).real, .int .u64 ((⟨0, false, false, t, 0, 3, 0, 0, 0, 0, 0, 0⟩ : Ev)).tm, .int .u64 ((⟨0, false, false, t, 0, 3, 0, 0, 0, 0, 0, 0⟩ : Ev)).dn, .int .i64 ((⟨0, false, false, t, 0, 3, 0, 0, 0, 0, 0, 0⟩ : Ev)).cls, .int .u64 ((⟨0, false, false, t, 0, 3, 0, 0, 0, 0, 0, 0⟩ : Ev)).id, .int .i64 ((⟨0, false, false, t, 0, 3, 0, 0, 0, 0, 0, 0⟩ : Ev)).ln, .int .u16 ((⟨0, false, false, t, 0, 3, 0, 0, 0, 0, 0, 0⟩ : Ev)).a, .int .u16 ((⟨0, false, false, t, 0, 3, 0, 0, 0, 0, 0, 0⟩ : Ev)).b, .int .u16 ((⟨0, false, false, t, 0, 3, 0, 0, 0, 0, 0, 0⟩ : Ev)).c, .int .u16 ((⟨0, false, false, t, 0, 3, 0, 0, 0, 0, 0, 0⟩ : Ev)).d] rfl rfl EI.out rfl (all_oneCell_toArray (Ev.one _)) ?_)
 refine bodyPost_ret (v := .agg #[.int .i64 0, .bool false, .bool false, .int .u64 (t), .int .u64 0, .int .i64 3, .int .u64 0, .int .i64 0, .int .u16 0, .int .u16 0, .int .u16 0, .int .u16 0]) (by simp [results, Try.results48, go_sem, *]) rfl ⟨rfl, blb⟩
def es5 : List Ev := [(⟨0, true, false, 5, 0, 3, 0, 0, 0, 0, 0, 0⟩ : Ev), (⟨0, false, false, 5, 0, 3, 0, 0, 0, 0, 0, 0⟩ : Ev), (⟨0, true, false, 9, 0, 3, 0, 0, 0, 0, 0, 0⟩ : Ev), (⟨0, true, false, 9, 0, 3, 0, 0, 0, 0, 0, 0⟩ : Ev), (⟨0, false, false, 20, 0, 3, 0, 0, 0, 0, 0, 0⟩ : Ev)]
theorem es5_3 : (srun [3] es5 5).rows = [⟨5, 5, 0, 1, false⟩, ⟨9, 0, 2, 0, true⟩] := rfl
end Go.Proofs.Ytghjdkdjdpgdiaa
end
section
namespace Go.Proofs.Ytghjdkdjdpgdiaa
open Go.RowKit Fg Reg
attribute [local irreducible] Reg.wE
theorem eqSp (a b c d : Int) (o : Bool) (w : World) : (Op.equalIn 10000 103 (.agg #[.int .u64 a, .int .u64 b, .int .i64 c, .int .i64 d, .bool o]) (.agg #[.int .u64 a, .int .u64 b, .int .i64 c, .int .i64 d, .bool o])).run Try.prog w = .ok true w := by
 have hz : ∀ w, (sizeOf 50).run Try.prog w = .ok 1 w := fun w => by kernel_rfl
 have ha : ∀ w, (isAgg 50).run Try.prog w = .ok false w := fun w => by kernel_rfl
 have hz1 : ∀ w, (sizeOf 3).run Try.prog w = .ok 1 w := fun w => by kernel_rfl
 have ha1 : ∀ w, (isAgg 3).run Try.prog w = .ok false w := fun w => by kernel_rfl
 have hz2 : ∀ w, (sizeOf 4).run Try.prog w = .ok 1 w := fun w => by kernel_rfl
 have ha2 : ∀ w, (isAgg 4).run Try.prog w = .ok false w := fun w => by kernel_rfl
 have u1 := Try.underlying50
 have u2 := Try.underlying3
 have u3 := Try.underlying4
 have hS : Try.prog.underlying 103 = some (.struct (Try.prog.fieldsOf 103)) := by kernel_rfl
 have hp : Try.prog.stoodInHeld 103 = false := by kernel_rfl
 rw [show (10000 : Nat) = 9999 + 1 from rfl, run_equalIn_agg w 9999 103 _ _ hS hp]
 simp only [Program.fieldsOf, Try.underlying103]
 go_simp
theorem heap_alloc_at {w : World} {o : Obj} {b : Nat} (h : b = w.heap.size) : (w.alloc o).heap[b]? = some o := by subst h; exact heap_alloc_last w o
theorem two_of (a a2 : Option Addr) (c c2 : Nat) (z : World) (hE : EvsV z a es5) (hZ : IntsV z a2 [3]) :
  Calls Try.prog 49 #[.slice a 5 c, .slice a2 1 c2] z fun e w' => (∃ g cap, e = .returned (.slice (some ⟨g, 0, none⟩) 2 cap) ∧ z.heap.size ≤ g ∧ (w'.cell? ⟨g, 0, none⟩ = some (.int .u64 5) ∧ w'.cell? ⟨g, 1, none⟩ = some (.int .u64 5) ∧ w'.cell? ⟨g, 2, none⟩ = some (.int .i64 0) ∧ w'.cell? ⟨g, 3, none⟩ = some (.int .i64 1) ∧ w'.cell? ⟨g, 4, none⟩ = some (.bool false) ∧ w'.cell? ⟨g, 5, none⟩ = some (.int .u64 9) ∧ w'.cell? ⟨g, 6, none⟩ = some (.int .u64 0) ∧ w'.cell? ⟨g, 7, none⟩ = some (.int .i64 2) ∧ w'.cell? ⟨g, 8, none⟩ = some (.int .i64 0) ∧ w'.cell? ⟨g, 9, none⟩ = some (.bool true)) ∧ g < w'.heap.size) ∧ EvsV w' a es5 ∧ Below z.heap.size z w' :=
 (ofv_c [3] es5 a a2 c c2 (by decide) (by decide) z hE hZ).mono fun e w' ⟨⟨ao, cap, he, hS⟩, hb⟩ => by
  have e1 : (srun [3] es5 es5.length).rows = [⟨5, 5, 0, 1, false⟩, ⟨9, 0, 2, 0, true⟩] := es5_3
  rw [e1] at he hS
  obtain ⟨g, rfl, h0, h1, h2⟩ := hS 0 (by simp)
  obtain ⟨g', hg, _, _, h3⟩ := hS 1 (by simp)
  cases hg
  exact ⟨⟨g, cap, he, h0, ⟨h2 0 _ rfl, h2 1 _ rfl, h2 2 _ rfl, h2 3 _ rfl, h2 4 _ rfl, h3 0 _ rfl, h3 1 _ rfl, h3 2 _ rfl, h3 3 _ rfl, h3 4 _ rfl⟩, h1⟩, hE.below hb, hb⟩
theorem two_b3 (a a2 : Option Addr) (c c2 : Nat) (z : World) (hE : EvsV z a es5) (hZ : IntsV z a2 [3]) :
  Calls Try.prog 50 #[.slice a 5 c, .slice a2 1 c2] z fun e w' => e = .returned (.bool true) ∧ EvsV w' a es5 ∧ Below z.heap.size z w' :=
 (bl_c [3] es5 a a2 c c2 (by decide) (by decide) z hE hZ).mono fun e w' ⟨he, hb⟩ => ⟨he, hE.below hb, hb⟩
theorem two_b4 (a a2 : Option Addr) (c c2 : Nat) (z : World) (hE : EvsV z a es5) (hZ : IntsV z a2 [4]) :
  Calls Try.prog 50 #[.slice a 5 c, .slice a2 1 c2] z fun e w' => e = .returned (.bool false) ∧ EvsV w' a es5 ∧ Below z.heap.size z w' :=
 (bl_c [4] es5 a a2 c c2 (by decide) (by decide) z hE hZ).mono fun e w' ⟨he, hb⟩ => ⟨he, hE.below hb, hb⟩
theorem two_b (n : Int) (a a2 : Option Addr) (c c2 : Nat) (z : World) (hE : EvsV z a es5) (hZ : IntsV z a2 [n]) (hn : n = 3 ∨ n = 4) :
  Calls Try.prog 50 #[.slice a 5 c, .slice a2 1 c2] z fun e w' => e = .returned (.bool (decide (n = 3))) ∧ EvsV w' a es5 ∧ Below z.heap.size z w' := by
 rcases hn with rfl | rfl
 ·exact two_b3 a a2 c c2 z hE hZ
 ·exact two_b4 a a2 c c2 z hE hZ
theorem ints_block1 {w : World} {b : Nat} {n : Int} {t : TypeId} {fr : Nat × Nat} (hb : w.heap[b]? = some (.cells #[.int .i64 n] t fr)) : IntsV w (some ⟨b, 0, none⟩) [n] := ints_block [n] hb rfl
theorem ev_all {z : World} {a : Option Addr} {es : List Ev} (h : EvsV z a es) (o : Obj) : EvsV (z.alloc o) a es := h.below (Below.alloc (Below.refl _ _) (Nat.le_refl _) o)
theorem two_c (w : World) : Calls Try.prog 24 #[] w fun ee w' => ee = .returned (.bool true) ∧ Below w.heap.size w w' := by
 have K1 := Lib.hid tw1_c
 have K2 := Lib.hid tw2_c
 have KO := Lib.hid two_of
 have KB := Lib.hid two_b
 have E1 := eqSp 5 5 0 1 false
 have E2 := eqSp 9 0 2 0 true
 go_enter Try.func24, Try.ntmps24
 go_wp2_with (first
  | (go_at_call 47; ((with_reducible refine (K1.out _ _).mono ?_); rintro e w1 ⟨rfl, hbel⟩; obtain ⟨hcc, hff⟩ := bcell hbel; have hsz := hbel.size; (try simp at hsz); have hF : Below w.heap.size w w1 := (by exact kpb); go_split_ands; clear hcc hff hbel))
  | (go_at_call 48; ((with_reducible refine (K2.out _ _).mono ?_); rintro e w1 ⟨rfl, hbel⟩; obtain ⟨hcc, hff⟩ := bcell hbel; have hsz := hbel.size; (try simp at hsz); have hF : Below w.heap.size w w1 := (by exact kpb); go_split_ands; clear hcc hff hbel))
  | (go_at_call 49; (with_reducible refine (KO.out _ _ _ _ _ (ev_all (evs_block es5 (heap_alloc_last w1 _) (by (simp [es5, Ev.cells]; done))) _) (ints_block [3] (heap_alloc_at (by (simp; done))) (by (simp; done)))).mono ?_); rintro e w2 ⟨⟨g, cap, rfl, h0, hC, hg⟩, hE, hbel⟩; (have hsz2 := hbel.size); (try simp at hsz2 h0); have hF : Below w.heap.size w w2 := (by exact kpb); go_split_ands; clear hbel)
  | (go_at_call 50; (with_reducible refine (KB.out _ _ _ _ _ _ (ev_all hE _) (ints_block1 (heap_alloc_at (by simp))) (by decide)).mono ?_); clear hE; rintro e w3 ⟨rfl, hE, hbel⟩; (have hsz3 := hbel.size); (try simp at hsz3); have hF : Below w.heap.size w w3 := (by exact kpb); go_split_ands; clear hbel))
 (go_ret; refine ⟨?_, ?_⟩; (focus (exact rfl)); exact blb)
end Go.Proofs.Ytghjdkdjdpgdiaa
end
