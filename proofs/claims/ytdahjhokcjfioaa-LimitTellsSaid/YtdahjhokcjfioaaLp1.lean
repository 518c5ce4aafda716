/- spans.Of: what it makes of any events. -/
import Derived.Test.YtdahjhokcjfioaaEv1
import Derived.Laws.AppendOwn
import Derived.Laws.OwnMore
namespace Go.Proofs.Ytdahjhokcjfioaa
set_option linter.unusedVariables false
set_option linter.unusedSimpArgs false
set_option maxRecDepth 100000
open Go.RowKit Fg Reg

structure Sp where
  fr : Int
  tt : Int
  fi : Nat
  la : Nat
  op : Bool
instance : Inhabited Sp := ⟨⟨0, 0, 0, 0, false⟩⟩
def Sp.cells (s : Sp) : List Value := [.int .u64 s.fr, .int .u64 s.tt, .int .i64 s.fi, .int .i64 s.la, .bool s.op]
/-- How many packets there are; the spans that are closed; where the open one began. -/
structure SS where
  p : Nat
  cl : List Sp
  fr : Int
  fi : Nat
def SS.rows (s : SS) : List Sp := s.cl ++ if s.p = 0 then [] else [⟨s.fr, 0, s.fi, 0, true⟩]
def sstep (zs : List Int) (s : SS) (i : Nat) (e : Ev) : SS :=
  if has zs e.cls = true then
    if e.inn = true then (if s.p = 0 then ⟨1, s.cl, e.tm, i⟩ else ⟨s.p + 1, s.cl, s.fr, s.fi⟩)
    else if s.p = 1 then ⟨0, s.cl ++ [⟨s.fr, e.tm, s.fi, i, false⟩], s.fr, s.fi⟩
    else ⟨s.p - 1, s.cl, s.fr, s.fi⟩
  else s
def spsrun (zs : List Int) (es : List Ev) : Nat → SS
  | 0 => ⟨0, [], 0, 0⟩
  | k + 1 => match es[k]? with
    | none => spsrun zs es k
    | some e => sstep zs (spsrun zs es k) k e
theorem spsrun_succ (zs : List Int) (es : List Ev) (k : Nat) (h : k < es.length) : spsrun zs es (k + 1) = sstep zs (spsrun zs es k) k es[k] := by
  rw [spsrun, List.getElem?_eq_getElem h]
theorem spsrun_p (zs : List Int) (es : List Ev) : ∀ k, (spsrun zs es k).p ≤ k ∧ (spsrun zs es k).cl.length ≤ k
  | 0 => ⟨Nat.le_refl _, Nat.le_refl _⟩
  | k + 1 => by
    have ih := spsrun_p zs es k
    rw [spsrun]
    split
    · omega
    · unfold sstep
      (repeat' split) <;> (try simp) <;> omega
theorem sp_len (l : List Sp) : (l.flatMap Sp.cells).length = l.length * 5 := by
  induction l with
  | nil => rfl
  | cons x l ih => rw [List.flatMap_cons, List.length_append, ih, List.length_cons]; show 5 + _ = _; omega
theorem sp_close (cl : List Sp) (fr tm : Int) (fi k : Nat) :
    ((((cl ++ [(⟨fr, 0, fi, 0, true⟩ : Sp)]).flatMap Sp.cells).set (cl.length * 5 + 1) (.int .u64 tm)).set (cl.length * 5 + 3) (.int .i64 k)).set (cl.length * 5 + 4) (.bool false) = (cl ++ [(⟨fr, tm, fi, k, false⟩ : Sp)]).flatMap Sp.cells := by
  have hl := sp_len cl
  rw [List.flatMap_append, List.flatMap_append, List.set_append_right _ _ (by omega), List.set_append_right _ _ (by omega), List.set_append_right _ _ (by omega), hl]
  rw [show cl.length * 5 + 1 - cl.length * 5 = 1 by omega, show cl.length * 5 + 3 - cl.length * 5 = 3 by omega, show cl.length * 5 + 4 - cl.length * 5 = 4 by omega]
  rfl
theorem below_grown {B : Nat} {w z z' : World} {row : Option Nat} (h : Below B w z) (hg : z.grownBy z' row) (hB : B ≤ z.heap.size) (hr : ∀ k, row = some k → B ≤ k) : Below B w z' :=
  (Only.of_grown hg hr).below h hB (fun k hk => hk)
theorem own_blk {z : World} {B m size : Nat} {e : TypeId} {v : Value} {xs : List Value} (h : z.ownsRow B e size v m xs) : ∀ k, v.ownBlock = some k → B ≤ k := by
  intro k hk
  rcases h.2 with ⟨rfl, _⟩ | ⟨b, cap, cur, rfl, hb, _⟩
  · simp [Value.ownBlock] at hk
  · simp [Value.ownBlock] at hk; omega
theorem sp_info : (Try.prog.info? 222).map (fun i => (i.zero, i.size, i.bytes)) = some (some (.agg #[.int .u64 0, .int .u64 0, .int .i64 0, .int .i64 0, .bool false]), 5, 40) := by kernel_rfl
theorem sp_parts : ∃ i, Try.prog.info? 222 = some i ∧ i.zero = some (.agg #[.int .u64 0, .int .u64 0, .int .i64 0, .int .i64 0, .bool false]) ∧ i.size = 5 ∧ i.bytes = 40 := by
  obtain ⟨i, hi, h⟩ := Option.map_eq_some_iff.1 sp_info
  simp only [Prod.mk.injEq] at h
  exact ⟨i, hi, h.1, h.2.1, h.2.2⟩
set_option maxHeartbeats 8000000 in
theorem spof_c (zs : List Int) (es : List Ev) (a a2 : Option Addr) (c c2 : Nat) (hn : es.length ≤ 100000) (hn2 : zs.length ≤ 100000) (w : World) (hE : EvsV w a es) (hZ : IntsV w a2 zs) :
    Calls Try.prog 119 #[.slice a es.length c, .slice a2 zs.length c2] w fun e w' => (∃ v, e = .returned v ∧ w'.ownsRow w.heap.size 222 5 v (spsrun zs es es.length).rows.length ((spsrun zs es es.length).rows.flatMap Sp.cells)) ∧ Below w.heap.size w w' := by
  obtain ⟨ie, HI0, HZ0, HZ1, HZ2⟩ := sp_parts
  have KC := Lib.hid (fun x w' (hb : Below w.heap.size w w') => con_c zs a2 c2 x (by omega) w' (hZ.below hb))
  have HE := Lib.hid hE
  have HS := Lib.hid (spsrun_succ zs es)
  have HP := Lib.hid (spsrun_p zs es)
  have EI := Lib.hid ev_info
  clear hE hZ
  go_enter Try.func119, Try.ntmps119
  go_wp2_with fail
  go_loopw [5, 6, 12] (fun uo vp i wr => ∃ (k : Nat) (vo : Value), k ≤ es.length ∧ i = .int .i64 k ∧ vo = uo ∧ vp = .int .i64 (spsrun zs es k).p ∧ wr.ownsRow w.heap.size 222 5 vo (spsrun zs es k).rows.length ((spsrun zs es k).rows.flatMap Sp.cells) ∧ Below w.heap.size w wr) (fun _ _ i _ => es.length - (intOf i).toNat)
  case atStart => exact ⟨0, _, Nat.zero_le _, rfl, rfl, rfl, World.ownsRow_nil _ _ _ _, Below.refl _ _⟩
  case round =>
    obtain ⟨k, vo, hk, rfl, rfl, rfl, hO, hB⟩ := hrel
    by_cases hlt : k < es.length
    · have hs := HS.out k hlt
      have hp := HP.out k
      obtain ⟨b, o, rfl, hb, hr⟩ := (HE.out.below hB) k hlt
      have hrow := hr
      generalize es[k] = e at hs hr
      generalize spsrun zs es k = s at hs hp hO
      obtain ⟨s', hs'⟩ : ∃ s', spsrun zs es (k + 1) = s' := ⟨_, rfl⟩
      rw [hs'] at hs
      have HN := Lib.hid hs'
      clear hs'
      have hB1 : ∀ ob, Below w.heap.size w (wr.alloc ob) := fun ob => hB.alloc hB.size ob
      have hO1 := fun ob => hO.alloc ob
      have hws := hB.size
      unfold sstep at hs
      cases hh : has zs e.cls with
      | false =>
        have KF : ∀ w', Below w.heap.size w w' → _ := KC.out e.cls
        rw [hh] at hs KF
        obtain rfl : s' = s := hs
        have KG := Lib.hid KF
        clear hrow KF
        go_wp2_with (first
          | (refine wpList_load_mid rfl 213 _ rfl b (o + k * 12) rfl _ _ hr Try.underlying213 rfl EI.out ?_)
          | (refine wpList_store_new rfl 213 _ _ rfl _ #[.int .i64 (e).op, .bool (e).inn, .bool (e).real, .int .u64 (e).tm, .int .u64 (e).dn, .int .i64 (e).cls, .int .u64 (e).id, .int .i64 (e).ln, .int .u16 (e).a, .int .u16 (e).b, .int .u16 (e).c, .int .u16 (e).d] rfl rfl EI.out rfl (all_oneCell_toArray e.one) ?_)
          | (go_at_call 120; (with_reducible refine (KG.out _ (hB1 _)).mono ?_); rintro e1 w1 ⟨rfl, rfl⟩))
        go_roundw
        case rel => exact ⟨k + 1, _, by omega, by go_num, rfl, by rw [HN.out], by rw [HN.out]; exact hO1 _, hB1 _⟩
        case measure => simp [intOf]; omega
      | true =>
        have KF : ∀ w', Below w.heap.size w w' → _ := KC.out e.cls
        rw [hh] at hs KF
        rw [if_pos rfl] at hs
        have KG := Lib.hid KF
        clear hrow KF
        obtain ⟨p, cl, fr, fi⟩ := s
        have hpk : p ≤ k := hp.1
        have hcl : cl.length ≤ k := hp.2
        clear hp
        cases hi : e.inn with
        | true =>
          rw [hi, if_pos rfl] at hs
          by_cases h0 : p = 0
          · subst h0
            rw [if_pos rfl] at hs
            subst hs
            have e0 : (SS.mk 0 cl fr fi).rows = cl := by simp [SS.rows]
            rw [e0] at hO1
            have e1 : (SS.mk 1 cl e.tm k).rows = cl ++ [⟨e.tm, 0, k, 0, true⟩] := by simp [SS.rows]
            have hB2 := fun ob => Nat.le_trans hws (Below.alloc (Below.refl _ _) (Nat.le_refl _) ob : Below wr.heap.size wr (wr.alloc ob)).size
            go_wp2_with (first
              | (refine wpList_load_mid rfl 213 _ rfl b (o + k * 12) rfl _ _ hr Try.underlying213 rfl EI.out ?_)
              | (refine wpList_store_new rfl 213 _ _ rfl _ #[.int .i64 (e).op, .bool (e).inn, .bool (e).real, .int .u64 (e).tm, .int .u64 (e).dn, .int .i64 (e).cls, .int .u64 (e).id, .int .i64 (e).ln, .int .u16 (e).a, .int .u16 (e).b, .int .u16 (e).c, .int .u16 (e).d] rfl rfl EI.out rfl (all_oneCell_toArray e.one) ?_)
              | (go_at_call 120; (with_reducible refine (KG.out _ (hB1 _)).mono ?_); rintro e1 w1 ⟨rfl, rfl⟩)
              | (at_builtin; refine wpList_append_own _ rfl _ _ 220 rfl w.heap.size 222 ie (.agg #[.int .u64 0, .int .u64 0, .int .i64 0, .int .i64 0, .bool false]) 5 40 Try.underlying220 HI0 HZ0 HZ1 HZ2 rfl (by decide) vo cl.length (cl.flatMap Sp.cells) rfl (World.ownsRow.alloc (hO1 _) _) ⟨_, 0, none⟩ 1 1 (Sp.cells ⟨e.tm, 0, k, 0, true⟩) rfl rfl ?c1 ?c2 ?c3 ?c4 ?c5 ?_))
            (case c1 => (intro j u hu; unfold Sp.cells at hu; rcases j with _ | _ | _ | _ | _ | j <;> simp at hu <;> (try subst hu) <;> simp [Addr.add, go_sem])); (case c2 => (intro u hu; simp [Sp.cells] at hu; rcases hu with rfl | rfl | rfl | rfl | rfl <;> rfl)); (case c3 => (unfold maxLen; omega)); (case c4 => omega); (case c5 => (simp; omega))
            intro v' w5 hown' hgrow _
            go_wp2
            go_roundw
            case rel =>
              refine ⟨k + 1, _, by omega, by go_num, rfl, by rw [HN.out]; rfl, ?_, ?_⟩
              · rw [HN.out, e1]; simpa [List.flatMap_append, Sp.cells] using hown'
              · exact below_grown ((hB1 _).alloc (hB1 _).size _) hgrow ((hB1 _).alloc (hB1 _).size _).size (own_blk hO)
            case measure => simp [intOf]; omega
          · rw [if_neg h0] at hs
            subst hs
            have d0 : ((p : Int) == 0) = false := by simp; omega
            have W1 : IntKind.i64.wrap ((p : Int) + 1) = (p : Int) + 1 := by rw [IntKind.wrap_i64]; omega
            have e1 : (SS.mk (p + 1) cl fr fi).rows = (SS.mk p cl fr fi).rows := by simp [SS.rows, h0]
            go_wp2_with (first
              | (refine wpList_load_mid rfl 213 _ rfl b (o + k * 12) rfl _ _ hr Try.underlying213 rfl EI.out ?_)
              | (refine wpList_store_new rfl 213 _ _ rfl _ #[.int .i64 (e).op, .bool (e).inn, .bool (e).real, .int .u64 (e).tm, .int .u64 (e).dn, .int .i64 (e).cls, .int .u64 (e).id, .int .i64 (e).ln, .int .u16 (e).a, .int .u16 (e).b, .int .u16 (e).c, .int .u16 (e).d] rfl rfl EI.out rfl (all_oneCell_toArray e.one) ?_)
              | (go_at_call 120; (with_reducible refine (KG.out _ (hB1 _)).mono ?_); rintro e1 w1 ⟨rfl, rfl⟩))
            go_roundw
            case rel => exact ⟨k + 1, _, by omega, by go_num, rfl, by rw [HN.out]; simp, by rw [HN.out, e1]; exact hO1 _, hB1 _⟩
            case measure => simp [intOf]; omega
        | false =>
          rw [hi, if_neg (by simp)] at hs
          by_cases h1 : p = 1
          · subst h1
            rw [if_pos rfl] at hs
            subst hs
            have e0 : (SS.mk 1 cl fr fi).rows = cl ++ [⟨fr, 0, fi, 0, true⟩] := by simp [SS.rows]
            rw [e0] at hO1 hO
            have e1 : (SS.mk 0 (cl ++ [⟨fr, e.tm, fi, k, false⟩]) fr fi).rows = cl ++ [⟨fr, e.tm, fi, k, false⟩] := by simp [SS.rows]
            obtain ⟨g, cap, rfl⟩ : ∃ g cap, vo = Value.slice (some ⟨g, 0, none⟩) (cl.length + 1) cap := by
              rcases hO.2 with ⟨_, h⟩ | ⟨g, cap, cur, h, _⟩
              · simp at h
              · exact ⟨g, cap, by simpa using h⟩
            have hO2 : wr.ownsRow w.heap.size 222 5 (.slice (some ⟨g, 0, none⟩) (cl.length + 1) cap) (cl.length + 1) ((cl ++ [(⟨fr, 0, fi, 0, true⟩ : Sp)]).flatMap Sp.cells) := by simpa using hO
            have hg := (hO2.lt g rfl).2
            have hgB := (hO2.lt g rfl).1
            have hl5 := sp_len cl
            have c1 : wr.cell? ⟨g, cl.length * 5 + 1, none⟩ = some (.int .u64 0) := by rw [hO2.cellAt _ (by omega), List.flatMap_append, List.getElem?_append_right (by omega), hl5]; simp [Sp.cells]
            have c3 : wr.cell? ⟨g, cl.length * 5 + 3, none⟩ = some (.int .i64 0) := by rw [hO2.cellAt _ (by omega), List.flatMap_append, List.getElem?_append_right (by omega), hl5]; simp [Sp.cells]
            have c4 : wr.cell? ⟨g, cl.length * 5 + 4, none⟩ = some (.bool true) := by rw [hO2.cellAt _ (by omega), List.flatMap_append, List.getElem?_append_right (by omega), hl5]; simp [Sp.cells]
            have f1 := hO2.frozenAt (cl.length * 5 + 1)
            have f3 := hO2.frozenAt (cl.length * 5 + 3)
            have f4 := hO2.frozenAt (cl.length * 5 + 4)
            have HO := Lib.hid hO2
            have HB := Lib.hid hB1
            have W1 : IntKind.i64.wrap (cl.length : Int) = cl.length := by rw [IntKind.wrap_i64]; omega
            clear hO1 hO2 hO hB1
            go_wp2_with (first
              | (refine wpList_load_mid rfl 213 _ rfl b (o + k * 12) rfl _ _ hr Try.underlying213 rfl EI.out ?_)
              | (refine wpList_store_new rfl 213 _ _ rfl _ #[.int .i64 (e).op, .bool (e).inn, .bool (e).real, .int .u64 (e).tm, .int .u64 (e).dn, .int .i64 (e).cls, .int .u64 (e).id, .int .i64 (e).ln, .int .u16 (e).a, .int .u16 (e).b, .int .u16 (e).c, .int .u16 (e).d] rfl rfl EI.out rfl (all_oneCell_toArray e.one) ?_)
              | (go_at_call 120; (with_reducible refine (KG.out _ (HB.out _)).mono ?_); rintro e1 w1 ⟨rfl, rfl⟩))
            go_roundw
            case rel =>
              refine ⟨k + 1, _, by omega, by go_num, rfl, by rw [HN.out]; rfl, ?_, ?_⟩
              · have h3 := (((HO.out.stored (cl.length * 5 + 1) (.int .u64 e.tm)).1.stored (cl.length * 5 + 3) (.int .i64 k)).1.stored (cl.length * 5 + 4) (.bool false)).1
                rw [HN.out, e1]
                rw [sp_close] at h3
                have h4 := fun ob => h3.alloc ob
                simpa using h4 _
              · exact (by repeat' (first | with_reducible exact Below.refl _ _ | with_reducible assumption | ((with_reducible refine Below.drew ?_)) | ((with_reducible refine below_drewN ?_ _)) | ((with_reducible refine Below.alloc ?_ ?_ _); rotate_left; focus (first | omega | (simp; done) | (simp; omega))) | ((with_reducible refine Below.setCell ?_ ?_ _); rotate_left; focus (first | omega | (simp; done) | (simp; omega))) | ((with_reducible refine Below.trans ?_ (Below.mono (by with_reducible assumption) ?_)); rotate_left; focus (first | omega | (simp; done) | (simp; omega)))))
            case measure => simp [intOf]; omega
          · rw [if_neg h1] at hs
            subst hs
            have d0 : ((p : Int) == 1) = false := by simp; omega
            by_cases h0 : p = 0
            · subst h0
              go_wp2_with (first
                | (refine wpList_load_mid rfl 213 _ rfl b (o + k * 12) rfl _ _ hr Try.underlying213 rfl EI.out ?_)
                | (refine wpList_store_new rfl 213 _ _ rfl _ #[.int .i64 (e).op, .bool (e).inn, .bool (e).real, .int .u64 (e).tm, .int .u64 (e).dn, .int .i64 (e).cls, .int .u64 (e).id, .int .i64 (e).ln, .int .u16 (e).a, .int .u16 (e).b, .int .u16 (e).c, .int .u16 (e).d] rfl rfl EI.out rfl (all_oneCell_toArray e.one) ?_)
                | (go_at_call 120; (with_reducible refine (KG.out _ (hB1 _)).mono ?_); rintro e1 w1 ⟨rfl, rfl⟩))
              go_roundw
              case rel => exact ⟨k + 1, _, by omega, by go_num, rfl, by rw [HN.out]; rfl, by rw [HN.out]; exact hO1 _, hB1 _⟩
              case measure => simp [intOf]; omega
            · have W1 : IntKind.i64.wrap ((p : Int) - 1) = ((p - 1 : Nat) : Int) := by rw [IntKind.wrap_i64]; omega
              have d1 : decide (1 < (p : Int)) = true := by simp; omega
              have e1 : (SS.mk (p - 1) cl fr fi).rows = (SS.mk p cl fr fi).rows := by simp [SS.rows, h0, show ¬ p - 1 = 0 by omega]
              go_wp2_with (first
                | (refine wpList_load_mid rfl 213 _ rfl b (o + k * 12) rfl _ _ hr Try.underlying213 rfl EI.out ?_)
                | (refine wpList_store_new rfl 213 _ _ rfl _ #[.int .i64 (e).op, .bool (e).inn, .bool (e).real, .int .u64 (e).tm, .int .u64 (e).dn, .int .i64 (e).cls, .int .u64 (e).id, .int .i64 (e).ln, .int .u16 (e).a, .int .u16 (e).b, .int .u16 (e).c, .int .u16 (e).d] rfl rfl EI.out rfl (all_oneCell_toArray e.one) ?_)
                | (go_at_call 120; (with_reducible refine (KG.out _ (hB1 _)).mono ?_); rintro e1 w1 ⟨rfl, rfl⟩))
              go_roundw
              case rel => exact ⟨k + 1, _, by omega, by go_num, rfl, by rw [HN.out], by rw [HN.out, e1]; exact hO1 _, hB1 _⟩
              case measure => simp [intOf]; omega
    · obtain rfl : k = es.length := by omega
      clear hlt HE KC HS HP
      go_wp2
      go_ret
      exact ⟨⟨_, rfl, hO⟩, hB⟩
end Go.Proofs.Ytdahjhokcjfioaa
