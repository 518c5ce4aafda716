/- The reference's packets that came. -/
import Derived.Test.YtdahjhokcjfioaaCf9
import Derived.Test.YtdahjhokcjfioaaRows0
namespace Go.Proofs.Ytdahjhokcjfioaa
set_option linter.unusedVariables false
set_option linter.unusedSimpArgs false
set_option maxRecDepth 100000
open Go.RowKit Fg Reg
attribute [local irreducible] Reg.wE

structure Cm where
  tm : Int
  by' : Int
instance : Inhabited Cm := ⟨⟨0, 0⟩⟩
def Cm.cells (x : Cm) : List Value := [.int .u64 x.tm, .int .u64 x.by']
theorem Cm.C : CellsOf Cm.cells 2 := ⟨fun _ => rfl, fun x v hv => by
  unfold Cm.cells at hv
  simp only [List.mem_cons, List.not_mem_nil, or_false] at hv
  rcases hv with rfl | rfl <;> rfl, by decide⟩
def cms (c : Int) (es : List Ev) : List Cm := (es.filter (cp c)).map fun e => ⟨e.tm, cb e⟩
theorem cms_yes (c : Int) (es : List Ev) (k : Nat) (h : k < es.length) (hc : cp c es[k] = true) : cms c (es.take (k + 1)) = cms c (es.take k) ++ [⟨es[k].tm, cb es[k]⟩] := by
  unfold cms
  rw [take_snoc'' es k h, List.filter_append, List.map_append]
  simp [hc]
theorem cms_no (c : Int) (es : List Ev) (k : Nat) (h : k < es.length) (hc : cp c es[k] = false) : cms c (es.take (k + 1)) = cms c (es.take k) := by
  unfold cms
  rw [take_snoc'' es k h, List.filter_append, List.map_append]
  simp [hc]
theorem cms_len (c : Int) (es : List Ev) : (cms c es).length ≤ es.length := by
  unfold cms
  rw [List.length_map]
  exact List.length_filter_le _ _
theorem cmt_parts : ∃ i, Try.prog.info? 161 = some i ∧ i.zero = some (.agg #[.int .u64 0, .int .u64 0]) ∧ i.size = 2 ∧ i.bytes = 16 := by
  have h : (Try.prog.info? 161).map (fun i => (i.zero, i.size, i.bytes)) = some (some (.agg #[.int .u64 0, .int .u64 0]), 2, 16) := by kernel_rfl
  obtain ⟨i, hi, h⟩ := Option.map_eq_some_iff.1 h
  simp only [Prod.mk.injEq] at h
  exact ⟨i, hi, h.1, h.2.1, h.2.2⟩
theorem own_blkC {z : World} {B m size : Nat} {e : TypeId} {v : Value} {xs : List Value} (h : z.ownsRow B e size v m xs) : ∀ k, v.ownBlock = some k → B ≤ k := fun k hk => (h.lt k hk).1
set_option maxHeartbeats 4000000 in
theorem rof48_c (es : List Ev) (ae : Option Addr) (ce : Nat) (c : Int) (hn : es.length ≤ 1000) (hwf : ∀ k (h : k < es.length), es[k].wf3) (w : World) (hE : EvsV w ae es) :
    Calls Try.prog 73 #[.slice ae es.length ce, .int .i64 c] w fun ee w' => (∃ a cap, ee = .returned (.slice a (cms c es).length cap) ∧ RwV Cm.cells 2 w' a (cms c es)) ∧ Below w.heap.size w w' := by
  obtain ⟨ie, HI0, HZ0, HZ1, HZ2⟩ := cmt_parts
  have HE := Lib.hid hE
  have EI := Lib.hid ev_info
  have HW := Lib.hid hwf
  clear hE hwf
  go_enter Try.func73, Try.ntmps73
  go_wp2_with fail
  go_loopw [5, 11] (fun v i wr => ∃ (k : Nat), k ≤ es.length ∧ i = .int .i64 k ∧ wr.ownsRow w.heap.size 161 2 v (cms c (es.take k)).length ((cms c (es.take k)).flatMap Cm.cells) ∧ Below w.heap.size w wr) (fun _ i _ => es.length - (intOf i).toNat)
  case atStart => exact ⟨0, Nat.zero_le _, rfl, World.ownsRow_nil _ _ _ _, Below.refl _ _⟩
  case round =>
    obtain ⟨k, hk, rfl, hO, hB⟩ := hrel
    have hsz := hB.size
    by_cases hlt : k < es.length
    · obtain ⟨b, o, rfl, hbl, hr⟩ := (HE.out.below hB) k hlt
      have hwf := HW.out k hlt
      have hy := cms_yes c es k hlt
      have hno := cms_no c es k hlt
      have hlen := cms_len c (es.take k)
      rw [List.length_take] at hlen
      have hcb := cb_bd es[k] hwf
      obtain ⟨e, he⟩ : ∃ e, es[k] = e := ⟨_, rfl⟩
      rw [he] at hr hwf hy hno hcb
      have hln := hwf.ln1
      cases hi : e.inn with
      | false =>
        have HS := Lib.hid (hno (by unfold cp; rw [hi]; rfl))
        have HO := Lib.hid (fun o1 => hO.alloc o1)
        clear hy hno he hwf hO hlen hcb
        go_wp2_with (first | (refine wpList_load_mid rfl 213 _ rfl b (o + k * 12) rfl _ _ hr Try.underlying213 rfl EI.out ?_) | (refine wpList_store_new rfl 213 _ _ rfl _ #[.int .i64 (e).op, .bool (e).inn, .bool (e).real, .int .u64 (e).tm, .int .u64 (e).dn, .int .i64 (e).cls, .int .u64 (e).id, .int .i64 (e).ln, .int .u16 (e).a, .int .u16 (e).b, .int .u16 (e).c, .int .u16 (e).d] rfl rfl EI.out rfl (all_oneCell_toArray e.one) ?_))
        go_roundw
        case rel => exact ⟨k + 1, by omega, by go_num, by rw [HS.out]; exact HO.out _, (by repeat' (first | with_reducible exact Below.refl _ _ | with_reducible assumption | ((with_reducible refine Below.drew ?_)) | ((with_reducible refine below_drewN ?_ _)) | ((with_reducible refine Below.alloc ?_ ?_ _); rotate_left; focus (first | omega | (simp; done) | (simp; omega))) | ((with_reducible refine Below.setCell ?_ ?_ _); rotate_left; focus (first | omega | (simp; done) | (simp; omega))) | ((with_reducible refine Below.trans ?_ (Below.mono (by with_reducible assumption) ?_)); rotate_left; focus (first | omega | (simp; done) | (simp; omega)))))⟩
        case measure => simp [intOf]; omega
      | true =>
        cases hcl : (e.cls == c) with
        | false =>
          have HS := Lib.hid (hno (by unfold cp; rw [hi, hcl]; rfl))
          have HO := Lib.hid (fun o1 => hO.alloc o1)
          clear hy hno he hwf hO hlen hcb
          go_wp2_with (first | (refine wpList_load_mid rfl 213 _ rfl b (o + k * 12) rfl _ _ hr Try.underlying213 rfl EI.out ?_) | (refine wpList_store_new rfl 213 _ _ rfl _ #[.int .i64 (e).op, .bool (e).inn, .bool (e).real, .int .u64 (e).tm, .int .u64 (e).dn, .int .i64 (e).cls, .int .u64 (e).id, .int .i64 (e).ln, .int .u16 (e).a, .int .u16 (e).b, .int .u16 (e).c, .int .u16 (e).d] rfl rfl EI.out rfl (all_oneCell_toArray e.one) ?_))
          go_roundw
          case rel => exact ⟨k + 1, by omega, by go_num, by rw [HS.out]; exact HO.out _, (by repeat' (first | with_reducible exact Below.refl _ _ | with_reducible assumption | ((with_reducible refine Below.drew ?_)) | ((with_reducible refine below_drewN ?_ _)) | ((with_reducible refine Below.alloc ?_ ?_ _); rotate_left; focus (first | omega | (simp; done) | (simp; omega))) | ((with_reducible refine Below.setCell ?_ ?_ _); rotate_left; focus (first | omega | (simp; done) | (simp; omega))) | ((with_reducible refine Below.trans ?_ (Below.mono (by with_reducible assumption) ?_)); rotate_left; focus (first | omega | (simp; done) | (simp; omega)))))⟩
          case measure => simp [intOf]; omega
        | true =>
          have HS := Lib.hid (hy (by unfold cp; rw [hi, hcl]; rfl))
          have HO := Lib.hid (fun o1 o2 => (hO.alloc o1).alloc o2)
          have HBO := Lib.hid (own_blkC hO)
          by_cases hl : 0 < e.ln
          · have hcv : cb e = e.ln := by unfold cb; rw [if_neg (by omega)]
            have d0 : decide (0 < e.ln) = true := by simpa using hl
            have W : IntKind.u64.wrap e.ln = e.ln := by rw [wrap_u64]; omega
            rw [hcv] at HS
            clear hy hno he hwf hO hcb hcv hl
            go_wp2_with (first | (refine wpList_load_mid rfl 213 _ rfl b (o + k * 12) rfl _ _ hr Try.underlying213 rfl EI.out ?_) | (refine wpList_store_new rfl 213 _ _ rfl _ #[.int .i64 (e).op, .bool (e).inn, .bool (e).real, .int .u64 (e).tm, .int .u64 (e).dn, .int .i64 (e).cls, .int .u64 (e).id, .int .i64 (e).ln, .int .u16 (e).a, .int .u16 (e).b, .int .u16 (e).c, .int .u16 (e).d] rfl rfl EI.out rfl (all_oneCell_toArray e.one) ?_) | (at_builtin; refine wpList_append_own _ rfl _ _ 155 rfl w.heap.size 161 ie (.agg #[.int .u64 0, .int .u64 0]) 2 16 Try.underlying155 HI0 HZ0 HZ1 HZ2 rfl (by decide) _ (cms c (es.take k)).length ((cms c (es.take k)).flatMap Cm.cells) rfl (HO.out _ _) ⟨_, 0, none⟩ 1 1 (Cm.cells ⟨e.tm, e.ln⟩) rfl rfl ?c1 ?c2 ?c3 ?c4 ?c5 ?_))
            (case c1 => (intro j u hu; unfold Cm.cells at hu; rcases j with _ | _ | j <;> simp at hu <;> (try subst hu) <;> simp [Addr.add, go_sem])); (case c2 => (intro u hu; simp [Cm.cells] at hu; rcases hu with rfl | rfl <;> rfl)); (case c3 => (unfold maxLen; omega)); (case c4 => omega); (case c5 => (simp; omega))
            intro v' w5 hown' hgrow _
            go_wp2
            go_roundw
            case rel =>
              refine ⟨k + 1, by omega, by go_num, by rw [HS.out, List.length_append, List.flatMap_append]; simpa [Cm.cells] using hown', ?_⟩
              exact Below.grown (by repeat' (first | with_reducible exact Below.refl _ _ | with_reducible assumption | ((with_reducible refine Below.drew ?_)) | ((with_reducible refine below_drewN ?_ _)) | ((with_reducible refine Below.alloc ?_ ?_ _); rotate_left; focus (first | omega | (simp; done) | (simp; omega))) | ((with_reducible refine Below.setCell ?_ ?_ _); rotate_left; focus (first | omega | (simp; done) | (simp; omega))) | ((with_reducible refine Below.trans ?_ (Below.mono (by with_reducible assumption) ?_)); rotate_left; focus (first | omega | (simp; done) | (simp; omega))))) hgrow (by simp; omega) HBO.out
            case measure => simp [intOf]; omega
          · have hcv : cb e = 0 := by unfold cb; split <;> omega
            have d0 : decide (0 < e.ln) = false := by simpa using hl
            rw [hcv] at HS
            clear hy hno he hwf hO hcb hcv hl
            go_wp2_with (first | (refine wpList_load_mid rfl 213 _ rfl b (o + k * 12) rfl _ _ hr Try.underlying213 rfl EI.out ?_) | (refine wpList_store_new rfl 213 _ _ rfl _ #[.int .i64 (e).op, .bool (e).inn, .bool (e).real, .int .u64 (e).tm, .int .u64 (e).dn, .int .i64 (e).cls, .int .u64 (e).id, .int .i64 (e).ln, .int .u16 (e).a, .int .u16 (e).b, .int .u16 (e).c, .int .u16 (e).d] rfl rfl EI.out rfl (all_oneCell_toArray e.one) ?_) | (at_builtin; refine wpList_append_own _ rfl _ _ 155 rfl w.heap.size 161 ie (.agg #[.int .u64 0, .int .u64 0]) 2 16 Try.underlying155 HI0 HZ0 HZ1 HZ2 rfl (by decide) _ (cms c (es.take k)).length ((cms c (es.take k)).flatMap Cm.cells) rfl (HO.out _ _) ⟨_, 0, none⟩ 1 1 (Cm.cells ⟨e.tm, 0⟩) rfl rfl ?c1 ?c2 ?c3 ?c4 ?c5 ?_))
            (case c1 => (intro j u hu; unfold Cm.cells at hu; rcases j with _ | _ | j <;> simp at hu <;> (try subst hu) <;> simp [Addr.add, go_sem])); (case c2 => (intro u hu; simp [Cm.cells] at hu; rcases hu with rfl | rfl <;> rfl)); (case c3 => (unfold maxLen; omega)); (case c4 => omega); (case c5 => (simp; omega))
            intro v' w5 hown' hgrow _
            go_wp2
            go_roundw
            case rel =>
              refine ⟨k + 1, by omega, by go_num, by rw [HS.out, List.length_append, List.flatMap_append]; simpa [Cm.cells] using hown', ?_⟩
              exact Below.grown (by repeat' (first | with_reducible exact Below.refl _ _ | with_reducible assumption | ((with_reducible refine Below.drew ?_)) | ((with_reducible refine below_drewN ?_ _)) | ((with_reducible refine Below.alloc ?_ ?_ _); rotate_left; focus (first | omega | (simp; done) | (simp; omega))) | ((with_reducible refine Below.setCell ?_ ?_ _); rotate_left; focus (first | omega | (simp; done) | (simp; omega))) | ((with_reducible refine Below.trans ?_ (Below.mono (by with_reducible assumption) ?_)); rotate_left; focus (first | omega | (simp; done) | (simp; omega))))) hgrow (by simp; omega) HBO.out
            case measure => simp [intOf]; omega
    · obtain rfl : k = es.length := by omega
      rw [List.take_length] at hO
      obtain ⟨a, cap, rfl, hR, _⟩ := RwV.of_own Cm.C hO
      have HR := Lib.hid hR
      clear hR hO
      go_wp2
      go_ret
      exact ⟨⟨a, cap, rfl, HR.out⟩, hB⟩
end Go.Proofs.Ytdahjhokcjfioaa
