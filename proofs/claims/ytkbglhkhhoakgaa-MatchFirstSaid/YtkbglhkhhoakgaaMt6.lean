/- The reference's Wrong. -/
import Derived.Test.YtkbglhkhhoakgaaMt5
namespace Go.Proofs.Ytkbglhkhhoakgaa
set_option linter.unusedVariables false
set_option linter.unusedSimpArgs false
set_option maxRecDepth 100000
open Go.RowKit Fg Reg
attribute [local irreducible] Reg.wE

/-- Why rules are none; 0: they are. -/
def rwv (rs : List Rl) : Int := if rs.all (fun r => rmay r.m r.s r.cls) then 0 else 1
theorem rwv_no {rs : List Rl} (h : rs.all (fun r => rmay r.m r.s r.cls) = false) : rwv rs = 1 := by unfold rwv; rw [h]; rfl
theorem rwv_yes {rs : List Rl} (h : rs.all (fun r => rmay r.m r.s r.cls) = true) : rwv rs = 0 := by unfold rwv; rw [h]; rfl
theorem rwr_long (n : Nat) (a : Option Addr) (c : Nat) (hn : 32 < n) (w : World) : Calls Try.prog 14 #[.slice a n c] w fun ee w' => ee = .returned (.int .i64 2) ∧ Below w.heap.size w w' := by
  have d1 : decide (32 < (n : Int)) = true := by simp; omega
  go_enter Try.func14, Try.ntmps14
  go_wp2
  (go_ret; refine ⟨?_, ?_⟩; (focus (exact rfl)); ((repeat' (first | with_reducible exact Below.refl _ _ | with_reducible assumption | ((with_reducible refine Below.drew ?_)) | ((with_reducible refine below_drewN ?_ _)) | ((with_reducible refine Below.alloc ?_ ?_ _); rotate_left; focus (first | omega | (simp; done) | (simp; omega))) | ((with_reducible refine Below.setCell ?_ ?_ _); rotate_left; focus (first | omega | (simp; done) | (simp; omega))) | ((with_reducible refine Below.trans ?_ (Below.mono (by with_reducible assumption) ?_)); rotate_left; focus (first | omega | (simp; done) | (simp; omega))))); done))
theorem all_snoc (rs : List Rl) (k : Nat) (hk : k < rs.length) (h : (rs.take k).all (fun r => rmay r.m r.s r.cls) = true) (hy : rmay rs[k].m rs[k].s rs[k].cls = true) : (rs.take (k + 1)).all (fun r => rmay r.m r.s r.cls) = true := by
  rw [take_snoc'' rs k hk, List.all_append, h]
  simp [hy]
set_option maxHeartbeats 4000000 in
theorem rwr_c (rs : List Rl) (a : Option Addr) (c : Nat) (hn : rs.length ≤ 32) (hwf : ∀ k (hk : k < rs.length), rs[k].wf) (w : World) (hR : RlsV w a rs) :
    Calls Try.prog 14 #[.slice a rs.length c] w fun ee w' => ee = .returned (.int .i64 (rwv rs)) ∧ Below w.heap.size w w' := by
  have HR := Lib.hid hR
  have HW := Lib.hid hwf
  have HA := Lib.hid (all_snoc rs)
  have HNO := Lib.hid (fun k (hk : k < rs.length) (h : rmay rs[k].m rs[k].s rs[k].cls = false) => (show rs.all (fun r => rmay r.m r.s r.cls) = false from List.all_eq_false.2 ⟨rs[k], List.getElem_mem hk, by simp [h]⟩))
  have LI := Lib.hid rl_info
  have d1 : decide (32 < (rs.length : Int)) = false := by simp; omega
  clear hR hwf
  go_enter Try.func14, Try.ntmps14
  go_wp2_with fail
  go_loopw [10] (fun ii wr => ∃ k : Nat, k ≤ rs.length ∧ ii = .int .i64 k ∧ (rs.take k).all (fun r => rmay r.m r.s r.cls) = true ∧ Below w.heap.size w wr) (fun ii _ => rs.length - (intOf ii).toNat)
  case atStart => exact ⟨0, Nat.zero_le _, rfl, by simp, Below.refl _ _⟩
  case round =>
    obtain ⟨k, hk, rfl, hal, hB⟩ := hrel
    have hsz := hB.size
    by_cases hlt : k < rs.length
    · obtain ⟨b, o, rfl, hb, hr⟩ := (HR.out.below hB) k hlt
      have hf := HW.out k hlt
      have hst := fun hy => HA.out k hlt hal hy
      have hno := HNO.out k hlt
      generalize rs[k] = r at hr hf hst hno
      have KM := Lib.hid (fun z => rma_c r.m r.s r.s r.cls hf.m hf.s z)
      have HST := Lib.hid hst
      have HN := Lib.hid hno
      clear hst hno hf hal
      have hrm : rmay r.m r.s r.cls = (decide (1 ≤ r.cls) && decide (r.cls ≤ 65536) && mtc r.m r.s r.s) := rfl
      by_cases g1 : r.cls < 1
      · have e1 : decide (r.cls < 1) = true := by simpa using g1
        have hm : rmay r.m r.s r.cls = false := by rw [hrm, show decide (1 ≤ r.cls) = false by simp; omega]; rfl
        have HV := Lib.hid (rwv_no (HN.out hm))
        clear hrm hm KM
        go_wp2_with (first | (refine wpList_load_mid rfl 37 _ rfl b (o + k * 9) rfl _ _ hr Try.underlying37 rfl LI.out ?_) | (refine wpList_store_new rfl 37 _ _ rfl _ #[.int .u16 ((r).m 0 : Nat), .int .u16 ((r).m 1 : Nat), .int .u16 ((r).m 2 : Nat), .int .u16 ((r).m 3 : Nat), .int .u16 ((r).s 0 : Nat), .int .u16 ((r).s 1 : Nat), .int .u16 ((r).s 2 : Nat), .int .u16 ((r).s 3 : Nat), .int .i64 (r).cls] rfl rfl LI.out rfl (all_oneCell_toArray (Rl.one r)) ?_))
        go_ret
        exact ⟨by rw [HV.out]; rfl, (by repeat' (first | with_reducible exact Below.refl _ _ | with_reducible assumption | ((with_reducible refine Below.drew ?_)) | ((with_reducible refine below_drewN ?_ _)) | ((with_reducible refine Below.alloc ?_ ?_ _); rotate_left; focus (first | omega | (simp; done) | (simp; omega))) | ((with_reducible refine Below.setCell ?_ ?_ _); rotate_left; focus (first | omega | (simp; done) | (simp; omega))) | ((with_reducible refine Below.trans ?_ (Below.mono (by with_reducible assumption) ?_)); rotate_left; focus (first | omega | (simp; done) | (simp; omega)))))⟩
      · have e1 : decide (r.cls < 1) = false := by simp; omega
        by_cases g2 : 65536 < r.cls
        · have e2 : decide (65536 < r.cls) = true := by simpa using g2
          have hm : rmay r.m r.s r.cls = false := by rw [hrm, show decide (r.cls ≤ 65536) = false by simp; omega]; simp
          have HV := Lib.hid (rwv_no (HN.out hm))
          clear hrm hm KM
          go_wp2_with (first | (refine wpList_load_mid rfl 37 _ rfl b (o + k * 9) rfl _ _ hr Try.underlying37 rfl LI.out ?_) | (refine wpList_store_new rfl 37 _ _ rfl _ #[.int .u16 ((r).m 0 : Nat), .int .u16 ((r).m 1 : Nat), .int .u16 ((r).m 2 : Nat), .int .u16 ((r).m 3 : Nat), .int .u16 ((r).s 0 : Nat), .int .u16 ((r).s 1 : Nat), .int .u16 ((r).s 2 : Nat), .int .u16 ((r).s 3 : Nat), .int .i64 (r).cls] rfl rfl LI.out rfl (all_oneCell_toArray (Rl.one r)) ?_))
          go_ret
          exact ⟨by rw [HV.out]; rfl, (by repeat' (first | with_reducible exact Below.refl _ _ | with_reducible assumption | ((with_reducible refine Below.drew ?_)) | ((with_reducible refine below_drewN ?_ _)) | ((with_reducible refine Below.alloc ?_ ?_ _); rotate_left; focus (first | omega | (simp; done) | (simp; omega))) | ((with_reducible refine Below.setCell ?_ ?_ _); rotate_left; focus (first | omega | (simp; done) | (simp; omega))) | ((with_reducible refine Below.trans ?_ (Below.mono (by with_reducible assumption) ?_)); rotate_left; focus (first | omega | (simp; done) | (simp; omega)))))⟩
        · have e2 : decide (65536 < r.cls) = false := by simp; omega
          have hm : rmay r.m r.s r.cls = mtc r.m r.s r.s := by rw [hrm, show decide (1 ≤ r.cls) = true by simp; omega, show decide (r.cls ≤ 65536) = true by simp; omega]; simp
          cases hb2 : mtc r.m r.s r.s with
          | true =>
            rw [hb2] at KM hm
            have HV := Lib.hid (HST.out hm)
            clear hrm hm hb2
            go_wp2_with (first | (refine wpList_load_mid rfl 37 _ rfl b (o + k * 9) rfl _ _ hr Try.underlying37 rfl LI.out ?_) | (refine wpList_store_new rfl 37 _ _ rfl _ #[.int .u16 ((r).m 0 : Nat), .int .u16 ((r).m 1 : Nat), .int .u16 ((r).m 2 : Nat), .int .u16 ((r).m 3 : Nat), .int .u16 ((r).s 0 : Nat), .int .u16 ((r).s 1 : Nat), .int .u16 ((r).s 2 : Nat), .int .u16 ((r).s 3 : Nat), .int .i64 (r).cls] rfl rfl LI.out rfl (all_oneCell_toArray (Rl.one r)) ?_) | (go_at_call 19; ((with_reducible refine (KM.out _).mono ?_); rintro e w1 ⟨rfl, hbel⟩; obtain ⟨hcc, hff⟩ := bcell hbel; have hsz := hbel.size; (try simp at hsz); have hF : Below w.heap.size w w1 := (by ((repeat' apply And.intro) <;> first | (simp [go_sem, *]; done) | omega | (repeat' (first | with_reducible exact Below.refl _ _ | with_reducible assumption | ((with_reducible refine Below.drew ?_)) | ((with_reducible refine below_drewN ?_ _)) | ((with_reducible refine Below.alloc ?_ ?_ _); rotate_left; focus (first | omega | (simp; done) | (simp; omega))) | ((with_reducible refine Below.setCell ?_ ?_ _); rotate_left; focus (first | omega | (simp; done) | (simp; omega))) | ((with_reducible refine Below.trans ?_ (Below.mono (by with_reducible assumption) ?_)); rotate_left; focus (first | omega | (simp; done) | (simp; omega))))))); go_split_ands; clear hcc hff hbel)))
            go_roundw
            case rel => exact ⟨k + 1, by omega, by go_num, HV.out, by assumption⟩
            case measure => simp [intOf]; omega
          | false =>
            rw [hb2] at KM hm
            have HV := Lib.hid (rwv_no (HN.out hm))
            clear hrm hm hb2
            go_wp2_with (first | (refine wpList_load_mid rfl 37 _ rfl b (o + k * 9) rfl _ _ hr Try.underlying37 rfl LI.out ?_) | (refine wpList_store_new rfl 37 _ _ rfl _ #[.int .u16 ((r).m 0 : Nat), .int .u16 ((r).m 1 : Nat), .int .u16 ((r).m 2 : Nat), .int .u16 ((r).m 3 : Nat), .int .u16 ((r).s 0 : Nat), .int .u16 ((r).s 1 : Nat), .int .u16 ((r).s 2 : Nat), .int .u16 ((r).s 3 : Nat), .int .i64 (r).cls] rfl rfl LI.out rfl (all_oneCell_toArray (Rl.one r)) ?_) | (go_at_call 19; ((with_reducible refine (KM.out _).mono ?_); rintro e w1 ⟨rfl, hbel⟩; obtain ⟨hcc, hff⟩ := bcell hbel; have hsz := hbel.size; (try simp at hsz); have hF : Below w.heap.size w w1 := (by ((repeat' apply And.intro) <;> first | (simp [go_sem, *]; done) | omega | (repeat' (first | with_reducible exact Below.refl _ _ | with_reducible assumption | ((with_reducible refine Below.drew ?_)) | ((with_reducible refine below_drewN ?_ _)) | ((with_reducible refine Below.alloc ?_ ?_ _); rotate_left; focus (first | omega | (simp; done) | (simp; omega))) | ((with_reducible refine Below.setCell ?_ ?_ _); rotate_left; focus (first | omega | (simp; done) | (simp; omega))) | ((with_reducible refine Below.trans ?_ (Below.mono (by with_reducible assumption) ?_)); rotate_left; focus (first | omega | (simp; done) | (simp; omega))))))); go_split_ands; clear hcc hff hbel)))
            go_ret
            exact ⟨by rw [HV.out]; rfl, by assumption⟩
    · obtain rfl : k = rs.length := by omega
      rw [List.take_length] at hal
      have HV := Lib.hid (rwv_yes hal)
      clear hal hlt
      go_wp2
      go_ret
      exact ⟨by rw [HV.out]; rfl, hB⟩
end Go.Proofs.Ytkbglhkhhoakgaa
