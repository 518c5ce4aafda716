/- Rules in memory; the reference's Find. -/
import Derived.Test.YtkbglhkhhoakgaaMt4
import Derived.Test.YtkbglhkhhoakgaaEv1
namespace Go.Proofs.Ytkbglhkhhoakgaa
set_option linter.unusedVariables false
set_option linter.unusedSimpArgs false
set_option maxRecDepth 100000
open Go.RowKit Fg Reg
attribute [local irreducible] Reg.wE

structure Rl where
  m : Nat → Nat
  s : Nat → Nat
  cls : Int
instance : Inhabited Rl := ⟨⟨fun _ => 0, fun _ => 0, 0⟩⟩
def Rl.cells (r : Rl) : List Value := [.int .u16 (r.m 0 : Nat), .int .u16 (r.m 1 : Nat), .int .u16 (r.m 2 : Nat), .int .u16 (r.m 3 : Nat), .int .u16 (r.s 0 : Nat), .int .u16 (r.s 1 : Nat), .int .u16 (r.s 2 : Nat), .int .u16 (r.s 3 : Nat), .int .i64 r.cls]
structure Rl.wf (r : Rl) : Prop where
  m : ∀ i, r.m i < 65536
  s : ∀ i, r.s i < 65536
theorem Rl.one (r : Rl) : ∀ v ∈ r.cells, v.oneCell' = true := by
  intro v hv
  unfold Rl.cells at hv
  simp only [List.mem_cons, List.not_mem_nil, or_false] at hv
  rcases hv with rfl | rfl | rfl | rfl | rfl | rfl | rfl | rfl | rfl <;> rfl
def RlsV (w : World) (a : Option Addr) (rs : List Rl) : Prop := ∀ k (h : k < rs.length), ∃ b o, a = some ⟨b, o, none⟩ ∧ b < w.heap.size ∧ w.rangeAt b (o + k * 9) rs[k].cells
theorem RlsV.below {w w' : World} {a : Option Addr} {rs : List Rl} (h : RlsV w a rs) (hb : Below w.heap.size w w') : RlsV w' a rs := fun k hk => by
  obtain ⟨b, o, e, h1, h2⟩ := h k hk
  exact ⟨b, o, e, Nat.lt_of_lt_of_le h1 hb.size, fun j v hv => (hb.cell (p := ⟨b, o + k * 9 + j, none⟩) h1).trans (h2 j v hv)⟩
theorem rl_info : (Try.prog.info? 37).map (·.size) = some 9 := by kernel_rfl
/-- The first rule that matches. -/
def rfind (rs : List Rl) (h : Nat → Nat) : Int := match rs.find? (fun r => mtc r.m r.s h) with
  | some r => r.cls
  | none => 0
theorem rfind_at (rs : List Rl) (h : Nat → Nat) (k : Nat) (hk : k < rs.length) (hno : (rs.take k).find? (fun r => mtc r.m r.s h) = none) (hy : mtc rs[k].m rs[k].s h = true) : rfind rs h = rs[k].cls := by
  unfold rfind
  have e : rs = rs.take k ++ rs[k] :: rs.drop (k + 1) := by simp
  have : rs.find? (fun r => mtc r.m r.s h) = some rs[k] := by
    conv => lhs; rw [e]
    rw [List.find?_append, hno, List.find?_cons_of_pos (by simpa using hy)]
    rfl
  rw [this]
set_option maxHeartbeats 4000000 in
theorem rfi_c (rs : List Rl) (h : Nat → Nat) (a : Option Addr) (c : Nat) (hn : rs.length ≤ 100000) (hh : ∀ i, h i < 65536) (hwf : ∀ k (hk : k < rs.length), rs[k].wf) (w : World) (hR : RlsV w a rs) :
    Calls Try.prog 16 #[.slice a rs.length c, .agg #[.int .u16 (h 0 : Nat), .int .u16 (h 1 : Nat), .int .u16 (h 2 : Nat), .int .u16 (h 3 : Nat)]] w fun ee w' => ee = .returned (.int .i64 (rfind rs h)) ∧ Below w.heap.size w w' := by
  have HR := Lib.hid hR
  have HW := Lib.hid hwf
  have HA := Lib.hid (rfind_at rs h)
  have HH := Lib.hid hh
  have LI := Lib.hid rl_info
  clear hR hwf hh
  go_enter Try.func16, Try.ntmps16
  go_wp2_with fail
  go_loopw [9] (fun ii wr => ∃ k : Nat, k ≤ rs.length ∧ ii = .int .i64 k ∧ (rs.take k).find? (fun r => mtc r.m r.s h) = none ∧ (wr.cell? ⟨w.heap.size, 0, none⟩ = some (.int .u16 (h 0 : Nat)) ∧ wr.cell? ⟨w.heap.size, 1, none⟩ = some (.int .u16 (h 1 : Nat)) ∧ wr.cell? ⟨w.heap.size, 2, none⟩ = some (.int .u16 (h 2 : Nat)) ∧ wr.cell? ⟨w.heap.size, 3, none⟩ = some (.int .u16 (h 3 : Nat)) ∧ w.heap.size < wr.heap.size) ∧ Below w.heap.size w wr) (fun ii _ => rs.length - (intOf ii).toNat)
  case atStart => exact ⟨0, Nat.zero_le _, rfl, by simp, by ((repeat' apply And.intro) <;> first | (simp [go_sem, *]; done) | omega | (repeat' (first | with_reducible exact Below.refl _ _ | with_reducible assumption | ((with_reducible refine Below.drew ?_)) | ((with_reducible refine below_drewN ?_ _)) | ((with_reducible refine Below.alloc ?_ ?_ _); rotate_left; focus (first | omega | (simp; done) | (simp; omega))) | ((with_reducible refine Below.setCell ?_ ?_ _); rotate_left; focus (first | omega | (simp; done) | (simp; omega))) | ((with_reducible refine Below.trans ?_ (Below.mono (by with_reducible assumption) ?_)); rotate_left; focus (first | omega | (simp; done) | (simp; omega)))))), (by repeat' (first | with_reducible exact Below.refl _ _ | with_reducible assumption | ((with_reducible refine Below.drew ?_)) | ((with_reducible refine below_drewN ?_ _)) | ((with_reducible refine Below.alloc ?_ ?_ _); rotate_left; focus (first | omega | (simp; done) | (simp; omega))) | ((with_reducible refine Below.setCell ?_ ?_ _); rotate_left; focus (first | omega | (simp; done) | (simp; omega))) | ((with_reducible refine Below.trans ?_ (Below.mono (by with_reducible assumption) ?_)); rotate_left; focus (first | omega | (simp; done) | (simp; omega)))))⟩
  case round =>
    obtain ⟨k, hk, rfl, hno, hH, hB⟩ := hrel
    have hsz := hB.size
    by_cases hlt : k < rs.length
    · obtain ⟨b, o, rfl, hb, hr⟩ := (HR.out.below hB) k hlt
      have hf := HW.out k hlt
      have hat := fun hy => HA.out k hlt hno hy
      have hnx : mtc rs[k].m rs[k].s h = false → (rs.take (k + 1)).find? (fun r => mtc r.m r.s h) = none := fun hy => by
        rw [take_snoc'' rs k hlt, List.find?_append, hno]
        simp [hy]
      generalize rs[k] = r at hr hf hat hnx
      have KM := Lib.hid (fun z => rma_c r.m r.s h r.cls hf.m HH.out z)
      have HAT := Lib.hid hat
      have HNX := Lib.hid hnx
      clear hat hnx hf hno
      go_split_ands
      cases hb2 : mtc r.m r.s h with
      | true =>
        rw [hb2] at KM
        have HV := Lib.hid (HAT.out hb2)
        clear hb2
        go_wp2_with (first | (refine wpList_load_mid rfl 37 _ rfl b (o + k * 9) rfl _ _ hr Try.underlying37 rfl LI.out ?_) | (refine wpList_store_new rfl 37 _ _ rfl _ #[.int .u16 ((r).m 0 : Nat), .int .u16 ((r).m 1 : Nat), .int .u16 ((r).m 2 : Nat), .int .u16 ((r).m 3 : Nat), .int .u16 ((r).s 0 : Nat), .int .u16 ((r).s 1 : Nat), .int .u16 ((r).s 2 : Nat), .int .u16 ((r).s 3 : Nat), .int .i64 (r).cls] rfl rfl LI.out rfl (all_oneCell_toArray (Rl.one r)) ?_) | (go_at_call 19; ((with_reducible refine (KM.out _).mono ?_); rintro e w1 ⟨rfl, hbel⟩; obtain ⟨hcc, hff⟩ := bcell hbel; have hsz := hbel.size; (try simp at hsz); have hF : (w1.cell? ⟨wr.heap.size, 8, none⟩ = some (.int .i64 r.cls) ∧ wr.heap.size < w1.heap.size) ∧ Below w.heap.size w w1 := (by ((repeat' apply And.intro) <;> first | (simp [go_sem, *]; done) | omega | (repeat' (first | with_reducible exact Below.refl _ _ | with_reducible assumption | ((with_reducible refine Below.drew ?_)) | ((with_reducible refine below_drewN ?_ _)) | ((with_reducible refine Below.alloc ?_ ?_ _); rotate_left; focus (first | omega | (simp; done) | (simp; omega))) | ((with_reducible refine Below.setCell ?_ ?_ _); rotate_left; focus (first | omega | (simp; done) | (simp; omega))) | ((with_reducible refine Below.trans ?_ (Below.mono (by with_reducible assumption) ?_)); rotate_left; focus (first | omega | (simp; done) | (simp; omega))))))); go_split_ands; clear hcc hff hbel)))
        go_ret
        exact ⟨by rw [HV.out]; rfl, by assumption⟩
      | false =>
        rw [hb2] at KM
        have HV := Lib.hid (HNX.out hb2)
        clear hb2
        go_wp2_with (first | (refine wpList_load_mid rfl 37 _ rfl b (o + k * 9) rfl _ _ hr Try.underlying37 rfl LI.out ?_) | (refine wpList_store_new rfl 37 _ _ rfl _ #[.int .u16 ((r).m 0 : Nat), .int .u16 ((r).m 1 : Nat), .int .u16 ((r).m 2 : Nat), .int .u16 ((r).m 3 : Nat), .int .u16 ((r).s 0 : Nat), .int .u16 ((r).s 1 : Nat), .int .u16 ((r).s 2 : Nat), .int .u16 ((r).s 3 : Nat), .int .i64 (r).cls] rfl rfl LI.out rfl (all_oneCell_toArray (Rl.one r)) ?_) | (go_at_call 19; ((with_reducible refine (KM.out _).mono ?_); rintro e w1 ⟨rfl, hbel⟩; obtain ⟨hcc, hff⟩ := bcell hbel; have hsz := hbel.size; (try simp at hsz); have hF : (w1.cell? ⟨w.heap.size, 0, none⟩ = some (.int .u16 (h 0 : Nat)) ∧ w1.cell? ⟨w.heap.size, 1, none⟩ = some (.int .u16 (h 1 : Nat)) ∧ w1.cell? ⟨w.heap.size, 2, none⟩ = some (.int .u16 (h 2 : Nat)) ∧ w1.cell? ⟨w.heap.size, 3, none⟩ = some (.int .u16 (h 3 : Nat)) ∧ w.heap.size < w1.heap.size) ∧ Below w.heap.size w w1 := (by ((repeat' apply And.intro) <;> first | (simp [go_sem, *]; done) | omega | (repeat' (first | with_reducible exact Below.refl _ _ | with_reducible assumption | ((with_reducible refine Below.drew ?_)) | ((with_reducible refine below_drewN ?_ _)) | ((with_reducible refine Below.alloc ?_ ?_ _); rotate_left; focus (first | omega | (simp; done) | (simp; omega))) | ((with_reducible refine Below.setCell ?_ ?_ _); rotate_left; focus (first | omega | (simp; done) | (simp; omega))) | ((with_reducible refine Below.trans ?_ (Below.mono (by with_reducible assumption) ?_)); rotate_left; focus (first | omega | (simp; done) | (simp; omega))))))); go_split_ands; clear hcc hff hbel)))
        go_roundw
        case rel => exact ⟨k + 1, by omega, by go_num, HV.out, by ((repeat' apply And.intro) <;> first | (simp [go_sem, *]; done) | omega | (repeat' (first | with_reducible exact Below.refl _ _ | with_reducible assumption | ((with_reducible refine Below.drew ?_)) | ((with_reducible refine below_drewN ?_ _)) | ((with_reducible refine Below.alloc ?_ ?_ _); rotate_left; focus (first | omega | (simp; done) | (simp; omega))) | ((with_reducible refine Below.setCell ?_ ?_ _); rotate_left; focus (first | omega | (simp; done) | (simp; omega))) | ((with_reducible refine Below.trans ?_ (Below.mono (by with_reducible assumption) ?_)); rotate_left; focus (first | omega | (simp; done) | (simp; omega)))))), by assumption⟩
        case measure => simp [intOf]; omega
    · obtain rfl : k = rs.length := by omega
      rw [List.take_length] at hno
      have HV := Lib.hid (show rfind rs h = 0 by unfold rfind; rw [hno])
      clear hno hlt
      go_wp2
      go_ret
      exact ⟨by rw [HV.out]; rfl, hB⟩
end Go.Proofs.Ytkbglhkhhoakgaa
