/- The reference's Encode (captures). -/
import Derived.Test.YtnfhiagbbmaobaaCp3
import Derived.Test.YtnfhiagbbmaobaaCp6
namespace Go.Proofs.Ytnfhiagbbmaobaa
set_option linter.unusedVariables false
set_option linter.unusedSimpArgs false
set_option maxRecDepth 100000
open Go.RowKit Fg Reg
attribute [local irreducible] Reg.wE Reg2.wT World.ownsRow

theorem bl_strOf (l : List Int) (h : ∀ x ∈ l, 0 ≤ x ∧ x ≤ 255) : bl (strOf l) = l := by
  have hs : (bl (strOf l)).length = l.length := by rw [bl_len, strOf_size]
  refine List.ext_getElem hs fun j h1 h2 => ?_
  have e1 := bl_get' (strOf l) j
  rw [byt_strOf l j h] at e1
  simpa [List.getD, List.getElem?_eq_getElem h1, List.getElem?_eq_getElem h2] using e1
theorem by2_ok' (v : Int) : ∀ x ∈ by2 v, 0 ≤ x ∧ x ≤ 255 := fun x hx => by simp [by2] at hx; omega
set_option maxHeartbeats 8000000 in
theorem cren_c (L : List Fm) (hw : ∀ k (h : k < L.length), L[k].wf) (hk : chk L = 0) (a : Option Addr) (cap : Nat) (w : World) (hR : RwV Fm.cells 2 w a L) : Calls Try.prog 33 #[.slice a L.length cap] w fun ee w' => ee = .returned (.string (capS L)) ∧ Below w.heap.size w w' := by
  obtain ⟨ie, HI0, HZ0, HZ1, HZ2⟩ := u8_parts
  have hL : L.length ≤ 1000 ∧ chkf 0 L = 0 := by
    unfold chk at hk
    split at hk
    · omega
    · exact ⟨by omega, hk⟩
  have hds := chkf_all hL.2
  have HW := Lib.hid hw
  have HR := Lib.hid hR
  have HD := Lib.hid hds
  have HLE := Lib.hid (encl_len_le L (fun k h => (hds k h).1))
  have hL1 := hL.1
  clear hw hR hds hk hL
  go_enter Try.func33, Try.ntmps33
  go_wp2_with (at_builtin; refine wpList_append_bt rfl _ _ 43 9 rfl w.heap.size 5 ie Try.underlying43 Try.underlying9 HI0 HZ0 HZ1 HZ2 _ [] rfl (.inl ⟨rfl, rfl⟩) (strOf flog) (by rw [show strOf flog = (⟨#[102, 108, 111, 103]⟩ : ByteArray) by decide +kernel]; rfl) ?c1 ?c2 ?_)
  case c1 => (rw [strOf_size]; simp [flog])
  case c2 => exact Nat.le_refl _
  intro v0 w0 hO0 hg0
  rw [bl_strOf flog (by simp [flog])] at hO0
  have hB0 : Below w.heap.size w w0 := hg0.only.below (B := w.heap.size) (a := w) (Below.refl _ _) (Nat.le_refl _) (fun k hk => by cases hk)
  go_wp2
  go_loopw [3, 10] (fun out ii wr => ∃ (k : Nat) (v : Value), k ≤ L.length ∧ ii = .int .i64 k ∧ out = v ∧ BS wr w.heap.size v (flog ++ encl (L.take k)) ∧ Below w.heap.size w wr) (fun _ ii _ => L.length - (intOf ii).toNat)
  case atStart => exact ⟨0, _, Nat.zero_le _, rfl, rfl, by rw [show encl (L.take 0) = [] from rfl, List.append_nil]; exact hO0, hB0⟩
  case round =>
    clear hO0 hB0 hg0
    obtain ⟨k, v, hk, rfl, hv, hO, hB⟩ := hrel
    have hv' := hv.symm
    subst hv'
    by_cases hlt : k < L.length
    · obtain ⟨b, o, ha, hb, q0, q1⟩ := fm_cells HR.out k hlt
      have hwf := HW.out k hlt
      have hdd := HD.out k hlt
      have hle := HLE.out k
      have hts := take_snoc2 L k hlt
      have c0 := (hB.cell (p := ⟨b, o + k * 2, none⟩) hb).trans q0
      have c1 := (hB.cell (p := ⟨b, o + k * 2 + 1, none⟩) hb).trans q1
      obtain ⟨⟨t0, t1⟩, -⟩ := hwf
      rw [show encf L[k] = by8 L[k].t ++ by2 L[k].d.size ++ bl L[k].d from rfl] at hts
      generalize L[k].t = t at *
      generalize L[k].d = d at *
      have HTS := Lib.hid hts
      have hsz := hB.size
      subst ha
      clear q0 q1 hts
      have hbr : b < wr.heap.size := by omega
      have hblk := hO.blk
      have hvb : v.ownBlock ≠ some wr.heap.size := fun e => by have := (hblk _ e).2; omega
      have hlen : (flog ++ encl (L.take k)).length ≤ 16394100 := by rw [List.length_append]; simp [flog]; omega
      obtain ⟨l, hl⟩ : ∃ l, flog ++ encl (L.take k) = l := ⟨_, rfl⟩
      rw [hl] at hO hlen
      have HLE2 := Lib.hid (show flog ++ (encl (L.take k) ++ (by8 t ++ by2 d.size ++ bl d)) = l ++ (by8 t ++ by2 d.size ++ bl d) by rw [← hl]; simp only [List.append_assoc])
      clear hl
      have hHZ : d.size ≤ 16384 := hdd.1
      have hwr : w.heap.size ≤ wr.heap.size := hB.size
      have hBa : Below w.heap.size w (wr.alloc (.cells #[.int .u64 t, .string d] 124)) := hB.alloc hwr _
      have hBL : w.heap.size ≤ (wr.alloc (.cells #[.int .u64 t, .string d] 124)).heap.size := hBa.size
      have hOa := hO.alloc (.cells #[.int .u64 t, .string d] 124)
      have K8 := Lib.hid (fun z => cby8_c t ⟨t0, t1⟩ z)
      have K2 := Lib.hid (fun z => cby2_c (d.size : Int) (by have := hdd.1; omega) z)
      have hwd : IntKind.u64.wrap (d.size : Int) = d.size := by rw [wrap_u64]; omega
      have HLL := Lib.hid hlen
      have HDD := Lib.hid hHZ
      clear hlen hHZ hdd hle hBL
      go_wp2_with (first
        | (go_at_call 60; ((with_reducible refine (K8.out _).mono ?_); rintro e w3 ⟨rfl, hbel⟩; (have hO3 := hOa.below hbel); (have hB3 := Below.trans hBa (hbel.mono (by simp; omega))); (have x0 : w3.cell? ⟨wr.heap.size, 1, none⟩ = some (.string d) := (hbel.cell (by simp)).trans (by simp [go_sem])); (have hsz3 : wr.heap.size + 1 ≤ w3.heap.size := (by have := hbel.size; simpa using this))))
        | (at_builtin; refine wpList_append_bt rfl _ _ 43 9 rfl w.heap.size 5 ie Try.underlying43 Try.underlying9 HI0 HZ0 HZ1 HZ2 _ _ rfl hO3 (strOf (by8 t)) rfl ?c1 ?c2 ?_))
      case c1 => (have := HLL.out; have := HDD.out; rw [strOf_size]; simp [by8]; omega)
      case c2 => exact hB3.size
      intro v4 w4 hO4 hg4
      rw [bl_strOf _ (by8_ok t)] at hO4
      have hB4 := hg4.only.below hB3 hB3.size (fun k hk => (hO3.blk k hk).1)
      have x1 : w4.cell? ⟨wr.heap.size, 1, none⟩ = some (.string d) := (hg4.cell (by omega) hvb).trans x0
      have hv4 := hg4.apart (b := wr.heap.size) (by omega) hvb
      have hsz4 : wr.heap.size + 1 ≤ w4.heap.size := Nat.le_trans hsz3 hg4.only.size
      clear hO3 hg4
      go_wp2_with (first
        | (go_at_call 60; go_loud ((with_reducible refine (K2.out _).mono ?_); rintro e w5 ⟨rfl, hbel⟩; (have hO5 := hO4.below hbel); (have hB5 := Below.trans hB4 (hbel.mono hB4.size)); (have x2 : w5.cell? ⟨wr.heap.size, 1, none⟩ = some (.string d) := (hbel.cell (by show wr.heap.size < w4.heap.size; omega)).trans x1); (have hsz5 : wr.heap.size + 1 ≤ w5.heap.size := Nat.le_trans hsz4 hbel.size)))
        | (at_builtin; refine wpList_append_bt rfl _ _ 43 9 rfl w.heap.size 5 ie Try.underlying43 Try.underlying9 HI0 HZ0 HZ1 HZ2 _ _ rfl hO5 (strOf (by2 d.size)) rfl ?c1 ?c2 ?_))
      case c1 => (have := HLL.out; have := HDD.out; rw [strOf_size]; simp [by8, by2]; omega)
      case c2 => exact hB5.size
      intro v6 w6 hO6 hg6
      rw [bl_strOf _ (by2_ok' _)] at hO6
      have hB6 := hg6.only.below hB5 hB5.size (fun k hk => (hO5.blk k hk).1)
      have x3 : w6.cell? ⟨wr.heap.size, 1, none⟩ = some (.string d) := (hg6.cell (by omega) hv4).trans x2
      clear hO5 hg6
      go_wp2_with (at_builtin; refine wpList_append_bt rfl _ _ 43 9 rfl w.heap.size 5 ie Try.underlying43 Try.underlying9 HI0 HZ0 HZ1 HZ2 _ _ rfl hO6 d rfl ?c1 ?c2 ?_)
      case c1 => (have := HLL.out; have := HDD.out; simp [by8, by2]; omega)
      case c2 => exact hB6.size
      intro v7 w7 hO7 hg7
      have hB7 := hg7.only.below hB6 hB6.size (fun k hk => (hO6.blk k hk).1)
      have HO7 := Lib.hid hO7
      clear hO7
      go_wp2
      go_roundw
      case rel => exact ⟨k + 1, v7, by omega, by go_num, rfl, by rw [HTS.out]; have h := HO7.out; rw [HLE2.out]; simpa [List.append_assoc] using h, hB7⟩
      case measure => (simp [intOf]; try omega)
    · obtain rfl : k = L.length := by omega
      rw [List.take_length] at hO
      obtain ⟨ao, cp, rfl⟩ := hO.form
      have htx := hO.text rfl
      rw [show strOf (flog ++ encl L) = capS L from rfl] at htx
      obtain ⟨RS, hRS⟩ : ∃ RS, capS L = RS := ⟨_, rfl⟩
      rw [hRS] at htx
      have HRS := Lib.hid hRS
      clear hRS
      generalize (flog ++ encl L).length = nn at *
      clear hO
      go_wp2
      go_ret
      exact ⟨by rw [HRS.out]; rfl, hB⟩
end Go.Proofs.Ytnfhiagbbmaobaa
