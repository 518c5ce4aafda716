/- capture.Encode. -/
import Derived.Test.YtnfhiagbbmaobaaCp2
namespace Go.Proofs.Ytnfhiagbbmaobaa
set_option linter.unusedVariables false
set_option linter.unusedSimpArgs false
set_option maxRecDepth 100000
open Go.RowKit Fg Reg
attribute [local irreducible] Reg.wE Reg2.wT World.ownsRow

theorem cenc_bad (L : List Fm) (e : Int) (he : e = 2 ∨ e = 26 ∨ e = 27) (a : Option Addr) (cap : Nat) (kc : ∀ z, Below z.heap.size z z → True) (w : World) (hc : Calls Try.prog 56 #[.slice a L.length cap] w fun ee w' => ee = .returned (.int .i64 e) ∧ Below w.heap.size w w') : Calls Try.prog 29 #[.slice a L.length cap] w fun ee w' => ee = .returned (.tuple #[.string ⟨#[]⟩, .int .i64 e]) ∧ Below w.heap.size w w' := by
  have KC := Lib.hid hc
  clear hc kc
  rcases he with rfl | rfl | rfl
  all_goals
    go_enter Try.func29, Try.ntmps29
    go_wp2_with (go_at_call 56; ((with_reducible refine (KC.out).mono ?_); rintro e w1 ⟨rfl, hbel⟩; obtain ⟨hcc, hff⟩ := bcell hbel; have hsz := hbel.size; (try simp at hsz); have hF : Below w.heap.size w w1 := (by ((repeat' apply And.intro) <;> first | (simp [go_sem, *]; done) | omega | (repeat' (first | with_reducible exact Below.refl _ _ | with_reducible assumption | ((with_reducible refine Below.drew ?_)) | ((with_reducible refine below_drewN ?_ _)) | ((with_reducible refine Below.alloc ?_ ?_ _); rotate_left; focus (first | omega | (simp; done) | (simp; omega))) | ((with_reducible refine Below.setCell ?_ ?_ _); rotate_left; focus (first | omega | (simp; done) | (simp; omega))) | ((with_reducible refine Below.trans ?_ (Below.mono (by with_reducible assumption) ?_)); rotate_left; focus (first | omega | (simp; done) | (simp; omega))))))); go_split_ands; clear hcc hff hbel))
    (go_ret2; refine ⟨?_, ?_⟩; (focus (exact rfl)); ((repeat' (first | with_reducible exact Below.refl _ _ | with_reducible assumption | ((with_reducible refine Below.drew ?_)) | ((with_reducible refine below_drewN ?_ _)) | ((with_reducible refine Below.alloc ?_ ?_ _); rotate_left; focus (first | omega | (simp; done) | (simp; omega))) | ((with_reducible refine Below.setCell ?_ ?_ _); rotate_left; focus (first | omega | (simp; done) | (simp; omega))) | ((with_reducible refine Below.trans ?_ (Below.mono (by with_reducible assumption) ?_)); rotate_left; focus (first | omega | (simp; done) | (simp; omega))))); done))
theorem take_snoc2 (L : List Fm) (k : Nat) (h : k < L.length) : encl (L.take (k + 1)) = encl (L.take k) ++ encf L[k] := by
  rw [List.take_succ_eq_append_getElem h]
  unfold encl
  rw [List.flatMap_append]
  simp
theorem encl_len_le (L : List Fm) (h : ∀ k (h : k < L.length), L[k].d.size ≤ 16384) (k : Nat) : (encl (L.take k)).length ≤ 16394 * k := by
  induction k with
  | zero => simp [encl]
  | succ k ih =>
    by_cases hk : k < L.length
    · rw [take_snoc2 L k hk, List.length_append, encf_len]
      have := h k hk
      omega
    · rw [List.take_of_length_le (by omega)]
      rw [List.take_of_length_le (by omega)] at ih
      omega
theorem chkf_all {last : Int} {L : List Fm} (h : chkf last L = 0) : ∀ k (hk : k < L.length), L[k].d.size ≤ 16384 ∧ 0 ≤ (L[k].d.size : Int) := by
  induction L generalizing last with
  | nil => intro k hk; exact absurd hk (Nat.not_lt_zero _)
  | cons f l ih =>
    obtain ⟨h1, h2, h3⟩ := chkf_step h
    intro k hk
    cases k with
    | zero => exact ⟨h1.2, by omega⟩
    | succ k => exact ih h3 k (by simpa using hk)
set_option maxHeartbeats 8000000 in
theorem cenc_ok (L : List Fm) (hw : ∀ k (h : k < L.length), L[k].wf) (hk : chk L = 0) (a : Option Addr) (cap : Nat) (w : World) (hR : RwV Fm.cells 2 w a L) : Calls Try.prog 29 #[.slice a L.length cap] w fun ee w' => ee = .returned (.tuple #[.string (capS L), .int .i64 0]) ∧ Below w.heap.size w w' := by
  obtain ⟨ie, HI0, HZ0, HZ1, HZ2⟩ := u8_parts
  have hL : L.length ≤ 1000 ∧ chkf 0 L = 0 := by
    unfold chk at hk
    split at hk
    · omega
    · exact ⟨by omega, hk⟩
  have hds := chkf_all hL.2
  have kc := cchk_c L hw (by omega) a cap w hR
  rw [hk] at kc
  have KC := Lib.hid kc
  have HW := Lib.hid hw
  have HR := Lib.hid hR
  have HD := Lib.hid hds
  have HLE := Lib.hid (encl_len_le L (fun k h => (hds k h).1))
  have hL1 := hL.1
  have hcs := fun (w : World) (C : Array Value) (n c : Nat) => Lib.run_convert_bytes_const (P := Try.prog) w 43 5 C n c Try.underlying43 Try.underlying5
  clear kc hw hR hds hk hL
  go_enter Try.func29, Try.ntmps29
  go_wp2_with (go_at_call 56; ((with_reducible refine (KC.out).mono ?_); rintro e w1 ⟨rfl, hbel⟩; obtain ⟨hcc, hff⟩ := bcell hbel; have hsz := hbel.size; (try simp at hsz); have hF : w.heap.size ≤ w1.heap.size ∧ Below w.heap.size w w1 := (by ((repeat' apply And.intro) <;> first | (simp [go_sem, *]; done) | omega | (repeat' (first | with_reducible exact Below.refl _ _ | with_reducible assumption | ((with_reducible refine Below.drew ?_)) | ((with_reducible refine below_drewN ?_ _)) | ((with_reducible refine Below.alloc ?_ ?_ _); rotate_left; focus (first | omega | (simp; done) | (simp; omega))) | ((with_reducible refine Below.setCell ?_ ?_ _); rotate_left; focus (first | omega | (simp; done) | (simp; omega))) | ((with_reducible refine Below.trans ?_ (Below.mono (by with_reducible assumption) ?_)); rotate_left; focus (first | omega | (simp; done) | (simp; omega))))))); go_split_ands; clear hcc hff hbel))
  have hB1 : Below w.heap.size w w1 := by assumption
  have hsz1 : w.heap.size ≤ w1.heap.size := hB1.size
  have hO0 := bs_mark w1 hsz1 flog (by simp [flog])
  have hB2 : Below w.heap.size w (w1.alloc (.cells (flog.map (Value.int .u8)).toArray 5 ((flog.map (Value.int .u8)).toArray.size, (flog.map (Value.int .u8)).toArray.size + 1))) := hB1.alloc hsz1 _
  have hwl : w1.alloc (.cells (flog.map (Value.int .u8)).toArray 5 ((flog.map (Value.int .u8)).toArray.size, (flog.map (Value.int .u8)).toArray.size + 1)) = w1.alloc (.cells #[.int .u8 102, .int .u8 108, .int .u8 111, .int .u8 103] 5 (4, 5)) := rfl
  rw [hwl] at hO0 hB2
  clear hwl
  go_loopw [5, 17] (fun out ii wr => ∃ (k : Nat) (v : Value), k ≤ L.length ∧ ii = .int .i64 k ∧ out = v ∧ BS wr w.heap.size v (flog ++ encl (L.take k)) ∧ Below w.heap.size w wr) (fun _ ii _ => L.length - (intOf ii).toNat)
  case atStart => exact ⟨0, _, Nat.zero_le _, rfl, rfl, by rw [show encl (L.take 0) = [] from rfl, List.append_nil]; exact hO0, hB2⟩
  case round =>
    clear hO0 hB2
    obtain ⟨k, v, hk, rfl, hv, hO, hB⟩ := hrel
    have hv' := hv.symm
    subst hv'
    by_cases hlt : k < L.length
    · obtain ⟨b, o, ha, hb, q0, q1⟩ := fm_cells HR.out k hlt
      have hwf := HW.out k hlt
      have hdd := HD.out k hlt
      have hle := HLE.out k
      have hts := take_snoc2 L k hlt
      have c0 := (hB.cell (p := ⟨b, o + k * 2, none⟩) hb).trans q0
      have c1 := (hB.cell (p := ⟨b, o + k * 2 + 1, none⟩) hb).trans q1
      obtain ⟨⟨t0, t1⟩, -⟩ := hwf
      rw [show encf L[k] = by8 L[k].t ++ by2 L[k].d.size ++ bl L[k].d from rfl] at hts
      generalize L[k].t = t at *
      generalize L[k].d = d at *
      have HTS := Lib.hid hts
      have hsz := hB.size
      subst ha
      clear q0 q1 hts
      have hbr : b < wr.heap.size := by omega
      have hblk := hO.blk
      have hvb : v.ownBlock ≠ some wr.heap.size := fun e => by have := (hblk _ e).2; omega
      have hlen : (flog ++ encl (L.take k)).length ≤ 16394100 := by rw [List.length_append]; simp [flog]; omega
      obtain ⟨l, hl⟩ : ∃ l, flog ++ encl (L.take k) = l := ⟨_, rfl⟩
      rw [hl] at hO hlen
      have HLE2 := Lib.hid (show flog ++ (encl (L.take k) ++ (by8 t ++ by2 d.size ++ bl d)) = l ++ (by8 t ++ by2 d.size ++ bl d) by rw [← hl]; simp only [List.append_assoc])
      clear hl
      have hHZ : d.size ≤ 16384 := hdd.1
      have hwr : w.heap.size ≤ wr.heap.size := hB.size
      have hBa : Below w.heap.size w (wr.alloc (.cells #[.int .u64 t, .string d] 93)) := hB.alloc hwr _
      have hBL : w.heap.size ≤ (wr.alloc (.cells #[.int .u64 t, .string d] 93)).heap.size := hBa.size
      have hOa := hO.alloc (.cells #[.int .u64 t, .string d] 93)
      have K8 := Lib.hid (cput8_c t ⟨t0, t1⟩ hOa (by omega) hBL)
      have hwd : IntKind.u64.wrap (d.size : Int) = d.size := by rw [wrap_u64]; omega
      have HLL := Lib.hid hlen
      have HDD := Lib.hid hHZ
      clear hlen hHZ hdd hle hBL
      go_wp2_with (first
        | (go_at_call 57; ((with_reducible refine K8.out.mono ?_); rintro e w3 ⟨v3, rfl, hO3, hg3⟩; (have x0 : w3.cell? ⟨wr.heap.size, 0, none⟩ = some (.int .u64 t) := (hg3.cell (by simp) hvb).trans (by simp [go_sem])); (have x1 : w3.cell? ⟨wr.heap.size, 1, none⟩ = some (.string d) := (hg3.cell (by simp) hvb).trans (by simp [go_sem])); (have hv3 := hg3.apart (b := wr.heap.size) (by simp) hvb); (have hsz3 : wr.heap.size + 1 ≤ w3.heap.size := (by have := hg3.only.size; simpa using this)); (have hB3 := hg3.only.below hBa hBa.size (fun k hk => (hblk k hk).1)); (have K2 := Lib.hid (cput2_c (d.size : Int) (by have := HDD.out; omega) hO3 (by have := HLL.out; simp [by8]; omega) hB3.size))))
        | (go_at_call 57; ((with_reducible refine K2.out.mono ?_); rintro e w4 ⟨v4, rfl, hO4, hg4⟩; (have y1 : w4.cell? ⟨wr.heap.size, 1, none⟩ = some (.string d) := (hg4.cell (by omega) hv3).trans x1); (have hB4 := hg4.only.below hB3 hB3.size (fun k hk => (hO3.blk k hk).1))))
        | (at_builtin; refine wpList_append_bt rfl _ _ 43 9 rfl w.heap.size 5 ie Try.underlying43 Try.underlying9 HI0 HZ0 HZ1 HZ2 _ _ rfl hO4 d rfl ?c1 ?c2 ?_))
      case c1 => (have := HLL.out; have := HDD.out; simp [by8, by2]; omega)
      case c2 => exact hB4.size
      intro v5 w5 hO5 hg5
      have hB5 := hg5.only.below hB4 hB4.size (fun k hk => (hO4.blk k hk).1)
      have HO5 := Lib.hid hO5
      go_wp2
      go_roundw
      case rel => exact ⟨k + 1, v5, by omega, by go_num, rfl, by rw [HTS.out]; have h := HO5.out; rw [HLE2.out]; simpa [List.append_assoc] using h, hB5⟩
      case measure => simp [intOf]; omega
    · obtain rfl : k = L.length := by omega
      rw [List.take_length] at hO
      obtain ⟨ao, cp, rfl⟩ := hO.form
      have htx := hO.text rfl
      rw [show strOf (flog ++ encl L) = capS L from rfl] at htx
      obtain ⟨RS, hRS⟩ : ∃ RS, capS L = RS := ⟨_, rfl⟩
      rw [hRS] at htx
      have HRS := Lib.hid hRS
      clear hRS
      generalize (flog ++ encl L).length = nn at *
      clear hO
      go_wp2
      go_ret2
      exact ⟨by rw [HRS.out]; rfl, hB⟩
end Go.Proofs.Ytnfhiagbbmaobaa
