/- (*match.Table).Find of a table that was made. -/
import Derived.Test.YtkbglhkhhoakgaaMt10
namespace Go.Proofs.Ytkbglhkhhoakgaa
set_option linter.unusedVariables false
set_option linter.unusedSimpArgs false
set_option maxRecDepth 100000
open Go.RowKit Fg Reg
attribute [local irreducible] Reg.wE

theorem all_and (x : Nat) (h : x < 65536) : x &&& 65535 = x := by
  have := Nat.and_two_pow_sub_one_eq_mod x 16
  simp at this
  rw [this]; omega
theorem full_mtc {r : Rl} {h : Nat → Nat} (hf : r.full = true) (hh : ∀ i, h i < 65536) : mtc r.m r.s h = true ↔ key4 r.s = key4 h := by
  have h0 := all_and (h 0) (hh 0)
  have h1 := all_and (h 1) (hh 1)
  have h2 := all_and (h 2) (hh 2)
  have h3 := all_and (h 3) (hh 3)
  have e : r.m 0 = 65535 ∧ r.m 1 = 65535 ∧ r.m 2 = 65535 ∧ r.m 3 = 65535 := by
    unfold Rl.full at hf
    simp at hf
    omega
  obtain ⟨e0, e1, e2, e3⟩ := e
  unfold mtc key4
  simp [List.range, List.range.loop, e0, e1, e2, e3, h0, h1, h2, h3]
  omega
def mt (rs : List Rl) (h : Nat → Nat) (i : Nat) : Bool := match rs[i]? with
  | some r => mtc r.m r.s h
  | none => false
theorem mt_at {rs : List Rl} {h : Nat → Nat} {i : Nat} (hi : i < rs.length) : mt rs h i = mtc rs[i].m rs[i].s h := by simp [mt, hi]
/-- f is the first one of those that were looked at. -/
structure FI (rs : List Rl) (h : Nat → Nat) (ms : List Int) (f j : Nat) : Prop where
  a : f ≤ rs.length
  b : f < rs.length → mt rs h f = true
  c : ∀ i (hi : i < rs.length), rs[i].full = true → mt rs h i = true → f ≤ i
  d : ∀ q (hq : q < ms.length), q < j → ∀ i : Nat, ms[q] = i → mt rs h i = true → f ≤ i
theorem FI.start_some {rs : List Rl} {h : Nat → Nat} {ms : List Int} {F : H4 → Option Nat} (hT : TInv rs rs.length F ms) (hh : ∀ i, h i < 65536) {f : Nat} (hF : F (key4 h) = some f) : FI rs h ms f 0 := by
  obtain ⟨h0, h1, h2, h3⟩ := hT.f1 _ _ hF
  refine ⟨by omega, fun _ => by rw [mt_at h0]; exact (full_mtc h2 hh).2 h3, fun i hi hfi hm => ?_, fun q _ h => absurd h (Nat.not_lt_zero _)⟩
  rw [mt_at hi] at hm
  have := (full_mtc hfi hh).1 hm
  obtain ⟨j, hj, hFj⟩ := hT.f2 i hi hi hfi
  rw [this, hF] at hFj
  cases hFj
  exact hj
theorem FI.start_none {rs : List Rl} {h : Nat → Nat} {ms : List Int} {F : H4 → Option Nat} (hT : TInv rs rs.length F ms) (hh : ∀ i, h i < 65536) (hF : F (key4 h) = none) : FI rs h ms rs.length 0 := by
  refine ⟨by omega, fun h => absurd h (by omega), fun i hi hfi hm => ?_, fun q _ h => absurd h (Nat.not_lt_zero _)⟩
  rw [mt_at hi] at hm
  have := (full_mtc hfi hh).1 hm
  obtain ⟨j, hj, hFj⟩ := hT.f2 i hi hi hfi
  rw [this, hF] at hFj
  cases hFj
theorem FI.skip {rs : List Rl} {h : Nat → Nat} {ms : List Int} {f j : Nat} (hI : FI rs h ms f j) (hj : j < ms.length) (hno : ∀ i : Nat, ms[j] = i → mt rs h i = true → f ≤ i) : FI rs h ms f (j + 1) :=
  ⟨hI.a, hI.b, hI.c, fun q hq hqj i hi hm => by
    by_cases he : q = j
    · subst he; exact hno i hi hm
    · exact hI.d q hq (by omega) i hi hm⟩
theorem FI.take {rs : List Rl} {h : Nat → Nat} {ms : List Int} {f j i : Nat} (hI : FI rs h ms f j) (hj : j < ms.length) (hi : i < rs.length) (hji : ms[j] = i) (hlt : i < f) (hm : mt rs h i = true) : FI rs h ms i (j + 1) :=
  ⟨by omega, fun _ => hm, fun q hq hf hmq => by have := hI.c q hq hf hmq; omega, fun q hq hqj x hx hmx => by
    by_cases he : q = j
    · subst he; rw [hji] at hx; omega
    · have := hI.d q hq (by omega) x hx hmx; omega⟩
def ferr (rs : List Rl) (h : Nat → Nat) : Int := if rs.any (fun r => mtc r.m r.s h) then 0 else 31
theorem FI.least {rs : List Rl} {h : Nat → Nat} {ms : List Int} {F : H4 → Option Nat} {f : Nat} (hT : TInv rs rs.length F ms) (hI : FI rs h ms f ms.length) : ∀ i, i < rs.length → mt rs h i = true → f ≤ i := fun i hi hm => by
  cases hf : rs[i].full with
  | true => exact hI.c i hi hf hm
  | false =>
    obtain ⟨q, hq, he⟩ := List.getElem_of_mem (hT.m2 i hi hi hf)
    exact hI.d q hq hq i he hm
theorem FI.none {rs : List Rl} {h : Nat → Nat} {ms : List Int} {F : H4 → Option Nat} (hT : TInv rs rs.length F ms) (hI : FI rs h ms rs.length ms.length) : rfind rs h = 0 ∧ ferr rs h = 31 := by
  have hno : ∀ r ∈ rs, mtc r.m r.s h = false := fun r hr => by
    obtain ⟨i, hi, rfl⟩ := List.getElem_of_mem hr
    cases hm : mtc rs[i].m rs[i].s h with
    | false => rfl
    | true => have := FI.least hT hI i hi (by rw [mt_at hi]; exact hm); omega
  constructor
  · unfold rfind
    rw [List.find?_eq_none.2 (fun r hr => by simp [hno r hr])]
  · unfold ferr
    rw [if_neg]
    simp
    intro r hr
    exact hno r hr
theorem FI.some {rs : List Rl} {h : Nat → Nat} {ms : List Int} {F : H4 → Option Nat} {f : Nat} (hT : TInv rs rs.length F ms) (hI : FI rs h ms f ms.length) (hf : f < rs.length) : rfind rs h = rs[f].cls ∧ ferr rs h = 0 := by
  have hm : mtc rs[f].m rs[f].s h = true := by rw [← mt_at hf]; exact hI.b hf
  constructor
  · refine rfind_at rs h f hf (List.find?_eq_none.2 fun r hr => ?_) hm
    obtain ⟨i, hi, rfl⟩ := List.getElem_of_mem hr
    have hil : i < rs.length := by simp at hi; omega
    have hif : i < f := by simp at hi; omega
    rw [List.getElem_take]
    intro hmm
    have := FI.least hT hI i hil (by rw [mt_at hil]; exact hmm)
    omega
  · unfold ferr
    rw [if_pos]
    simp
    exact ⟨rs[f], List.getElem_mem hf, hm⟩
set_option maxHeartbeats 8000000 in
theorem find_c (rs : List Rl) (p : Nat) (h : Nat → Nat) (hn : rs.length ≤ 32) (hh : ∀ i, h i < 65536) (hwf : ∀ k (hk : k < rs.length), rs[k].wf) (w : World) (hB : TB w p rs) :
    Calls Try.prog 15 #[.pointer (some ⟨p, 0, none⟩), .agg #[.int .u16 (h 0 : Nat), .int .u16 (h 1 : Nat), .int .u16 (h 2 : Nat), .int .u16 (h 3 : Nat)]] w fun ee w' => ee = .returned (.tuple #[.int .i64 (rfind rs h), .int .i64 (ferr rs h)]) ∧ Below w.heap.size w w' := by
  obtain ⟨hp, mb, a0, c0, F, n, a1, c1, ms, x0, x1, x2, hR, hM, hS, hT, hml⟩ := hB
  have hok : ok4 (key4 h) := ⟨hh 0, hh 1, hh 2, hh 3⟩
  have hz0 : ∀ z, (zeroValue 3).run Try.prog z = .ok (.int .i64 0) z := fun z => by kernel_rfl
  have HL := fun (z : World) (hz : Mp kv4 vvn ok4 F n z mb) => Mp.look true hz kok4 Try.underlying101 (hz0 z) hok
  have HR := Lib.hid hR
  have HS := Lib.hid hS
  have HT := Lib.hid hT
  have HW := Lib.hid hwf
  have HH := Lib.hid hh
  have HM1 := Lib.hid hT.m1
  clear hwf
  go_enter Try.func15, Try.ntmps15
  cases hF : F (key4 h) with
  | some f0 =>
    have HLL := Lib.hid (fun (z : World) (hz : Mp kv4 vvn ok4 F n z mb) => (show (Instr.lookup 101 (.map (some mb)) (.agg #[.int .u16 (h 0 : Nat), .int .u16 (h 1 : Nat), .int .u16 (h 2 : Nat), .int .u16 (h 3 : Nat)]) true).run Try.prog z = .ok (.tuple #[.int .i64 f0, .bool true]) z by have := HL z hz; rw [hF] at this; exact this))
    have HI := Lib.hid (FI.start_some hT hh hF)
    clear HL hF
    go_wp2_with fail
    have hl := HLL.out w.drew hM.drew
    have hl2 := HLL.out (w.alloc (.cells #[.int .u16 (h 0 : Nat), .int .u16 (h 1 : Nat), .int .u16 (h 2 : Nat), .int .u16 (h 3 : Nat)] 25)).drew (hM.alloc _).drew
    clear HLL hl
    obtain ⟨Cl, hCl⟩ : ∃ Cl : List Value → World → Prop, Cl = ((fun ps wz => (wz.cell? ⟨p, 0, none⟩ = some (.slice (a0) rs.length c0) ∧ wz.cell? ⟨p, 1, none⟩ = some (.map (some mb)) ∧ wz.cell? ⟨p, 2, none⟩ = some (.slice (a1) ms.length c1) ∧ p < wz.heap.size) ∧ (wz.cell? ⟨w.heap.size, 0, none⟩ = some (.int .u16 (h 0 : Nat)) ∧ wz.cell? ⟨w.heap.size, 1, none⟩ = some (.int .u16 (h 1 : Nat)) ∧ wz.cell? ⟨w.heap.size, 2, none⟩ = some (.int .u16 (h 2 : Nat)) ∧ wz.cell? ⟨w.heap.size, 3, none⟩ = some (.int .u16 (h 3 : Nat)) ∧ w.heap.size < wz.heap.size) ∧ (Instr.lookup 101 (.map (some mb)) (.agg #[.int .u16 (h 0 : Nat), .int .u16 (h 1 : Nat), .int .u16 (h 2 : Nat), .int .u16 (h 3 : Nat)]) true).run Try.prog wz = .ok (.tuple #[.int .i64 f0, .bool true]) wz ∧ Below w.heap.size w wz)) := ⟨_, rfl⟩; have HCl := Lib.hid hCl; clear hCl; refine wp_region_eff [] Cl (by kernel_rfl) (by kernel_rfl) (by rw [HCl.out]; (try simp only [List.nil_append, List.cons_append]); (try dsimp only); ((repeat' apply And.intro) <;> first | (simp [go_sem, *]; done) | omega | (repeat' (first | with_reducible exact Below.refl _ _ | with_reducible assumption | ((with_reducible refine Below.drew ?_)) | ((with_reducible refine below_drewN ?_ _)) | ((with_reducible refine Below.alloc ?_ ?_ _); rotate_left; focus (first | omega | (simp; done) | (simp; omega))) | ((with_reducible refine Below.setCell ?_ ?_ _); rotate_left; focus (first | omega | (simp; done) | (simp; omega))) | ((with_reducible refine Below.trans ?_ (Below.mono (by with_reducible assumption) ?_)); rotate_left; focus (first | omega | (simp; done) | (simp; omega))))))) ?_
    (repeat (first | (refine wE_skip (by rfl) ?_; simp only [Act.put, Nat.reduceAdd, List.setIfInBounds_toArray, List.set_cons_zero, List.set_cons_succ, List.nil_append, List.cons_append]) | (refine wE_open (by rfl) (by rfl) ?_; apply Exists.intro; refine ⟨fun vs wq hw => ?_, ?_⟩; (focus (rw [HCl.out] at hw; (try simp only [List.nil_append, List.cons_append] at hw); (try dsimp only at hw); go_split_ands; go_simp <;> first | with_reducible exact (rfl : Value.bool false = _) | with_reducible exact (rfl : Value.bool true = _) | ((try go_bits) <;> exact rfl))); simp only [Act.put, Nat.reduceAdd, List.setIfInBounds_toArray, List.set_cons_zero, List.set_cons_succ, List.nil_append, List.cons_append]) | (refine wE_seal (by rfl) (by rfl) (by kernel_rfl) ?_; apply Exists.intro; refine ⟨fun wq hw => ?_, ?_⟩; (focus (rw [HCl.out] at hw; (try simp only [List.nil_append, List.cons_append] at hw); (try dsimp only at hw); go_split_ands; go_simp <;> (try go_bits) <;> exact rfl)); simp only [Act.put, Nat.reduceAdd, List.setIfInBounds_toArray, List.set_cons_zero, List.set_cons_succ, List.nil_append, List.cons_append]) | (refine wE_seal (by rfl) (by rfl) (by kernel_rfl) ?_; apply Exists.intro; refine ⟨fun wq hw => ?_, ?_⟩; (focus (rw [HCl.out] at hw; (try simp only [List.nil_append, List.cons_append] at hw); (try dsimp only at hw); go_split_ands; go_simp; fail)); simp only [Act.put, Nat.reduceAdd, List.setIfInBounds_toArray, List.set_cons_zero, List.set_cons_succ, List.nil_append, List.cons_append]) | (refine wE_eff (by rfl) (by rfl) (fun wq hw => ?_) (fun u hu => ?_); (focus (rw [HCl.out] at hw; (try simp only [List.nil_append, List.cons_append] at hw); (try dsimp only at hw); go_split_ands; go_simp; rw [HCl.out]; (try simp only [List.nil_append, List.cons_append]); (try dsimp only); skip; ((repeat' apply And.intro) <;> first | (simp [go_sem, *]; done) | omega | (repeat' (first | with_reducible exact Below.refl _ _ | with_reducible assumption | ((with_reducible refine Below.drew ?_)) | ((with_reducible refine below_drewN ?_ _)) | ((with_reducible refine Below.alloc ?_ ?_ _); rotate_left; focus (first | omega | (simp; done) | (simp; omega))) | ((with_reducible refine Below.setCell ?_ ?_ _); rotate_left; focus (first | omega | (simp; done) | (simp; omega))) | ((with_reducible refine Below.trans ?_ (Below.mono (by with_reducible assumption) ?_)); rotate_left; focus (first | omega | (simp; done) | (simp; omega)))))))); clear hu; simp only [Act.put, Nat.reduceAdd, List.setIfInBounds_toArray, List.set_cons_zero, List.set_cons_succ, List.nil_append, List.cons_append])))
    refine wE_nil ?_; intro w' hw; rw [HCl.out] at hw; (try simp only [List.nil_append, List.cons_append] at hw); (try dsimp only at hw); clear HCl
    obtain ⟨⟨y0, y1, y2, y3⟩, ⟨z0, z1, z2, z3, z4⟩, -, hBw⟩ := hw
    clear hl2
    go_wp2_with fail
    go_loopw [6, 33] (fun fv ii wr => ∃ (j f : Nat), j ≤ ms.length ∧ ii = .int .i64 j ∧ fv = .int .i64 f ∧ FI rs h ms f j ∧ (wr.cell? ⟨w.heap.size, 0, none⟩ = some (.int .u16 (h 0 : Nat)) ∧ wr.cell? ⟨w.heap.size, 1, none⟩ = some (.int .u16 (h 1 : Nat)) ∧ wr.cell? ⟨w.heap.size, 2, none⟩ = some (.int .u16 (h 2 : Nat)) ∧ wr.cell? ⟨w.heap.size, 3, none⟩ = some (.int .u16 (h 3 : Nat)) ∧ w.heap.size < wr.heap.size) ∧ Below w.heap.size w wr) (fun _ ii _ => ms.length - (intOf ii).toNat); (case atStart => exact ⟨0, _, Nat.zero_le _, rfl, rfl, HI.out, ⟨z0, z1, z2, z3, z4⟩, hBw⟩)
    case round =>
      obtain ⟨j, f, hj, rfl, rfl, hI, ⟨q0, q1, q2, q3, q4⟩, hB⟩ := hrel
      obtain ⟨hcc, hff⟩ := bcell hB
      have x0' := (hB.cell (p := ⟨p, 0, none⟩) hp).trans x0
      have x1' := (hB.cell (p := ⟨p, 1, none⟩) hp).trans x1
      have x2' := (hB.cell (p := ⟨p, 2, none⟩) hp).trans x2
      have hpr := Nat.lt_of_lt_of_le hp hB.size
      have hfn := hI.a
      clear hcc hff HI hBw
      by_cases hlt : j < ms.length
      · obtain ⟨i, hi, _, hmi⟩ := HM1.out ms[j] (List.getElem_mem hlt)
        obtain ⟨bm, om, rfl, hbm, hrm⟩ := (HS.out.below hB) j hlt
        have cm : wr.cell? ⟨bm, om + j, none⟩ = some (.int .i64 i) := by have := hrm 0 _ rfl; rw [← hmi]; simpa using this
        obtain ⟨b, o, rfl, hb, hr⟩ := (HR.out.below hB) i hi
        have hf := HW.out i hi
        have hmt := mt_at (h := h) hi
        have hsk := fun hc => hI.skip hlt hc
        have htk := fun h1 h2 => hI.take hlt hi hmi h1 h2
        clear hrm
        generalize rs[i] = r at hr hf hmt
        have hc9 : wr.cell? ⟨b, (o + i * 9), none⟩ = some (.int .u16 (r.m 0 : Nat)) ∧ wr.cell? ⟨b, (o + i * 9) + 1, none⟩ = some (.int .u16 (r.m 1 : Nat)) ∧ wr.cell? ⟨b, (o + i * 9) + 2, none⟩ = some (.int .u16 (r.m 2 : Nat)) ∧ wr.cell? ⟨b, (o + i * 9) + 3, none⟩ = some (.int .u16 (r.m 3 : Nat)) ∧ wr.cell? ⟨b, (o + i * 9) + 4, none⟩ = some (.int .u16 (r.s 0 : Nat)) ∧ wr.cell? ⟨b, (o + i * 9) + 5, none⟩ = some (.int .u16 (r.s 1 : Nat)) ∧ wr.cell? ⟨b, (o + i * 9) + 6, none⟩ = some (.int .u16 (r.s 2 : Nat)) ∧ wr.cell? ⟨b, (o + i * 9) + 7, none⟩ = some (.int .u16 (r.s 3 : Nat)) ∧ wr.cell? ⟨b, (o + i * 9) + 8, none⟩ = some (.int .i64 r.cls) ∧ b < wr.heap.size := ⟨hr 0 _ rfl, hr 1 _ rfl, hr 2 _ rfl, hr 3 _ rfl, hr 4 _ rfl, hr 5 _ rfl, hr 6 _ rfl, hr 7 _ rfl, hr 8 _ rfl, hb⟩
        have KM := Lib.hid (fun z => mma_c r.m r.s h r.cls hf.m HH.out z)
        rw [hmt] at htk
        have HSK := Lib.hid (fun (hc : i < f → mtc r.m r.s h = false) => hsk fun x hx hm => by
          obtain rfl : x = i := by omega
          rw [hmt] at hm
          rcases Nat.lt_or_ge x f with hl | hl
          · rw [hc hl] at hm; cases hm
          · exact hl)
        have HTK := Lib.hid htk
        have hin : (i : Int) < rs.length := by omega
        clear hr hsk htk hf hmt hI
        by_cases hif : i < f
        · have e1 : decide ((i : Int) < (f : Int)) = true := by simpa using hif
          cases hb2 : mtc r.m r.s h with
          | true =>
            rw [hb2] at KM
            have HV := Lib.hid (HTK.out hif hb2)
            clear hb2 HTK HSK
            go_wp2_with fail
            obtain ⟨Cl, hCl⟩ : ∃ Cl : List Value → World → Prop, Cl = ((fun ps wz => (wz.cell? ⟨p, 0, none⟩ = some (.slice (some ⟨b, o, none⟩) rs.length c0) ∧ wz.cell? ⟨p, 1, none⟩ = some (.map (some mb)) ∧ wz.cell? ⟨p, 2, none⟩ = some (.slice (some ⟨bm, om, none⟩) ms.length c1) ∧ p < wz.heap.size) ∧ (wz.cell? ⟨w.heap.size, 0, none⟩ = some (.int .u16 (h 0 : Nat)) ∧ wz.cell? ⟨w.heap.size, 1, none⟩ = some (.int .u16 (h 1 : Nat)) ∧ wz.cell? ⟨w.heap.size, 2, none⟩ = some (.int .u16 (h 2 : Nat)) ∧ wz.cell? ⟨w.heap.size, 3, none⟩ = some (.int .u16 (h 3 : Nat)) ∧ w.heap.size < wz.heap.size) ∧ (wz.cell? ⟨b, (o + i * 9), none⟩ = some (.int .u16 (r.m 0 : Nat)) ∧ wz.cell? ⟨b, (o + i * 9) + 1, none⟩ = some (.int .u16 (r.m 1 : Nat)) ∧ wz.cell? ⟨b, (o + i * 9) + 2, none⟩ = some (.int .u16 (r.m 2 : Nat)) ∧ wz.cell? ⟨b, (o + i * 9) + 3, none⟩ = some (.int .u16 (r.m 3 : Nat)) ∧ wz.cell? ⟨b, (o + i * 9) + 4, none⟩ = some (.int .u16 (r.s 0 : Nat)) ∧ wz.cell? ⟨b, (o + i * 9) + 5, none⟩ = some (.int .u16 (r.s 1 : Nat)) ∧ wz.cell? ⟨b, (o + i * 9) + 6, none⟩ = some (.int .u16 (r.s 2 : Nat)) ∧ wz.cell? ⟨b, (o + i * 9) + 7, none⟩ = some (.int .u16 (r.s 3 : Nat)) ∧ wz.cell? ⟨b, (o + i * 9) + 8, none⟩ = some (.int .i64 r.cls) ∧ b < wz.heap.size) ∧ Below w.heap.size w wz)) := ⟨_, rfl⟩; have HCl := Lib.hid hCl; clear hCl; refine wp_region_eff [] Cl (by kernel_rfl) (by kernel_rfl) (by rw [HCl.out]; (try simp only [List.nil_append, List.cons_append]); (try dsimp only); ((repeat' apply And.intro) <;> first | (simp [go_sem, *]; done) | omega | (repeat' (first | with_reducible exact Below.refl _ _ | with_reducible assumption | ((with_reducible refine Below.drew ?_)) | ((with_reducible refine below_drewN ?_ _)) | ((with_reducible refine Below.alloc ?_ ?_ _); rotate_left; focus (first | omega | (simp; done) | (simp; omega))) | ((with_reducible refine Below.setCell ?_ ?_ _); rotate_left; focus (first | omega | (simp; done) | (simp; omega))) | ((with_reducible refine Below.trans ?_ (Below.mono (by with_reducible assumption) ?_)); rotate_left; focus (first | omega | (simp; done) | (simp; omega))))))) ?_
            (repeat (first | (refine wE_skip (by rfl) ?_; simp only [Act.put, Nat.reduceAdd, List.setIfInBounds_toArray, List.set_cons_zero, List.set_cons_succ, List.nil_append, List.cons_append]) | (refine wE_open (by rfl) (by rfl) ?_; apply Exists.intro; refine ⟨fun vs wq hw => ?_, ?_⟩; (focus (rw [HCl.out] at hw; (try simp only [List.nil_append, List.cons_append] at hw); (try dsimp only at hw); go_split_ands; go_simp <;> first | with_reducible exact (rfl : Value.bool false = _) | with_reducible exact (rfl : Value.bool true = _) | ((try go_bits) <;> exact rfl))); simp only [Act.put, Nat.reduceAdd, List.setIfInBounds_toArray, List.set_cons_zero, List.set_cons_succ, List.nil_append, List.cons_append]) | (refine wE_seal (by rfl) (by rfl) (by kernel_rfl) ?_; apply Exists.intro; refine ⟨fun wq hw => ?_, ?_⟩; (focus (rw [HCl.out] at hw; (try simp only [List.nil_append, List.cons_append] at hw); (try dsimp only at hw); go_split_ands; go_simp <;> (try go_bits) <;> exact rfl)); simp only [Act.put, Nat.reduceAdd, List.setIfInBounds_toArray, List.set_cons_zero, List.set_cons_succ, List.nil_append, List.cons_append]) | (refine wE_seal (by rfl) (by rfl) (by kernel_rfl) ?_; apply Exists.intro; refine ⟨fun wq hw => ?_, ?_⟩; (focus (rw [HCl.out] at hw; (try simp only [List.nil_append, List.cons_append] at hw); (try dsimp only at hw); go_split_ands; go_simp; (go_at_call 18; ((with_reducible refine (KM.out _).mono ?_); rintro e w' ⟨rfl, hbel⟩; obtain ⟨hcc, hff⟩ := bcell hbel; have hsz := hbel.size; (try simp at hsz); refine ⟨rfl, ?_⟩; rw [HCl.out]; (try simp only [List.nil_append, List.cons_append]); (try dsimp only); ((repeat' apply And.intro) <;> first | (simp [go_sem, *]; done) | omega | (repeat' (first | with_reducible exact Below.refl _ _ | with_reducible assumption | ((with_reducible refine Below.drew ?_)) | ((with_reducible refine below_drewN ?_ _)) | ((with_reducible refine Below.alloc ?_ ?_ _); rotate_left; focus (first | omega | (simp; done) | (simp; omega))) | ((with_reducible refine Below.setCell ?_ ?_ _); rotate_left; focus (first | omega | (simp; done) | (simp; omega))) | ((with_reducible refine Below.trans ?_ (Below.mono (by with_reducible assumption) ?_)); rotate_left; focus (first | omega | (simp; done) | (simp; omega)))))))))); simp only [Act.put, Nat.reduceAdd, List.setIfInBounds_toArray, List.set_cons_zero, List.set_cons_succ, List.nil_append, List.cons_append]) | (refine wE_eff (by rfl) (by rfl) (fun wq hw => ?_) (fun u hu => ?_); (focus (rw [HCl.out] at hw; (try simp only [List.nil_append, List.cons_append] at hw); (try dsimp only at hw); go_split_ands; go_simp; rw [HCl.out]; (try simp only [List.nil_append, List.cons_append]); (try dsimp only); skip; ((repeat' apply And.intro) <;> first | (simp [go_sem, *]; done) | omega | (repeat' (first | with_reducible exact Below.refl _ _ | with_reducible assumption | ((with_reducible refine Below.drew ?_)) | ((with_reducible refine below_drewN ?_ _)) | ((with_reducible refine Below.alloc ?_ ?_ _); rotate_left; focus (first | omega | (simp; done) | (simp; omega))) | ((with_reducible refine Below.setCell ?_ ?_ _); rotate_left; focus (first | omega | (simp; done) | (simp; omega))) | ((with_reducible refine Below.trans ?_ (Below.mono (by with_reducible assumption) ?_)); rotate_left; focus (first | omega | (simp; done) | (simp; omega)))))))); clear hu; simp only [Act.put, Nat.reduceAdd, List.setIfInBounds_toArray, List.set_cons_zero, List.set_cons_succ, List.nil_append, List.cons_append])))
            refine wE_nil ?_; intro w' hw; rw [HCl.out] at hw; (try simp only [List.nil_append, List.cons_append] at hw); (try dsimp only at hw); clear HCl
            go_split_ands
            go_wp2
            go_roundw
            case rel => exact ⟨j + 1, i, by omega, by go_num, rfl, HV.out, ⟨by assumption, by assumption, by assumption, by assumption, by assumption⟩, by assumption⟩
            case measure => simp [intOf]; omega
          | false =>
            rw [hb2] at KM
            have HV := Lib.hid (HSK.out fun _ => hb2)
            clear hb2 HTK HSK
            go_wp2_with fail
            obtain ⟨Cl, hCl⟩ : ∃ Cl : List Value → World → Prop, Cl = ((fun ps wz => (wz.cell? ⟨p, 0, none⟩ = some (.slice (some ⟨b, o, none⟩) rs.length c0) ∧ wz.cell? ⟨p, 1, none⟩ = some (.map (some mb)) ∧ wz.cell? ⟨p, 2, none⟩ = some (.slice (some ⟨bm, om, none⟩) ms.length c1) ∧ p < wz.heap.size) ∧ (wz.cell? ⟨w.heap.size, 0, none⟩ = some (.int .u16 (h 0 : Nat)) ∧ wz.cell? ⟨w.heap.size, 1, none⟩ = some (.int .u16 (h 1 : Nat)) ∧ wz.cell? ⟨w.heap.size, 2, none⟩ = some (.int .u16 (h 2 : Nat)) ∧ wz.cell? ⟨w.heap.size, 3, none⟩ = some (.int .u16 (h 3 : Nat)) ∧ w.heap.size < wz.heap.size) ∧ (wz.cell? ⟨b, (o + i * 9), none⟩ = some (.int .u16 (r.m 0 : Nat)) ∧ wz.cell? ⟨b, (o + i * 9) + 1, none⟩ = some (.int .u16 (r.m 1 : Nat)) ∧ wz.cell? ⟨b, (o + i * 9) + 2, none⟩ = some (.int .u16 (r.m 2 : Nat)) ∧ wz.cell? ⟨b, (o + i * 9) + 3, none⟩ = some (.int .u16 (r.m 3 : Nat)) ∧ wz.cell? ⟨b, (o + i * 9) + 4, none⟩ = some (.int .u16 (r.s 0 : Nat)) ∧ wz.cell? ⟨b, (o + i * 9) + 5, none⟩ = some (.int .u16 (r.s 1 : Nat)) ∧ wz.cell? ⟨b, (o + i * 9) + 6, none⟩ = some (.int .u16 (r.s 2 : Nat)) ∧ wz.cell? ⟨b, (o + i * 9) + 7, none⟩ = some (.int .u16 (r.s 3 : Nat)) ∧ wz.cell? ⟨b, (o + i * 9) + 8, none⟩ = some (.int .i64 r.cls) ∧ b < wz.heap.size) ∧ Below w.heap.size w wz)) := ⟨_, rfl⟩; have HCl := Lib.hid hCl; clear hCl; refine wp_region_eff [] Cl (by kernel_rfl) (by kernel_rfl) (by rw [HCl.out]; (try simp only [List.nil_append, List.cons_append]); (try dsimp only); ((repeat' apply And.intro) <;> first | (simp [go_sem, *]; done) | omega | (repeat' (first | with_reducible exact Below.refl _ _ | with_reducible assumption | ((with_reducible refine Below.drew ?_)) | ((with_reducible refine below_drewN ?_ _)) | ((with_reducible refine Below.alloc ?_ ?_ _); rotate_left; focus (first | omega | (simp; done) | (simp; omega))) | ((with_reducible refine Below.setCell ?_ ?_ _); rotate_left; focus (first | omega | (simp; done) | (simp; omega))) | ((with_reducible refine Below.trans ?_ (Below.mono (by with_reducible assumption) ?_)); rotate_left; focus (first | omega | (simp; done) | (simp; omega))))))) ?_
            (repeat (first | (refine wE_skip (by rfl) ?_; simp only [Act.put, Nat.reduceAdd, List.setIfInBounds_toArray, List.set_cons_zero, List.set_cons_succ, List.nil_append, List.cons_append]) | (refine wE_open (by rfl) (by rfl) ?_; apply Exists.intro; refine ⟨fun vs wq hw => ?_, ?_⟩; (focus (rw [HCl.out] at hw; (try simp only [List.nil_append, List.cons_append] at hw); (try dsimp only at hw); go_split_ands; go_simp <;> first | with_reducible exact (rfl : Value.bool false = _) | with_reducible exact (rfl : Value.bool true = _) | ((try go_bits) <;> exact rfl))); simp only [Act.put, Nat.reduceAdd, List.setIfInBounds_toArray, List.set_cons_zero, List.set_cons_succ, List.nil_append, List.cons_append]) | (refine wE_seal (by rfl) (by rfl) (by kernel_rfl) ?_; apply Exists.intro; refine ⟨fun wq hw => ?_, ?_⟩; (focus (rw [HCl.out] at hw; (try simp only [List.nil_append, List.cons_append] at hw); (try dsimp only at hw); go_split_ands; go_simp <;> (try go_bits) <;> exact rfl)); simp only [Act.put, Nat.reduceAdd, List.setIfInBounds_toArray, List.set_cons_zero, List.set_cons_succ, List.nil_append, List.cons_append]) | (refine wE_seal (by rfl) (by rfl) (by kernel_rfl) ?_; apply Exists.intro; refine ⟨fun wq hw => ?_, ?_⟩; (focus (rw [HCl.out] at hw; (try simp only [List.nil_append, List.cons_append] at hw); (try dsimp only at hw); go_split_ands; go_simp; (go_at_call 18; ((with_reducible refine (KM.out _).mono ?_); rintro e w' ⟨rfl, hbel⟩; obtain ⟨hcc, hff⟩ := bcell hbel; have hsz := hbel.size; (try simp at hsz); refine ⟨rfl, ?_⟩; rw [HCl.out]; (try simp only [List.nil_append, List.cons_append]); (try dsimp only); ((repeat' apply And.intro) <;> first | (simp [go_sem, *]; done) | omega | (repeat' (first | with_reducible exact Below.refl _ _ | with_reducible assumption | ((with_reducible refine Below.drew ?_)) | ((with_reducible refine below_drewN ?_ _)) | ((with_reducible refine Below.alloc ?_ ?_ _); rotate_left; focus (first | omega | (simp; done) | (simp; omega))) | ((with_reducible refine Below.setCell ?_ ?_ _); rotate_left; focus (first | omega | (simp; done) | (simp; omega))) | ((with_reducible refine Below.trans ?_ (Below.mono (by with_reducible assumption) ?_)); rotate_left; focus (first | omega | (simp; done) | (simp; omega)))))))))); simp only [Act.put, Nat.reduceAdd, List.setIfInBounds_toArray, List.set_cons_zero, List.set_cons_succ, List.nil_append, List.cons_append]) | (refine wE_eff (by rfl) (by rfl) (fun wq hw => ?_) (fun u hu => ?_); (focus (rw [HCl.out] at hw; (try simp only [List.nil_append, List.cons_append] at hw); (try dsimp only at hw); go_split_ands; go_simp; rw [HCl.out]; (try simp only [List.nil_append, List.cons_append]); (try dsimp only); skip; ((repeat' apply And.intro) <;> first | (simp [go_sem, *]; done) | omega | (repeat' (first | with_reducible exact Below.refl _ _ | with_reducible assumption | ((with_reducible refine Below.drew ?_)) | ((with_reducible refine below_drewN ?_ _)) | ((with_reducible refine Below.alloc ?_ ?_ _); rotate_left; focus (first | omega | (simp; done) | (simp; omega))) | ((with_reducible refine Below.setCell ?_ ?_ _); rotate_left; focus (first | omega | (simp; done) | (simp; omega))) | ((with_reducible refine Below.trans ?_ (Below.mono (by with_reducible assumption) ?_)); rotate_left; focus (first | omega | (simp; done) | (simp; omega)))))))); clear hu; simp only [Act.put, Nat.reduceAdd, List.setIfInBounds_toArray, List.set_cons_zero, List.set_cons_succ, List.nil_append, List.cons_append])))
            refine wE_nil ?_; intro w' hw; rw [HCl.out] at hw; (try simp only [List.nil_append, List.cons_append] at hw); (try dsimp only at hw); clear HCl
            go_split_ands
            go_wp2
            go_roundw
            case rel => exact ⟨j + 1, f, by omega, by go_num, rfl, HV.out, ⟨by assumption, by assumption, by assumption, by assumption, by assumption⟩, by assumption⟩
            case measure => simp [intOf]; omega
        · have e1 : decide ((i : Int) < (f : Int)) = false := by simp; omega
          have HV := Lib.hid (HSK.out fun h => absurd h hif)
          clear HTK HSK KM
          go_wp2_with fail
          obtain ⟨Cl, hCl⟩ : ∃ Cl : List Value → World → Prop, Cl = ((fun ps wz => (wz.cell? ⟨p, 0, none⟩ = some (.slice (some ⟨b, o, none⟩) rs.length c0) ∧ wz.cell? ⟨p, 1, none⟩ = some (.map (some mb)) ∧ wz.cell? ⟨p, 2, none⟩ = some (.slice (some ⟨bm, om, none⟩) ms.length c1) ∧ p < wz.heap.size) ∧ (wz.cell? ⟨w.heap.size, 0, none⟩ = some (.int .u16 (h 0 : Nat)) ∧ wz.cell? ⟨w.heap.size, 1, none⟩ = some (.int .u16 (h 1 : Nat)) ∧ wz.cell? ⟨w.heap.size, 2, none⟩ = some (.int .u16 (h 2 : Nat)) ∧ wz.cell? ⟨w.heap.size, 3, none⟩ = some (.int .u16 (h 3 : Nat)) ∧ w.heap.size < wz.heap.size) ∧ Below w.heap.size w wz)) := ⟨_, rfl⟩; have HCl := Lib.hid hCl; clear hCl; refine wp_region_eff [] Cl (by kernel_rfl) (by kernel_rfl) (by rw [HCl.out]; (try simp only [List.nil_append, List.cons_append]); (try dsimp only); ((repeat' apply And.intro) <;> first | (simp [go_sem, *]; done) | omega | (repeat' (first | with_reducible exact Below.refl _ _ | with_reducible assumption | ((with_reducible refine Below.drew ?_)) | ((with_reducible refine below_drewN ?_ _)) | ((with_reducible refine Below.alloc ?_ ?_ _); rotate_left; focus (first | omega | (simp; done) | (simp; omega))) | ((with_reducible refine Below.setCell ?_ ?_ _); rotate_left; focus (first | omega | (simp; done) | (simp; omega))) | ((with_reducible refine Below.trans ?_ (Below.mono (by with_reducible assumption) ?_)); rotate_left; focus (first | omega | (simp; done) | (simp; omega))))))) ?_
          (repeat (first | (refine wE_skip (by rfl) ?_; simp only [Act.put, Nat.reduceAdd, List.setIfInBounds_toArray, List.set_cons_zero, List.set_cons_succ, List.nil_append, List.cons_append]) | (refine wE_open (by rfl) (by rfl) ?_; apply Exists.intro; refine ⟨fun vs wq hw => ?_, ?_⟩; (focus (rw [HCl.out] at hw; (try simp only [List.nil_append, List.cons_append] at hw); (try dsimp only at hw); go_split_ands; go_simp <;> first | with_reducible exact (rfl : Value.bool false = _) | with_reducible exact (rfl : Value.bool true = _) | ((try go_bits) <;> exact rfl))); simp only [Act.put, Nat.reduceAdd, List.setIfInBounds_toArray, List.set_cons_zero, List.set_cons_succ, List.nil_append, List.cons_append]) | (refine wE_seal (by rfl) (by rfl) (by kernel_rfl) ?_; apply Exists.intro; refine ⟨fun wq hw => ?_, ?_⟩; (focus (rw [HCl.out] at hw; (try simp only [List.nil_append, List.cons_append] at hw); (try dsimp only at hw); go_split_ands; go_simp <;> (try go_bits) <;> exact rfl)); simp only [Act.put, Nat.reduceAdd, List.setIfInBounds_toArray, List.set_cons_zero, List.set_cons_succ, List.nil_append, List.cons_append]) | (refine wE_seal (by rfl) (by rfl) (by kernel_rfl) ?_; apply Exists.intro; refine ⟨fun wq hw => ?_, ?_⟩; (focus (rw [HCl.out] at hw; (try simp only [List.nil_append, List.cons_append] at hw); (try dsimp only at hw); go_split_ands; go_simp; fail)); simp only [Act.put, Nat.reduceAdd, List.setIfInBounds_toArray, List.set_cons_zero, List.set_cons_succ, List.nil_append, List.cons_append]) | (refine wE_eff (by rfl) (by rfl) (fun wq hw => ?_) (fun u hu => ?_); (focus (rw [HCl.out] at hw; (try simp only [List.nil_append, List.cons_append] at hw); (try dsimp only at hw); go_split_ands; go_simp; rw [HCl.out]; (try simp only [List.nil_append, List.cons_append]); (try dsimp only); skip; ((repeat' apply And.intro) <;> first | (simp [go_sem, *]; done) | omega | (repeat' (first | with_reducible exact Below.refl _ _ | with_reducible assumption | ((with_reducible refine Below.drew ?_)) | ((with_reducible refine below_drewN ?_ _)) | ((with_reducible refine Below.alloc ?_ ?_ _); rotate_left; focus (first | omega | (simp; done) | (simp; omega))) | ((with_reducible refine Below.setCell ?_ ?_ _); rotate_left; focus (first | omega | (simp; done) | (simp; omega))) | ((with_reducible refine Below.trans ?_ (Below.mono (by with_reducible assumption) ?_)); rotate_left; focus (first | omega | (simp; done) | (simp; omega)))))))); clear hu; simp only [Act.put, Nat.reduceAdd, List.setIfInBounds_toArray, List.set_cons_zero, List.set_cons_succ, List.nil_append, List.cons_append])))
          refine wE_nil ?_; intro w' hw; rw [HCl.out] at hw; (try simp only [List.nil_append, List.cons_append] at hw); (try dsimp only at hw); clear HCl
          go_split_ands
          go_wp2
          go_roundw
          case rel => exact ⟨j + 1, f, by omega, by go_num, rfl, HV.out, ⟨by assumption, by assumption, by assumption, by assumption, by assumption⟩, by assumption⟩
          case measure => simp [intOf]; omega
      · obtain rfl : j = ms.length := by omega
        by_cases hfl : f < rs.length
        · obtain ⟨b, o, rfl, hb, hr⟩ := (HR.out.below hB) f hfl
          obtain ⟨v1, v2⟩ := FI.some HT.out hI hfl
          have c8 : wr.cell? ⟨b, o + f * 9 + 8, none⟩ = some (.int .i64 rs[f].cls) := hr 8 _ rfl
          have HV := Lib.hid (And.intro v1 v2)
          have e1 : ((f : Int) == (rs.length : Int)) = false := by simp; omega
          have hin : (f : Int) < rs.length := by omega
          clear hr hI v1 v2 hlt
          generalize rs[f].cls = cl at c8 HV
          go_wp2
          go_ret2
          exact ⟨by rw [HV.out.1, HV.out.2]; rfl, (by repeat' (first | with_reducible exact Below.refl _ _ | with_reducible assumption | ((with_reducible refine Below.drew ?_)) | ((with_reducible refine below_drewN ?_ _)) | ((with_reducible refine Below.alloc ?_ ?_ _); rotate_left; focus (first | omega | (simp; done) | (simp; omega))) | ((with_reducible refine Below.setCell ?_ ?_ _); rotate_left; focus (first | omega | (simp; done) | (simp; omega))) | ((with_reducible refine Below.trans ?_ (Below.mono (by with_reducible assumption) ?_)); rotate_left; focus (first | omega | (simp; done) | (simp; omega)))))⟩
        · obtain rfl : f = rs.length := by omega
          obtain ⟨v1, v2⟩ := FI.none HT.out hI
          have HV := Lib.hid (And.intro v1 v2)
          have e1 : ((rs.length : Int) == (rs.length : Int)) = true := by simp
          clear hI v1 v2 hlt
          go_wp2
          go_ret2
          exact ⟨by rw [HV.out.1, HV.out.2]; rfl, (by repeat' (first | with_reducible exact Below.refl _ _ | with_reducible assumption | ((with_reducible refine Below.drew ?_)) | ((with_reducible refine below_drewN ?_ _)) | ((with_reducible refine Below.alloc ?_ ?_ _); rotate_left; focus (first | omega | (simp; done) | (simp; omega))) | ((with_reducible refine Below.setCell ?_ ?_ _); rotate_left; focus (first | omega | (simp; done) | (simp; omega))) | ((with_reducible refine Below.trans ?_ (Below.mono (by with_reducible assumption) ?_)); rotate_left; focus (first | omega | (simp; done) | (simp; omega)))))⟩
  | none =>
    have HLL := Lib.hid (fun (z : World) (hz : Mp kv4 vvn ok4 F n z mb) => (show (Instr.lookup 101 (.map (some mb)) (.agg #[.int .u16 (h 0 : Nat), .int .u16 (h 1 : Nat), .int .u16 (h 2 : Nat), .int .u16 (h 3 : Nat)]) true).run Try.prog z = .ok (.tuple #[.int .i64 0, .bool false]) z by have := HL z hz; rw [hF] at this; exact this))
    have HI := Lib.hid (FI.start_none hT hh hF)
    clear HL hF
    go_wp2_with fail
    have hl := HLL.out w.drew hM.drew
    have hl2 := HLL.out (w.alloc (.cells #[.int .u16 (h 0 : Nat), .int .u16 (h 1 : Nat), .int .u16 (h 2 : Nat), .int .u16 (h 3 : Nat)] 25)).drew (hM.alloc _).drew
    clear HLL hl
    obtain ⟨Cl, hCl⟩ : ∃ Cl : List Value → World → Prop, Cl = ((fun ps wz => (wz.cell? ⟨p, 0, none⟩ = some (.slice (a0) rs.length c0) ∧ wz.cell? ⟨p, 1, none⟩ = some (.map (some mb)) ∧ wz.cell? ⟨p, 2, none⟩ = some (.slice (a1) ms.length c1) ∧ p < wz.heap.size) ∧ (wz.cell? ⟨w.heap.size, 0, none⟩ = some (.int .u16 (h 0 : Nat)) ∧ wz.cell? ⟨w.heap.size, 1, none⟩ = some (.int .u16 (h 1 : Nat)) ∧ wz.cell? ⟨w.heap.size, 2, none⟩ = some (.int .u16 (h 2 : Nat)) ∧ wz.cell? ⟨w.heap.size, 3, none⟩ = some (.int .u16 (h 3 : Nat)) ∧ w.heap.size < wz.heap.size) ∧ (Instr.lookup 101 (.map (some mb)) (.agg #[.int .u16 (h 0 : Nat), .int .u16 (h 1 : Nat), .int .u16 (h 2 : Nat), .int .u16 (h 3 : Nat)]) true).run Try.prog wz = .ok (.tuple #[.int .i64 0, .bool false]) wz ∧ Below w.heap.size w wz)) := ⟨_, rfl⟩; have HCl := Lib.hid hCl; clear hCl; refine wp_region_eff [] Cl (by kernel_rfl) (by kernel_rfl) (by rw [HCl.out]; (try simp only [List.nil_append, List.cons_append]); (try dsimp only); ((repeat' apply And.intro) <;> first | (simp [go_sem, *]; done) | omega | (repeat' (first | with_reducible exact Below.refl _ _ | with_reducible assumption | ((with_reducible refine Below.drew ?_)) | ((with_reducible refine below_drewN ?_ _)) | ((with_reducible refine Below.alloc ?_ ?_ _); rotate_left; focus (first | omega | (simp; done) | (simp; omega))) | ((with_reducible refine Below.setCell ?_ ?_ _); rotate_left; focus (first | omega | (simp; done) | (simp; omega))) | ((with_reducible refine Below.trans ?_ (Below.mono (by with_reducible assumption) ?_)); rotate_left; focus (first | omega | (simp; done) | (simp; omega))))))) ?_
    (repeat (first | (refine wE_skip (by rfl) ?_; simp only [Act.put, Nat.reduceAdd, List.setIfInBounds_toArray, List.set_cons_zero, List.set_cons_succ, List.nil_append, List.cons_append]) | (refine wE_open (by rfl) (by rfl) ?_; apply Exists.intro; refine ⟨fun vs wq hw => ?_, ?_⟩; (focus (rw [HCl.out] at hw; (try simp only [List.nil_append, List.cons_append] at hw); (try dsimp only at hw); go_split_ands; go_simp <;> first | with_reducible exact (rfl : Value.bool false = _) | with_reducible exact (rfl : Value.bool true = _) | ((try go_bits) <;> exact rfl))); simp only [Act.put, Nat.reduceAdd, List.setIfInBounds_toArray, List.set_cons_zero, List.set_cons_succ, List.nil_append, List.cons_append]) | (refine wE_seal (by rfl) (by rfl) (by kernel_rfl) ?_; apply Exists.intro; refine ⟨fun wq hw => ?_, ?_⟩; (focus (rw [HCl.out] at hw; (try simp only [List.nil_append, List.cons_append] at hw); (try dsimp only at hw); go_split_ands; go_simp <;> (try go_bits) <;> exact rfl)); simp only [Act.put, Nat.reduceAdd, List.setIfInBounds_toArray, List.set_cons_zero, List.set_cons_succ, List.nil_append, List.cons_append]) | (refine wE_seal (by rfl) (by rfl) (by kernel_rfl) ?_; apply Exists.intro; refine ⟨fun wq hw => ?_, ?_⟩; (focus (rw [HCl.out] at hw; (try simp only [List.nil_append, List.cons_append] at hw); (try dsimp only at hw); go_split_ands; go_simp; fail)); simp only [Act.put, Nat.reduceAdd, List.setIfInBounds_toArray, List.set_cons_zero, List.set_cons_succ, List.nil_append, List.cons_append]) | (refine wE_eff (by rfl) (by rfl) (fun wq hw => ?_) (fun u hu => ?_); (focus (rw [HCl.out] at hw; (try simp only [List.nil_append, List.cons_append] at hw); (try dsimp only at hw); go_split_ands; go_simp; rw [HCl.out]; (try simp only [List.nil_append, List.cons_append]); (try dsimp only); skip; ((repeat' apply And.intro) <;> first | (simp [go_sem, *]; done) | omega | (repeat' (first | with_reducible exact Below.refl _ _ | with_reducible assumption | ((with_reducible refine Below.drew ?_)) | ((with_reducible refine below_drewN ?_ _)) | ((with_reducible refine Below.alloc ?_ ?_ _); rotate_left; focus (first | omega | (simp; done) | (simp; omega))) | ((with_reducible refine Below.setCell ?_ ?_ _); rotate_left; focus (first | omega | (simp; done) | (simp; omega))) | ((with_reducible refine Below.trans ?_ (Below.mono (by with_reducible assumption) ?_)); rotate_left; focus (first | omega | (simp; done) | (simp; omega)))))))); clear hu; simp only [Act.put, Nat.reduceAdd, List.setIfInBounds_toArray, List.set_cons_zero, List.set_cons_succ, List.nil_append, List.cons_append])))
    refine wE_nil ?_; intro w' hw; rw [HCl.out] at hw; (try simp only [List.nil_append, List.cons_append] at hw); (try dsimp only at hw); clear HCl
    obtain ⟨⟨y0, y1, y2, y3⟩, ⟨z0, z1, z2, z3, z4⟩, -, hBw⟩ := hw
    clear hl2
    go_wp2_with fail
    go_loopw [6, 33] (fun fv ii wr => ∃ (j f : Nat), j ≤ ms.length ∧ ii = .int .i64 j ∧ fv = .int .i64 f ∧ FI rs h ms f j ∧ (wr.cell? ⟨w.heap.size, 0, none⟩ = some (.int .u16 (h 0 : Nat)) ∧ wr.cell? ⟨w.heap.size, 1, none⟩ = some (.int .u16 (h 1 : Nat)) ∧ wr.cell? ⟨w.heap.size, 2, none⟩ = some (.int .u16 (h 2 : Nat)) ∧ wr.cell? ⟨w.heap.size, 3, none⟩ = some (.int .u16 (h 3 : Nat)) ∧ w.heap.size < wr.heap.size) ∧ Below w.heap.size w wr) (fun _ ii _ => ms.length - (intOf ii).toNat); (case atStart => exact ⟨0, _, Nat.zero_le _, rfl, rfl, HI.out, ⟨z0, z1, z2, z3, z4⟩, hBw⟩)
    case round =>
      obtain ⟨j, f, hj, rfl, rfl, hI, ⟨q0, q1, q2, q3, q4⟩, hB⟩ := hrel
      obtain ⟨hcc, hff⟩ := bcell hB
      have x0' := (hB.cell (p := ⟨p, 0, none⟩) hp).trans x0
      have x1' := (hB.cell (p := ⟨p, 1, none⟩) hp).trans x1
      have x2' := (hB.cell (p := ⟨p, 2, none⟩) hp).trans x2
      have hpr := Nat.lt_of_lt_of_le hp hB.size
      have hfn := hI.a
      clear hcc hff HI hBw
      by_cases hlt : j < ms.length
      · obtain ⟨i, hi, _, hmi⟩ := HM1.out ms[j] (List.getElem_mem hlt)
        obtain ⟨bm, om, rfl, hbm, hrm⟩ := (HS.out.below hB) j hlt
        have cm : wr.cell? ⟨bm, om + j, none⟩ = some (.int .i64 i) := by have := hrm 0 _ rfl; rw [← hmi]; simpa using this
        obtain ⟨b, o, rfl, hb, hr⟩ := (HR.out.below hB) i hi
        have hf := HW.out i hi
        have hmt := mt_at (h := h) hi
        have hsk := fun hc => hI.skip hlt hc
        have htk := fun h1 h2 => hI.take hlt hi hmi h1 h2
        clear hrm
        generalize rs[i] = r at hr hf hmt
        have hc9 : wr.cell? ⟨b, (o + i * 9), none⟩ = some (.int .u16 (r.m 0 : Nat)) ∧ wr.cell? ⟨b, (o + i * 9) + 1, none⟩ = some (.int .u16 (r.m 1 : Nat)) ∧ wr.cell? ⟨b, (o + i * 9) + 2, none⟩ = some (.int .u16 (r.m 2 : Nat)) ∧ wr.cell? ⟨b, (o + i * 9) + 3, none⟩ = some (.int .u16 (r.m 3 : Nat)) ∧ wr.cell? ⟨b, (o + i * 9) + 4, none⟩ = some (.int .u16 (r.s 0 : Nat)) ∧ wr.cell? ⟨b, (o + i * 9) + 5, none⟩ = some (.int .u16 (r.s 1 : Nat)) ∧ wr.cell? ⟨b, (o + i * 9) + 6, none⟩ = some (.int .u16 (r.s 2 : Nat)) ∧ wr.cell? ⟨b, (o + i * 9) + 7, none⟩ = some (.int .u16 (r.s 3 : Nat)) ∧ wr.cell? ⟨b, (o + i * 9) + 8, none⟩ = some (.int .i64 r.cls) ∧ b < wr.heap.size := ⟨hr 0 _ rfl, hr 1 _ rfl, hr 2 _ rfl, hr 3 _ rfl, hr 4 _ rfl, hr 5 _ rfl, hr 6 _ rfl, hr 7 _ rfl, hr 8 _ rfl, hb⟩
        have KM := Lib.hid (fun z => mma_c r.m r.s h r.cls hf.m HH.out z)
        rw [hmt] at htk
        have HSK := Lib.hid (fun (hc : i < f → mtc r.m r.s h = false) => hsk fun x hx hm => by
          obtain rfl : x = i := by omega
          rw [hmt] at hm
          rcases Nat.lt_or_ge x f with hl | hl
          · rw [hc hl] at hm; cases hm
          · exact hl)
        have HTK := Lib.hid htk
        have hin : (i : Int) < rs.length := by omega
        clear hr hsk htk hf hmt hI
        by_cases hif : i < f
        · have e1 : decide ((i : Int) < (f : Int)) = true := by simpa using hif
          cases hb2 : mtc r.m r.s h with
          | true =>
            rw [hb2] at KM
            have HV := Lib.hid (HTK.out hif hb2)
            clear hb2 HTK HSK
            go_wp2_with fail
            obtain ⟨Cl, hCl⟩ : ∃ Cl : List Value → World → Prop, Cl = ((fun ps wz => (wz.cell? ⟨p, 0, none⟩ = some (.slice (some ⟨b, o, none⟩) rs.length c0) ∧ wz.cell? ⟨p, 1, none⟩ = some (.map (some mb)) ∧ wz.cell? ⟨p, 2, none⟩ = some (.slice (some ⟨bm, om, none⟩) ms.length c1) ∧ p < wz.heap.size) ∧ (wz.cell? ⟨w.heap.size, 0, none⟩ = some (.int .u16 (h 0 : Nat)) ∧ wz.cell? ⟨w.heap.size, 1, none⟩ = some (.int .u16 (h 1 : Nat)) ∧ wz.cell? ⟨w.heap.size, 2, none⟩ = some (.int .u16 (h 2 : Nat)) ∧ wz.cell? ⟨w.heap.size, 3, none⟩ = some (.int .u16 (h 3 : Nat)) ∧ w.heap.size < wz.heap.size) ∧ (wz.cell? ⟨b, (o + i * 9), none⟩ = some (.int .u16 (r.m 0 : Nat)) ∧ wz.cell? ⟨b, (o + i * 9) + 1, none⟩ = some (.int .u16 (r.m 1 : Nat)) ∧ wz.cell? ⟨b, (o + i * 9) + 2, none⟩ = some (.int .u16 (r.m 2 : Nat)) ∧ wz.cell? ⟨b, (o + i * 9) + 3, none⟩ = some (.int .u16 (r.m 3 : Nat)) ∧ wz.cell? ⟨b, (o + i * 9) + 4, none⟩ = some (.int .u16 (r.s 0 : Nat)) ∧ wz.cell? ⟨b, (o + i * 9) + 5, none⟩ = some (.int .u16 (r.s 1 : Nat)) ∧ wz.cell? ⟨b, (o + i * 9) + 6, none⟩ = some (.int .u16 (r.s 2 : Nat)) ∧ wz.cell? ⟨b, (o + i * 9) + 7, none⟩ = some (.int .u16 (r.s 3 : Nat)) ∧ wz.cell? ⟨b, (o + i * 9) + 8, none⟩ = some (.int .i64 r.cls) ∧ b < wz.heap.size) ∧ Below w.heap.size w wz)) := ⟨_, rfl⟩; have HCl := Lib.hid hCl; clear hCl; refine wp_region_eff [] Cl (by kernel_rfl) (by kernel_rfl) (by rw [HCl.out]; (try simp only [List.nil_append, List.cons_append]); (try dsimp only); ((repeat' apply And.intro) <;> first | (simp [go_sem, *]; done) | omega | (repeat' (first | with_reducible exact Below.refl _ _ | with_reducible assumption | ((with_reducible refine Below.drew ?_)) | ((with_reducible refine below_drewN ?_ _)) | ((with_reducible refine Below.alloc ?_ ?_ _); rotate_left; focus (first | omega | (simp; done) | (simp; omega))) | ((with_reducible refine Below.setCell ?_ ?_ _); rotate_left; focus (first | omega | (simp; done) | (simp; omega))) | ((with_reducible refine Below.trans ?_ (Below.mono (by with_reducible assumption) ?_)); rotate_left; focus (first | omega | (simp; done) | (simp; omega))))))) ?_
            (repeat (first | (refine wE_skip (by rfl) ?_; simp only [Act.put, Nat.reduceAdd, List.setIfInBounds_toArray, List.set_cons_zero, List.set_cons_succ, List.nil_append, List.cons_append]) | (refine wE_open (by rfl) (by rfl) ?_; apply Exists.intro; refine ⟨fun vs wq hw => ?_, ?_⟩; (focus (rw [HCl.out] at hw; (try simp only [List.nil_append, List.cons_append] at hw); (try dsimp only at hw); go_split_ands; go_simp <;> first | with_reducible exact (rfl : Value.bool false = _) | with_reducible exact (rfl : Value.bool true = _) | ((try go_bits) <;> exact rfl))); simp only [Act.put, Nat.reduceAdd, List.setIfInBounds_toArray, List.set_cons_zero, List.set_cons_succ, List.nil_append, List.cons_append]) | (refine wE_seal (by rfl) (by rfl) (by kernel_rfl) ?_; apply Exists.intro; refine ⟨fun wq hw => ?_, ?_⟩; (focus (rw [HCl.out] at hw; (try simp only [List.nil_append, List.cons_append] at hw); (try dsimp only at hw); go_split_ands; go_simp <;> (try go_bits) <;> exact rfl)); simp only [Act.put, Nat.reduceAdd, List.setIfInBounds_toArray, List.set_cons_zero, List.set_cons_succ, List.nil_append, List.cons_append]) | (refine wE_seal (by rfl) (by rfl) (by kernel_rfl) ?_; apply Exists.intro; refine ⟨fun wq hw => ?_, ?_⟩; (focus (rw [HCl.out] at hw; (try simp only [List.nil_append, List.cons_append] at hw); (try dsimp only at hw); go_split_ands; go_simp; (go_at_call 18; ((with_reducible refine (KM.out _).mono ?_); rintro e w' ⟨rfl, hbel⟩; obtain ⟨hcc, hff⟩ := bcell hbel; have hsz := hbel.size; (try simp at hsz); refine ⟨rfl, ?_⟩; rw [HCl.out]; (try simp only [List.nil_append, List.cons_append]); (try dsimp only); ((repeat' apply And.intro) <;> first | (simp [go_sem, *]; done) | omega | (repeat' (first | with_reducible exact Below.refl _ _ | with_reducible assumption | ((with_reducible refine Below.drew ?_)) | ((with_reducible refine below_drewN ?_ _)) | ((with_reducible refine Below.alloc ?_ ?_ _); rotate_left; focus (first | omega | (simp; done) | (simp; omega))) | ((with_reducible refine Below.setCell ?_ ?_ _); rotate_left; focus (first | omega | (simp; done) | (simp; omega))) | ((with_reducible refine Below.trans ?_ (Below.mono (by with_reducible assumption) ?_)); rotate_left; focus (first | omega | (simp; done) | (simp; omega)))))))))); simp only [Act.put, Nat.reduceAdd, List.setIfInBounds_toArray, List.set_cons_zero, List.set_cons_succ, List.nil_append, List.cons_append]) | (refine wE_eff (by rfl) (by rfl) (fun wq hw => ?_) (fun u hu => ?_); (focus (rw [HCl.out] at hw; (try simp only [List.nil_append, List.cons_append] at hw); (try dsimp only at hw); go_split_ands; go_simp; rw [HCl.out]; (try simp only [List.nil_append, List.cons_append]); (try dsimp only); skip; ((repeat' apply And.intro) <;> first | (simp [go_sem, *]; done) | omega | (repeat' (first | with_reducible exact Below.refl _ _ | with_reducible assumption | ((with_reducible refine Below.drew ?_)) | ((with_reducible refine below_drewN ?_ _)) | ((with_reducible refine Below.alloc ?_ ?_ _); rotate_left; focus (first | omega | (simp; done) | (simp; omega))) | ((with_reducible refine Below.setCell ?_ ?_ _); rotate_left; focus (first | omega | (simp; done) | (simp; omega))) | ((with_reducible refine Below.trans ?_ (Below.mono (by with_reducible assumption) ?_)); rotate_left; focus (first | omega | (simp; done) | (simp; omega)))))))); clear hu; simp only [Act.put, Nat.reduceAdd, List.setIfInBounds_toArray, List.set_cons_zero, List.set_cons_succ, List.nil_append, List.cons_append])))
            refine wE_nil ?_; intro w' hw; rw [HCl.out] at hw; (try simp only [List.nil_append, List.cons_append] at hw); (try dsimp only at hw); clear HCl
            go_split_ands
            go_wp2
            go_roundw
            case rel => exact ⟨j + 1, i, by omega, by go_num, rfl, HV.out, ⟨by assumption, by assumption, by assumption, by assumption, by assumption⟩, by assumption⟩
            case measure => simp [intOf]; omega
          | false =>
            rw [hb2] at KM
            have HV := Lib.hid (HSK.out fun _ => hb2)
            clear hb2 HTK HSK
            go_wp2_with fail
            obtain ⟨Cl, hCl⟩ : ∃ Cl : List Value → World → Prop, Cl = ((fun ps wz => (wz.cell? ⟨p, 0, none⟩ = some (.slice (some ⟨b, o, none⟩) rs.length c0) ∧ wz.cell? ⟨p, 1, none⟩ = some (.map (some mb)) ∧ wz.cell? ⟨p, 2, none⟩ = some (.slice (some ⟨bm, om, none⟩) ms.length c1) ∧ p < wz.heap.size) ∧ (wz.cell? ⟨w.heap.size, 0, none⟩ = some (.int .u16 (h 0 : Nat)) ∧ wz.cell? ⟨w.heap.size, 1, none⟩ = some (.int .u16 (h 1 : Nat)) ∧ wz.cell? ⟨w.heap.size, 2, none⟩ = some (.int .u16 (h 2 : Nat)) ∧ wz.cell? ⟨w.heap.size, 3, none⟩ = some (.int .u16 (h 3 : Nat)) ∧ w.heap.size < wz.heap.size) ∧ (wz.cell? ⟨b, (o + i * 9), none⟩ = some (.int .u16 (r.m 0 : Nat)) ∧ wz.cell? ⟨b, (o + i * 9) + 1, none⟩ = some (.int .u16 (r.m 1 : Nat)) ∧ wz.cell? ⟨b, (o + i * 9) + 2, none⟩ = some (.int .u16 (r.m 2 : Nat)) ∧ wz.cell? ⟨b, (o + i * 9) + 3, none⟩ = some (.int .u16 (r.m 3 : Nat)) ∧ wz.cell? ⟨b, (o + i * 9) + 4, none⟩ = some (.int .u16 (r.s 0 : Nat)) ∧ wz.cell? ⟨b, (o + i * 9) + 5, none⟩ = some (.int .u16 (r.s 1 : Nat)) ∧ wz.cell? ⟨b, (o + i * 9) + 6, none⟩ = some (.int .u16 (r.s 2 : Nat)) ∧ wz.cell? ⟨b, (o + i * 9) + 7, none⟩ = some (.int .u16 (r.s 3 : Nat)) ∧ wz.cell? ⟨b, (o + i * 9) + 8, none⟩ = some (.int .i64 r.cls) ∧ b < wz.heap.size) ∧ Below w.heap.size w wz)) := ⟨_, rfl⟩; have HCl := Lib.hid hCl; clear hCl; refine wp_region_eff [] Cl (by kernel_rfl) (by kernel_rfl) (by rw [HCl.out]; (try simp only [List.nil_append, List.cons_append]); (try dsimp only); ((repeat' apply And.intro) <;> first | (simp [go_sem, *]; done) | omega | (repeat' (first | with_reducible exact Below.refl _ _ | with_reducible assumption | ((with_reducible refine Below.drew ?_)) | ((with_reducible refine below_drewN ?_ _)) | ((with_reducible refine Below.alloc ?_ ?_ _); rotate_left; focus (first | omega | (simp; done) | (simp; omega))) | ((with_reducible refine Below.setCell ?_ ?_ _); rotate_left; focus (first | omega | (simp; done) | (simp; omega))) | ((with_reducible refine Below.trans ?_ (Below.mono (by with_reducible assumption) ?_)); rotate_left; focus (first | omega | (simp; done) | (simp; omega))))))) ?_
            (repeat (first | (refine wE_skip (by rfl) ?_; simp only [Act.put, Nat.reduceAdd, List.setIfInBounds_toArray, List.set_cons_zero, List.set_cons_succ, List.nil_append, List.cons_append]) | (refine wE_open (by rfl) (by rfl) ?_; apply Exists.intro; refine ⟨fun vs wq hw => ?_, ?_⟩; (focus (rw [HCl.out] at hw; (try simp only [List.nil_append, List.cons_append] at hw); (try dsimp only at hw); go_split_ands; go_simp <;> first | with_reducible exact (rfl : Value.bool false = _) | with_reducible exact (rfl : Value.bool true = _) | ((try go_bits) <;> exact rfl))); simp only [Act.put, Nat.reduceAdd, List.setIfInBounds_toArray, List.set_cons_zero, List.set_cons_succ, List.nil_append, List.cons_append]) | (refine wE_seal (by rfl) (by rfl) (by kernel_rfl) ?_; apply Exists.intro; refine ⟨fun wq hw => ?_, ?_⟩; (focus (rw [HCl.out] at hw; (try simp only [List.nil_append, List.cons_append] at hw); (try dsimp only at hw); go_split_ands; go_simp <;> (try go_bits) <;> exact rfl)); simp only [Act.put, Nat.reduceAdd, List.setIfInBounds_toArray, List.set_cons_zero, List.set_cons_succ, List.nil_append, List.cons_append]) | (refine wE_seal (by rfl) (by rfl) (by kernel_rfl) ?_; apply Exists.intro; refine ⟨fun wq hw => ?_, ?_⟩; (focus (rw [HCl.out] at hw; (try simp only [List.nil_append, List.cons_append] at hw); (try dsimp only at hw); go_split_ands; go_simp; (go_at_call 18; ((with_reducible refine (KM.out _).mono ?_); rintro e w' ⟨rfl, hbel⟩; obtain ⟨hcc, hff⟩ := bcell hbel; have hsz := hbel.size; (try simp at hsz); refine ⟨rfl, ?_⟩; rw [HCl.out]; (try simp only [List.nil_append, List.cons_append]); (try dsimp only); ((repeat' apply And.intro) <;> first | (simp [go_sem, *]; done) | omega | (repeat' (first | with_reducible exact Below.refl _ _ | with_reducible assumption | ((with_reducible refine Below.drew ?_)) | ((with_reducible refine below_drewN ?_ _)) | ((with_reducible refine Below.alloc ?_ ?_ _); rotate_left; focus (first | omega | (simp; done) | (simp; omega))) | ((with_reducible refine Below.setCell ?_ ?_ _); rotate_left; focus (first | omega | (simp; done) | (simp; omega))) | ((with_reducible refine Below.trans ?_ (Below.mono (by with_reducible assumption) ?_)); rotate_left; focus (first | omega | (simp; done) | (simp; omega)))))))))); simp only [Act.put, Nat.reduceAdd, List.setIfInBounds_toArray, List.set_cons_zero, List.set_cons_succ, List.nil_append, List.cons_append]) | (refine wE_eff (by rfl) (by rfl) (fun wq hw => ?_) (fun u hu => ?_); (focus (rw [HCl.out] at hw; (try simp only [List.nil_append, List.cons_append] at hw); (try dsimp only at hw); go_split_ands; go_simp; rw [HCl.out]; (try simp only [List.nil_append, List.cons_append]); (try dsimp only); skip; ((repeat' apply And.intro) <;> first | (simp [go_sem, *]; done) | omega | (repeat' (first | with_reducible exact Below.refl _ _ | with_reducible assumption | ((with_reducible refine Below.drew ?_)) | ((with_reducible refine below_drewN ?_ _)) | ((with_reducible refine Below.alloc ?_ ?_ _); rotate_left; focus (first | omega | (simp; done) | (simp; omega))) | ((with_reducible refine Below.setCell ?_ ?_ _); rotate_left; focus (first | omega | (simp; done) | (simp; omega))) | ((with_reducible refine Below.trans ?_ (Below.mono (by with_reducible assumption) ?_)); rotate_left; focus (first | omega | (simp; done) | (simp; omega)))))))); clear hu; simp only [Act.put, Nat.reduceAdd, List.setIfInBounds_toArray, List.set_cons_zero, List.set_cons_succ, List.nil_append, List.cons_append])))
            refine wE_nil ?_; intro w' hw; rw [HCl.out] at hw; (try simp only [List.nil_append, List.cons_append] at hw); (try dsimp only at hw); clear HCl
            go_split_ands
            go_wp2
            go_roundw
            case rel => exact ⟨j + 1, f, by omega, by go_num, rfl, HV.out, ⟨by assumption, by assumption, by assumption, by assumption, by assumption⟩, by assumption⟩
            case measure => simp [intOf]; omega
        · have e1 : decide ((i : Int) < (f : Int)) = false := by simp; omega
          have HV := Lib.hid (HSK.out fun h => absurd h hif)
          clear HTK HSK KM
          go_wp2_with fail
          obtain ⟨Cl, hCl⟩ : ∃ Cl : List Value → World → Prop, Cl = ((fun ps wz => (wz.cell? ⟨p, 0, none⟩ = some (.slice (some ⟨b, o, none⟩) rs.length c0) ∧ wz.cell? ⟨p, 1, none⟩ = some (.map (some mb)) ∧ wz.cell? ⟨p, 2, none⟩ = some (.slice (some ⟨bm, om, none⟩) ms.length c1) ∧ p < wz.heap.size) ∧ (wz.cell? ⟨w.heap.size, 0, none⟩ = some (.int .u16 (h 0 : Nat)) ∧ wz.cell? ⟨w.heap.size, 1, none⟩ = some (.int .u16 (h 1 : Nat)) ∧ wz.cell? ⟨w.heap.size, 2, none⟩ = some (.int .u16 (h 2 : Nat)) ∧ wz.cell? ⟨w.heap.size, 3, none⟩ = some (.int .u16 (h 3 : Nat)) ∧ w.heap.size < wz.heap.size) ∧ Below w.heap.size w wz)) := ⟨_, rfl⟩; have HCl := Lib.hid hCl; clear hCl; refine wp_region_eff [] Cl (by kernel_rfl) (by kernel_rfl) (by rw [HCl.out]; (try simp only [List.nil_append, List.cons_append]); (try dsimp only); ((repeat' apply And.intro) <;> first | (simp [go_sem, *]; done) | omega | (repeat' (first | with_reducible exact Below.refl _ _ | with_reducible assumption | ((with_reducible refine Below.drew ?_)) | ((with_reducible refine below_drewN ?_ _)) | ((with_reducible refine Below.alloc ?_ ?_ _); rotate_left; focus (first | omega | (simp; done) | (simp; omega))) | ((with_reducible refine Below.setCell ?_ ?_ _); rotate_left; focus (first | omega | (simp; done) | (simp; omega))) | ((with_reducible refine Below.trans ?_ (Below.mono (by with_reducible assumption) ?_)); rotate_left; focus (first | omega | (simp; done) | (simp; omega))))))) ?_
          (repeat (first | (refine wE_skip (by rfl) ?_; simp only [Act.put, Nat.reduceAdd, List.setIfInBounds_toArray, List.set_cons_zero, List.set_cons_succ, List.nil_append, List.cons_append]) | (refine wE_open (by rfl) (by rfl) ?_; apply Exists.intro; refine ⟨fun vs wq hw => ?_, ?_⟩; (focus (rw [HCl.out] at hw; (try simp only [List.nil_append, List.cons_append] at hw); (try dsimp only at hw); go_split_ands; go_simp <;> first | with_reducible exact (rfl : Value.bool false = _) | with_reducible exact (rfl : Value.bool true = _) | ((try go_bits) <;> exact rfl))); simp only [Act.put, Nat.reduceAdd, List.setIfInBounds_toArray, List.set_cons_zero, List.set_cons_succ, List.nil_append, List.cons_append]) | (refine wE_seal (by rfl) (by rfl) (by kernel_rfl) ?_; apply Exists.intro; refine ⟨fun wq hw => ?_, ?_⟩; (focus (rw [HCl.out] at hw; (try simp only [List.nil_append, List.cons_append] at hw); (try dsimp only at hw); go_split_ands; go_simp <;> (try go_bits) <;> exact rfl)); simp only [Act.put, Nat.reduceAdd, List.setIfInBounds_toArray, List.set_cons_zero, List.set_cons_succ, List.nil_append, List.cons_append]) | (refine wE_seal (by rfl) (by rfl) (by kernel_rfl) ?_; apply Exists.intro; refine ⟨fun wq hw => ?_, ?_⟩; (focus (rw [HCl.out] at hw; (try simp only [List.nil_append, List.cons_append] at hw); (try dsimp only at hw); go_split_ands; go_simp; fail)); simp only [Act.put, Nat.reduceAdd, List.setIfInBounds_toArray, List.set_cons_zero, List.set_cons_succ, List.nil_append, List.cons_append]) | (refine wE_eff (by rfl) (by rfl) (fun wq hw => ?_) (fun u hu => ?_); (focus (rw [HCl.out] at hw; (try simp only [List.nil_append, List.cons_append] at hw); (try dsimp only at hw); go_split_ands; go_simp; rw [HCl.out]; (try simp only [List.nil_append, List.cons_append]); (try dsimp only); skip; ((repeat' apply And.intro) <;> first | (simp [go_sem, *]; done) | omega | (repeat' (first | with_reducible exact Below.refl _ _ | with_reducible assumption | ((with_reducible refine Below.drew ?_)) | ((with_reducible refine below_drewN ?_ _)) | ((with_reducible refine Below.alloc ?_ ?_ _); rotate_left; focus (first | omega | (simp; done) | (simp; omega))) | ((with_reducible refine Below.setCell ?_ ?_ _); rotate_left; focus (first | omega | (simp; done) | (simp; omega))) | ((with_reducible refine Below.trans ?_ (Below.mono (by with_reducible assumption) ?_)); rotate_left; focus (first | omega | (simp; done) | (simp; omega)))))))); clear hu; simp only [Act.put, Nat.reduceAdd, List.setIfInBounds_toArray, List.set_cons_zero, List.set_cons_succ, List.nil_append, List.cons_append])))
          refine wE_nil ?_; intro w' hw; rw [HCl.out] at hw; (try simp only [List.nil_append, List.cons_append] at hw); (try dsimp only at hw); clear HCl
          go_split_ands
          go_wp2
          go_roundw
          case rel => exact ⟨j + 1, f, by omega, by go_num, rfl, HV.out, ⟨by assumption, by assumption, by assumption, by assumption, by assumption⟩, by assumption⟩
          case measure => simp [intOf]; omega
      · obtain rfl : j = ms.length := by omega
        by_cases hfl : f < rs.length
        · obtain ⟨b, o, rfl, hb, hr⟩ := (HR.out.below hB) f hfl
          obtain ⟨v1, v2⟩ := FI.some HT.out hI hfl
          have c8 : wr.cell? ⟨b, o + f * 9 + 8, none⟩ = some (.int .i64 rs[f].cls) := hr 8 _ rfl
          have HV := Lib.hid (And.intro v1 v2)
          have e1 : ((f : Int) == (rs.length : Int)) = false := by simp; omega
          have hin : (f : Int) < rs.length := by omega
          clear hr hI v1 v2 hlt
          generalize rs[f].cls = cl at c8 HV
          go_wp2
          go_ret2
          exact ⟨by rw [HV.out.1, HV.out.2]; rfl, (by repeat' (first | with_reducible exact Below.refl _ _ | with_reducible assumption | ((with_reducible refine Below.drew ?_)) | ((with_reducible refine below_drewN ?_ _)) | ((with_reducible refine Below.alloc ?_ ?_ _); rotate_left; focus (first | omega | (simp; done) | (simp; omega))) | ((with_reducible refine Below.setCell ?_ ?_ _); rotate_left; focus (first | omega | (simp; done) | (simp; omega))) | ((with_reducible refine Below.trans ?_ (Below.mono (by with_reducible assumption) ?_)); rotate_left; focus (first | omega | (simp; done) | (simp; omega)))))⟩
        · obtain rfl : f = rs.length := by omega
          obtain ⟨v1, v2⟩ := FI.none HT.out hI
          have HV := Lib.hid (And.intro v1 v2)
          have e1 : ((rs.length : Int) == (rs.length : Int)) = true := by simp
          clear hI v1 v2 hlt
          go_wp2
          go_ret2
          exact ⟨by rw [HV.out.1, HV.out.2]; rfl, (by repeat' (first | with_reducible exact Below.refl _ _ | with_reducible assumption | ((with_reducible refine Below.drew ?_)) | ((with_reducible refine below_drewN ?_ _)) | ((with_reducible refine Below.alloc ?_ ?_ _); rotate_left; focus (first | omega | (simp; done) | (simp; omega))) | ((with_reducible refine Below.setCell ?_ ?_ _); rotate_left; focus (first | omega | (simp; done) | (simp; omega))) | ((with_reducible refine Below.trans ?_ (Below.mono (by with_reducible assumption) ?_)); rotate_left; focus (first | omega | (simp; done) | (simp; omega)))))⟩
end Go.Proofs.Ytkbglhkhhoakgaa
