/- trace.Parse of a line of what was picked. -/
import Derived.Test.YtdiniaokkdcihaaDoorTx40
namespace Go.Proofs.YtdiniaokkdcihaaDoor
set_option linter.unusedVariables false
set_option linter.unusedSimpArgs false
set_option maxRecDepth 100000
open Go.RowKit Fg Reg
attribute [local irreducible] Reg.wE

set_option maxHeartbeats 8000000 in
theorem parse_out (S : ByteArray) (hS : S.size ≤ 300) (K : List UInt8) (x0 x1 x2 x3 x4 x5 x6 x7 x8 x9 : List UInt8) (real : Bool) (hK1 : (K == [105, 110]) = false) (hK2 : (K == [114, 101, 97, 108]) = real)
    (hcut : cutL 32 S.data.toList = [x0, K, x1, x2, x3, x4, x5, x6, x7, x8, x9]) (hsh : shp [x0, K, x1, x2, x3, x4, x5, x6, x7, x8, x9] = true) (hlen : ∀ x ∈ [x0, x1, x2, x3, x4, x5, x6, x7, x8, x9], x.length ≤ 300) (w : World) :
    Calls Tryd.prog 24 #[.string S] w fun ee w' => ee = .returned (if ne (ne (ne (ne (ne (ne (ne (ne (ne (ne (0) x0 9223372036854775807) x1 18446744073709551615) x2 18446744073709551615) x3 9223372036854775807) x4 18446744073709551615) x5 9223372036854775807) x6 65535) x7 65535) x8 65535) x9 65535 = 0 then .tuple #[.agg #[.int .i64 (nv (0) x0 9223372036854775807), .bool false, .bool real, .int .u64 (nv (ne (0) x0 9223372036854775807) x1 18446744073709551615), .int .u64 (nv (ne (ne (0) x0 9223372036854775807) x1 18446744073709551615) x2 18446744073709551615), .int .i64 (nv (ne (ne (ne (0) x0 9223372036854775807) x1 18446744073709551615) x2 18446744073709551615) x3 9223372036854775807), .int .u64 (nv (ne (ne (ne (ne (0) x0 9223372036854775807) x1 18446744073709551615) x2 18446744073709551615) x3 9223372036854775807) x4 18446744073709551615), .int .i64 (nv (ne (ne (ne (ne (ne (0) x0 9223372036854775807) x1 18446744073709551615) x2 18446744073709551615) x3 9223372036854775807) x4 18446744073709551615) x5 9223372036854775807), .int .u16 (nv (ne (ne (ne (ne (ne (ne (0) x0 9223372036854775807) x1 18446744073709551615) x2 18446744073709551615) x3 9223372036854775807) x4 18446744073709551615) x5 9223372036854775807) x6 65535), .int .u16 (nv (ne (ne (ne (ne (ne (ne (ne (0) x0 9223372036854775807) x1 18446744073709551615) x2 18446744073709551615) x3 9223372036854775807) x4 18446744073709551615) x5 9223372036854775807) x6 65535) x7 65535), .int .u16 (nv (ne (ne (ne (ne (ne (ne (ne (ne (0) x0 9223372036854775807) x1 18446744073709551615) x2 18446744073709551615) x3 9223372036854775807) x4 18446744073709551615) x5 9223372036854775807) x6 65535) x7 65535) x8 65535), .int .u16 (nv (ne (ne (ne (ne (ne (ne (ne (ne (ne (0) x0 9223372036854775807) x1 18446744073709551615) x2 18446744073709551615) x3 9223372036854775807) x4 18446744073709551615) x5 9223372036854775807) x6 65535) x7 65535) x8 65535) x9 65535)], .int .i64 (0)] else .tuple #[.agg #[.int .i64 0, .bool false, .bool false, .int .u64 0, .int .u64 0, .int .i64 0, .int .u64 0, .int .i64 0, .int .u16 0, .int .u16 0, .int .u16 0, .int .u16 0], .int .i64 (ne (ne (ne (ne (ne (ne (ne (ne (ne (ne (0) x0 9223372036854775807) x1 18446744073709551615) x2 18446744073709551615) x3 9223372036854775807) x4 18446744073709551615) x5 9223372036854775807) x6 65535) x7 65535) x8 65535) x9 65535)]) ∧ Below w.heap.size w w' := by
  obtain ⟨R, hR⟩ : ∃ R : Value, R = (if ne (ne (ne (ne (ne (ne (ne (ne (ne (ne (0) x0 9223372036854775807) x1 18446744073709551615) x2 18446744073709551615) x3 9223372036854775807) x4 18446744073709551615) x5 9223372036854775807) x6 65535) x7 65535) x8 65535) x9 65535 = 0 then .tuple #[.agg #[.int .i64 (nv (0) x0 9223372036854775807), .bool false, .bool real, .int .u64 (nv (ne (0) x0 9223372036854775807) x1 18446744073709551615), .int .u64 (nv (ne (ne (0) x0 9223372036854775807) x1 18446744073709551615) x2 18446744073709551615), .int .i64 (nv (ne (ne (ne (0) x0 9223372036854775807) x1 18446744073709551615) x2 18446744073709551615) x3 9223372036854775807), .int .u64 (nv (ne (ne (ne (ne (0) x0 9223372036854775807) x1 18446744073709551615) x2 18446744073709551615) x3 9223372036854775807) x4 18446744073709551615), .int .i64 (nv (ne (ne (ne (ne (ne (0) x0 9223372036854775807) x1 18446744073709551615) x2 18446744073709551615) x3 9223372036854775807) x4 18446744073709551615) x5 9223372036854775807), .int .u16 (nv (ne (ne (ne (ne (ne (ne (0) x0 9223372036854775807) x1 18446744073709551615) x2 18446744073709551615) x3 9223372036854775807) x4 18446744073709551615) x5 9223372036854775807) x6 65535), .int .u16 (nv (ne (ne (ne (ne (ne (ne (ne (0) x0 9223372036854775807) x1 18446744073709551615) x2 18446744073709551615) x3 9223372036854775807) x4 18446744073709551615) x5 9223372036854775807) x6 65535) x7 65535), .int .u16 (nv (ne (ne (ne (ne (ne (ne (ne (ne (0) x0 9223372036854775807) x1 18446744073709551615) x2 18446744073709551615) x3 9223372036854775807) x4 18446744073709551615) x5 9223372036854775807) x6 65535) x7 65535) x8 65535), .int .u16 (nv (ne (ne (ne (ne (ne (ne (ne (ne (ne (0) x0 9223372036854775807) x1 18446744073709551615) x2 18446744073709551615) x3 9223372036854775807) x4 18446744073709551615) x5 9223372036854775807) x6 65535) x7 65535) x8 65535) x9 65535)], .int .i64 (0)] else .tuple #[.agg #[.int .i64 0, .bool false, .bool false, .int .u64 0, .int .u64 0, .int .i64 0, .int .u64 0, .int .i64 0, .int .u16 0, .int .u16 0, .int .u16 0, .int .u16 0], .int .i64 (ne (ne (ne (ne (ne (ne (ne (ne (ne (ne (0) x0 9223372036854775807) x1 18446744073709551615) x2 18446744073709551615) x3 9223372036854775807) x4 18446744073709551615) x5 9223372036854775807) x6 65535) x7 65535) x8 65535) x9 65535)]) := ⟨_, rfl⟩
  rw [← hR]
  have HR := Lib.hid hR
  clear hR
  have d1 : decide ((300 : Int) < S.size) = false := by simp; omega
  have HP0 := Lib.hid (fun w => p0_start w S _ hcut)
  have K1 := Lib.hid (fun z => spl_c S (by omega) z)
  have HPL := Lib.hid (show (pcs32 S).length = 11 by rw [pcs_len, hcut]; rfl)
  obtain ⟨P, hP⟩ : ∃ P : ByteArray, (⟨K.toArray⟩ : ByteArray) = P := ⟨_, rfl⟩
  have hPL : P.toList = K := by rw [← hP, ByteArray.toList_eq]
  have f1 : (P.toList == [105, 110]) = false := by rw [hPL]; exact hK1
  have f2 : (P.toList == [114, 101, 97, 108]) = real := by rw [hPL]; exact hK2
  have HPK := Lib.hid hP
  have KS := Lib.hid (fun (W0 : World) (h : P0 w W0 [x0, K, x1, x2, x3, x4, x5, x6, x7, x8, x9]) => show Calls Tryd.prog 69 #[.slice (some ⟨w.heap.size + 1, 0, none⟩) 11 11] W0 fun e w' => e = .returned (.bool true) ∧ w' = W0 from hsh ▸ shaped_c (w.heap.size + 1) 11 _ W0 h.wr (by simp))
  have KD := Lib.hid (fun (W0 z : World) (h : P0 w W0 [x0, K, x1, x2, x3, x4, x5, x6, x7, x8, x9]) (hb : Below W0.heap.size W0 z) => show Calls Tryd.prog 70 #[.slice (some ⟨w.heap.size + 1, 0, none⟩) 11 11, .int .i64 1, .int .i64 2] z fun e w' => e = .returned (.slice (some ⟨w.heap.size + 1, 0, none⟩) 10 11) ∧ WR w' (w.heap.size + 1) 0 [x0, x1, x2, x3, x4, x5, x6, x7, x8, x9] ∧ Only (fun k => k = w.heap.size + 1) z w' from
    del_c (w.heap.size + 1) 11 [x0, K, x1, x2, x3, x4, x5, x6, x7, x8, x9] z (h.wr.only (Only.of_below (S := fun _ => False) hb) (by rw [h.sz]; omega) (fun e => e)) (fun j hj => ((bcell hb).2 _ _ (by rw [h.sz]; omega)).trans (h.wf j hj)) (by simp) (by simp) (by simp) (by simp))
  have KNI := Lib.hid (fun z q eb rb g cs E x t hx h => pnext w z q eb rb g cs E x t 9223372036854775807 hx (by decide) (by decide) h)
  have KN6 := Lib.hid (fun z q eb rb g cs E x t hx h => pnext w z q eb rb g cs E x t 18446744073709551615 hx (by decide) (by decide) h)
  have KN1 := Lib.hid (fun z q eb rb g cs E x t hx h => pnext w z q eb rb g cs E x t 65535 hx (by decide) (by decide) h)
  have HLN := Lib.hid hlen
  have EI := ev_info
  have hl0 : x0.length ≤ 1000 := by have := hlen x0 (by simp); omega
  have hl1 : x1.length ≤ 1000 := by have := hlen x1 (by simp); omega
  have hl2 : x2.length ≤ 1000 := by have := hlen x2 (by simp); omega
  have hl3 : x3.length ≤ 1000 := by have := hlen x3 (by simp); omega
  have hl4 : x4.length ≤ 1000 := by have := hlen x4 (by simp); omega
  have hl5 : x5.length ≤ 1000 := by have := hlen x5 (by simp); omega
  have hl6 : x6.length ≤ 1000 := by have := hlen x6 (by simp); omega
  have hl7 : x7.length ≤ 1000 := by have := hlen x7 (by simp); omega
  have hl8 : x8.length ≤ 1000 := by have := hlen x8 (by simp); omega
  have hl9 : x9.length ≤ 1000 := by have := hlen x9 (by simp); omega
  have hw64 : ∀ E x, IntKind.i64.wrap (nv E x 9223372036854775807) = nv E x 9223372036854775807 := nv_i64
  have hw16 : ∀ E x, IntKind.u16.wrap (nv E x 65535) = nv E x 65535 := nv_u16
  clear hP hPL hK1 hK2 hcut hsh hlen
  go_enter Tryd.func24, Tryd.ntmps24
  go_wp2_with (first
    | (go_at_call 68; (with_reducible refine (K1.out _).mono ?_); rintro e W0 ⟨rfl, hw⟩; have hP0 : P0 w W0 [x0, K, x1, x2, x3, x4, x5, x6, x7, x8, x9] := (by rw [hw]; exact HP0.out w); clear hw; simp only [HPL.out])
    | (go_at_call 69; (with_reducible refine (KS.out _ hP0).mono ?_); rintro e W0 ⟨rfl, rfl⟩))
  have c1 : W0.cell? ⟨w.heap.size + 1, 1, none⟩ = some (.string P) := by
    have := hP0.wr 1 K rfl
    rw [HPK.out] at this
    simpa using this
  have l1 : w.heap.size + 1 < W0.heap.size := by rw [hP0.sz]; omega
  have l2 : ¬ w.heap.size + 1 = W0.heap.size := by omega
  have hA : ∀ o, (W0.drew.alloc o).cell? ⟨w.heap.size + 1, 1, none⟩ = some (.string P) := fun o => ((bcell (((Below.refl W0.heap.size W0).drew).alloc (Nat.le_refl _) o)).1 _ _ l1).trans c1
  obtain ⟨Cl, hCl⟩ : ∃ Cl : List Value → World → Prop, Cl = (fun ps wz => (wz.cell? ⟨w.heap.size + 1, 1, none⟩ = some (.string P)) ∧ (match ps with | [] => wz = W0.drew | [pz] => pz = Value.pointer (some ⟨W0.heap.size, 0, none⟩) ∧ wz = W0.drew.alloc (.cells zer12.toArray 38) | (pz :: _ :: _) => pz = Value.pointer (some ⟨W0.heap.size, 0, none⟩) ∧ wz = W0.drew.alloc (.cells (([.int .i64 0, .bool false, .bool real, .int .u64 0, .int .u64 0, .int .i64 0, .int .u64 0, .int .i64 0, .int .u16 0, .int .u16 0, .int .u16 0, .int .u16 0] : List Value)).toArray 38))) := ⟨_, rfl⟩
  have HCl := Lib.hid hCl
  clear hCl
  refine wp_region_eff [9, 10] Cl (by kernel_rfl) (by kernel_rfl) ?_ ?_
  · rw [HCl.out]
    dsimp only
    exact ⟨by simp [go_sem, c1], rfl⟩
  (repeat (first | (refine wE_skip (by rfl) ?_; simp only [Act.put, Nat.reduceAdd, List.setIfInBounds_toArray, List.set_cons_zero, List.set_cons_succ, List.nil_append, List.cons_append]) | (refine wE_open (by rfl) (by rfl) ?_; apply Exists.intro; refine ⟨fun vs wq hw => ?_, ?_⟩; (focus (rw [HCl.out] at hw; (try simp only [List.nil_append, List.cons_append] at hw); (try dsimp only at hw); go_split_ands; go_simp <;> first | with_reducible exact (rfl : Value.bool false = _) | with_reducible exact (rfl : Value.bool true = _) | ((try go_bits) <;> exact rfl))); simp only [Act.put, Nat.reduceAdd, List.setIfInBounds_toArray, List.set_cons_zero, List.set_cons_succ, List.nil_append, List.cons_append]) | (refine wE_open (by rfl) (by rfl) ?_; apply Exists.intro; refine ⟨fun vs wq hw => ?_, ?_⟩; (focus (rw [HCl.out] at hw; (try simp only [List.nil_append, List.cons_append] at hw); (try dsimp only at hw); obtain ⟨hw1, hw2⟩ := hw; go_split_ands; go_simp; (fail))); simp only [Act.put, Nat.reduceAdd, List.setIfInBounds_toArray, List.set_cons_zero, List.set_cons_succ, List.nil_append, List.cons_append])))
  refine wE_eff (by rfl) (by rfl) (fun wq hw => ?_) (fun u hu => ?_)
  · rw [HCl.out] at hw; (try simp only [List.nil_append, List.cons_append] at hw); (try dsimp only at hw)
    obtain ⟨hw1, rfl⟩ := hw
    go_simp
    rw [HCl.out]; (try simp only [List.nil_append, List.cons_append]); (try dsimp only)
    refine ⟨?_, ?_⟩
    · first
        | exact hA _
        | simpa using hA (.cells zer12.toArray 38)
    · first
        | exact ⟨rfl, rfl⟩
        | (simp [zer12]; done)
        | (simp [zer12]; rfl)
  obtain ⟨wz, hz⟩ := hu
  rw [HCl.out] at hz
  (try simp only [List.nil_append, List.cons_append] at hz)
  (try dsimp only at hz)
  obtain ⟨_, rfl, hz2⟩ := hz
  clear hz2
  simp only [Act.put, Nat.reduceAdd, List.setIfInBounds_toArray, List.set_cons_zero, List.set_cons_succ, List.nil_append, List.cons_append]
  (repeat (first | (refine wE_skip (by rfl) ?_; simp only [Act.put, Nat.reduceAdd, List.setIfInBounds_toArray, List.set_cons_zero, List.set_cons_succ, List.nil_append, List.cons_append]) | (refine wE_open (by rfl) (by rfl) ?_; apply Exists.intro; refine ⟨fun vs wq hw => ?_, ?_⟩; (focus (rw [HCl.out] at hw; (try simp only [List.nil_append, List.cons_append] at hw); (try dsimp only at hw); go_split_ands; go_simp <;> first | with_reducible exact (rfl : Value.bool false = _) | with_reducible exact (rfl : Value.bool true = _) | ((try go_bits) <;> exact rfl))); simp only [Act.put, Nat.reduceAdd, List.setIfInBounds_toArray, List.set_cons_zero, List.set_cons_succ, List.nil_append, List.cons_append])))
  refine wE_eff (by rfl) (by rfl) (fun wq hw => ?_) (fun u' hu => ?_)
  · rw [HCl.out] at hw; (try simp only [List.nil_append, List.cons_append] at hw); (try dsimp only at hw)
    obtain ⟨hw1, _, rfl⟩ := hw
    refine eff_store 38 (.tmp 5) (.tmp 28) rfl rfl rfl (run_storeAt_new W0.drew 38 zer12.toArray (([.int .i64 0, .bool false, .bool real, .int .u64 0, .int .u64 0, .int .i64 0, .int .u64 0, .int .i64 0, .int .u16 0, .int .u16 0, .int .u16 0, .int .u16 0] : List Value)).toArray EI rfl (all_oneCell_toArray (Ev.one ⟨0, false, real, 0, 0, 0, 0, 0, 0, 0, 0, 0⟩))) ?_
    rw [HCl.out]; (try simp only [List.nil_append, List.cons_append]); (try dsimp only)
    first
      | exact ⟨hA _, rfl, rfl⟩
      | exact ⟨hA _, trivial, trivial⟩
      | (refine ⟨hA _, ?_⟩; simp)
  clear hu
  simp only [Act.put, Nat.reduceAdd, List.setIfInBounds_toArray, List.set_cons_zero, List.set_cons_succ, List.nil_append, List.cons_append]
  (repeat (first | (refine wE_skip (by rfl) ?_; simp only [Act.put, Nat.reduceAdd, List.setIfInBounds_toArray, List.set_cons_zero, List.set_cons_succ, List.nil_append, List.cons_append]) | (refine wE_open (by rfl) (by rfl) ?_; apply Exists.intro; refine ⟨fun vs wq hw => ?_, ?_⟩; (focus (rw [HCl.out] at hw; (try simp only [List.nil_append, List.cons_append] at hw); (try dsimp only at hw); go_split_ands; go_simp <;> first | with_reducible exact (rfl : Value.bool false = _) | with_reducible exact (rfl : Value.bool true = _) | ((try go_bits) <;> exact rfl))); simp only [Act.put, Nat.reduceAdd, List.setIfInBounds_toArray, List.set_cons_zero, List.set_cons_succ, List.nil_append, List.cons_append])))
  refine wE_nil ?_
  intro w' hw
  rw [HCl.out] at hw; (try simp only [List.nil_append, List.cons_append] at hw); (try dsimp only at hw)
  clear HCl
  obtain ⟨_, _, rfl⟩ := hw
  go_wp2_with (first
    | (go_at_call 70; (with_reducible refine (KD.out W0 _ hP0 ?_).mono ?_); (focus exact (by repeat' (first | with_reducible exact Below.refl _ _ | with_reducible assumption | ((with_reducible refine Below.drew ?_)) | ((with_reducible refine below_drewN ?_ _)) | ((with_reducible refine Below.alloc ?_ ?_ _); rotate_left; focus (first | omega | (simp; done) | (simp; omega))) | ((with_reducible refine Below.setCell ?_ ?_ _); rotate_left; focus (first | omega | (simp; done) | (simp; omega))) | ((with_reducible refine Below.trans ?_ (Below.mono (by with_reducible assumption) ?_)); rotate_left; focus (first | omega | (simp; done) | (simp; omega)))))); rintro e w2 ⟨rfl, hWR, hO1⟩; have hO : Only (fun k => k = w.heap.size + 1) ((W0.drew.alloc (.cells (([.int .i64 0, .bool false, .bool real, .int .u64 0, .int .u64 0, .int .i64 0, .int .u64 0, .int .i64 0, .int .u16 0, .int .u16 0, .int .u16 0, .int .u16 0] : List Value)).toArray 38)).alloc (.cells #[.int .i64 0] 39)) w2 := hO1; clear hO1)
    | (go_at_call 71; (with_reducible refine (KNI.out _ _ _ _ _ _ _ x0 [x1, x2, x3, x4, x5, x6, x7, x8, x9] (by assumption) (ps_start_in (ev := ([.int .i64 0, .bool false, .bool real, .int .u64 0, .int .u64 0, .int .i64 0, .int .u64 0, .int .i64 0, .int .u16 0, .int .u16 0, .int .u16 0, .int .u16 0] : List Value)) (n := 10) (c := 11) rfl hP0 hWR hO rfl (by decide) (by decide))).mono ?_); clear hWR hO hP0; rintro e z1 ⟨rfl, hP⟩; have hc := hP.ev; have hf := hP.evf)
    | (go_at_call 71; (with_reducible refine (KNI.out _ _ _ _ _ _ _ _ _ (by assumption) (hP.put _ _)).mono ?_); clear hP hc hf; rintro e z1 ⟨rfl, hP⟩; have hc := hP.ev; have hf := hP.evf)
    | (go_at_call 71; (with_reducible refine (KN6.out _ _ _ _ _ _ _ _ _ (by assumption) (hP.put _ _)).mono ?_); clear hP hc hf; rintro e z1 ⟨rfl, hP⟩; have hc := hP.ev; have hf := hP.evf)
    | (go_at_call 71; (with_reducible refine (KN1.out _ _ _ _ _ _ _ _ _ (by assumption) (hP.put _ _)).mono ?_); clear hP hc hf; rintro e z1 ⟨rfl, hP⟩; have hc := hP.ev; have hf := hP.evf))
  obtain ⟨cs0, hcs0⟩ : ∃ c, c = ([.int .i64 (nv (0) x0 9223372036854775807), .bool false, .bool real, .int .u64 (nv (ne (0) x0 9223372036854775807) x1 18446744073709551615), .int .u64 (nv (ne (ne (0) x0 9223372036854775807) x1 18446744073709551615) x2 18446744073709551615), .int .i64 (nv (ne (ne (ne (0) x0 9223372036854775807) x1 18446744073709551615) x2 18446744073709551615) x3 9223372036854775807), .int .u64 (nv (ne (ne (ne (ne (0) x0 9223372036854775807) x1 18446744073709551615) x2 18446744073709551615) x3 9223372036854775807) x4 18446744073709551615), .int .i64 (nv (ne (ne (ne (ne (ne (0) x0 9223372036854775807) x1 18446744073709551615) x2 18446744073709551615) x3 9223372036854775807) x4 18446744073709551615) x5 9223372036854775807), .int .u16 0, .int .u16 0, .int .u16 0, .int .u16 0] : List Value) := ⟨_, rfl⟩
  obtain ⟨E0, hE0⟩ : ∃ e, e = ne (ne (ne (ne (ne (ne (0) x0 9223372036854775807) x1 18446744073709551615) x2 18446744073709551615) x3 9223372036854775807) x4 18446744073709551615) x5 9223372036854775807 := ⟨_, rfl⟩
  have hP1 := hP.put 7 (.int .i64 (nv (ne (ne (ne (ne (ne (0) x0 9223372036854775807) x1 18446744073709551615) x2 18446744073709551615) x3 9223372036854775807) x4 18446744073709551615) x5 9223372036854775807))
  have hP2 : PS w (z1.setCell ⟨W0.heap.size, 7, none⟩ (.int .i64 (nv (ne (ne (ne (ne (ne (0) x0 9223372036854775807) x1 18446744073709551615) x2 18446744073709551615) x3 9223372036854775807) x4 18446744073709551615) x5 9223372036854775807))) W0.heap.size (W0.heap.size + 1) w2.heap.size (w.heap.size + 1) cs0 E0 [x6, x7, x8, x9] := by
    rw [hcs0, hE0]; exact hP1
  have HCS0 := Lib.hid hcs0
  have HE0 := Lib.hid hE0
  clear hP hc hf hP1 hcs0 hE0
  go_loopw [58] (fun i wr => ∃ (j : Int) (cs : List Value) (E : Int) (ws : List (List UInt8)), ((j = 0 ∧ cs = cs0 ∧ E = E0 ∧ ws = [x6, x7, x8, x9]) ∨ (j = 1 ∧ cs = (cs0.set 8 (.int .u16 (nv (E0) x6 65535))) ∧ E = ne (E0) x6 65535 ∧ ws = [x7, x8, x9]) ∨ (j = 2 ∧ cs = ((cs0.set 8 (.int .u16 (nv (E0) x6 65535))).set 9 (.int .u16 (nv (ne (E0) x6 65535) x7 65535))) ∧ E = ne (ne (E0) x6 65535) x7 65535 ∧ ws = [x8, x9]) ∨ (j = 3 ∧ cs = (((cs0.set 8 (.int .u16 (nv (E0) x6 65535))).set 9 (.int .u16 (nv (ne (E0) x6 65535) x7 65535))).set 10 (.int .u16 (nv (ne (ne (E0) x6 65535) x7 65535) x8 65535))) ∧ E = ne (ne (ne (E0) x6 65535) x7 65535) x8 65535 ∧ ws = [x9]) ∨ (j = 4 ∧ cs = ((((cs0.set 8 (.int .u16 (nv (E0) x6 65535))).set 9 (.int .u16 (nv (ne (E0) x6 65535) x7 65535))).set 10 (.int .u16 (nv (ne (ne (E0) x6 65535) x7 65535) x8 65535))).set 11 (.int .u16 (nv (ne (ne (ne (E0) x6 65535) x7 65535) x8 65535) x9 65535))) ∧ E = ne (ne (ne (ne (E0) x6 65535) x7 65535) x8 65535) x9 65535 ∧ ws = [])) ∧ i = .int .i64 j ∧ PS w wr W0.heap.size (W0.heap.size + 1) w2.heap.size (w.heap.size + 1) cs E ws) (fun i _ => 4 - (intOf i).toNat)
  case atStart => exact ⟨0, _, _, _, .inl ⟨rfl, rfl, rfl, rfl⟩, rfl, hP2⟩
  case round =>
    obtain ⟨j, cs, E, ws, hj, rfl, hP⟩ := hrel
    rcases hj with ⟨rfl, hcs, hEE, rfl⟩ | ⟨rfl, hcs, hEE, rfl⟩ | ⟨rfl, hcs, hEE, rfl⟩ | ⟨rfl, hcs, hEE, rfl⟩ | ⟨rfl, hcs, hEE, rfl⟩
    · have HCE := Lib.hid (And.intro hcs hEE)
      have hc := hP.ev
      have hf := hP.evf
      clear hcs hEE
      go_wp2_with (go_at_call 71; (with_reducible refine (KN1.out _ _ _ _ _ _ _ _ _ (by assumption) hP).mono ?_); clear hP hc hf; rintro e z1 ⟨rfl, hP⟩; have hc := hP.ev; have hf := hP.evf)
      go_roundw
      case rel => exact ⟨1, _, _, _, .inr <| .inl ⟨rfl, by rw [HCE.out.1, HCE.out.2], by rw [HCE.out.2], rfl⟩, rfl, hP.put 8 _⟩
      case measure => simp [intOf]
    · have HCE := Lib.hid (And.intro hcs hEE)
      have hc := hP.ev
      have hf := hP.evf
      clear hcs hEE
      go_wp2_with (go_at_call 71; (with_reducible refine (KN1.out _ _ _ _ _ _ _ _ _ (by assumption) hP).mono ?_); clear hP hc hf; rintro e z1 ⟨rfl, hP⟩; have hc := hP.ev; have hf := hP.evf)
      go_roundw
      case rel => exact ⟨2, _, _, _, .inr <| .inr <| .inl ⟨rfl, by rw [HCE.out.1, HCE.out.2], by rw [HCE.out.2], rfl⟩, rfl, hP.put 9 _⟩
      case measure => simp [intOf]
    · have HCE := Lib.hid (And.intro hcs hEE)
      have hc := hP.ev
      have hf := hP.evf
      clear hcs hEE
      go_wp2_with (go_at_call 71; (with_reducible refine (KN1.out _ _ _ _ _ _ _ _ _ (by assumption) hP).mono ?_); clear hP hc hf; rintro e z1 ⟨rfl, hP⟩; have hc := hP.ev; have hf := hP.evf)
      go_roundw
      case rel => exact ⟨3, _, _, _, .inr <| .inr <| .inr <| .inl ⟨rfl, by rw [HCE.out.1, HCE.out.2], by rw [HCE.out.2], rfl⟩, rfl, hP.put 10 _⟩
      case measure => simp [intOf]
    · have HCE := Lib.hid (And.intro hcs hEE)
      have hc := hP.ev
      have hf := hP.evf
      clear hcs hEE
      go_wp2_with (go_at_call 71; (with_reducible refine (KN1.out _ _ _ _ _ _ _ _ _ (by assumption) hP).mono ?_); clear hP hc hf; rintro e z1 ⟨rfl, hP⟩; have hc := hP.ev; have hf := hP.evf)
      go_roundw
      case rel => exact ⟨4, _, _, _, .inr <| .inr <| .inr <| .inr ⟨rfl, by rw [HCE.out.1, HCE.out.2], by rw [HCE.out.2], rfl⟩, rfl, hP.put 11 _⟩
      case measure => simp [intOf]
    · have HCE := Lib.hid (And.intro hcs hEE)
      have hc := hP.ev
      have hrc := hP.rc
      have hrf := hP.rf
      have herr := hP.np.err
      have hne : ¬ W0.heap.size + 1 = w.heap.size := fun e => hP.o1 e.symm
      have hbl := hP.bel
      have hwl := hP.rl
      clear hcs hEE
      by_cases hEz : E = 0
      · obtain ⟨u0, u1, u2, u3, u4, u5, u6, u7, u8, u9, hl, hU⟩ : ∃ u0 u1 u2 u3 u4 u5 u6 u7 u8 u9 : Int, cs = [.int .i64 u0, .bool false, .bool real, .int .u64 u1, .int .u64 u2, .int .i64 u3, .int .u64 u4, .int .i64 u5, .int .u16 u6, .int .u16 u7, .int .u16 u8, .int .u16 u9] ∧ (u0 = nv (0) x0 9223372036854775807 ∧ u1 = nv (ne (0) x0 9223372036854775807) x1 18446744073709551615 ∧ u2 = nv (ne (ne (0) x0 9223372036854775807) x1 18446744073709551615) x2 18446744073709551615 ∧ u3 = nv (ne (ne (ne (0) x0 9223372036854775807) x1 18446744073709551615) x2 18446744073709551615) x3 9223372036854775807 ∧ u4 = nv (ne (ne (ne (ne (0) x0 9223372036854775807) x1 18446744073709551615) x2 18446744073709551615) x3 9223372036854775807) x4 18446744073709551615 ∧ u5 = nv (ne (ne (ne (ne (ne (0) x0 9223372036854775807) x1 18446744073709551615) x2 18446744073709551615) x3 9223372036854775807) x4 18446744073709551615) x5 9223372036854775807 ∧ u6 = nv (ne (ne (ne (ne (ne (ne (0) x0 9223372036854775807) x1 18446744073709551615) x2 18446744073709551615) x3 9223372036854775807) x4 18446744073709551615) x5 9223372036854775807) x6 65535 ∧ u7 = nv (ne (ne (ne (ne (ne (ne (ne (0) x0 9223372036854775807) x1 18446744073709551615) x2 18446744073709551615) x3 9223372036854775807) x4 18446744073709551615) x5 9223372036854775807) x6 65535) x7 65535 ∧ u8 = nv (ne (ne (ne (ne (ne (ne (ne (ne (0) x0 9223372036854775807) x1 18446744073709551615) x2 18446744073709551615) x3 9223372036854775807) x4 18446744073709551615) x5 9223372036854775807) x6 65535) x7 65535) x8 65535 ∧ u9 = nv (ne (ne (ne (ne (ne (ne (ne (ne (ne (0) x0 9223372036854775807) x1 18446744073709551615) x2 18446744073709551615) x3 9223372036854775807) x4 18446744073709551615) x5 9223372036854775807) x6 65535) x7 65535) x8 65535) x9 65535) := ⟨_, _, _, _, _, _, _, _, _, _, by rw [HCE.out.1, HCS0.out, HE0.out]; rfl, rfl, rfl, rfl, rfl, rfl, rfl, rfl, rfl, rfl, rfl⟩
        have HU := Lib.hid hU
        have HEF := Lib.hid (show ne (ne (ne (ne (ne (ne (ne (ne (ne (ne (0) x0 9223372036854775807) x1 18446744073709551615) x2 18446744073709551615) x3 9223372036854775807) x4 18446744073709551615) x5 9223372036854775807) x6 65535) x7 65535) x8 65535) x9 65535 = 0 by have h2 := HCE.out.2; rw [HE0.out, hEz] at h2; exact h2.symm)
        clear hU
        subst hl
        subst hEz
        have HP := Lib.hid hP
        clear hP HCE
        go_wp2
        refine bodyPost_ret (v := .tuple #[.agg #[.int .i64 u0, .bool false, .bool real, .int .u64 u1, .int .u64 u2, .int .i64 u3, .int .u64 u4, .int .i64 u5, .int .u16 u6, .int .u16 u7, .int .u16 u8, .int .u16 u9], .int .i64 (0)]) (by simp [results, Tryd.results24, go_sem, *]) rfl ⟨?_, (by repeat' (first | with_reducible exact Below.refl _ _ | with_reducible assumption | ((with_reducible refine Below.drew ?_)) | ((with_reducible refine below_drewN ?_ _)) | ((with_reducible refine Below.alloc ?_ ?_ _); rotate_left; focus (first | omega | (simp; done) | (simp; omega))) | ((with_reducible refine Below.setCell ?_ ?_ _); rotate_left; focus (first | omega | (simp; done) | (simp; omega))) | ((with_reducible refine Below.trans ?_ (Below.mono (by with_reducible assumption) ?_)); rotate_left; focus (first | omega | (simp; done) | (simp; omega)))))⟩
        rw [HR.out, if_pos HEF.out]
        have hU := HU.out
        clear HR HEF
        simp only [hU]
      · have d9 : (E == 0) = false := by simpa using hEz
        have HP := Lib.hid hP
        clear hP
        go_wp2
        obtain ⟨Cl, hCl⟩ : ∃ Cl : List Value → World → Prop, Cl = (fun ps wz => (∀ j, j < 12 → wz.cell? ⟨w.heap.size, j, none⟩ = some (zer12.getD j undef)) ∧ (∀ j, j < 12 → wz.frozen? ⟨w.heap.size, j, none⟩ = false) ∧ wz.cell? ⟨W0.heap.size + 1, 0, none⟩ = some (.int .i64 E) ∧ Below w.heap.size w wz) := ⟨_, rfl⟩
        have HCl := Lib.hid hCl
        clear hCl
        refine wp_region_eff [2] Cl (by kernel_rfl) (by kernel_rfl) ?_ ?_
        · rw [HCl.out]
          dsimp only
          exact ⟨fun j hj => hrc j hj, fun j hj => hrf j hj, herr, hbl.drew⟩
        (repeat (first | (refine wE_skip (by rfl) ?_; simp only [Act.put, Nat.reduceAdd, List.setIfInBounds_toArray, List.set_cons_zero, List.set_cons_succ, List.nil_append, List.cons_append]) | (refine wE_open (by rfl) (by rfl) ?_; apply Exists.intro; refine ⟨fun vs wq hw => ?_, ?_⟩; (focus (rw [HCl.out] at hw; (try simp only [List.nil_append, List.cons_append] at hw); (try dsimp only at hw); go_split_ands; go_simp <;> first | with_reducible exact (rfl : Value.bool false = _) | with_reducible exact (rfl : Value.bool true = _) | ((try go_bits) <;> exact rfl))); simp only [Act.put, Nat.reduceAdd, List.setIfInBounds_toArray, List.set_cons_zero, List.set_cons_succ, List.nil_append, List.cons_append]) | (refine wE_seal (by rfl) (by rfl) (by kernel_rfl) ?_; apply Exists.intro; refine ⟨fun wq hw => ?_, ?_⟩; (focus (rw [HCl.out] at hw; (try simp only [List.nil_append, List.cons_append] at hw); (try dsimp only at hw); go_split_ands; go_simp <;> (try go_bits) <;> exact rfl)); simp only [Act.put, Nat.reduceAdd, List.setIfInBounds_toArray, List.set_cons_zero, List.set_cons_succ, List.nil_append, List.cons_append])))
        refine wE_eff (by rfl) (by rfl) (fun wq hw => ?_) (fun u' hu => ?_)
        · rw [HCl.out] at hw; (try simp only [List.nil_append, List.cons_append] at hw); (try dsimp only at hw)
          obtain ⟨q1, q2, q3, q4⟩ := hw
          go_simp
          rw [HCl.out]; (try simp only [List.nil_append, List.cons_append]); (try dsimp only)
          refine ⟨fun j hj => ?_, fun j hj => ?_, ?_, ?_⟩
          · rcases (by omega : j = 0 ∨ j = 1 ∨ j = 2 ∨ j = 3 ∨ j = 4 ∨ j = 5 ∨ j = 6 ∨ j = 7 ∨ j = 8 ∨ j = 9 ∨ j = 10 ∨ j = 11) with rfl | rfl | rfl | rfl | rfl | rfl | rfl | rfl | rfl | rfl | rfl | rfl <;> simp [go_sem, q1, zer12]
          · simp [go_sem, q2, hj]
          · simp [go_sem, q3, hne]
          · exact (by repeat' (first | with_reducible exact Below.refl _ _ | with_reducible assumption | ((with_reducible refine Below.drew ?_)) | ((with_reducible refine below_drewN ?_ _)) | ((with_reducible refine Below.alloc ?_ ?_ _); rotate_left; focus (first | omega | (simp; done) | (simp; omega))) | ((with_reducible refine Below.setCell ?_ ?_ _); rotate_left; focus (first | omega | (simp; done) | (simp; omega))) | ((with_reducible refine Below.trans ?_ (Below.mono (by with_reducible assumption) ?_)); rotate_left; focus (first | omega | (simp; done) | (simp; omega)))))
        clear hu
        simp only [Act.put, Nat.reduceAdd, List.setIfInBounds_toArray, List.set_cons_zero, List.set_cons_succ, List.nil_append, List.cons_append]
        (repeat (first | (refine wE_skip (by rfl) ?_; simp only [Act.put, Nat.reduceAdd, List.setIfInBounds_toArray, List.set_cons_zero, List.set_cons_succ, List.nil_append, List.cons_append]) | (refine wE_open (by rfl) (by rfl) ?_; apply Exists.intro; refine ⟨fun vs wq hw => ?_, ?_⟩; (focus (rw [HCl.out] at hw; (try simp only [List.nil_append, List.cons_append] at hw); (try dsimp only at hw); go_split_ands; go_simp <;> first | with_reducible exact (rfl : Value.bool false = _) | with_reducible exact (rfl : Value.bool true = _) | ((try go_bits) <;> exact rfl))); simp only [Act.put, Nat.reduceAdd, List.setIfInBounds_toArray, List.set_cons_zero, List.set_cons_succ, List.nil_append, List.cons_append])))
        refine wE_nil ?_
        intro w' hw
        rw [HCl.out] at hw; (try simp only [List.nil_append, List.cons_append] at hw); (try dsimp only at hw)
        clear HCl hrc hrf herr hbl hc
        obtain ⟨hrc, _, _, hbl⟩ := hw
        go_wp2
        refine bodyPost_ret (v := .tuple #[.agg #[.int .i64 0, .bool false, .bool false, .int .u64 0, .int .u64 0, .int .i64 0, .int .u64 0, .int .i64 0, .int .u16 0, .int .u16 0, .int .u16 0, .int .u16 0], .int .i64 (E)]) (by simp [results, Tryd.results24, go_sem, *, zer12]) rfl ⟨?_, (by repeat' (first | with_reducible exact Below.refl _ _ | with_reducible assumption | ((with_reducible refine Below.drew ?_)) | ((with_reducible refine below_drewN ?_ _)) | ((with_reducible refine Below.alloc ?_ ?_ _); rotate_left; focus (first | omega | (simp; done) | (simp; omega))) | ((with_reducible refine Below.setCell ?_ ?_ _); rotate_left; focus (first | omega | (simp; done) | (simp; omega))) | ((with_reducible refine Below.trans ?_ (Below.mono (by with_reducible assumption) ?_)); rotate_left; focus (first | omega | (simp; done) | (simp; omega)))))⟩
        have h2 := HCE.out.2
        rw [HE0.out] at h2
        rw [HR.out, ← h2, if_neg hEz]
end Go.Proofs.YtdiniaokkdcihaaDoor
