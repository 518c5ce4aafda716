import Derived.Test.YtgclmgkmjmbbmaaLine7
namespace Go.Proofs.Ytgclmgkmjmbbmaa
set_option linter.unusedVariables false
set_option linter.unusedSimpArgs false
open Go.RowKit Fg Reg

/-- Which of two lines of one slope the lower one is, and what it then does. -/
theorem lineLower_pick (Xa pa qa M Xb pb qb Mb X wp wq Xl pl ql : Int) (eb ea : Bool) (i1 : In Xa) (i2 : In pa) (i3 : In qa) (i4 : In M) (i5 : In Xb) (i6 : In pb) (i7 : In qb) (i9 : In X) (i10 : In wp) (i11 : In wq) (il1 : In Xl) (il2 : In pl) (il3 : In ql)
    (s1 : pa < 68719476736) (s2 : pb < 68719476736) (s3 : wp < 68719476736) (s4 : M < 68719476736)
    (he : ea = true ∨ (ea = false ∧ eb = true))
    (heqA : ∀ w, (Op.equalIn 10000 47 (.agg #[.int .u64 (Xl), .int .u64 (pl), .int .u64 (ql), .int .u64 (M)]) (.agg #[.int .u64 (Xa), .int .u64 (pa), .int .u64 (qa), .int .u64 (M)])).run Try.prog w = .ok ea w)
    (heqB : ∀ w, (Op.equalIn 10000 47 (.agg #[.int .u64 (Xl), .int .u64 (pl), .int .u64 (ql), .int .u64 (M)]) (.agg #[.int .u64 (Xb), .int .u64 (pb), .int .u64 (qb), .int .u64 (M)])).run Try.prog w = .ok eb w)
    (k1 : ∀ w, Calls Try.prog 28 #[.agg #[.int .u64 (Xa), .int .u64 (pa), .int .u64 (qa), .int .u64 (M)], .agg #[.int .u64 (Xb), .int .u64 (pb), .int .u64 (qb), .int .u64 (M)]] w fun ee w' => ee = .returned (.agg #[.int .u64 (Xl), .int .u64 (pl), .int .u64 (ql), .int .u64 (M)]) ∧ Below w.heap.size w w')
    (hla : lat Xl (val pl ql) M (if Xb > (if Xa > X then Xa else X) then Xb else (if Xa > X then Xa else X)) ≤ lat Xa (val pa qa) M (if Xb > (if Xa > X then Xa else X) then Xb else (if Xa > X then Xa else X)))
    (hlb : lat Xl (val pl ql) M (if Xb > (if Xa > X then Xa else X) then Xb else (if Xa > X then Xa else X)) ≤ lat Xb (val pb qb) M (if Xb > (if Xa > X then Xa else X) then Xb else (if Xa > X then Xa else X)))
    (hr : val pa qa < val wp wq → val pb qb < val wp wq → (if lrch Xa (val pa qa) M (val wp wq) < lrch Xb (val pb qb) M (val wp wq) then lrch Xb (val pb qb) M (val wp wq) else lrch Xa (val pa qa) M (val wp wq)) = lrch Xl (val pl ql) M (val wp wq))
    (w : World) : Calls Try.prog 9 #[.agg #[.int .u64 (Xa), .int .u64 (pa), .int .u64 (qa), .int .u64 (M)], .agg #[.int .u64 (Xb), .int .u64 (pb), .int .u64 (qb), .int .u64 (Mb)], .agg #[.int .u64 (X), .int .u64 (wp), .int .u64 (wq)]] w fun e w' => e = .returned (.bool true) ∧ Below w.heap.size w w' := by
  have hA : Wd (val pa qa) := val_in i2 i3
  have hB : Wd (val pb qb) := val_in i6 i7
  have hL : Wd (val pl ql) := val_in il2 il3
  have hW : Wd (val wp wq) := val_in i10 i11
  have hx : In (if Xb > (if Xa > X then Xa else X) then Xb else (if Xa > X then Xa else X)) := by split <;> (try split) <;> assumption
  have hmax : ∀ w, (Builtin.max_ #[22, 22, 22] 22 #[.int .u64 X, .int .u64 Xa, .int .u64 Xb]).run Try.prog w = .ok (.int .u64 (if Xb > (if Xa > X then Xa else X) then Xb else (if Xa > X then Xa else X))) w := fun w => by
    simp [Builtin.max_, Builtin.max2]
  generalize (if Xb > (if Xa > X then Xa else X) then Xb else (if Xa > X then Xa else X)) = x at *
  have at_ : ∀ {p q Z : Int}, In p → In q → In Z → ∀ w, Calls Try.prog 23 #[.agg #[.int .u64 (Z), .int .u64 (p), .int .u64 (q), .int .u64 (M)], .int .u64 x] w fun ee w' => ee = .returned (.agg #[.int .u64 (hi (lat Z (val p q) M x)), .int .u64 (lo (lat Z (val p q) M x))]) ∧ Below w.heap.size w w' := fun {p q Z} hp hq hZ w => by
    have k := lat_c Z (val p q) M x hZ (val_in hp hq) i4 hx w
    rwa [hi_val hp hq, lo_val hq] at k
  have rc_ : ∀ {p q Z : Int}, In p → In q → In Z → ∀ w, Calls Try.prog 26 #[.agg #[.int .u64 (Z), .int .u64 (p), .int .u64 (q), .int .u64 (M)], .agg #[.int .u64 wp, .int .u64 wq]] w fun ee w' => ee = .returned (.int .u64 (lrch Z (val p q) M (val wp wq))) ∧ Below w.heap.size w w' := fun {p q Z} hp hq hZ w => by
    have k := lrch_c Z (val p q) M (val wp wq) hZ (val_in hp hq) i4 hW w
    rwa [hi_val hp hq, lo_val hq, hi_val i10 i11, lo_val i11] at k
  have cm_ : ∀ {A B : Int}, Wd A → Wd B → ∀ w, Calls Try.prog 18 #[.agg #[.int .u64 (hi A), .int .u64 (lo A)], .agg #[.int .u64 (hi B), .int .u64 (lo B)]] w fun ee w' => ee = .returned (.int .i64 (cmp A B)) ∧ Below w.heap.size w w' := fun {A B} a b w => by
    have k := compare_c (hi A) (lo A) (hi B) (lo B) (hi_in _) (lo_in _) (hi_in _) (lo_in _) w
    rwa [val_wd a, val_wd b] at k
  have k7 := compare_c wp wq pa qa i10 i11 i2 i3
  have k8 := compare_c wp wq pb qb i10 i11 i6 i7
  have k5 := cm_ (lat_wd (X := Xl) (M := M) (x := x) hL) (lat_wd (X := Xa) (M := M) (x := x) hA)
  have k6 := cm_ (lat_wd (X := Xl) (M := M) (x := x) hL) (lat_wd (X := Xb) (M := M) (x := x) hB)
  have y1 : decide (0 < cmp (lat Xl (val pl ql) M x) (lat Xa (val pa qa) M x)) = false := by rw [decide_eq_false_iff_not]; have := cmp_nonpos hla; omega
  have y2 : decide (0 < cmp (lat Xl (val pl ql) M x) (lat Xb (val pb qb) M x)) = false := by rw [decide_eq_false_iff_not]; have := cmp_nonpos hlb; omega
  rcases Int.lt_or_le (val pa qa) (val wp wq) with c1 | c1
  · rcases Int.lt_or_le (val pb qb) (val wp wq) with c2 | c2
    · exact lineLower_in Xa pa qa M Xb pb qb Mb X wp wq Xl pl ql x _ _ _ _ _ _ _ _ _ _ _ _ _ ea eb s1 s2 s3 s4 y1 y2 (cmp_pos c1) (cmp_pos c2) (hr c1 c2) he hmax heqA heqB k1 (at_ il2 il3 il1) (at_ i2 i3 i1) (at_ i6 i7 i5) k5 k6 k7 k8 (rc_ il2 il3 il1) (rc_ i2 i3 i1) (rc_ i6 i7 i5) w
    · exact lineLower_z2 Xa pa qa M Xb pb qb Mb X wp wq Xl pl ql x _ _ _ _ _ _ _ _ _ _ _ _ _ ea eb s1 s2 s3 s4 y1 y2 (cmp_pos c1) (cmp_nonpos c2) he hmax heqA heqB k1 (at_ il2 il3 il1) (at_ i2 i3 i1) (at_ i6 i7 i5) k5 k6 k7 k8 (rc_ il2 il3 il1) (rc_ i2 i3 i1) (rc_ i6 i7 i5) w
  · exact lineLower_z1 Xa pa qa M Xb pb qb Mb X wp wq Xl pl ql x _ _ _ _ _ _ _ _ _ _ _ _ _ ea eb s1 s2 s3 s4 y1 y2 (cmp_nonpos c1) he hmax heqA heqB k1 (at_ il2 il3 il1) (at_ i2 i3 i1) (at_ i6 i7 i5) k5 k6 k7 k8 (rc_ il2 il3 il1) (rc_ i2 i3 i1) (rc_ i6 i7 i5) w

theorem lineLower_law (Xa pa qa M Xb pb qb Mb X wp wq : Int) (h1 : (Lit.int .u64 Xa).wf = true) (h2 : (Lit.int .u64 pa).wf = true) (h3 : (Lit.int .u64 qa).wf = true) (h4 : (Lit.int .u64 M).wf = true) (h5 : (Lit.int .u64 Xb).wf = true) (h6 : (Lit.int .u64 pb).wf = true) (h7 : (Lit.int .u64 qb).wf = true) (h8 : (Lit.int .u64 Mb).wf = true) (h9 : (Lit.int .u64 X).wf = true) (h10 : (Lit.int .u64 wp).wf = true) (h11 : (Lit.int .u64 wq).wf = true) (w : World) :
    Calls Try.prog 9 #[.agg #[.int .u64 (Xa), .int .u64 (pa), .int .u64 (qa), .int .u64 (M)], .agg #[.int .u64 (Xb), .int .u64 (pb), .int .u64 (qb), .int .u64 (Mb)], .agg #[.int .u64 (X), .int .u64 (wp), .int .u64 (wq)]] w fun e w' => e = .returned (.bool true) ∧ Below w.heap.size w w' := by
  have i1 := in_wf h1
  have i2 := in_wf h2
  have i3 := in_wf h3
  have i4 := in_wf h4
  have i5 := in_wf h5
  have i6 := in_wf h6
  have i7 := in_wf h7
  have i9 := in_wf h9
  have i10 := in_wf h10
  have i11 := in_wf h11
  by_cases ho : 68719476736 ≤ pa ∨ (pa < 68719476736 ∧ 68719476736 ≤ pb) ∨ (pa < 68719476736 ∧ pb < 68719476736 ∧ 68719476736 ≤ wp) ∨ (pa < 68719476736 ∧ pb < 68719476736 ∧ wp < 68719476736 ∧ 68719476736 ≤ M)
  · exact lineLower_out Xa pa qa M Xb pb qb Mb X wp wq ho w
  · have s1 : pa < 68719476736 := by omega
    have s2 : pb < 68719476736 := by omega
    have s3 : wp < 68719476736 := by omega
    have s4 : M < 68719476736 := by omega
    have ma := sml_of i2 i3 i4 s1 s4
    have mb := sml_of i6 i7 i4 s2 s4
    have hA : Wd (val pa qa) := val_in i2 i3
    have hB : Wd (val pb qb) := val_in i6 i7
    have e1 := hi_val i2 i3
    have e2 := lo_val (a := pa) i3
    have e3 := hi_val i6 i7
    have e4 := lo_val (a := pb) i7
    have hx0 : In (if Xa < Xb then Xb else Xa) := by split <;> assumption
    have a0 : Xa ≤ (if Xa < Xb then Xb else Xa) := by split <;> omega
    have b0 : Xb ≤ (if Xa < Xb then Xb else Xa) := by split <;> omega
    have hx : In (if Xb > (if Xa > X then Xa else X) then Xb else (if Xa > X then Xa else X)) := by split <;> (try split) <;> assumption
    have a1 : Xa ≤ (if Xb > (if Xa > X then Xa else X) then Xb else (if Xa > X then Xa else X)) := by split <;> split at * <;> omega
    have b1 : Xb ≤ (if Xb > (if Xa > X then Xa else X) then Xb else (if Xa > X then Xa else X)) := by split <;> split at * <;> omega
    rcases Int.lt_or_le (lat Xb (val pb qb) M (if Xa < Xb then Xb else Xa)) (lat Xa (val pa qa) M (if Xa < Xb then Xb else Xa)) with c | c
    · have k1 := llo_r Xa (val pa qa) M Xb (val pb qb) M i1 hA i4 i5 hB i4 c
      rw [e1, e2, e3, e4] at k1
      have hle := lower_at mb ma i5 i1 hx0 hx b0 a0 b1 a1 (by omega)
      refine lineLower_pick Xa pa qa M Xb pb qb Mb X wp wq Xb pb qb true (Xb == Xa && (pb == pa && qb == qa) && M == M) i1 i2 i3 i4 i5 i6 i7 i9 i10 i11 i5 i6 i7 s1 s2 s3 s4 ?_ (eqLn _ _ _ _ _ _ _ _) (fun w => by rw [eqLn]; simp) k1 hle (Int.le_refl _) (fun wa wb => ?_) w
      · cases (Xb == Xa && (pb == pa && qb == qa) && M == M) <;> simp
      · have := lower_reach mb ma i5 i1 hx0 b0 a0 (by omega) wb wa
        split <;> omega
    · have k1 := llo_l Xa (val pa qa) M Xb (val pb qb) M i1 hA i4 i5 hB i4 c
      rw [e1, e2, e3, e4] at k1
      have hle := lower_at ma mb i1 i5 hx0 hx a0 b0 a1 b1 c
      refine lineLower_pick Xa pa qa M Xb pb qb Mb X wp wq Xa pa qa (Xa == Xb && (pa == pb && qa == qb) && M == M) true i1 i2 i3 i4 i5 i6 i7 i9 i10 i11 i1 i2 i3 s1 s2 s3 s4 (.inl rfl) (fun w => by rw [eqLn]; simp) (eqLn _ _ _ _ _ _ _ _) k1 (Int.le_refl _) hle (fun wa wb => ?_) w
      have := lower_reach ma mb i1 i5 hx0 a0 b0 c wa wb
      split <;> omega
end Go.Proofs.Ytgclmgkmjmbbmaa
