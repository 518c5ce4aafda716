/- The reference of layers 14, 15. -/
import Derived.Test.YtikmdkmejbcmmaaEl5
import Derived.Test.YtikmdkmejbcmmaaAppR
namespace Go.Proofs.Ytikmdkmejbcmmaa
set_option linter.unusedVariables false
set_option linter.unusedSimpArgs false
set_option maxRecDepth 100000
open Go.RowKit Fg Reg
attribute [local irreducible] Reg.wE NT

def Rw.cells (x : Rw) : List Value := [.int .i64 x.id, .int .u64 x.a, .int .u64 x.b]
theorem rwC : CellsOf Rw.cells 3 := ⟨fun _ => rfl, fun x v hv => by simp [Rw.cells] at hv; rcases hv with rfl | rfl | rfl <;> rfl, by decide⟩
theorem rw_info : (Try.prog.info? 70).map (fun i => (i.zero, i.size, i.bytes)) = some (some (.agg #[.int .i64 0, .int .u64 0, .int .u64 0]), 3, 24) := by kernel_rfl
theorem rw_parts : ∃ i, Try.prog.info? 70 = some i ∧ i.zero = some (.agg #[.int .i64 0, .int .u64 0, .int .u64 0]) ∧ i.size = 3 ∧ i.bytes = 24 := by
  obtain ⟨i, hi, h⟩ := Option.map_eq_some_iff.1 rw_info
  injection h with h1 h2
  injection h2 with h2 h3
  exact ⟨i, hi, h1, h2, h3⟩
theorem rw_cells {w : World} {ad : Option Addr} {l : List Rw} (h : RwV Rw.cells 3 w ad l) {i : Nat} (hi : i < l.length) : ∃ b o, ad = some ⟨b, o, none⟩ ∧ b < w.heap.size ∧ w.cell? ⟨b, o + i * 3, none⟩ = some (.int .i64 (nthR l i).id) ∧ w.cell? ⟨b, o + i * 3 + 1, none⟩ = some (.int .u64 (nthR l i).a) ∧ w.cell? ⟨b, o + i * 3 + 2, none⟩ = some (.int .u64 (nthR l i).b) := by
  obtain ⟨b, o, h1, h2, h3⟩ := h i hi
  have e : nthR l i = l[i] := by unfold nthR; rw [List.getD_eq_getElem?_getD, List.getElem?_eq_getElem hi]; rfl
  rw [e]
  exact ⟨b, o, h1, h2, h3 0 _ rfl, h3 1 _ rfl, h3 2 _ rfl⟩
theorem rw_next {l : List Rw} {i : Nat} (hi : i < l.length) : l.take (i + 1) = l.take i ++ [nthR l i] := by
  have e : nthR l i = l[i] := by unfold nthR; rw [List.getD_eq_getElem?_getD, List.getElem?_eq_getElem hi]; rfl
  rw [e, List.take_succ_eq_append_getElem hi]
theorem rw_snoc {z : World} {base : Nat} {M : List Rw} {v : Value} {x : Rw} (h : z.ownsRow base 70 3 v (M.length + 1) (M.flatMap Rw.cells ++ Rw.cells x)) : ∃ M2 ao cap, M2 = M ++ [x] ∧ M2.length ≤ M.length + 1 ∧ v = .slice ao M2.length cap ∧ z.ownsRow base 70 3 (.slice ao (M2).length cap) (M2).length ((M2).flatMap Rw.cells) := by
  obtain ⟨ao, cap, rfl⟩ := row_form h
  have e : (M ++ [x]).length = M.length + 1 := by simp
  refine ⟨M ++ [x], ao, cap, rfl, Nat.le_of_eq e, by rw [e], ?_⟩
  rw [e, List.flatMap_append, List.flatMap_singleton]
  exact h
theorem rs_get {L : List Rw} (h : RS L) {i j : Nat} (hij : i < j) (hj : j < L.length) : (nthR L i).id < (nthR L j).id := by
  have e : ∀ k (hk : k < L.length), nthR L k = L[k] := fun k hk => by unfold nthR; rw [List.getD_eq_getElem?_getD, List.getElem?_eq_getElem hk]; rfl
  rw [e i (by omega), e j hj]
  exact List.pairwise_iff_getElem.1 h i j (by omega) hj hij
theorem nthR_of {L : List Rw} {r : Rw} (hr : r ∈ L) : ∃ j, j < L.length ∧ nthR L j = r := by
  obtain ⟨j, hj, rfl⟩ := List.getElem_of_mem hr
  exact ⟨j, hj, by unfold nthR; rw [List.getD_eq_getElem?_getD, List.getElem?_eq_getElem hj]; rfl⟩
set_option maxHeartbeats 2000000 in
theorem qfi_c (L : List Rw) (n : Nat) (hln : L.length = n) (hn : n ≤ 1000) (ad : Option Addr) (cap : Nat) (k : Int) (w : World) (hR : RwV Rw.cells 3 w ad L) :
    Calls Try.prog 32 #[.slice ad n cap, .int .i64 k] w fun e w' => (∃ r : Int, e = .returned (.int .i64 r) ∧ decide (0 ≤ r) = (rfd k L).isSome) ∧ Below w.heap.size w w' := by
  have HR := Lib.hid hR
  have HLN := Lib.hid hln
  clear hR hln
  go_enter Try.func32, Try.ntmps32
  go_wp2
  go_loopg [9] n (fun k9 s9 wr => ∃ (i : Nat), s9 = .int .i64 i ∧ i ≤ n ∧ n - i ≤ k9 ∧ (∀ j, j < i → (nthR L j).id ≠ k) ∧ Below w.heap.size w wr)
  case atStart => exact ⟨0, rfl, by omega, by omega, fun j hj => by omega, by (repeat' (first | assumption | exact Below.refl _ _ | refine Below.setCell ?_ (by first | (simp; done) | omega | (simp; omega)) _ | refine Below.alloc ?_ (by first | (simp; done) | omega | (simp; omega)) _ | refine Below.drew ?_ | refine below_drewN ?_ _))⟩
  case round =>
    obtain ⟨i, rfl, hi, hk, hA, hB⟩ := hrel
    have HA := Lib.hid hA
    clear hA
    by_cases hin : i < n
    · obtain ⟨rb, ro, had, hpb, p0, p1, p2⟩ := rw_cells HR.out (i := i) (by rw [HLN.out]; exact hin); subst had; have p0 := (hB.cell hpb).trans p0; have p1 := (hB.cell hpb).trans p1; have p2 := (hB.cell hpb).trans p2; have hpr := Nat.lt_of_lt_of_le hpb hB.size; have W4 : IntKind.i64.wrap ((i : Int) + 1) = ((i + 1 : Nat) : Int) := (by rw [IntKind.wrap_i64]; omega); have htn := rw_next (l := L) (i := i) (by rw [HLN.out]; exact hin)
      clear htn
      have HYM := Lib.hid (nthR_mem (L := L) (j := i) (by rw [HLN.out]; exact hin))
      have HB := Lib.hid hB
      clear hB
      by_cases hke : (nthR L i).id = k
      · have HF : Hid ((rfd k L).isSome = true) := Lib.hid (by
          cases hf : rfd k L with
          | some y => rfl
          | none => exact absurd hke (rfd_none.1 hf _ HYM.out))
        have hkb : ((nthR L i).id == k) = true := by simpa using hke
        clear hke
        go_wp2
        go_ret
        refine ⟨⟨(i : Int), rfl, ?_⟩, ?_⟩
        · rw [HF.out]; exact decide_eq_true (by omega)
        · have hB := HB.out
          have hs := hB.size
          (repeat' (first | assumption | exact Below.refl _ _ | refine Below.setCell ?_ (by first | (simp; done) | omega | (simp; omega)) _ | refine Below.alloc ?_ (by first | (simp; done) | omega | (simp; omega)) _ | refine Below.drew ?_ | refine below_drewN ?_ _))
      · have HKE := Lib.hid hke
        have hkb : ((nthR L i).id == k) = false := by simpa using hke
        clear hke
        go_wp2
        go_roundg (n - (i + 1))
        case rel =>
          refine ⟨i + 1, by first | rfl | go_num | (congr 1; omega), by omega, Nat.le_refl _, fun j hj => ?_, ?_⟩
          · by_cases hji : j = i
            · subst hji; exact HKE.out
            · exact HA.out j (by omega)
          · have hB := HB.out
            have hs := hB.size
            (repeat' (first | assumption | exact Below.refl _ _ | refine Below.setCell ?_ (by first | (simp; done) | omega | (simp; omega)) _ | refine Below.alloc ?_ (by first | (simp; done) | omega | (simp; omega)) _ | refine Below.drew ?_ | refine below_drewN ?_ _))
        case measure => omega
    · have hie : i = n := by omega
      subst hie
      have HF : Hid (rfd k L = none) := Lib.hid (rfd_none.2 fun r hr => by
        obtain ⟨j, hj, rfl⟩ := nthR_of hr
        exact HA.out j (by rw [← HLN.out]; exact hj))
      clear hin
      go_wp2
      go_ret
      refine ⟨⟨-1, rfl, ?_⟩, by with_reducible assumption⟩
      rw [HF.out]; rfl
theorem drop_yes {k : Int} {M : List Rw} {y : Rw} (h : y.id = k) : dropL k (M ++ [y]) = dropL k M := by unfold dropL; rw [List.filter_append]; simp [h]
theorem drop_not {k : Int} {M : List Rw} {y : Rw} (h : y.id ≠ k) : dropL k (M ++ [y]) = dropL k M ++ [y] := by unfold dropL; rw [List.filter_append]; simp [h]
set_option maxHeartbeats 4000000 in
theorem qwo_c (L : List Rw) (n : Nat) (hln : L.length = n) (hn : n ≤ 1000) (ad : Option Addr) (cap : Nat) (k : Int) (w : World) (hR : RwV Rw.cells 3 w ad L) :
    Calls Try.prog 34 #[.slice ad n cap, .int .i64 k] w fun e w' => (∃ ao c, e = .returned (.slice ao (dropL k L).length c) ∧ RwV Rw.cells 3 w' ao (dropL k L) ∧ ∀ ad, ao = some ad → w.heap.size ≤ ad.block) ∧ Below w.heap.size w w' := by
  obtain ⟨ii, ci0, cz0, cz1, cz2⟩ := rw_parts; have CI0 := Lib.hid ci0; have CZ0 := Lib.hid cz0; have CZ1 := Lib.hid cz1; have CZ2 := Lib.hid cz2; clear ci0 cz0 cz1 cz2
  have HR := Lib.hid hR
  have HLN := Lib.hid hln
  clear hR hln
  obtain ⟨base, hbase⟩ : ∃ base, w.heap.size = base := ⟨_, rfl⟩
  have HBA := Lib.hid hbase
  clear hbase
  go_enter Try.func34, Try.ntmps34
  go_wp2
  go_loopg [10, 5] n (fun k9 s10 s5 wr => ∃ (i : Nat) (M : List Rw) (ao : Option Addr) (c : Nat), s10 = .int .i64 i ∧ s5 = .slice ao M.length c ∧ i ≤ n ∧ n - i ≤ k9 ∧ M = dropL k (L.take i) ∧ M.length ≤ i ∧ wr.ownsRow base 70 3 (.slice ao (M).length c) (M).length ((M).flatMap Rw.cells) ∧ base ≤ wr.heap.size ∧ Below w.heap.size w wr)
  case atStart => exact ⟨0, [], none, 0, rfl, rfl, by omega, by omega, rfl, by simp, World.ownsRow_nil _ _ _ _, by rw [← HBA.out]; simp, by (repeat' (first | assumption | exact Below.refl _ _ | refine Below.setCell ?_ (by first | (simp; done) | omega | (simp; omega)) _ | refine Below.alloc ?_ (by first | (simp; done) | omega | (simp; omega)) _ | refine Below.drew ?_ | refine below_drewN ?_ _))⟩
  case round =>
    obtain ⟨i, M, ao, c, rfl, rfl, hi, hk, hM, hMl, hO, hbs, hB⟩ := hrel
    have HO := Lib.hid hO
    have HM := Lib.hid hM
    clear hO hM
    by_cases hin : i < n
    · obtain ⟨rb, ro, had, hpb, p0, p1, p2⟩ := rw_cells HR.out (i := i) (by rw [HLN.out]; exact hin); subst had; have p0 := (hB.cell hpb).trans p0; have p1 := (hB.cell hpb).trans p1; have p2 := (hB.cell hpb).trans p2; have hpr := Nat.lt_of_lt_of_le hpb hB.size; have W4 : IntKind.i64.wrap ((i : Int) + 1) = ((i + 1 : Nat) : Int) := (by rw [IntKind.wrap_i64]; omega); have htn := rw_next (l := L) (i := i) (by rw [HLN.out]; exact hin)
      obtain ⟨Y, hY⟩ : ∃ Y, nthR L i = Y := ⟨_, rfl⟩; rw [hY] at p0 p1 p2 htn; have HTN := Lib.hid htn; have HYY := Lib.hid hY; clear htn hY
      have HB := Lib.hid hB
      clear hB
      by_cases hke : Y.id = k
      · have HKE := Lib.hid hke
        have hkb : (Y.id == k) = true := by simpa using hke
        have hkb2 : (Y.id != k) = false := by simpa using hke
        clear hke
        go_wp2
        go_roundg (n - (i + 1))
        case rel =>
          refine ⟨i + 1, M, ao, c, by first | rfl | go_num | (congr 1; omega), rfl, by omega, Nat.le_refl _, by rw [HTN.out, drop_yes HKE.out, HM.out], by omega, World.ownsRow.alloc HO.out _, by simp; omega, ?_⟩
          have hB := HB.out
          have hs := hB.size
          (repeat' (first | assumption | exact Below.refl _ _ | refine Below.setCell ?_ (by first | (simp; done) | omega | (simp; omega)) _ | refine Below.alloc ?_ (by first | (simp; done) | omega | (simp; omega)) _ | refine Below.drew ?_ | refine below_drewN ?_ _))
        case measure => omega
      · have HKE := Lib.hid hke
        have hkb : (Y.id == k) = false := by simpa using hke
        have hkb2 : (Y.id != k) = true := by simpa using hke
        clear hke
        go_wp2_with ((at_builtin; refine wpList_append_own _ rfl _ _ 61 rfl (base) 70 ii (.agg #[.int .i64 0, .int .u64 0, .int .u64 0]) 3 24 Try.underlying61 CI0.out CZ0.out CZ1.out CZ2.out rfl (by decide) (.slice ao (M).length c) _ _ rfl (World.ownsRow.alloc (World.ownsRow.alloc HO.out _) _) ⟨_, 0, none⟩ 1 1 (Rw.cells (Y)) rfl rfl ?c1 ?c2 ?c3 ?c4 ?c5 ?_; (case c1 => (intro j u hu; unfold Rw.cells at hu; rcases j with _ | _ | _ | j <;> simp at hu <;> (try subst hu) <;> simp [Addr.add, go_sem, *])); (case c2 => (exact rwC.one _)); (case c3 => (unfold maxLen; omega)); (case c4 => omega); (case c5 => (simp; omega)); intro v2 z2 hown2 hg2 _); (have hb2 : Below base wr z2 := (Below.alloc (Below.alloc (Below.refl _ _) (by omega) _) (by simp; omega) _).grown hg2 (by simp; omega) (fun q hq => (HO.out.lt q hq).1)); obtain ⟨M2, a2, c2, hm2, hl2, rfl, hown9⟩ := rw_snoc hown2; (have HM2 := Lib.hid hm2); (have HO2 := Lib.hid hown9); (have HB2 := Lib.hid hb2); clear hown2 hown9 hg2 hb2 hm2)
        go_roundg (n - (i + 1))
        case rel =>
          refine ⟨i + 1, M2, a2, c2, by first | rfl | go_num | (congr 1; omega), rfl, by omega, Nat.le_refl _, by rw [HTN.out, drop_not HKE.out, HM2.out, HM.out], by omega, HO2.out, Nat.le_trans hbs HB2.out.size, HB.out.trans (HB2.out.mono (by have := HBA.out; omega))⟩
        case measure => omega
    · have hie : i = n := by omega
      subst hie
      have HT : Hid (L.take i = L) := Lib.hid (List.take_of_length_le (by rw [HLN.out]; exact Nat.le_refl _))
      have HB := Lib.hid hB
      clear hin hB
      go_wp2
      go_ret
      have hML : M = dropL k L := by rw [HM.out, HT.out]
      subst hML
      obtain ⟨a9, c9, e9, hr9, -, -, hlo9⟩ := RwV.of_own rwC HO.out
      injection e9 with e1 e2 e3
      subst e1 e3
      exact ⟨⟨ao, c, rfl, hr9, fun ad9 had9 => by have h1 := (hlo9 ad9 had9).1; have h2 := HBA.out; omega⟩, HB.out⟩
/-- Set, half-way. -/
def setM (x : Rw) (A : List Rw) (pb : Bool) (M : List Rw) : Prop := if pb = true then M = setL x A ∧ ∃ r ∈ A, x.id ≤ r.id else M = A ∧ ∀ r ∈ A, r.id < x.id
theorem set_above {x y : Rw} {A : List Rw} (h : x.id < y.id) : setL x (A ++ [y]) = setL x A ++ [y] := by
  unfold setL
  rw [List.filter_append, List.filter_append]
  have h1 : ¬ y.id < x.id := by omega
  simp [h, h1]
theorem flt_lo {x : Rw} {A : List Rw} (h : ∀ r ∈ A, r.id < x.id) : A.filter (fun r => decide (r.id < x.id)) = A := List.filter_eq_self.2 fun r hr => decide_eq_true (h r hr)
theorem flt_hi {x : Rw} {A : List Rw} (h : ∀ r ∈ A, r.id < x.id) : A.filter (fun r => decide (x.id < r.id)) = [] := List.filter_eq_nil_iff.2 fun r hr => by
  have := h r hr
  rw [decide_eq_true_eq]
  omega
theorem set_all {x : Rw} {A : List Rw} (h : ∀ r ∈ A, r.id < x.id) : setL x A = A ++ [x] := by
  unfold setL
  rw [flt_lo h, flt_hi h]
theorem setM.no {x y : Rw} {A M : List Rw} (h : setM x A false M) (hy : y.id < x.id) : setM x (A ++ [y]) false (M ++ [y]) := by
  unfold setM at h ⊢
  rw [if_neg (by simp)] at h ⊢
  refine ⟨by rw [h.1], fun r hr => ?_⟩
  rcases List.mem_append.1 hr with g | g
  · exact h.2 r g
  · rw [List.mem_singleton.1 g]; exact hy
theorem setM.now {x y : Rw} {A M : List Rw} (h : setM x A false M) (hy : x.id < y.id) : setM x (A ++ [y]) true (M ++ [x] ++ [y]) := by
  unfold setM at h ⊢
  rw [if_neg (by simp)] at h
  rw [if_pos rfl]
  exact ⟨by rw [set_above hy, set_all h.2, h.1], y, by simp, by omega⟩
theorem setM.eq {x y : Rw} {A M : List Rw} (h : setM x A false M) (hy : y.id = x.id) : setM x (A ++ [y]) true (M ++ [x]) := by
  unfold setM at h ⊢
  rw [if_neg (by simp)] at h
  rw [if_pos rfl]
  refine ⟨?_, y, by simp, by omega⟩
  unfold setL
  rw [List.filter_append, List.filter_append, flt_lo h.2, flt_hi h.2]
  simp [hy, h.1]
theorem setM.yes {x y : Rw} {A M : List Rw} (h : setM x A true M) (hy : x.id < y.id) : setM x (A ++ [y]) true (M ++ [y]) := by
  unfold setM at h ⊢
  rw [if_pos rfl] at h ⊢
  obtain ⟨h1, r, h2, h3⟩ := h
  exact ⟨by rw [set_above hy, h1], r, by simp [h2], h3⟩
theorem setM.end1 {x : Rw} {A M : List Rw} (h : setM x A true M) : M = setL x A := by unfold setM at h; rw [if_pos rfl] at h; exact h.1
theorem setM.end0 {x : Rw} {A M : List Rw} (h : setM x A false M) : M ++ [x] = setL x A := by
  unfold setM at h
  rw [if_neg (by simp)] at h
  rw [set_all h.2, h.1]
theorem setM.gt {x : Rw} {L M : List Rw} {i : Nat} (hr : RS L) (hi : i < L.length) (h : setM x (L.take i) true M) : x.id < (nthR L i).id := by
  unfold setM at h
  rw [if_pos rfl] at h
  obtain ⟨-, r, h2, h3⟩ := h
  obtain ⟨j, hj, rfl⟩ := List.getElem_of_mem h2
  have hj2 : j < i := by rw [List.length_take] at hj; omega
  have := rs_get hr hj2 hi
  have e : nthR L j = (L.take i)[j] := by unfold nthR; rw [List.getD_eq_getElem?_getD, List.getElem?_eq_getElem (by omega)]; simp
  rw [e] at this
  omega
set_option maxHeartbeats 8000000 in
theorem qse_c (L : List Rw) (n : Nat) (hln : L.length = n) (hn : n ≤ 1000) (hrs : RS L) (ad : Option Addr) (cap : Nat) (x : Rw) (w : World) (hR : RwV Rw.cells 3 w ad L) :
    Calls Try.prog 36 #[.slice ad n cap, .agg #[.int .i64 (x).id, .int .u64 (x).a, .int .u64 (x).b]] w fun e w' => (∃ ao c, e = .returned (.slice ao (setL x L).length c) ∧ RwV Rw.cells 3 w' ao (setL x L) ∧ ∀ ad, ao = some ad → w.heap.size ≤ ad.block) ∧ Below w.heap.size w w' := by
  obtain ⟨ii, ci0, cz0, cz1, cz2⟩ := rw_parts; have CI0 := Lib.hid ci0; have CZ0 := Lib.hid cz0; have CZ1 := Lib.hid cz1; have CZ2 := Lib.hid cz2; clear ci0 cz0 cz1 cz2
  have HR := Lib.hid hR
  have HLN := Lib.hid hln
  have HRS := Lib.hid hrs
  clear hR hln hrs
  obtain ⟨base, hbase⟩ : ∃ base, w.heap.size + 1 = base := ⟨_, rfl⟩
  have HBA := Lib.hid hbase
  clear hbase
  go_enter Try.func36, Try.ntmps36
  go_wp2
  go_loopg [11, 5, 6] n (fun k9 s11 s5 s6 wr => ∃ (i : Nat) (M : List Rw) (pb : Bool) (ao : Option Addr) (c : Nat), s11 = .int .i64 i ∧ s5 = .slice ao M.length c ∧ s6 = .bool pb ∧ i ≤ n ∧ n - i ≤ k9 ∧ setM x (L.take i) pb M ∧ M.length ≤ i + 1 ∧ wr.ownsRow base 70 3 (.slice ao (M).length c) (M).length ((M).flatMap Rw.cells) ∧ base ≤ wr.heap.size ∧ (wr.cell? ⟨w.heap.size, 0, none⟩ = some (.int .i64 (x).id) ∧ wr.cell? ⟨w.heap.size, 1, none⟩ = some (.int .u64 (x).a) ∧ wr.cell? ⟨w.heap.size, 2, none⟩ = some (.int .u64 (x).b) ∧ w.heap.size < wr.heap.size) ∧ Below w.heap.size w wr ∧ (pb = false → M.length ≤ i))
  case atStart => exact ⟨0, [], false, none, 0, rfl, rfl, rfl, by omega, by omega, by simp [setM], by simp, World.ownsRow_nil _ _ _ _, by rw [← HBA.out]; simp, ⟨by simp [go_sem], by simp [go_sem], by simp [go_sem], by simp [go_sem]⟩, by (repeat' (first | assumption | exact Below.refl _ _ | refine Below.setCell ?_ (by first | (simp; done) | omega | (simp; omega)) _ | refine Below.alloc ?_ (by first | (simp; done) | omega | (simp; omega)) _ | refine Below.drew ?_ | refine below_drewN ?_ _)), fun _ => by simp⟩
  case round =>
    obtain ⟨i, M, pb, ao, c, rfl, rfl, rfl, hi, hk, hM, hMl, hO, hbs, ⟨x0, x1, x2, x4⟩, hB, hM0⟩ := hrel
    have HO := Lib.hid hO
    have HM := Lib.hid hM
    have HM0 := Lib.hid hM0
    have HX0 := Lib.hid x0
    have HX1 := Lib.hid x1
    have HX2 := Lib.hid x2
    have HX4 := Lib.hid x4
    clear hO hM hM0
    by_cases hin : i < n
    · obtain ⟨rb, ro, had, hpb, p0, p1, p2⟩ := rw_cells HR.out (i := i) (by rw [HLN.out]; exact hin); subst had; have p0 := (hB.cell hpb).trans p0; have p1 := (hB.cell hpb).trans p1; have p2 := (hB.cell hpb).trans p2; have hpr := Nat.lt_of_lt_of_le hpb hB.size; have W4 : IntKind.i64.wrap ((i : Int) + 1) = ((i + 1 : Nat) : Int) := (by rw [IntKind.wrap_i64]; omega); have htn := rw_next (l := L) (i := i) (by rw [HLN.out]; exact hin)
      have HGT := Lib.hid (fun (h : pb = true) => (setM.gt (x := x) (M := M) HRS.out (i := i) (by rw [HLN.out]; exact hin) (h ▸ HM.out)))
      obtain ⟨Y, hY⟩ : ∃ Y, nthR L i = Y := ⟨_, rfl⟩
      rw [hY] at p0 p1 p2 htn
      simp only [hY] at HGT
      have HTN := Lib.hid htn
      clear htn hY
      have HB := Lib.hid hB
      clear hB
      cases pb with
      | true =>
        have hgt := HGT.out rfl
        have HGG := Lib.hid hgt
        have hkb : (Y.id == x.id) = false := by simp; omega
        have hkb2 : (Y.id != x.id) = true := by simp; omega
        clear hgt
        go_wp2_with (first | go_guarded | ((at_builtin; refine wpList_append_own _ rfl _ _ 61 rfl (base) 70 ii (.agg #[.int .i64 0, .int .u64 0, .int .u64 0]) 3 24 Try.underlying61 CI0.out CZ0.out CZ1.out CZ2.out rfl (by decide) (.slice ao (M).length c) _ _ rfl (World.ownsRow.alloc (World.ownsRow.alloc HO.out _) _) ⟨_, 0, none⟩ 1 1 (Rw.cells (Y)) rfl rfl ?c1 ?c2 ?c3 ?c4 ?c5 ?_; (case c1 => (intro j u hu; unfold Rw.cells at hu; rcases j with _ | _ | _ | j <;> simp at hu <;> (try subst hu) <;> simp [Addr.add, go_sem, *])); (case c2 => (exact rwC.one _)); (case c3 => (unfold maxLen; omega)); (case c4 => omega); (case c5 => (simp; omega)); intro v2 z2 hown2 hg2 _); (have hb2 : Below base wr z2 := (Below.alloc (Below.alloc (Below.refl _ _) (by omega) _) (by simp; omega) _).grown hg2 (by simp; omega) (fun q hq => (HO.out.lt q hq).1)); obtain ⟨M2, a2, c2, hm2, hl2, rfl, hown9⟩ := rw_snoc hown2; (have HM2 := Lib.hid hm2); (have HO2 := Lib.hid hown9); (have HB2 := Lib.hid hb2); clear hown2 hown9 hg2 hb2 hm2))
        go_roundg (n - (i + 1))
        case rel =>
          have hlt : w.heap.size < base := by have := HBA.out; omega
          exact ⟨i + 1, M2, true, a2, c2, by first | rfl | go_num | (congr 1; omega), rfl, rfl, by omega, Nat.le_refl _, by rw [HTN.out, HM2.out]; exact HM.out.yes HGG.out, by omega, HO2.out, Nat.le_trans hbs HB2.out.size, ⟨(HB2.out.cell hlt).trans x0, (HB2.out.cell hlt).trans x1, (HB2.out.cell hlt).trans x2, Nat.lt_of_lt_of_le x4 HB2.out.size⟩, HB.out.trans (HB2.out.mono (by omega)), fun h => by cases h⟩
        case measure => omega
      | false =>
        have hMi := HM0.out rfl
        by_cases hlt : Y.id < x.id
        · have HLT := Lib.hid hlt
          have D1 : decide (x.id ≤ Y.id) = false := decide_eq_false (by omega)
          have hkb : (Y.id == x.id) = false := by simp; omega
          have hkb2 : (Y.id != x.id) = true := by simp; omega
          clear hlt
          go_wp2_with (first | go_guarded | ((at_builtin; refine wpList_append_own _ rfl _ _ 61 rfl (base) 70 ii (.agg #[.int .i64 0, .int .u64 0, .int .u64 0]) 3 24 Try.underlying61 CI0.out CZ0.out CZ1.out CZ2.out rfl (by decide) (.slice ao (M).length c) _ _ rfl (World.ownsRow.alloc (World.ownsRow.alloc HO.out _) _) ⟨_, 0, none⟩ 1 1 (Rw.cells (Y)) rfl rfl ?c1 ?c2 ?c3 ?c4 ?c5 ?_; (case c1 => (intro j u hu; unfold Rw.cells at hu; rcases j with _ | _ | _ | j <;> simp at hu <;> (try subst hu) <;> simp [Addr.add, go_sem, *])); (case c2 => (exact rwC.one _)); (case c3 => (unfold maxLen; omega)); (case c4 => omega); (case c5 => (simp; omega)); intro v2 z2 hown2 hg2 _); (have hb2 : Below base wr z2 := (Below.alloc (Below.alloc (Below.refl _ _) (by omega) _) (by simp; omega) _).grown hg2 (by simp; omega) (fun q hq => (HO.out.lt q hq).1)); obtain ⟨M2, a2, c2, hm2, hl2, rfl, hown9⟩ := rw_snoc hown2; (have HM2 := Lib.hid hm2); (have HO2 := Lib.hid hown9); (have HB2 := Lib.hid hb2); clear hown2 hown9 hg2 hb2 hm2))
          go_roundg (n - (i + 1))
          case rel =>
            have hlt : w.heap.size < base := by have := HBA.out; omega
            exact ⟨i + 1, M2, false, a2, c2, by first | rfl | go_num | (congr 1; omega), rfl, rfl, by omega, Nat.le_refl _, by rw [HTN.out, HM2.out]; exact HM.out.no HLT.out, by omega, HO2.out, Nat.le_trans hbs HB2.out.size, ⟨(HB2.out.cell hlt).trans x0, (HB2.out.cell hlt).trans x1, (HB2.out.cell hlt).trans x2, Nat.lt_of_lt_of_le x4 HB2.out.size⟩, HB.out.trans (HB2.out.mono (by omega)), fun _ => by omega⟩
          case measure => omega
        · have D1 : decide (x.id ≤ Y.id) = true := decide_eq_true (by omega)
          by_cases heq : Y.id = x.id
          · have HEQ := Lib.hid heq
            have hkb : (Y.id == x.id) = true := by simpa using heq
            have hkb2 : (Y.id != x.id) = false := by simpa using heq
            have he9 := HEQ.out
            rw [he9] at p0
            have D2 : decide (x.id ≤ x.id) = true := decide_eq_true (by omega)
            clear hlt heq he9 hkb hkb2 D1
            go_wp2_with (first | go_guarded | ((at_builtin; refine wpList_append_own _ rfl _ _ 61 rfl (base) 70 ii (.agg #[.int .i64 0, .int .u64 0, .int .u64 0]) 3 24 Try.underlying61 CI0.out CZ0.out CZ1.out CZ2.out rfl (by decide) (.slice ao (M).length c) _ _ rfl (World.ownsRow.alloc (World.ownsRow.alloc HO.out _) _) ⟨_, 0, none⟩ 1 1 (Rw.cells (x)) rfl rfl ?c1 ?c2 ?c3 ?c4 ?c5 ?_; (case c1 => (intro j u hu; unfold Rw.cells at hu; rcases j with _ | _ | _ | j <;> simp at hu <;> (try subst hu) <;> simp [Addr.add, go_sem, *])); (case c2 => (exact rwC.one _)); (case c3 => (unfold maxLen; omega)); (case c4 => omega); (case c5 => (simp; omega)); intro v2 z2 hown2 hg2 _); (have hb2 : Below base wr z2 := (Below.alloc (Below.alloc (Below.refl _ _) (by omega) _) (by simp; omega) _).grown hg2 (by simp; omega) (fun q hq => (HO.out.lt q hq).1)); (have hy9 : ∀ {o : Nat} {v : Value}, wr.heap.size < wr.heap.size + 1 → (wr.alloc (.cells #[.int .i64 x.id, .int .u64 Y.a, .int .u64 Y.b] 70)).cell? ⟨wr.heap.size, o, none⟩ = some v → z2.cell? ⟨wr.heap.size, o, none⟩ = some v := fun h0 h => ((only_grown' hg2).cell (b := wr.heap.size) (by simp; omega) (fun h => absurd (HO.out.lt _ h).2 (Nat.lt_irrefl _))).trans (((Below.alloc (Below.refl _ _) (Nat.le_refl _) _).cell (p := ⟨wr.heap.size, _, none⟩) (by show wr.heap.size < (wr.alloc _).heap.size; simp)).trans h)); (have t0 := hy9 (by omega) (show (wr.alloc (.cells #[.int .i64 x.id, .int .u64 Y.a, .int .u64 Y.b] 70)).cell? ⟨wr.heap.size, 0, none⟩ = some (.int .i64 x.id) by simp [go_sem])); (have hx2 : w.heap.size < base := (by have := HBA.out; omega)); (have x0 := (hb2.cell (p := ⟨w.heap.size, 0, none⟩) hx2).trans x0); (have x1 := (hb2.cell (p := ⟨w.heap.size, 1, none⟩) hx2).trans x1); (have x2 := (hb2.cell (p := ⟨w.heap.size, 2, none⟩) hx2).trans x2); (have x4 := Nat.lt_of_lt_of_le x4 hb2.size); (have hz9 : wr.heap.size + 1 + 1 ≤ z2.heap.size := (by have := (only_grown' hg2).size; simpa using this)); (have hz8 : wr.heap.size < z2.heap.size := (by omega)); obtain ⟨M2, a2, c2, hm2, hl2, rfl, hown9⟩ := rw_snoc hown2; (have HM2 := Lib.hid hm2); (have HO2 := Lib.hid hown9); (have HB2 := Lib.hid hb2); clear hown2 hown9 hg2 hb2 hm2 hy9))
            go_roundg (n - (i + 1))
            case rel =>
              exact ⟨i + 1, M2, true, a2, c2, by first | rfl | go_num | (congr 1; omega), rfl, rfl, by omega, Nat.le_refl _, by rw [HTN.out, HM2.out]; exact HM.out.eq HEQ.out, by omega, HO2.out, Nat.le_trans hbs HB2.out.size, ⟨x0, x1, x2, x4⟩, HB.out.trans (HB2.out.mono (by omega)), fun h => by cases h⟩
            case measure => omega
          · have hgg : x.id < Y.id := by omega
            have HGG := Lib.hid hgg
            have hkb : (Y.id == x.id) = false := by simpa using heq
            have hkb2 : (Y.id != x.id) = true := by simpa using heq
            clear hlt heq hgg
            go_wp2_with (first | go_guarded | ((at_builtin; refine wpList_append_own _ rfl _ _ 61 rfl (base) 70 ii (.agg #[.int .i64 0, .int .u64 0, .int .u64 0]) 3 24 Try.underlying61 CI0.out CZ0.out CZ1.out CZ2.out rfl (by decide) (.slice a2 (M2).length c2) _ _ rfl (World.ownsRow.alloc HO2.out _) ⟨_, 0, none⟩ 1 1 (Rw.cells (Y)) rfl rfl ?c1 ?c2 ?c3 ?c4 ?c5 ?_; (case c1 => (intro j u hu; unfold Rw.cells at hu; rcases j with _ | _ | _ | j <;> simp at hu <;> (try subst hu) <;> simp [Addr.add, go_sem, *])); (case c2 => (exact rwC.one _)); (case c3 => (unfold maxLen; omega)); (case c4 => omega); (case c5 => (simp; omega)); intro v2 z3 hown2 hg2 _); (have hb2 : Below base z2 z3 := (Below.alloc (Below.refl _ _) (by omega) _).grown hg2 (by simp; omega) (fun q hq => (HO2.out.lt q hq).1)); obtain ⟨M3, a3, c3, hm3, hl3, rfl, hown9⟩ := rw_snoc hown2; (have HM3 := Lib.hid hm3); (have HO3 := Lib.hid hown9); (have HB3 := Lib.hid (HB2.out.trans hb2)); clear hown2 hown9 hg2 hb2 hm3) | ((at_builtin; refine wpList_append_own _ rfl _ _ 61 rfl (base) 70 ii (.agg #[.int .i64 0, .int .u64 0, .int .u64 0]) 3 24 Try.underlying61 CI0.out CZ0.out CZ1.out CZ2.out rfl (by decide) (.slice ao (M).length c) _ _ rfl (World.ownsRow.alloc (World.ownsRow.alloc HO.out _) _) ⟨_, 0, none⟩ 1 1 (Rw.cells (x)) rfl rfl ?c1 ?c2 ?c3 ?c4 ?c5 ?_; (case c1 => (intro j u hu; unfold Rw.cells at hu; rcases j with _ | _ | _ | j <;> simp at hu <;> (try subst hu) <;> simp [Addr.add, go_sem, *])); (case c2 => (exact rwC.one _)); (case c3 => (unfold maxLen; omega)); (case c4 => omega); (case c5 => (simp; omega)); intro v2 z2 hown2 hg2 _); (have hb2 : Below base wr z2 := (Below.alloc (Below.alloc (Below.refl _ _) (by omega) _) (by simp; omega) _).grown hg2 (by simp; omega) (fun q hq => (HO.out.lt q hq).1)); (have hy9 : ∀ {o : Nat} {v : Value}, (wr.alloc (.cells #[.int .i64 Y.id, .int .u64 Y.a, .int .u64 Y.b] 70)).cell? ⟨wr.heap.size, o, none⟩ = some v → z2.cell? ⟨wr.heap.size, o, none⟩ = some v := fun h => ((only_grown' hg2).cell (b := wr.heap.size) (by simp; omega) (fun h => absurd (HO.out.lt _ h).2 (Nat.lt_irrefl _))).trans (((Below.alloc (Below.refl _ _) (Nat.le_refl _) _).cell (p := ⟨wr.heap.size, _, none⟩) (by show wr.heap.size < (wr.alloc _).heap.size; simp)).trans h)); (have t0 := hy9 (show (wr.alloc (.cells #[.int .i64 Y.id, .int .u64 Y.a, .int .u64 Y.b] 70)).cell? ⟨wr.heap.size, 0, none⟩ = some (.int .i64 Y.id) by simp [go_sem])); (have t1 := hy9 (show (wr.alloc (.cells #[.int .i64 Y.id, .int .u64 Y.a, .int .u64 Y.b] 70)).cell? ⟨wr.heap.size, 1, none⟩ = some (.int .u64 Y.a) by simp [go_sem])); (have t2 := hy9 (show (wr.alloc (.cells #[.int .i64 Y.id, .int .u64 Y.a, .int .u64 Y.b] 70)).cell? ⟨wr.heap.size, 2, none⟩ = some (.int .u64 Y.b) by simp [go_sem])); (have hx2 : w.heap.size < base := (by have := HBA.out; omega)); (have x0 := (hb2.cell (p := ⟨w.heap.size, 0, none⟩) hx2).trans x0); (have x1 := (hb2.cell (p := ⟨w.heap.size, 1, none⟩) hx2).trans x1); (have x2 := (hb2.cell (p := ⟨w.heap.size, 2, none⟩) hx2).trans x2); (have x4 := Nat.lt_of_lt_of_le x4 hb2.size); (have hz9 : wr.heap.size + 1 + 1 ≤ z2.heap.size := (by have := (only_grown' hg2).size; simpa using this)); (have hz8 : wr.heap.size < z2.heap.size := (by omega)); (have hz7 : base ≤ z2.heap.size := (by omega)); obtain ⟨M2, a2, c2, hm2, hl2, rfl, hown9⟩ := rw_snoc hown2; (have HM2 := Lib.hid hm2); (have HO2 := Lib.hid hown9); (have HB2 := Lib.hid hb2); clear hown2 hown9 hg2 hb2 hm2 hy9))
            go_roundg (n - (i + 1))
            case rel =>
              have hlt : w.heap.size < base := by have := HBA.out; omega
              have hbz := HB3.out
              exact ⟨i + 1, M3, true, a3, c3, by first | rfl | go_num | (congr 1; omega), rfl, rfl, by omega, Nat.le_refl _, by rw [HTN.out, HM3.out, HM2.out]; exact HM.out.now HGG.out, by omega, HO3.out, Nat.le_trans hbs hbz.size, ⟨(hbz.cell hlt).trans HX0.out, (hbz.cell hlt).trans HX1.out, (hbz.cell hlt).trans HX2.out, Nat.lt_of_lt_of_le HX4.out hbz.size⟩, HB.out.trans (hbz.mono (by omega)), fun h => by cases h⟩
            case measure => omega
    · have hie : i = n := by omega
      subst hie
      have HT : Hid (L.take i = L) := Lib.hid (List.take_of_length_le (by rw [HLN.out]; exact Nat.le_refl _))
      have HB := Lib.hid hB
      clear hin hB
      cases pb with
      | true =>
        go_wp2
        go_ret
        have hML : M = setL x L := by rw [← HT.out]; exact HM.out.end1
        subst hML
        obtain ⟨a9, c9, e9, hr9, -, -, hlo9⟩ := RwV.of_own rwC HO.out
        injection e9 with e1 e2 e3
        subst e1 e3
        first | exact ⟨⟨ao, c, rfl, hr9, fun ad9 had9 => by have h1 := (hlo9 ad9 had9).1; have h2 := HBA.out; omega⟩, HB.out⟩ | exact ⟨⟨ao, ⟨c, rfl⟩, hr9, fun ad9 had9 => by have h1 := (hlo9 ad9 had9).1; have h2 := HBA.out; omega⟩, HB.out⟩
      | false =>
        go_wp2_with (first | go_guarded | ((at_builtin; refine wpList_append_own _ rfl _ _ 61 rfl (base) 70 ii (.agg #[.int .i64 0, .int .u64 0, .int .u64 0]) 3 24 Try.underlying61 CI0.out CZ0.out CZ1.out CZ2.out rfl (by decide) (.slice ao (M).length c) _ _ rfl (World.ownsRow.alloc HO.out _) ⟨_, 0, none⟩ 1 1 (Rw.cells (x)) rfl rfl ?c1 ?c2 ?c3 ?c4 ?c5 ?_; (case c1 => (intro j u hu; unfold Rw.cells at hu; rcases j with _ | _ | _ | j <;> simp at hu <;> (try subst hu) <;> simp [Addr.add, go_sem, *])); (case c2 => (exact rwC.one _)); (case c3 => (unfold maxLen; omega)); (case c4 => omega); (case c5 => (simp; omega)); intro v2 z2 hown2 hg2 _); (have hb2 : Below base wr z2 := (Below.alloc (Below.refl _ _) (by omega) _).grown hg2 (by simp; omega) (fun q hq => (HO.out.lt q hq).1)); obtain ⟨M2, a2, c2, hm2, hl2, rfl, hown9⟩ := rw_snoc hown2; (have HM2 := Lib.hid hm2); (have HO2 := Lib.hid hown9); (have HB2 := Lib.hid hb2); clear hown2 hown9 hg2 hb2 hm2))
        go_ret
        have hML : M2 = setL x L := by rw [HM2.out, ← HT.out]; rw [show M ++ [x] = setL x (L.take i) from HM.out.end0]
        subst hML
        obtain ⟨a9, c9, e9, hr9, -, -, hlo9⟩ := RwV.of_own rwC HO2.out
        injection e9 with e1 e2 e3
        subst e1 e3
        first | exact ⟨⟨a2, c2, rfl, hr9, fun ad9 had9 => by have h1 := (hlo9 ad9 had9).1; have h2 := HBA.out; omega⟩, HB.out.trans (HB2.out.mono (by have := HBA.out; omega))⟩ | exact ⟨⟨a2, ⟨c2, rfl⟩, hr9, fun ad9 had9 => by have h1 := (hlo9 ad9 had9).1; have h2 := HBA.out; omega⟩, HB.out.trans (HB2.out.mono (by have := HBA.out; omega))⟩
end Go.Proofs.Ytikmdkmejbcmmaa
