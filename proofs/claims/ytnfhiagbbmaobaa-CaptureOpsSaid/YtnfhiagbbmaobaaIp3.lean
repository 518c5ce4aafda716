/- ipv4.headerSum: the sum that a header has, whatever stands in its place. -/
import Derived.Test.YtnfhiagbbmaobaaIp2
import Derived.Test.YtnfhiagbbmaobaaRegion4
namespace Go.Proofs.Ytnfhiagbbmaobaa
set_option linter.unusedVariables false
set_option linter.unusedSimpArgs false
set_option maxRecDepth 100000
open Go.RowKit Fg Reg
attribute [local irreducible] Reg.wE Reg2.wT

theorem run_dec (W : World) (b o l c : Nat) (ns : List Int) (hl : ns.length = l) (h : ∀ j x, ns[j]? = some x → W.cell? ⟨b, o + j, none⟩ = some (.int .u8 x)) :
    (convert 43 9 (.slice (some ⟨b, o, none⟩) l c)).run Try.prog W = .ok (.string (strOf ns)) W := by
  subst hl
  rw [run_convert_bytes_string W 43 9 5 _ _ _ Try.underlying43 Try.underlying5 Try.underlying9]
  refine run_bytesToString W _ _ _ ns ?_
  have := run_loadCells_list (P := Try.prog) W ⟨b, o, none⟩ (ns.map (Value.int .u8)) (fun j v hj => by
    simp only [List.getElem?_map] at hj
    cases hx : ns[j]? with
    | none => rw [hx] at hj; cases hj
    | some x =>
      rw [hx] at hj
      have hj : Value.int .u8 x = v := by simpa using hj
      subst hj
      have := h j x hx
      show W.cell? (if j = 0 then _ else _) = _
      split
      · rename_i h0; rw [h0, Nat.add_zero] at this; exact this
      · exact this)
  simpa using this
theorem BR.below {w w' : World} {b n : Nat} {f : Nat → Int} (h : BR w b n f) (hb : Below w.heap.size w w') : BR w' b n f :=
  ⟨Nat.lt_of_lt_of_le h.1 hb.size, fun j hj => (hb.cell (p := ⟨b, j, none⟩) h.1).trans (h.2 j hj)⟩
theorem BR.dec {W : World} {b n : Nat} {f : Nat → Int} (h : BR W b n f) (ns : List Int) (hl : ns.length = n) (hf : ∀ j x, ns[j]? = some x → f j = x) (c : Nat) :
    (convert 43 9 (.slice (some ⟨b, 0, none⟩) n c)).run Try.prog W = .ok (.string (strOf ns)) W :=
  run_dec W b 0 n c ns hl fun j x hj => by
    rw [Nat.zero_add]
    have hjl : j < n := by rw [← hl]; exact (List.getElem?_eq_some_iff.1 hj).1
    rw [h.2 j hjl, hf j x hj]
/-- A header with 0 in the place of its sum. -/
def zeroed (S : ByteArray) : ByteArray := S.extract 0 10 ++ strOf [0, 0] ++ S.extract 12 S.size
theorem zeroed_size (S : ByteArray) (h : 12 ≤ S.size) : (zeroed S).size = S.size := by
  unfold zeroed
  rw [app_size, app_size, ext_size _ _ _ (by omega), ext_size _ _ _ (by omega), strOf_size]
  simp; omega
def zap (f : Nat → Int) (j : Nat) : Int := if j = 10 ∨ j = 11 then 0 else f j
theorem byt_zeroed (S : ByteArray) (h : 12 ≤ S.size) (j : Nat) : byt (zeroed S) j = zap (byt S) j := by
  unfold zeroed zap
  have e1 : (S.extract 0 10).size = 10 := by rw [ext_size _ _ _ (by omega)]
  have e2 : (strOf [0, 0]).size = 2 := by rw [strOf_size]; rfl
  have e3 : (S.extract 12 S.size).size = S.size - 12 := ext_size _ _ _ (by omega)
  rw [byt_app, byt_app, app_size, e1, e2]
  by_cases h1 : j < 10
  · rw [if_pos (by omega), if_pos h1, if_neg (by omega), byt_ext S 0 10 j (by omega) (by omega), Nat.zero_add]
  · by_cases h2 : j < 12
    · rw [if_pos (by omega), if_neg h1, if_pos (by omega), byt_strOf _ _ (by simp)]
      have h3 : j - 10 = 0 ∨ j - 10 = 1 := by omega
      rcases h3 with h3 | h3 <;> rw [h3] <;> rfl
    · rw [if_neg (by omega), if_neg (by omega)]
      by_cases h3 : j < S.size
      · rw [byt_ext S 12 S.size _ (by omega) (by omega)]; congr 1; omega
      · rw [byt_out _ _ (by rw [e3]; omega), byt_out _ _ (by omega)]
theorem sumb_zeroed (S : ByteArray) (h : 12 ≤ S.size) : sumb (zeroed S) = fl (wsf (zap (byt S)) ((S.size + 1) / 2)) := by
  unfold sumb
  rw [zeroed_size S h]
  congr 1
  exact wsf_congr _ fun j _ => byt_zeroed S h j
set_option maxHeartbeats 2000000 in
theorem hsum_c (S : ByteArray) (h1 : 12 ≤ S.size) (h2 : S.size ≤ 1000) (w : World) : Calls Try.prog 51 #[.string S] w fun ee w' => ee = .returned (.int .u16 (65535 - sumb (zeroed S))) ∧ Below w.heap.size w w' := by
  have K1 := Lib.hid (fun z => cut2_c 0 (by omega) z)
  have k2 := fun z => sum_c (zeroed S) (by rw [zeroed_size S h1]; omega) z
  have hbd := sumb_bd (zeroed S)
  have a1 := fun w => run_string_add_sum (P := Try.prog) (w := w) (S.extract 0 10) (strOf [0, 0]) (by rw [ext_size _ _ _ (by omega), strOf_size]; simp)
  have a2 := fun w => run_string_add_sum (P := Try.prog) (w := w) (S.extract 0 10 ++ strOf [0, 0]) (S.extract 12 S.size) (by rw [app_size, ext_size _ _ _ (by omega), strOf_size, ext_size _ _ _ (by omega)]; simp; omega)
  have hz : S.extract 0 10 ++ strOf [0, 0] ++ S.extract 12 S.size = zeroed S := rfl
  rw [hz] at a2
  clear hz
  generalize sumb (zeroed S) = n at *
  generalize zeroed S = Z at *
  obtain ⟨Z2, hZ⟩ : ∃ Z2, strOf [0, 0] = Z2 := ⟨_, rfl⟩
  rw [hZ] at a1 a2
  have HZ := Lib.hid hZ
  clear hZ
  generalize S.extract 0 10 ++ Z2 = Z3 at *
  have K2 := Lib.hid k2
  clear k2
  have hS1 : (12 : Int) ≤ S.size := by omega
  have hS0 : (10 : Int) ≤ S.size := by omega
  have hS2 : (S.size : Int) ≤ 1000 := by omega
  go_enter Try.func51, Try.ntmps51
  go_wp2_with fail
  obtain ⟨Cl, hCl⟩ : ∃ Cl : List (Nat × Value) → World → Prop, Cl = ((fun ps wz => Below w.heap.size w wz ∧ (match ps with | [] => True | ((_, pz) :: _) => ∃ b, pz = Value.slice (some ⟨b, 0, none⟩) 2 2 ∧ BR wz b 2 (fun j => (by2 0).getD j 0)))) := ⟨_, rfl⟩; have HCl := Lib.hid hCl; clear hCl; refine Reg2.wp_region_line [0, 1, 5, 6, 2, 3, 4, 7, 8, 9, 10] [2] Cl (by kernel_rfl) (by kernel_rfl) (by kernel_rfl) (by rw [HCl.out]; (try simp only [List.nil_append, List.cons_append]); (try dsimp only); ((repeat' apply And.intro) <;> first | (simp [go_sem, *]; done) | omega | (repeat' (first | with_reducible exact Below.refl _ _ | with_reducible assumption | ((with_reducible refine Below.drew ?_)) | ((with_reducible refine below_drewN ?_ _)) | ((with_reducible refine Below.alloc ?_ ?_ _); rotate_left; focus (first | omega | (simp; done) | (simp; omega))) | ((with_reducible refine Below.setCell ?_ ?_ _); rotate_left; focus (first | omega | (simp; done) | (simp; omega))) | ((with_reducible refine Below.trans ?_ (Below.mono (by with_reducible assumption) ?_)); rotate_left; focus (first | omega | (simp; done) | (simp; omega))))))) ?_
  (repeat (first | (refine Reg2.wL_skip (by (simp only [List.getElem?_toArray, List.getElem?_cons_succ, List.getElem?_cons_zero]) <;> rfl) (by rfl) ?_; simp only [Act.put, Nat.reduceAdd, List.setIfInBounds_toArray, List.set_cons_zero, List.set_cons_succ, List.nil_append, List.cons_append]) | (refine Reg2.wL_open (by (simp only [List.getElem?_toArray, List.getElem?_cons_succ, List.getElem?_cons_zero]) <;> rfl) (by rfl) (by rfl) ?_; apply Exists.intro; refine ⟨fun vs wq hw => ?_, ?_⟩; (focus (rw [HCl.out] at hw; (try simp only [List.nil_append, List.cons_append] at hw); (try dsimp only at hw); go_split_ands; go_simp <;> first | with_reducible exact (rfl : Value.bool false = _) | with_reducible exact (rfl : Value.bool true = _) | ((try go_bits) <;> exact rfl))); simp only [Act.put, Nat.reduceAdd, List.setIfInBounds_toArray, List.set_cons_zero, List.set_cons_succ, List.nil_append, List.cons_append])))
  refine Reg2.wL_eff (by (simp only [List.getElem?_toArray, List.getElem?_cons_succ, List.getElem?_cons_zero]) <;> rfl) (by rfl) (by rfl) (fun wq hw => ?_) (fun u hu => ?_)
  · rw [HCl.out] at hw; (try simp only [List.nil_append, List.cons_append] at hw); (try dsimp only at hw)
    obtain ⟨hB, -⟩ := hw
    go_simp
    (with_reducible refine (K1.out _).mono ?_)
    rintro e w1 ⟨b, rfl, hb, hR, hbel⟩
    refine ⟨_, rfl, ?_⟩
    rw [HCl.out]; (try simp only [List.nil_append, List.cons_append]); (try dsimp only)
    exact ⟨by have := hB.size; (repeat' (first | with_reducible exact Below.refl _ _ | with_reducible assumption | ((with_reducible refine Below.drew ?_)) | ((with_reducible refine below_drewN ?_ _)) | ((with_reducible refine Below.alloc ?_ ?_ _); rotate_left; focus (first | omega | (simp; done) | (simp; omega))) | ((with_reducible refine Below.setCell ?_ ?_ _); rotate_left; focus (first | omega | (simp; done) | (simp; omega))) | ((with_reducible refine Below.trans ?_ (Below.mono (by with_reducible assumption) ?_)); rotate_left; focus (first | omega | (simp; done) | (simp; omega))))), b, rfl, hR⟩
  (obtain ⟨wz, hz⟩ := hu; rw [HCl.out] at hz; (try simp only [List.nil_append, List.cons_append] at hz); (try dsimp only at hz))
  obtain ⟨-, b, rfl, -⟩ := hz
  simp only [Act.put, Nat.reduceAdd, List.setIfInBounds_toArray, List.set_cons_zero, List.set_cons_succ, List.nil_append, List.cons_append]
  refine Reg2.wL_open (by (simp only [List.getElem?_toArray, List.getElem?_cons_succ, List.getElem?_cons_zero]) <;> rfl) (by rfl) (by rfl) ?_
  refine ⟨.string Z2, fun vs wq hw => ?_, ?_⟩
  · rw [HCl.out] at hw; (try simp only [List.nil_append, List.cons_append] at hw); (try dsimp only at hw)
    obtain ⟨hB, b', hbe, hR⟩ := hw
    obtain rfl : b = b' := by simpa using hbe
    have hcv := hR.dec [0, 0] rfl (fun j x hj => by rcases j with _ | _ | j <;> simp at hj <;> (try subst hj) <;> rfl) 2
    rw [HZ.out] at hcv
    go_simp
  simp only [Act.put, Nat.reduceAdd, List.setIfInBounds_toArray, List.set_cons_zero, List.set_cons_succ, List.nil_append, List.cons_append]
  (repeat (first | (refine Reg2.wL_skip (by (simp only [List.getElem?_toArray, List.getElem?_cons_succ, List.getElem?_cons_zero]) <;> rfl) (by rfl) ?_; simp only [Act.put, Nat.reduceAdd, List.setIfInBounds_toArray, List.set_cons_zero, List.set_cons_succ, List.nil_append, List.cons_append]) | (refine Reg2.wL_open (by (simp only [List.getElem?_toArray, List.getElem?_cons_succ, List.getElem?_cons_zero]) <;> rfl) (by rfl) (by rfl) ?_; apply Exists.intro; refine ⟨fun vs wq hw => ?_, ?_⟩; (focus (rw [HCl.out] at hw; (try simp only [List.nil_append, List.cons_append] at hw); (try dsimp only at hw); go_split_ands; go_simp <;> first | with_reducible exact (rfl : Value.bool false = _) | with_reducible exact (rfl : Value.bool true = _) | ((try go_bits) <;> exact rfl))); simp only [Act.put, Nat.reduceAdd, List.setIfInBounds_toArray, List.set_cons_zero, List.set_cons_succ, List.nil_append, List.cons_append])))
  refine Reg2.wL_open (by (simp only [List.getElem?_toArray, List.getElem?_cons_succ, List.getElem?_cons_zero]) <;> rfl) (by rfl) (by rfl) ?_
  refine ⟨.int .u16 n, fun vs wq hw => ?_, ?_⟩
  · rw [HCl.out] at hw; (try simp only [List.nil_append, List.cons_append] at hw); (try dsimp only at hw)
    obtain ⟨hB, b', hbe, hR⟩ := hw
    go_simp
    (with_reducible refine (K2.out _).mono ?_)
    rintro e w1 ⟨rfl, hbel⟩
    refine ⟨rfl, ?_⟩
    rw [HCl.out]; (try simp only [List.nil_append, List.cons_append]); (try dsimp only)
    exact ⟨by have := hB.size; (repeat' (first | with_reducible exact Below.refl _ _ | with_reducible assumption | ((with_reducible refine Below.drew ?_)) | ((with_reducible refine below_drewN ?_ _)) | ((with_reducible refine Below.alloc ?_ ?_ _); rotate_left; focus (first | omega | (simp; done) | (simp; omega))) | ((with_reducible refine Below.setCell ?_ ?_ _); rotate_left; focus (first | omega | (simp; done) | (simp; omega))) | ((with_reducible refine Below.trans ?_ (Below.mono (by with_reducible assumption) ?_)); rotate_left; focus (first | omega | (simp; done) | (simp; omega))))), b', hbe.symm ▸ rfl, hR.below hbel⟩
  simp only [Act.put, Nat.reduceAdd, List.setIfInBounds_toArray, List.set_cons_zero, List.set_cons_succ, List.nil_append, List.cons_append]
  (repeat (first | (refine Reg2.wL_skip (by (simp only [List.getElem?_toArray, List.getElem?_cons_succ, List.getElem?_cons_zero]) <;> rfl) (by rfl) ?_; simp only [Act.put, Nat.reduceAdd, List.setIfInBounds_toArray, List.set_cons_zero, List.set_cons_succ, List.nil_append, List.cons_append]) | (refine Reg2.wL_open (by (simp only [List.getElem?_toArray, List.getElem?_cons_succ, List.getElem?_cons_zero]) <;> rfl) (by rfl) (by rfl) ?_; apply Exists.intro; refine ⟨fun vs wq hw => ?_, ?_⟩; (focus (rw [HCl.out] at hw; (try simp only [List.nil_append, List.cons_append] at hw); (try dsimp only at hw); go_split_ands; go_simp <;> first | with_reducible exact (rfl : Value.bool false = _) | with_reducible exact (rfl : Value.bool true = _) | ((try go_bits) <;> exact rfl))); simp only [Act.put, Nat.reduceAdd, List.setIfInBounds_toArray, List.set_cons_zero, List.set_cons_succ, List.nil_append, List.cons_append])))
  refine Reg2.wL_nil ?_; intro w' hw; rw [HCl.out] at hw; (try simp only [List.nil_append, List.cons_append] at hw); (try dsimp only at hw); clear HCl
  obtain ⟨hB4, -⟩ := hw
  go_wp2
  (go_ret; refine ⟨?_, ?_⟩; (focus (exact rfl)); ((repeat' (first | with_reducible exact Below.refl _ _ | with_reducible assumption | ((with_reducible refine Below.drew ?_)) | ((with_reducible refine below_drewN ?_ _)) | ((with_reducible refine Below.alloc ?_ ?_ _); rotate_left; focus (first | omega | (simp; done) | (simp; omega))) | ((with_reducible refine Below.setCell ?_ ?_ _); rotate_left; focus (first | omega | (simp; done) | (simp; omega))) | ((with_reducible refine Below.trans ?_ (Below.mono (by with_reducible assumption) ?_)); rotate_left; focus (first | omega | (simp; done) | (simp; omega))))); done))
end Go.Proofs.Ytnfhiagbbmaobaa
