/- Joined texts. -/
import Derived.Test.YtffaahipgabkhaaGreatJn0
import Derived.Test.YtffaahipgabkhaaGreatJn5
import Derived.Test.YtffaahipgabkhaaGreatJn19
set_option linter.unusedVariables false
set_option linter.unusedSimpArgs false
set_option maxRecDepth 100000
set_option maxHeartbeats 16000000
section
namespace Go.Proofs.YtffaahipgabkhaaGreat
open Go.RowKit Fg Reg Go.Maps
attribute [local irreducible] Reg.wE VR
theorem WI.set {z : World} {b : Nat} {D : List Int} (h : WI z b D) (i : Nat) (x : Int) (hi : i < D.length) : WI (z.setCell ⟨b, i, none⟩ (.int .i64 x)) b (D.set i x) := fun j hj => by
 have hj2 : j < D.length := by simpa using hj
 rw [World.frozen?_setCell]
 refine ⟨?_, (h j hj2).2⟩
 rw [List.getElem_set]
 by_cases e : i = j
 ·subst e
  rw [if_pos rfl]
  exact World.cell?_setCell_same _ _ _ (h i hi).1
 ·rw [if_neg e, World.cell?_setCell_other _ _ _ _ (by intro g; injection g with _ g2; exact e g2)]
  exact (h j hj2).1
theorem WI.pre {z : World} {b : Nat} {D E : List Int} (h : WI z b (D ++ E)) : WI z b D := fun j hj => by
 have := h j (by simp; omega)
 rw [List.getElem_append_left hj] at this
 exact this
theorem filt_all {p : Int → Bool} {D : List Int} (h : ∀ x ∈ D, p x = false) : D.filter (fun x => !p x) = D := List.filter_eq_self.2 fun x hx => by rw [h x hx]; rfl
theorem delf_c {W0 : World} {B ca cb : Nat} {p : Int → Bool} (D : List Int) (K : ∀ x ∈ D, ∀ z, Only (fun k => B ≤ k) W0 z → Calls Tryz.prog 35 #[.int .i64 x, .pointer (some ⟨ca, 0, none⟩), .pointer (some ⟨cb, 0, none⟩)] z fun ee w' => ee = .returned (.bool (p x)) ∧ Below z.heap.size z w') (n : Nat) (hn : D.length = n) (hle : n ≤ 1000) (b cap : Nat) (hcap : n ≤ cap) (hcm : cap ≤ maxLen) (hBb : B ≤ b) (w : World) (hO : Only (fun k => B ≤ k) W0 w) (hI : WI w b D) (hb : b < w.heap.size) :
  Calls Tryz.prog 33 #[.slice (some ⟨b, 0, none⟩) n cap, .func (.func 35) #[] #[.pointer (some ⟨ca, 0, none⟩), .pointer (some ⟨cb, 0, none⟩)]] w fun e w' => e = .returned (.slice (some ⟨b, 0, none⟩) (D.filter (fun x => !p x)).length cap) ∧ WI w' b (D.filter (fun x => !p x)) ∧ Only (fun k => B ≤ k) W0 w' ∧ b < w'.heap.size := by
 have KI := Lib.hid (ixT_c D K n hn hle b cap w hO hI hb)
 have HK := Lib.hid K
 have HN := Lib.hid hn
 have HO := Lib.hid hO
 have HI := Lib.hid hI
 have HBL := Lib.hid hb
 have hcm2 : cap ≤ 9223372036854775807 := by unfold maxLen at hcm; omega
 clear K hn hO hI hb
 go_enter Tryz.func33, Tryz.ntmps33
 go_wp2_with (first | go_guarded | (go_at_call 66; (with_reducible refine KI.out.mono ?_); rintro _ w1 ⟨⟨i0, rfl, -, hii⟩, hbel⟩; have HII := Lib.hid hii; have HB1 := Lib.hid hbel; clear hii hbel; rcases HII.out with ⟨rfl, hall⟩ | ⟨k, rfl, hkn, hpre, hpk⟩))
 ·-- nothing is struck
  have hf := filt_all hall
  have HF := Lib.hid hf
  have HW1 := Lib.hid (HI.out.below HB1.out HBL.out)
  have HO1 := Lib.hid (HO.out.trans (Only.of_below HB1.out))
  clear hall hf
  go_wp2_with (first | go_guarded)
  go_ret
  exact ⟨by rw [HF.out, HN.out]; rfl, by rw [HF.out]; exact HW1.out, HO1.out, Nat.lt_of_lt_of_le HBL.out HB1.out.size⟩
 ·have hkD : k < D.length := by rw [HN.out]; exact hkn
  have hgd : D.getD k 0 = D[k] := by simp [List.getD, hkD]
  have hts := take_snoc'' D k hkD
  have hfk : (D.take k).filter (fun x => !p x) = D.take k := filt_all hpre
  have hf1 : (D.take (k + 1)).filter (fun x => !p x) = D.take k := by
   rw [hts, List.filter_append, hfk, List.filter_cons, ← hgd, hpk]; simp
  have HF1 := Lib.hid hf1
  have HW1 := Lib.hid (HI.out.below HB1.out HBL.out)
  have HO1 := Lib.hid (HO.out.trans (Only.of_below HB1.out))
  have HL1 := Lib.hid (Nat.lt_of_lt_of_le HBL.out HB1.out.size)
  have hkm : ((k : Int) == -1) = false := by simp
  clear hgd hts hfk hf1 hpre hpk hkD
  go_wp2_with (first | go_guarded)
  try go_frame
  go_loopg [5, 6] n (fun k9 s5 s6 wr => ∃ (j i : Nat) (R : List Int), s5 = .int .i64 i ∧ s6 = .int .i64 j ∧ j ≤ n ∧ i < j ∧ R.length = n ∧ R.take i = (D.take j).filter (fun x => !p x) ∧ (∀ m, j ≤ m → R[m]? = D[m]?) ∧ WI wr b R ∧ Only (fun k => B ≤ k) W0 wr ∧ b < wr.heap.size ∧ n - j ≤ k9)
  case atStart => exact ⟨k + 1, k, D, rfl, by go_num, by omega, by omega, HN.out, HF1.out.symm, fun m _ => rfl, HW1.out, HO1.out, HL1.out, by omega⟩
  case round =>
   obtain ⟨j, i, R, rfl, rfl, hj, hij, hRl, hRt, hRd, hW, hOr, hbl, hk9⟩ := hrel
   have HRL := Lib.hid hRl
   have HRT := Lib.hid hRt
   have HRD := Lib.hid hRd
   have HW := Lib.hid hW
   have HOR := Lib.hid hOr
   by_cases hlt : j < n
   ·have hjD : j < D.length := by rw [HN.out]; exact hlt
    have hjR : j < R.length := by rw [hRl]; exact hlt
    have hiR : i < R.length := by omega
    have hRj : R[j] = D[j] := by have := hRd j (Nat.le_refl _); rw [List.getElem?_eq_getElem hjR, List.getElem?_eq_getElem hjD] at this; injection this
    have hce := (hW j hjR).1
    have hci := (hW i hiR).1
    have hfi := (hW i hiR).2
    have hts := take_snoc'' D j hjD
    have hmem : D[j] ∈ D := List.getElem_mem hjD
    rw [hRj] at hce
    obtain ⟨x, hxe⟩ : ∃ x, D[j] = x := ⟨_, rfl⟩
    rw [hxe] at hce hts hmem
    obtain ⟨y, hye⟩ : ∃ y, R[i] = y := ⟨_, rfl⟩
    rw [hye] at hci
    have KX := Lib.hid (HK.out x hmem wr HOR.out)
    have HTS := Lib.hid hts
    have HIR := Lib.hid hiR
    have HCI := Lib.hid hci
    have HFI := Lib.hid hfi
    clear hRl hRt hRd hW hOr hjD hjR hiR hRj hts hmem hxe hci hfi hye
    cases hp : p x with
    | true =>
     rw [hp] at KX
     have HFJ : Hid (R.take i = (D.take (j + 1)).filter (fun x => !p x)) := Lib.hid (by rw [HTS.out, List.filter_append, ← HRT.out, List.filter_cons, hp]; simp)
     clear hp
     go_wp2_with (first | go_guarded | (go_at_call 35; (with_reducible refine KX.out.mono ?_); rintro _ w2 ⟨rfl, hbel⟩; have HB2 := Lib.hid hbel; clear hbel))
     go_roundg (n - (j + 1))
     case rel => exact ⟨j + 1, i, R, rfl, by go_num, by omega, by omega, HRL.out, HFJ.out, fun m hm => HRD.out m (by omega), HW.out.below HB2.out hbl, HOR.out.trans (Only.of_below HB2.out), Nat.lt_of_lt_of_le hbl HB2.out.size, Nat.le_refl _⟩
     case measure => omega
    | false =>
     rw [hp] at KX
     have HFJ : Hid ((R.set i x).take (i + 1) = (D.take (j + 1)).filter (fun x => !p x)) := Lib.hid (by
      rw [HTS.out, List.filter_append, ← HRT.out, List.filter_cons, hp]
      have h9 := HIR.out
      rw [List.take_succ_eq_append_getElem (by simpa using h9)]
      simp
      refine List.ext_getElem? fun m => ?_
      rw [List.getElem?_take, List.getElem?_take]
      split
      ·exact List.getElem?_set_ne (by omega)
      ·rfl)
     have HRD2 : Hid (∀ m, j + 1 ≤ m → (R.set i x)[m]? = D[m]?) := Lib.hid (fun m hm => by rw [List.getElem?_set_ne (by omega)]; exact HRD.out m (by omega))
     clear hp
     go_wp2_with (first | go_guarded | (go_at_call 35; (with_reducible refine KX.out.mono ?_); rintro _ w2 ⟨rfl, hbel⟩; have HB2 := Lib.hid hbel; have HW2 := Lib.hid (HW.out.below hbel hbl); have c2 := (HW2.out i HIR.out).1; have f2 := (HW2.out i HIR.out).2; have l2 := Nat.lt_of_lt_of_le hbl hbel.size; clear hbel))
     go_roundg (n - (j + 1))
     case rel => exact ⟨j + 1, i + 1, R.set i x, by go_num, by go_num, by omega, by omega, by rw [List.length_set]; exact HRL.out, HFJ.out, HRD2.out, HW2.out.set i x HIR.out, (HOR.out.trans (Only.of_below HB2.out)).setCell (.inl hBb) _, by simpa using l2, Nat.le_refl _⟩
     case measure => omega
   ·obtain rfl : j = n := by omega
    have hft : R.take i = D.filter (fun x => !p x) := by rw [hRt, ← HN.out, List.take_length]
    have hfl : (D.filter (fun x => !p x)).length = i := by rw [← hft, List.length_take]; omega
    have HFT := Lib.hid hft
    have HFL := Lib.hid hfl
    have hcl : ∀ ty, (Builtin.clear_ #[36] ty #[.slice (some ⟨b, i, none⟩) (j - i) (cap - i)]).run Tryz.prog wr = .ok (.tuple #[]) (wr.setCells b i (List.replicate (j - i) (.int .i64 0))) :=
     fun ty => Lib.run_clear_slice wr _ _ ty _ Tryz.underlying36 (fun w => by kernel_rfl) rfl rfl b i _ _ (by omega) (fun t ht => by rw [(hW (i + t) (by omega)).1]; rfl) (fun t ht => (hW (i + t) (by omega)).2)
    have hci : (cap == i) = false := by simp; omega
    have hci2 : ¬ cap = i := by omega
    have hWf : WI (wr.setCells b i (List.replicate (j - i) (.int .i64 0))) b (D.filter (fun x => !p x)) := fun m hm => by
     rw [hfl] at hm
     have hmR : m < R.length := by omega
     have h1 := hW m hmR
     rw [World.frozen?_setCells, World.cell?_setCells_out b _ i wr ⟨b, m, none⟩ (fun _ _ => .inl hm)]
     refine ⟨?_, h1.2⟩
     rw [h1.1]
     have h2 : (D.filter (fun x => !p x))[m]? = some R[m] := by rw [← hft, List.getElem?_take, if_pos hm]; exact List.getElem?_eq_getElem hmR
     rw [List.getElem?_eq_getElem (by omega)] at h2
     injection h2 with h2
     rw [h2]
    have HWF := Lib.hid hWf
    have hOn := setCells_only b (List.replicate (j - i) (Value.int .i64 0)) i wr
    have HOF : Hid (Only (fun k => B ≤ k) W0 (wr.setCells b i (List.replicate (j - i) (.int .i64 0)))) := Lib.hid (hOr.trans (hOn.mono fun k hk => by subst hk; exact hBb))
    have HSF := Lib.hid (Nat.lt_of_lt_of_le hbl hOn.size)
    clear hRl hRt hRd hW hOr hft hfl hWf hOn hlt
    go_wp2
    go_ret
    exact ⟨by rw [HFL.out]; rfl, HWF.out, HOF.out, HSF.out⟩
end Go.Proofs.YtffaahipgabkhaaGreat
end
