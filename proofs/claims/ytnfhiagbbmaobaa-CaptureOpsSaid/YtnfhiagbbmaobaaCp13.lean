/- The laws' one frame. -/
import Derived.Test.YtnfhiagbbmaobaaCp12
import Derived.Test.YtnfhiagbbmaobaaCp3
import Derived.Test.YtnfhiagbbmaobaaRowB
import Derived.Test.YtnfhiagbbmaobaaRegion3
namespace Go.Proofs.Ytnfhiagbbmaobaa
set_option linter.unusedVariables false
set_option linter.unusedSimpArgs false
set_option maxRecDepth 100000
open Go.RowKit Fg Reg
attribute [local irreducible] Reg.wE Reg2.wT Reg.wN World.ownsRow

def t10 : List Int := [0, 0, 0, 0, 0, 0, 0, 5, 0, 2]
theorem fab_wf : ∀ k (h : k < [fab].length), [fab][k].wf := by
  intro k hk
  obtain rfl : k = 0 := by simpa using hk
  show ((0 : Int) ≤ 5 ∧ (5 : Int) ≤ 18446744073709551615) ∧ ((⟨#[97, 98]⟩ : ByteArray)).size ≤ 9223372036854775807
  decide +kernel
theorem fab_row (w : World) : RwV Fm.cells 2 ((w).alloc (.cells #[.int .u64 5, .string (⟨#[97, 98]⟩ : ByteArray)] 93)) (some ⟨w.heap.size, 0, none⟩) [fab] := by
  intro k hk
  obtain rfl : k = 0 := by simpa using hk
  refine ⟨w.heap.size, 0, rfl, by simp, ?_⟩
  intro j u hu
  show ((w).alloc (.cells #[.int .u64 5, .string (⟨#[97, 98]⟩ : ByteArray)] 93)).cell? _ = some u
  rcases j with _ | _ | j
  · obtain rfl : Value.int .u64 5 = u := by simpa [fab, Fm.cells] using hu
    simp [go_sem]
  · obtain rfl : Value.string (⟨#[97, 98]⟩ : ByteArray) = u := by simpa [fab, Fm.cells] using hu
    simp [go_sem]
  · simp [fab, Fm.cells] at hu
theorem fab_eq (w : World) : (Op.equalIn 10000 93 (.agg #[.int .u64 5, .string (⟨#[97, 98]⟩ : ByteArray)]) (.agg #[.int .u64 5, .string (⟨#[97, 98]⟩ : ByteArray)])).run Try.prog w = .ok true w := by kernel_rfl
theorem fab_enc (a : Option Addr) (cap : Nat) (w : World) (hR : RwV Fm.cells 2 w a [fab]) : Calls Try.prog 29 #[.slice a 1 cap] w fun ee w' => ee = .returned (.tuple #[.string (capS [fab]), .int .i64 0]) ∧ Below w.heap.size w w' := cenc_ok [fab] fab_wf (by decide +kernel) a cap w hR
theorem fab_dec (z : World) : Calls Try.prog 32 #[.string (capS [fab])] z (fun e w' => ∃ v, e = .returned (.tuple #[v, .int .i64 0]) ∧ w'.ownsRow z.heap.size 93 2 v 1 [.int .u64 5, .string (⟨#[97, 98]⟩ : ByteArray)] ∧ Below z.heap.size z w') := by
  have h := cdec_c (capS [fab]) (by decide +kernel) z
  rw [pdec_enc [fab] (by decide +kernel)] at h
  exact h
set_option maxHeartbeats 16000000 in
theorem one_c (w : World) : Calls Try.prog 28 #[] w fun ee w' => ee = .returned (.bool true) ∧ Below w.heap.size w w' := by
  have KE := fun W a cap h => fab_enc a cap W h
  have KD := fun z => fab_dec z
  have hS : ((⟨#[102, 108, 111, 103]⟩ : ByteArray) ++ strOf t10) ++ (⟨#[97, 98]⟩ : ByteArray) = capS [fab] := by decide +kernel
  obtain ⟨S, hSe⟩ : ∃ S, capS [fab] = S := ⟨_, rfl⟩
  rw [hSe] at KD hS
  simp only [hSe] at KE
  have hcv := fun (W : World) (b : Nat) (hb : b = W.heap.size) => conv_new t10 10 10 rfl W b hb
  simp only [t10, List.map_cons, List.map_nil] at hcv
  have ha1 := fun w => run_string_add_sum (P := Try.prog) (w := w) (⟨#[102, 108, 111, 103]⟩ : ByteArray) (strOf t10) (by decide +kernel)
  have ha2 := fun w => run_string_add_sum (P := Try.prog) (w := w) ((⟨#[102, 108, 111, 103]⟩ : ByteArray) ++ strOf t10) (⟨#[97, 98]⟩ : ByteArray) (by decide +kernel)
  rw [hS] at ha2
  rw [show ([0, 0, 0, 0, 0, 0, 0, 5, 0, 2] : List Int) = t10 from rfl] at hcv
  obtain ⟨X, hX⟩ : ∃ X, (⟨#[102, 108, 111, 103]⟩ : ByteArray) ++ strOf t10 = X := ⟨_, rfl⟩
  rw [hX] at ha1 ha2
  obtain ⟨T, hT⟩ : ∃ T, strOf t10 = T := ⟨_, rfl⟩
  rw [hT] at ha1 hcv
  clear hS hSe hX hT
  have heq := fab_eq
  have HR := Lib.hid (fab_row w)
  replace KE := Lib.hid (KE _ _ 1 (fab_row w))
  replace KD := Lib.hid KD
  have KO := Lib.hid (fun a cap w h => cop_ab a cap w h)
  go_enter Try.func28, Try.ntmps28
  go_wp2_with (first
    | (go_at_call 29; ((with_reducible refine KE.out.mono ?_); rintro e w1 ⟨rfl, hb1⟩; (have HR1 := Lib.hid (HR.out.below hb1)); (have hs1 := hb1.size)))
    | (go_at_call 32; ((with_reducible refine (KD.out _).mono ?_); rintro e w2 ⟨v4, rfl, hO4, hb2⟩; (have HR2 := Lib.hid (HR1.out.below hb2)); (have hs2 := hb2.size)))
    | (go_at_call 36; ((with_reducible refine (KO.out _ _ _ HR2.out).mono ?_); rintro e w3 ⟨v6, rfl, hO6, hb3⟩)))
  obtain ⟨b4, c4, rfl, hg4, hl4, hc4⟩ := row_cells hO4 (by omega)
  obtain ⟨b6, c6, rfl, hg6, hl6, hc6⟩ := row_cells hO6 (by omega)
  have f0 : w3.cell? ⟨b4, 0, none⟩ = some (.int .u64 5) := (hb3.cell (p := ⟨b4, 0, none⟩) hl4).trans (hc4 0 _ rfl)
  have f1 : w3.cell? ⟨b4, 1, none⟩ = some (.string (⟨#[97, 98]⟩ : ByteArray)) := (hb3.cell (p := ⟨b4, 1, none⟩) hl4).trans (hc4 1 _ rfl)
  have g0 : w3.cell? ⟨b6, 9, none⟩ = some (.int .u64 5) := hc6 9 _ rfl
  have g1 : w3.cell? ⟨b6, 14, none⟩ = some (.int .i64 2) := hc6 14 _ rfl
  obtain ⟨b, o, e, hb, q0, q1⟩ := fm_cells HR2.out 0 (by simp)
  obtain ⟨rfl, rfl⟩ : w.heap.size = b ∧ 0 = o := by simpa using e
  have l0 : w3.cell? ⟨w.heap.size, 0, none⟩ = some (.int .u64 5) := (hb3.cell (p := ⟨w.heap.size, 0, none⟩) hb).trans q0
  have l1 : w3.cell? ⟨w.heap.size, 1, none⟩ = some (.string (⟨#[97, 98]⟩ : ByteArray)) := (hb3.cell (p := ⟨w.heap.size, 1, none⟩) hb).trans q1
  have z1 : w.heap.size + 1 ≤ w1.heap.size := by have := hb1.size; simpa using this
  have z3 : w2.heap.size ≤ w3.heap.size := hb3.size
  have hA0 : Below w.heap.size w ((w).alloc (.cells #[.int .u64 5, .string (⟨#[97, 98]⟩ : ByteArray)] 93)) := (Below.refl _ _).alloc (Nat.le_refl _) _
  have hA1 : Below w.heap.size w w1 := hA0.trans (hb1.mono (by simp))
  have hA2 : Below w.heap.size w w2 := hA1.trans (hb2.mono (by omega))
  have hA3 : Below w.heap.size w w3 := hA2.trans (hb3.mono (by omega))
  have z5 : b4 < w3.heap.size := by omega
  have z6 : w.heap.size < w3.heap.size := by omega
  clear hb1 hb2 hb3 hO4 hO6 HR HR1 HR2 KE KD KO hA0 hA1 hA2 hc4 hc6 q0 q1 e hg4 hg6 hl4 hb
  obtain ⟨Cl, hCl⟩ : ∃ Cl : List Value → World → Prop, Cl = ((fun ps wz => ((wz).cell? ⟨b4, 0, none⟩ = some (.int .u64 5) ∧ (wz).cell? ⟨b4, 1, none⟩ = some (.string (⟨#[97, 98]⟩ : ByteArray)) ∧ b4 < (wz).heap.size) ∧ ((wz).cell? ⟨w.heap.size, 0, none⟩ = some (.int .u64 5) ∧ (wz).cell? ⟨w.heap.size, 1, none⟩ = some (.string (⟨#[97, 98]⟩ : ByteArray)) ∧ w.heap.size < (wz).heap.size) ∧ ((wz).cell? ⟨b6, 9, none⟩ = some (.int .u64 5) ∧ (wz).cell? ⟨b6, 14, none⟩ = some (.int .i64 2) ∧ b6 < (wz).heap.size) ∧ Below w.heap.size w wz ∧ (match ps with | [] => True | pz :: _ => (convert 43 9 pz).run Try.prog wz = .ok (.string T) wz))) := ⟨_, rfl⟩; have HCl := Lib.hid hCl; clear hCl; refine wp_region_eff [4] Cl (by kernel_rfl) (by kernel_rfl) (by rw [HCl.out]; (try simp only [List.nil_append, List.cons_append]); (try dsimp only); ((repeat' apply And.intro) <;> first | (simp [go_sem, *]; done) | omega | (repeat' (first | with_reducible exact Below.refl _ _ | with_reducible assumption | ((with_reducible refine Below.drew ?_)) | ((with_reducible refine below_drewN ?_ _)) | ((with_reducible refine Below.alloc ?_ ?_ _); rotate_left; focus (first | omega | (simp; done) | (simp; omega))) | ((with_reducible refine Below.setCell ?_ ?_ _); rotate_left; focus (first | omega | (simp; done) | (simp; omega))) | ((with_reducible refine Below.trans ?_ (Below.mono (by with_reducible assumption) ?_)); rotate_left; focus (first | omega | (simp; done) | (simp; omega))))))) ?_
  (repeat (first | (refine wE_skip (by rfl) ?_; simp only [Act.put, Nat.reduceAdd, List.setIfInBounds_toArray, List.set_cons_zero, List.set_cons_succ, List.nil_append, List.cons_append]) | (refine wE_open (by rfl) (by rfl) ?_; apply Exists.intro; refine ⟨fun vs wq hw => ?_, ?_⟩; (focus (rw [HCl.out] at hw; (try simp only [List.nil_append, List.cons_append] at hw); (try dsimp only at hw); go_split_ands; go_simp <;> first | with_reducible exact (rfl : Value.bool false = _) | with_reducible exact (rfl : Value.bool true = _) | ((try go_bits) <;> exact rfl))); simp only [Act.put, Nat.reduceAdd, List.setIfInBounds_toArray, List.set_cons_zero, List.set_cons_succ, List.nil_append, List.cons_append]) | (refine wE_seal (by rfl) (by rfl) (by kernel_rfl) ?_; apply Exists.intro; refine ⟨fun wq hw => ?_, ?_⟩; (focus (rw [HCl.out] at hw; (try simp only [List.nil_append, List.cons_append] at hw); (try dsimp only at hw); go_split_ands; go_simp <;> (try go_bits) <;> exact rfl)); simp only [Act.put, Nat.reduceAdd, List.setIfInBounds_toArray, List.set_cons_zero, List.set_cons_succ, List.nil_append, List.cons_append]) | (refine wE_seal (by rfl) (by rfl) (by kernel_rfl) ?_; apply Exists.intro; refine ⟨fun wq hw => ?_, ?_⟩; (focus (rw [HCl.out] at hw; (try simp only [List.nil_append, List.cons_append] at hw); (try dsimp only at hw); go_split_ands; go_simp; fail)); simp only [Act.put, Nat.reduceAdd, List.setIfInBounds_toArray, List.set_cons_zero, List.set_cons_succ, List.nil_append, List.cons_append]) | (refine wE_eff (by rfl) (by rfl) (fun wq hw => ?_) (fun u hu => ?_); (focus (rw [HCl.out] at hw; (try simp only [List.nil_append, List.cons_append] at hw); (try dsimp only at hw); go_split_ands; go_simp; rw [HCl.out]; (try simp only [List.nil_append, List.cons_append]); (try dsimp only); fail; ((repeat' apply And.intro) <;> first | (simp [go_sem, *]; done) | omega | (repeat' (first | with_reducible exact Below.refl _ _ | with_reducible assumption | ((with_reducible refine Below.drew ?_)) | ((with_reducible refine below_drewN ?_ _)) | ((with_reducible refine Below.alloc ?_ ?_ _); rotate_left; focus (first | omega | (simp; done) | (simp; omega))) | ((with_reducible refine Below.setCell ?_ ?_ _); rotate_left; focus (first | omega | (simp; done) | (simp; omega))) | ((with_reducible refine Below.trans ?_ (Below.mono (by with_reducible assumption) ?_)); rotate_left; focus (first | omega | (simp; done) | (simp; omega)))))))); clear hu; simp only [Act.put, Nat.reduceAdd, List.setIfInBounds_toArray, List.set_cons_zero, List.set_cons_succ, List.nil_append, List.cons_append])))
  refine wE_eff (by rfl) (by rfl) (fun wq hw => ?_) (fun u hu => ?_)
  focus (rw [HCl.out] at hw; (try simp only [List.nil_append, List.cons_append] at hw); (try dsimp only at hw); go_split_ands; go_simp; rw [HCl.out]; (try simp only [List.nil_append, List.cons_append]); (try dsimp only); (have hcq := hcv wq _ rfl); ((repeat' apply And.intro) <;> first | exact hcq | (simp [go_sem, *]; done) | omega | (repeat' (first | with_reducible exact Below.refl _ _ | with_reducible assumption | ((with_reducible refine Below.drew ?_)) | ((with_reducible refine below_drewN ?_ _)) | ((with_reducible refine Below.alloc ?_ ?_ _); rotate_left; focus (first | omega | (simp; done) | (simp; omega))) | ((with_reducible refine Below.setCell ?_ ?_ _); rotate_left; focus (first | omega | (simp; done) | (simp; omega))) | ((with_reducible refine Below.trans ?_ (Below.mono (by with_reducible assumption) ?_)); rotate_left; focus (first | omega | (simp; done) | (simp; omega)))))))
  clear hu
  simp only [Act.put, Nat.reduceAdd, List.setIfInBounds_toArray, List.set_cons_zero, List.set_cons_succ, List.nil_append, List.cons_append]
  (repeat (first | (refine wE_skip (by rfl) ?_; simp only [Act.put, Nat.reduceAdd, List.setIfInBounds_toArray, List.set_cons_zero, List.set_cons_succ, List.nil_append, List.cons_append]) | (refine wE_open (by rfl) (by rfl) ?_; apply Exists.intro; refine ⟨fun vs wq hw => ?_, ?_⟩; (focus (rw [HCl.out] at hw; (try simp only [List.nil_append, List.cons_append] at hw); (try dsimp only at hw); go_split_ands; go_simp <;> first | with_reducible exact (rfl : Value.bool false = _) | with_reducible exact (rfl : Value.bool true = _) | ((try go_bits) <;> exact rfl))); simp only [Act.put, Nat.reduceAdd, List.setIfInBounds_toArray, List.set_cons_zero, List.set_cons_succ, List.nil_append, List.cons_append]) | (refine wE_seal (by rfl) (by rfl) (by kernel_rfl) ?_; apply Exists.intro; refine ⟨fun wq hw => ?_, ?_⟩; (focus (rw [HCl.out] at hw; (try simp only [List.nil_append, List.cons_append] at hw); (try dsimp only at hw); go_split_ands; go_simp <;> (try go_bits) <;> exact rfl)); simp only [Act.put, Nat.reduceAdd, List.setIfInBounds_toArray, List.set_cons_zero, List.set_cons_succ, List.nil_append, List.cons_append]) | (refine wE_seal (by rfl) (by rfl) (by kernel_rfl) ?_; apply Exists.intro; refine ⟨fun wq hw => ?_, ?_⟩; (focus (rw [HCl.out] at hw; (try simp only [List.nil_append, List.cons_append] at hw); (try dsimp only at hw); go_split_ands; go_simp; fail)); simp only [Act.put, Nat.reduceAdd, List.setIfInBounds_toArray, List.set_cons_zero, List.set_cons_succ, List.nil_append, List.cons_append]) | (refine wE_eff (by rfl) (by rfl) (fun wq hw => ?_) (fun u hu => ?_); (focus (rw [HCl.out] at hw; (try simp only [List.nil_append, List.cons_append] at hw); (try dsimp only at hw); go_split_ands; go_simp; rw [HCl.out]; (try simp only [List.nil_append, List.cons_append]); (try dsimp only); fail; ((repeat' apply And.intro) <;> first | (simp [go_sem, *]; done) | omega | (repeat' (first | with_reducible exact Below.refl _ _ | with_reducible assumption | ((with_reducible refine Below.drew ?_)) | ((with_reducible refine below_drewN ?_ _)) | ((with_reducible refine Below.alloc ?_ ?_ _); rotate_left; focus (first | omega | (simp; done) | (simp; omega))) | ((with_reducible refine Below.setCell ?_ ?_ _); rotate_left; focus (first | omega | (simp; done) | (simp; omega))) | ((with_reducible refine Below.trans ?_ (Below.mono (by with_reducible assumption) ?_)); rotate_left; focus (first | omega | (simp; done) | (simp; omega)))))))); clear hu; simp only [Act.put, Nat.reduceAdd, List.setIfInBounds_toArray, List.set_cons_zero, List.set_cons_succ, List.nil_append, List.cons_append])))
  refine wE_nil ?_; intro w' hw; rw [HCl.out] at hw; (try simp only [List.nil_append, List.cons_append] at hw); (try dsimp only at hw); clear HCl
  go_split_ands
  go_wp2
  go_ret
  exact ⟨rfl, by assumption⟩
end Go.Proofs.Ytnfhiagbbmaobaa
