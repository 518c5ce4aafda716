/- conform.check, Burst, Conforms of any events. -/
import Derived.Test.YtdahjhokcjfioaaCf4
import Derived.Test.YtdahjhokcjfioaaRatioA
namespace Go.Proofs.Ytdahjhokcjfioaa
set_option linter.unusedVariables false
set_option linter.unusedSimpArgs false
set_option maxRecDepth 100000
open Go.RowKit Fg Reg
attribute [local irreducible] Reg.wE

theorem m3_start {w w0 : World} {cx : Nat} {c : Int} {dx : Nat} {v1 v2 v3 dv : Value} (t1 t2 t3 : TypeId) (hw0 : Below w0.heap.size w0 w) (hc : w.cell? ⟨cx, 0, none⟩ = some (.int .i64 c)) (hcl : cx < w.heap.size) (hd : w.cell? ⟨dx, 0, none⟩ = some dv) (hdl : dx < w.heap.size) :
    M3 w0 (((w.alloc (.cells #[v2] t2)).alloc (.cells #[v1] t1)).alloc (.cells #[v3] t3)) (w.heap.size + 1) w.heap.size (w.heap.size + 1 + 1) v1 v2 v3 cx c dx dv := by
  have h0 := hw0.size
  have hB : Below w.heap.size w (((w.alloc (.cells #[v2] t2)).alloc (.cells #[v1] t1)).alloc (.cells #[v3] t3)) := (((Below.refl w.heap.size w).alloc (Nat.le_refl _) _).alloc (by simp) _).alloc (by simp; omega) _
  unfold M3
  refine ⟨?_, ?_, ?_, ?_, ?_, ?_, (hB.cell (p := ⟨cx, 0, none⟩) hcl).trans hc, (hB.cell (p := ⟨dx, 0, none⟩) hdl).trans hd, ?_, ?_, ?_, ?_, ?_, ?_, ?_, ?_, ?_, ?_, ?_, ?_, ?_, ?_, ?_, ?_, ?_, ?_, ?_, ?_, hw0.trans (hB.mono h0)⟩ <;> first | omega | (simp [go_sem]; done) | (simp; omega)
theorem m3_startB {w w0 : World} {cx : Nat} {c : Int} {dx : Nat} {v1 v2 v3 dv : Value} (t1 t2 t3 : TypeId) (hw0 : Below w0.heap.size w0 w) (hc : w.cell? ⟨cx, 0, none⟩ = some (.int .i64 c)) (hcl : cx < w.heap.size) (hd : w.cell? ⟨dx, 0, none⟩ = some dv) (hdl : dx < w.heap.size) :
    M3 w0 (((w.alloc (.cells #[v1] t1)).alloc (.cells #[v3] t3)).alloc (.cells #[v2] t2)) w.heap.size (w.heap.size + 1 + 1) (w.heap.size + 1) v1 v2 v3 cx c dx dv := by
  have h0 := hw0.size
  have hB : Below w.heap.size w (((w.alloc (.cells #[v1] t1)).alloc (.cells #[v3] t3)).alloc (.cells #[v2] t2)) := (((Below.refl w.heap.size w).alloc (Nat.le_refl _) _).alloc (by simp) _).alloc (by simp; omega) _
  unfold M3
  refine ⟨?_, ?_, ?_, ?_, ?_, ?_, (hB.cell (p := ⟨cx, 0, none⟩) hcl).trans hc, (hB.cell (p := ⟨dx, 0, none⟩) hdl).trans hd, ?_, ?_, ?_, ?_, ?_, ?_, ?_, ?_, ?_, ?_, ?_, ?_, ?_, ?_, ?_, ?_, ?_, ?_, ?_, ?_, hw0.trans (hB.mono h0)⟩ <;> first | omega | (simp [go_sem]; done) | (simp; omega)
def chkE (c : Int) (es : List Ev) : Int := if (ckr c es).2.1 = 0 then (if 1099511627776 < (ckr c es).2.2 then 28 else 0) else (ckr c es).2.1
set_option maxHeartbeats 2000000 in
theorem check_c (es : List Ev) (ae : Option Addr) (ce : Nat) (cx : Nat) (c : Int) (hn : es.length ≤ 1000) (hwf : ∀ k (h : k < es.length), es[k].wf3) (w : World) (hc : w.cell? ⟨cx, 0, none⟩ = some (.int .i64 c)) (hcl : cx < w.heap.size) (hE : EvsV w ae es) :
    Calls Try.prog 133 #[.slice ae es.length ce, .func (.func 132) #[] #[.pointer (some ⟨cx, 0, none⟩)]] w fun ee w' => ee = .returned (.int .i64 (chkE c es)) ∧ Below w.heap.size w w' := by
  have kt := fun x1 x2 x3 z hM => thrc_c es ae ce x1 x2 x3 cx cx c (.int .i64 c) hn hwf w z hM hE
  have KS := Lib.hid (fun t1 t2 t3 => m3_start (v1 := .int .u64 0) (v2 := .int .i64 0) (v3 := .int .u64 0) (dx := cx) (dv := .int .i64 c) t1 t2 t3 (Below.refl w.heap.size w) hc hcl hc hcl)
  unfold chkE
  obtain ⟨L, E, B, hr⟩ : ∃ L E B, ckr c es = (L, E, B) := ⟨_, _, _, rfl⟩
  rw [hr] at kt ⊢
  dsimp only at kt ⊢
  have KT := Lib.hid kt
  clear kt hr hwf hE
  by_cases hE0 : E = 0
  · rw [if_pos hE0]
    subst hE0
    by_cases hB : 1099511627776 < B
    · rw [if_pos hB]
      have d1 : decide (1099511627776 < B) = true := by simpa using hB
      clear hB
      go_enter Try.func133, Try.ntmps133
      go_wp2_with (go_at_call 134; (with_reducible refine (KT.out _ _ _ _ (KS.out _ _ _)).mono ?_); rintro e w2 ⟨rfl, hM2⟩; obtain ⟨h2, l2⟩ := hM2.c2; obtain ⟨h3, l3⟩ := hM2.c3; have f2 := hM2.fz; have hB2 := hM2.bel; clear hM2)
      (go_ret; refine ⟨?_, ?_⟩; (focus (exact rfl)); ((repeat' (first | with_reducible exact Below.refl _ _ | with_reducible assumption | ((with_reducible refine Below.drew ?_)) | ((with_reducible refine below_drewN ?_ _)) | ((with_reducible refine Below.alloc ?_ ?_ _); rotate_left; focus (first | omega | (simp; done) | (simp; omega))) | ((with_reducible refine Below.setCell ?_ ?_ _); rotate_left; focus (first | omega | (simp; done) | (simp; omega))) | ((with_reducible refine Below.trans ?_ (Below.mono (by with_reducible assumption) ?_)); rotate_left; focus (first | omega | (simp; done) | (simp; omega))))); done))
    · rw [if_neg hB]
      have d1 : decide (1099511627776 < B) = false := by simpa using hB
      clear hB
      go_enter Try.func133, Try.ntmps133
      go_wp2_with (go_at_call 134; (with_reducible refine (KT.out _ _ _ _ (KS.out _ _ _)).mono ?_); rintro e w2 ⟨rfl, hM2⟩; obtain ⟨h2, l2⟩ := hM2.c2; obtain ⟨h3, l3⟩ := hM2.c3; have f2 := hM2.fz; have hB2 := hM2.bel; clear hM2)
      (go_ret; refine ⟨?_, ?_⟩; (focus (exact rfl)); ((repeat' (first | with_reducible exact Below.refl _ _ | with_reducible assumption | ((with_reducible refine Below.drew ?_)) | ((with_reducible refine below_drewN ?_ _)) | ((with_reducible refine Below.alloc ?_ ?_ _); rotate_left; focus (first | omega | (simp; done) | (simp; omega))) | ((with_reducible refine Below.setCell ?_ ?_ _); rotate_left; focus (first | omega | (simp; done) | (simp; omega))) | ((with_reducible refine Below.trans ?_ (Below.mono (by with_reducible assumption) ?_)); rotate_left; focus (first | omega | (simp; done) | (simp; omega))))); done))
  · rw [if_neg hE0]
    have d1 : (E == 0) = false := by simpa using hE0
    clear hE0
    go_enter Try.func133, Try.ntmps133
    go_wp2_with (go_at_call 134; (with_reducible refine (KT.out _ _ _ _ (KS.out _ _ _)).mono ?_); rintro e w2 ⟨rfl, hM2⟩; obtain ⟨h2, l2⟩ := hM2.c2; obtain ⟨h3, l3⟩ := hM2.c3; have f2 := hM2.fz; have hB2 := hM2.bel; clear hM2)
    (go_ret; refine ⟨?_, ?_⟩; (focus (exact rfl)); ((repeat' (first | with_reducible exact Below.refl _ _ | with_reducible assumption | ((with_reducible refine Below.drew ?_)) | ((with_reducible refine below_drewN ?_ _)) | ((with_reducible refine Below.alloc ?_ ?_ _); rotate_left; focus (first | omega | (simp; done) | (simp; omega))) | ((with_reducible refine Below.setCell ?_ ?_ _); rotate_left; focus (first | omega | (simp; done) | (simp; omega))) | ((with_reducible refine Below.trans ?_ (Below.mono (by with_reducible assumption) ?_)); rotate_left; focus (first | omega | (simp; done) | (simp; omega))))); done))
theorem burst_arg (s c : Int) (ae : Option Addr) (n ce : Nat) (h : s < 1 ∨ 4294967295 < s) (w : World) : Calls Try.prog 71 #[.int .u64 s, .slice ae n ce, .int .i64 c] w fun ee w' => ee = .returned (.tuple #[.int .u64 (0), .int .i64 (1)]) ∧ Below w.heap.size w w' := by
  rcases (by omega : s < 1 ∨ (1 ≤ s ∧ 4294967295 < s)) with h | ⟨h0, h⟩
  · have d1 : decide (s < 1) = true := by simpa using h
    clear h
    go_enter Try.func71, Try.ntmps71
    go_wp2
    (go_ret2; refine ⟨?_, ?_⟩; (focus (exact rfl)); ((repeat' (first | with_reducible exact Below.refl _ _ | with_reducible assumption | ((with_reducible refine Below.drew ?_)) | ((with_reducible refine below_drewN ?_ _)) | ((with_reducible refine Below.alloc ?_ ?_ _); rotate_left; focus (first | omega | (simp; done) | (simp; omega))) | ((with_reducible refine Below.setCell ?_ ?_ _); rotate_left; focus (first | omega | (simp; done) | (simp; omega))) | ((with_reducible refine Below.trans ?_ (Below.mono (by with_reducible assumption) ?_)); rotate_left; focus (first | omega | (simp; done) | (simp; omega))))); done))
  · have d1 : decide (s < 1) = false := by simp; omega
    have d2 : decide (4294967295 < s) = true := by simpa using h
    clear h h0
    go_enter Try.func71, Try.ntmps71
    go_wp2
    (go_ret2; refine ⟨?_, ?_⟩; (focus (exact rfl)); ((repeat' (first | with_reducible exact Below.refl _ _ | with_reducible assumption | ((with_reducible refine Below.drew ?_)) | ((with_reducible refine below_drewN ?_ _)) | ((with_reducible refine Below.alloc ?_ ?_ _); rotate_left; focus (first | omega | (simp; done) | (simp; omega))) | ((with_reducible refine Below.setCell ?_ ?_ _); rotate_left; focus (first | omega | (simp; done) | (simp; omega))) | ((with_reducible refine Below.trans ?_ (Below.mono (by with_reducible assumption) ?_)); rotate_left; focus (first | omega | (simp; done) | (simp; omega))))); done))
set_option maxHeartbeats 2000000 in
theorem burst_bad (s c : Int) (es : List Ev) (ae : Option Addr) (ce : Nat) (h0 : 1 ≤ s) (h1 : s ≤ 4294967295) (hn : es.length ≤ 1000) (hwf : ∀ k (h : k < es.length), es[k].wf3) (hE0 : ¬ chkE c es = 0) (w : World) (hE : EvsV w ae es) :
    Calls Try.prog 71 #[.int .u64 s, .slice ae es.length ce, .int .i64 c] w fun ee w' => ee = .returned (.tuple #[.int .u64 (0), .int .i64 (chkE c es)]) ∧ Below w.heap.size w w' := by
  have k1 := fun cx z h1 h2 (hB : Below w.heap.size w z) => check_c es ae ce cx c hn hwf z h1 h2 (hE.below hB)
  obtain ⟨E, hEE⟩ : ∃ E, chkE c es = E := ⟨_, rfl⟩
  rw [hEE] at k1 hE0 ⊢
  have K1 := Lib.hid k1
  have d0 : (E == 0) = false := by simpa using hE0
  have d1 : decide (s < 1) = false := by simp; omega
  have d2 : decide (4294967295 < s) = false := by simp; omega
  clear k1 hE0 hEE h0 h1 hwf hE
  go_enter Try.func71, Try.ntmps71
  go_wp2_with (go_at_call 133; ((with_reducible refine (K1.out _ _ (by go_simp) (by go_simp) (by repeat' (first | with_reducible exact Below.refl _ _ | with_reducible assumption | ((with_reducible refine Below.drew ?_)) | ((with_reducible refine below_drewN ?_ _)) | ((with_reducible refine Below.alloc ?_ ?_ _); rotate_left; focus (first | omega | (simp; done) | (simp; omega))) | ((with_reducible refine Below.setCell ?_ ?_ _); rotate_left; focus (first | omega | (simp; done) | (simp; omega))) | ((with_reducible refine Below.trans ?_ (Below.mono (by with_reducible assumption) ?_)); rotate_left; focus (first | omega | (simp; done) | (simp; omega)))))).mono ?_); rintro e w2 ⟨rfl, hbel⟩; obtain ⟨hcc, hff⟩ := bcell hbel; have hsz := hbel.size; (try simp at hsz); have hF : Below w.heap.size w w2 := (by ((repeat' apply And.intro) <;> first | (simp [go_sem, *]; done) | omega | (repeat' (first | with_reducible exact Below.refl _ _ | with_reducible assumption | ((with_reducible refine Below.drew ?_)) | ((with_reducible refine below_drewN ?_ _)) | ((with_reducible refine Below.alloc ?_ ?_ _); rotate_left; focus (first | omega | (simp; done) | (simp; omega))) | ((with_reducible refine Below.setCell ?_ ?_ _); rotate_left; focus (first | omega | (simp; done) | (simp; omega))) | ((with_reducible refine Below.trans ?_ (Below.mono (by with_reducible assumption) ?_)); rotate_left; focus (first | omega | (simp; done) | (simp; omega))))))); go_split_ands; clear hcc hff hbel))
  (go_ret2; refine ⟨?_, ?_⟩; (focus (exact rfl)); ((repeat' (first | with_reducible exact Below.refl _ _ | with_reducible assumption | ((with_reducible refine Below.drew ?_)) | ((with_reducible refine below_drewN ?_ _)) | ((with_reducible refine Below.alloc ?_ ?_ _); rotate_left; focus (first | omega | (simp; done) | (simp; omega))) | ((with_reducible refine Below.setCell ?_ ?_ _); rotate_left; focus (first | omega | (simp; done) | (simp; omega))) | ((with_reducible refine Below.trans ?_ (Below.mono (by with_reducible assumption) ?_)); rotate_left; focus (first | omega | (simp; done) | (simp; omega))))); done))
theorem cl_one (m : Int) : cl (m * 1) 65536 = cl m 65536 := by rw [Int.mul_one]
set_option maxHeartbeats 4000000 in
theorem burst_ok (s c : Int) (es : List Ev) (ae : Option Addr) (ce : Nat) (h0 : 1 ≤ s) (h1 : s ≤ 4294967295) (hn : es.length ≤ 1000) (hwf : ∀ k (h : k < es.length), es[k].wf3) (hE0 : chkE c es = 0)
    (hok : ∀ k (h : k < es.length), cp c es[k] = true → (0 ≤ (bur s c (es.take k)).1 ∧ (bur s c (es.take k)).1 + cb es[k] * 65536 ≤ 9223372036854775807) ∧ 0 ≤ (bur s c (es.take k)).2.1 ∧ (bur s c (es.take k)).2.1 ≤ es[k].tm)
    (hm : 0 ≤ (bur s c es).2.2 ∧ (bur s c es).2.2 ≤ 9223372036854775807) (w : World) (hE : EvsV w ae es) :
    Calls Try.prog 71 #[.int .u64 s, .slice ae es.length ce, .int .i64 c] w fun ee w' => ee = .returned (.tuple #[.int .u64 (cl (bur s c es).2.2 65536), .int .i64 (0)]) ∧ Below w.heap.size w w' := by
  have k1 := fun cx z h1 h2 (hB : Below w.heap.size w z) => check_c es ae ce cx c hn hwf z h1 h2 (hE.below hB)
  rw [hE0] at k1
  have k2 := fun x1 x2 x3 cx dx z hM => thrb_c es ae ce x1 x2 x3 cx dx c s hn hwf ⟨by omega, h1⟩ hok w z hM hE
  obtain ⟨L, T, M, hr⟩ : ∃ L T M, bur s c es = (L, T, M) := ⟨_, _, _, rfl⟩
  rw [hr] at k2 hm ⊢
  dsimp only at k2 hm ⊢
  have k3 := fun w => up_c M 1 65536 (show In M by unfold In; omega) (show In 1 by unfold In; omega) (show In 65536 by unfold In; omega) (by omega) w
  rw [cl_one] at k3
  have hcl : 0 ≤ cl M 65536 ∧ cl M 65536 ≤ 9223372036854775807 := by unfold cl; split <;> omega
  have hh : hi (cl M 65536) = 0 := by unfold hi; omega
  rw [nv_ok hh, ne_ok hh, show lo (cl M 65536) = cl M 65536 by unfold lo; omega] at k3
  obtain ⟨V, hV⟩ : ∃ V, cl M 65536 = V := ⟨_, rfl⟩
  rw [hV] at k3 ⊢
  have K1 := Lib.hid k1
  have K2 := Lib.hid k2
  have K3 := Lib.hid k3
  have KS := Lib.hid (fun (z : World) (t1 t2 t3 : TypeId) (hz : Below w.heap.size w z) a b e f => m3_startB (v1 := .int .u64 0) (v2 := .int .u64 0) (v3 := .int .u64 0) (w := z) (w0 := w) (cx := w.heap.size + 1) (dx := w.heap.size) (c := c) (dv := .int .u64 s) t1 t2 t3 hz a b e f)
  have d1 : decide (s < 1) = false := by simp; omega
  have d2 : decide (4294967295 < s) = false := by simp; omega
  clear k1 k2 k3 hE0 hr hm hcl hh hV h0 h1 hwf hE hok
  go_enter Try.func71, Try.ntmps71
  go_wp2_with (first
    | (go_at_call 133; ((with_reducible refine (K1.out _ _ (by go_simp) (by go_simp) (by repeat' (first | with_reducible exact Below.refl _ _ | with_reducible assumption | ((with_reducible refine Below.drew ?_)) | ((with_reducible refine below_drewN ?_ _)) | ((with_reducible refine Below.alloc ?_ ?_ _); rotate_left; focus (first | omega | (simp; done) | (simp; omega))) | ((with_reducible refine Below.setCell ?_ ?_ _); rotate_left; focus (first | omega | (simp; done) | (simp; omega))) | ((with_reducible refine Below.trans ?_ (Below.mono (by with_reducible assumption) ?_)); rotate_left; focus (first | omega | (simp; done) | (simp; omega)))))).mono ?_); rintro e w2 ⟨rfl, hbel⟩; obtain ⟨hcc, hff⟩ := bcell hbel; have hsz := hbel.size; (try simp at hsz); have hF : w2.cell? ⟨w.heap.size, 0, none⟩ = some (.int .u64 s) ∧ w2.cell? ⟨w.heap.size + 1, 0, none⟩ = some (.int .i64 c) ∧ w.heap.size + 1 < w2.heap.size ∧ w.heap.size < w2.heap.size ∧ Below w.heap.size w w2 := (by ((repeat' apply And.intro) <;> first | (simp [go_sem, *]; done) | omega | (repeat' (first | with_reducible exact Below.refl _ _ | with_reducible assumption | ((with_reducible refine Below.drew ?_)) | ((with_reducible refine below_drewN ?_ _)) | ((with_reducible refine Below.alloc ?_ ?_ _); rotate_left; focus (first | omega | (simp; done) | (simp; omega))) | ((with_reducible refine Below.setCell ?_ ?_ _); rotate_left; focus (first | omega | (simp; done) | (simp; omega))) | ((with_reducible refine Below.trans ?_ (Below.mono (by with_reducible assumption) ?_)); rotate_left; focus (first | omega | (simp; done) | (simp; omega))))))); go_split_ands; clear hcc hff hbel))
    | (go_at_call 134; (with_reducible refine (K2.out _ _ _ (w.heap.size + 1) w.heap.size _ (KS.out w2 _ _ _ (by assumption) (by assumption) (by assumption) (by assumption) (by assumption))).mono ?_); rintro e w3 ⟨rfl, hM2⟩; obtain ⟨h3, l3⟩ := hM2.c3; have hB2 := hM2.bel; clear hM2)
    | (go_at_call 139; ((with_reducible refine (K3.out _).mono ?_); rintro e w4 ⟨rfl, hbel⟩; obtain ⟨hcc, hff⟩ := bcell hbel; have hsz := hbel.size; (try simp at hsz); have hF : Below w.heap.size w w4 := (by ((repeat' apply And.intro) <;> first | (simp [go_sem, *]; done) | omega | (repeat' (first | with_reducible exact Below.refl _ _ | with_reducible assumption | ((with_reducible refine Below.drew ?_)) | ((with_reducible refine below_drewN ?_ _)) | ((with_reducible refine Below.alloc ?_ ?_ _); rotate_left; focus (first | omega | (simp; done) | (simp; omega))) | ((with_reducible refine Below.setCell ?_ ?_ _); rotate_left; focus (first | omega | (simp; done) | (simp; omega))) | ((with_reducible refine Below.trans ?_ (Below.mono (by with_reducible assumption) ?_)); rotate_left; focus (first | omega | (simp; done) | (simp; omega))))))); go_split_ands; clear hcc hff hbel)))
  (go_ret2; refine ⟨?_, ?_⟩; (focus (exact rfl)); ((repeat' (first | with_reducible exact Below.refl _ _ | with_reducible assumption | ((with_reducible refine Below.drew ?_)) | ((with_reducible refine below_drewN ?_ _)) | ((with_reducible refine Below.alloc ?_ ?_ _); rotate_left; focus (first | omega | (simp; done) | (simp; omega))) | ((with_reducible refine Below.setCell ?_ ?_ _); rotate_left; focus (first | omega | (simp; done) | (simp; omega))) | ((with_reducible refine Below.trans ?_ (Below.mono (by with_reducible assumption) ?_)); rotate_left; focus (first | omega | (simp; done) | (simp; omega))))); done))
end Go.Proofs.Ytdahjhokcjfioaa
