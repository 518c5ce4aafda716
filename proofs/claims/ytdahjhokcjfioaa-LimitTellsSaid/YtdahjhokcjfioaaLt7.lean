/- LimitTells: the law's own example. -/
import Derived.Test.YtdahjhokcjfioaaLt5
namespace Go.Proofs.Ytdahjhokcjfioaa
set_option linter.unusedVariables false
set_option linter.unusedSimpArgs false
set_option maxRecDepth 100000
open Go.RowKit Fg Reg

def ha4 : List Ev := [⟨0, true, false, 0, 0, 3, 0, 100, 0, 0, 0, 0⟩, ⟨0, true, false, 0, 0, 3, 0, 100, 0, 0, 0, 0⟩, ⟨0, false, false, 0, 0, 3, 0, 100, 0, 0, 0, 0⟩, ⟨0, false, false, 200, 0, 3, 0, 100, 0, 0, 0, 0⟩]
def hb4 : List Ev := [⟨0, true, false, 0, 0, 3, 0, 100, 0, 0, 0, 0⟩, ⟨0, true, false, 0, 0, 3, 0, 100, 0, 0, 0, 0⟩, ⟨0, false, false, 0, 0, 3, 0, 100, 0, 0, 0, 0⟩, ⟨0, false, false, 199, 0, 3, 0, 100, 0, 0, 0, 0⟩]
theorem ha_rows : (spsrun [3] ha4 ha4.length).rows = [⟨0, 200, 0, 3, false⟩] := rfl
theorem hb_rows : (spsrun [3] hb4 hb4.length).rows = [⟨0, 199, 0, 3, false⟩] := rfl
theorem ha_ans {p : Int} {no : Bool} (h : Ans 32768 0 32768 100 [3] ha4 (spsrun [3] ha4 ha4.length).rows p no) : no = false := by
  rw [ha_rows] at h
  refine (ans_one h (.inr ⟨rfl, rfl, fun a ha j => ?_⟩)).2
  rcases a with _ | a
  · change hb 32768 0 32768 100 [3] ha4 ⟨0, 200, 0, 3, false⟩ j = false
    clear h ha
    rcases j with _ | _ | _ | _ | j
    · decide +kernel
    · decide +kernel
    · decide +kernel
    · decide +kernel
    · unfold hb; rw [List.getElem?_eq_none (by simp [ha4])]
  · exact absurd ha (by simp)
theorem hb_ans {p : Int} {no : Bool} (h : Ans 32768 0 32768 100 [3] hb4 (spsrun [3] hb4 hb4.length).rows p no) : p = 3 ∧ no = true := by
  rw [hb_rows] at h
  refine ans_one h (.inl ⟨rfl, 3, rfl, 0, by simp, fun b hb' h => absurd h (Nat.not_lt_zero _), ?_, fun j hj => ?_⟩)
  · change hb 32768 0 32768 100 [3] hb4 ⟨0, 199, 0, 3, false⟩ 3 = true
    decide +kernel
  · change hb 32768 0 32768 100 [3] hb4 ⟨0, 199, 0, 3, false⟩ j = false
    clear h
    rcases j with _ | _ | _ | j
    · decide +kernel
    · decide +kernel
    · decide +kernel
    · omega
theorem ha_wf : ∀ k (h : k < ha4.length), ha4[k].wf3 := fun k h => by
  have hm : ∀ e ∈ ha4, e.wf3 := fun e he => by
    simp only [ha4, List.mem_cons, List.not_mem_nil, or_false] at he
    rcases he with rfl | rfl | rfl | rfl <;> exact ⟨by decide, by decide, by decide, by decide⟩
  exact hm _ (List.getElem_mem h)
theorem hb_wf : ∀ k (h : k < hb4.length), hb4[k].wf3 := fun k h => by
  have hm : ∀ e ∈ hb4, e.wf3 := fun e he => by
    simp only [hb4, List.mem_cons, List.not_mem_nil, or_false] at he
    rcases he with rfl | rfl | rfl | rfl <;> exact ⟨by decide, by decide, by decide, by decide⟩
  exact hm _ (List.getElem_mem h)
theorem kpt_out {c1 cd c2 lm : Int} {zs : List Int} {es : List Ev} {w w' : World} {ee : Ending} (h : Kpt c1 cd c2 lm zs es w ee w') : ∃ (p : Int) (no : Bool), ee = .returned (.bool (!no)) ∧ Ans c1 cd c2 lm zs es (spsrun zs es es.length).rows p no ∧ Below w.heap.size w w' := by
  unfold Kpt at h
  exact h
theorem hin : In 32768 ∧ In 0 := by unfold In; omega
theorem h_ka (a a2 : Option Addr) (c c4 : Nat) (z : World) (hE : EvsV z a ha4) (hZ : IntsV z a2 [3]) : Calls Try.prog 65 #[.agg #[.int .u64 (32768), .int .u64 (0), .int .u64 (32768)], .int .i64 100, .slice a 4 c, .slice a2 1 c4] z fun ee w' => ee = .returned (.bool true) ∧ Below z.heap.size z w' :=
  (kept_c 32768 0 32768 100 hin.1 hin.2 hin.1 (by omega) [3] ha4 a a2 c c4 (by decide) (by decide) ha_wf z hE hZ).mono fun ee w' h => by
    obtain ⟨p, no, he, hA, hb⟩ := kpt_out h
    obtain rfl := ha_ans hA
    exact ⟨he, hb⟩
theorem h_kb (a a2 : Option Addr) (c c4 : Nat) (z : World) (hE : EvsV z a hb4) (hZ : IntsV z a2 [3]) : Calls Try.prog 65 #[.agg #[.int .u64 (32768), .int .u64 (0), .int .u64 (32768)], .int .i64 100, .slice a 4 c, .slice a2 1 c4] z fun ee w' => ee = .returned (.bool false) ∧ Below z.heap.size z w' :=
  (kept_c 32768 0 32768 100 hin.1 hin.2 hin.1 (by omega) [3] hb4 a a2 c c4 (by decide) (by decide) hb_wf z hE hZ).mono fun ee w' h => by
    obtain ⟨p, no, he, hA, hb⟩ := kpt_out h
    obtain ⟨rfl, rfl⟩ := hb_ans hA
    exact ⟨he, hb⟩
theorem h_bb (a a2 : Option Addr) (c c4 : Nat) (z : World) (hE : EvsV z a hb4) (hZ : IntsV z a2 [3]) : Calls Try.prog 64 #[.agg #[.int .u64 (32768), .int .u64 (0), .int .u64 (32768)], .int .i64 100, .slice a 4 c, .slice a2 1 c4] z fun ee w' => ee = .returned (.tuple #[.int .i64 3, .bool true]) ∧ Below z.heap.size z w' :=
  (brk_c 32768 0 32768 100 hin.1 hin.2 hin.1 (by omega) [3] hb4 a a2 c c4 (by decide) (by decide) hb_wf z hE hZ).mono fun ee w' h => by
    obtain ⟨p, no, he, hA, hb⟩ := brk_out h
    obtain ⟨rfl, rfl⟩ := hb_ans hA
    exact ⟨he, hb⟩
/-- Both rows of events. -/
structure PQ34 (z : World) (A B : Option Addr) : Prop where
  l : EvsV z A ha4
  m : EvsV z B hb4
theorem PQ34.below {z z' : World} {A B : Option Addr} (h : PQ34 z A B) (hb : Below z.heap.size z z') : PQ34 z' A B := ⟨h.l.below hb, h.m.below hb⟩
theorem PQ34.alloc {z : World} {A B : Option Addr} (h : PQ34 z A B) (o : Obj) : PQ34 (z.alloc o) A B := h.below (Below.alloc (Below.refl _ _) (Nat.le_refl _) o)
theorem hl_alloc_at {w : World} {o : Obj} {b : Nat} (h : b = w.heap.size) : (w.alloc o).heap[b]? = some o := by subst h; exact heap_alloc_last w o
theorem ev_al {z : World} {a : Option Addr} {es : List Ev} (h : EvsV z a es) (o : Obj) : EvsV (z.alloc o) a es := h.below (Below.alloc (Below.refl _ _) (Nat.le_refl _) o)
theorem ints_b1 {w : World} {b : Nat} {n : Int} {t : TypeId} {fr : Nat × Nat} (hb : w.heap[b]? = some (.cells #[.int .i64 n] t fr)) : IntsV w (some ⟨b, 0, none⟩) [n] := ints_block [n] hb rfl
set_option maxHeartbeats 8000000 in
theorem half34_c (w : World) : Calls Try.prog 62 #[] w fun ee w' => ee = .returned (.bool true) ∧ Below w.heap.size w w' := by
  have K1 := Lib.hid h_ka
  have K2 := Lib.hid h_kb
  have K3 := Lib.hid h_bb
  go_enter Try.func62, Try.ntmps62
  go_wp2_with (first
    | (go_at_call 64; (with_reducible refine (K3.out _ _ _ _ _ (ev_al (evs_block hb4 (hl_alloc_at (by simp)) (by simp [hb4, Ev.cells])) _) (ints_b1 (hl_alloc_at (by simp)))).mono ?_); rintro ee w2 ⟨rfl, hbel⟩; have hP : PQ34 w2 (some ⟨w.heap.size + 1 + 1 + 1, 0, none⟩) (some ⟨w.heap.size + 1 + 1 + 1 + 1, 0, none⟩) := PQ34.below (PQ34.mk (ev_al (ev_al (evs_block ha4 (hl_alloc_at (by simp)) (by simp [ha4, Ev.cells])) _) _) (ev_al (evs_block hb4 (hl_alloc_at (by simp)) (by simp [hb4, Ev.cells])) _)) hbel; obtain ⟨hcc, hff⟩ := bcell hbel; have hsz := hbel.size; (try simp at hsz); have hF : (w2.cell? ⟨w.heap.size, 0, none⟩ = some (.int .u64 32768) ∧ w2.cell? ⟨w.heap.size, 1, none⟩ = some (.int .u64 0) ∧ w2.cell? ⟨w.heap.size, 2, none⟩ = some (.int .u64 32768) ∧ w.heap.size < w2.heap.size) ∧ Below w.heap.size w w2 := (by ((repeat' apply And.intro) <;> first | (simp [go_sem, *]; done) | omega | (repeat' (first | with_reducible exact Below.refl _ _ | with_reducible assumption | ((with_reducible refine Below.drew ?_)) | ((with_reducible refine below_drewN ?_ _)) | ((with_reducible refine Below.alloc ?_ ?_ _); rotate_left; focus (first | omega | (simp; done) | (simp; omega))) | ((with_reducible refine Below.setCell ?_ ?_ _); rotate_left; focus (first | omega | (simp; done) | (simp; omega))) | ((with_reducible refine Below.trans ?_ (Below.mono (by with_reducible assumption) ?_)); rotate_left; focus (first | omega | (simp; done) | (simp; omega))))))); go_split_ands; clear hcc hff hbel)
    | (go_at_call 65; (with_reducible refine (K1.out _ _ _ _ _ (PQ34.alloc hP _).l (ints_b1 (hl_alloc_at rfl))).mono ?_); rintro ee w3 ⟨rfl, hbel⟩; have hP := PQ34.below (PQ34.alloc hP _) hbel; obtain ⟨hcc, hff⟩ := bcell hbel; have hsz := hbel.size; (try simp at hsz); have hF : (w3.cell? ⟨w.heap.size, 0, none⟩ = some (.int .u64 32768) ∧ w3.cell? ⟨w.heap.size, 1, none⟩ = some (.int .u64 0) ∧ w3.cell? ⟨w.heap.size, 2, none⟩ = some (.int .u64 32768) ∧ w.heap.size < w3.heap.size) ∧ Below w.heap.size w w3 := (by ((repeat' apply And.intro) <;> first | (simp [go_sem, *]; done) | omega | (repeat' (first | with_reducible exact Below.refl _ _ | with_reducible assumption | ((with_reducible refine Below.drew ?_)) | ((with_reducible refine below_drewN ?_ _)) | ((with_reducible refine Below.alloc ?_ ?_ _); rotate_left; focus (first | omega | (simp; done) | (simp; omega))) | ((with_reducible refine Below.setCell ?_ ?_ _); rotate_left; focus (first | omega | (simp; done) | (simp; omega))) | ((with_reducible refine Below.trans ?_ (Below.mono (by with_reducible assumption) ?_)); rotate_left; focus (first | omega | (simp; done) | (simp; omega))))))); go_split_ands; clear hcc hff hbel)
    | (go_at_call 65; (with_reducible refine (K2.out _ _ _ _ _ (PQ34.alloc hP _).m (ints_b1 (hl_alloc_at rfl))).mono ?_); rintro ee w4 ⟨rfl, hbel⟩; have hF : Below w.heap.size w w4 := (by ((repeat' apply And.intro) <;> first | (simp [go_sem, *]; done) | omega | (repeat' (first | with_reducible exact Below.refl _ _ | with_reducible assumption | ((with_reducible refine Below.drew ?_)) | ((with_reducible refine below_drewN ?_ _)) | ((with_reducible refine Below.alloc ?_ ?_ _); rotate_left; focus (first | omega | (simp; done) | (simp; omega))) | ((with_reducible refine Below.setCell ?_ ?_ _); rotate_left; focus (first | omega | (simp; done) | (simp; omega))) | ((with_reducible refine Below.trans ?_ (Below.mono (by with_reducible assumption) ?_)); rotate_left; focus (first | omega | (simp; done) | (simp; omega))))))); go_split_ands; clear hbel))
  (go_ret; refine ⟨?_, ?_⟩; (focus (exact rfl)); ((repeat' (first | with_reducible exact Below.refl _ _ | with_reducible assumption | ((with_reducible refine Below.drew ?_)) | ((with_reducible refine below_drewN ?_ _)) | ((with_reducible refine Below.alloc ?_ ?_ _); rotate_left; focus (first | omega | (simp; done) | (simp; omega))) | ((with_reducible refine Below.setCell ?_ ?_ _); rotate_left; focus (first | omega | (simp; done) | (simp; omega))) | ((with_reducible refine Below.trans ?_ (Below.mono (by with_reducible assumption) ?_)); rotate_left; focus (first | omega | (simp; done) | (simp; omega))))); done))
end Go.Proofs.Ytdahjhokcjfioaa
