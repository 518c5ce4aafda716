import Derived.Test.YtfplniooncdjdaaRunRef
import Derived.Laws.AppendOwn
import Derived.Laws.OwnMore
namespace Go.Proofs.Ytfplniooncdjdaa
set_option linter.unusedVariables false
set_option linter.unusedSimpArgs false
set_option maxRecDepth 100000
open Go.RowKit Fg Reg

theorem suni_c (n : Int) (hn : In n) (w : World) : Calls Try.prog 42 #[.int .u64 n] w fun ee w' => ee = .returned (.agg #[.int .u64 (hi (n * 65536)), .int .u64 (lo (n * 65536))]) ∧ Below w.heap.size w w' := by
  have K1 := Lib.hid (mul_c n 65536 hn (by unfold In; omega))
  go_enter Try.func42, Try.ntmps42
  go_wp2_with (go_at_call 45; ((with_reducible refine (K1.out _).mono ?_); rintro e w1 ⟨rfl, hbel⟩; obtain ⟨hcc, hff⟩ := bcell hbel; have hsz := hbel.size; (try simp at hsz); have hF : (w1.cell? ⟨w.heap.size, 0, none⟩ = some (.int .u64 (0)) ∧ w1.cell? ⟨w.heap.size, 1, none⟩ = some (.int .u64 (0)) ∧ w1.frozen? ⟨w.heap.size, 0, none⟩ = false ∧ w1.frozen? ⟨w.heap.size, 1, none⟩ = false ∧ w.heap.size < w1.heap.size) ∧ Below w.heap.size w w1 := (by ((repeat' apply And.intro) <;> first | (simp [go_sem, *]; done) | omega | (repeat' (first | with_reducible exact Below.refl _ _ | with_reducible assumption | ((with_reducible refine Below.drew ?_)) | ((with_reducible refine below_drewN ?_ _)) | ((with_reducible refine Below.alloc ?_ ?_ _); rotate_left; focus (first | omega | (simp; done) | (simp; omega))) | ((with_reducible refine Below.setCell ?_ ?_ _); rotate_left; focus (first | omega | (simp; done) | (simp; omega))) | ((with_reducible refine Below.trans ?_ (Below.mono (by with_reducible assumption) ?_)); rotate_left; focus (first | omega | (simp; done) | (simp; omega))))))); go_split_ands; clear hcc hff hbel))
  refine bodyPost_ret (v := .agg #[.int .u64 (hi (n * 65536)), .int .u64 (lo (n * 65536))]) (by simp [results, Try.results42, go_sem, *]) rfl ⟨rfl, (by repeat' (first | with_reducible exact Below.refl _ _ | with_reducible assumption | ((with_reducible refine Below.drew ?_)) | ((with_reducible refine below_drewN ?_ _)) | ((with_reducible refine Below.alloc ?_ ?_ _); rotate_left; focus (first | omega | (simp; done) | (simp; omega))) | ((with_reducible refine Below.setCell ?_ ?_ _); rotate_left; focus (first | omega | (simp; done) | (simp; omega))) | ((with_reducible refine Below.trans ?_ (Below.mono (by with_reducible assumption) ?_)); rotate_left; focus (first | omega | (simp; done) | (simp; omega)))))⟩
def mx2 (a b : Int) : Int := if b > a then b else a
theorem run_mx2 (a b : Int) (w : World) : (Builtin.max_ #[22, 22] 22 #[.int .u64 a, .int .u64 b]).run Try.prog w = .ok (.int .u64 (mx2 a b)) w := by
  unfold mx2; simp [Builtin.max_, Builtin.max2]
/-- The greatest of a slice of three, or two. -/
theorem gre_2 (g cap : Nat) (a b : Int) (w : World) (h0 : w.cell? ⟨g, 0, none⟩ = some (.int .u64 a)) (h1 : w.cell? ⟨g, 1, none⟩ = some (.int .u64 b)) : Calls Try.prog 73 #[.slice (some ⟨g, 0, none⟩) 2 cap] w fun ee w' => ee = .returned (.int .u64 (mx2 (mx2 0 a) b)) ∧ Below w.heap.size w w' := by
  have hM := run_mx2
  go_enter Try.func73, Try.ntmps73
  go_wp2
  refine wp_loop_rounds 3 ?_
  iterate 2
    rw [rounds_succ]
    go_wp2
  rw [rounds_succ]
  go_wp2
  (go_ret; refine ⟨?_, ?_⟩; (focus (exact rfl)); ((repeat' (first | with_reducible exact Below.refl _ _ | with_reducible assumption | ((with_reducible refine Below.drew ?_)) | ((with_reducible refine below_drewN ?_ _)) | ((with_reducible refine Below.alloc ?_ ?_ _); rotate_left; focus (first | omega | (simp; done) | (simp; omega))) | ((with_reducible refine Below.setCell ?_ ?_ _); rotate_left; focus (first | omega | (simp; done) | (simp; omega))) | ((with_reducible refine Below.trans ?_ (Below.mono (by with_reducible assumption) ?_)); rotate_left; focus (first | omega | (simp; done) | (simp; omega))))); done))
theorem gre_3 (g cap : Nat) (a b c : Int) (w : World) (h0 : w.cell? ⟨g, 0, none⟩ = some (.int .u64 a)) (h1 : w.cell? ⟨g, 1, none⟩ = some (.int .u64 b)) (h2 : w.cell? ⟨g, 2, none⟩ = some (.int .u64 c)) : Calls Try.prog 73 #[.slice (some ⟨g, 0, none⟩) 3 cap] w fun ee w' => ee = .returned (.int .u64 (mx2 (mx2 (mx2 0 a) b) c)) ∧ Below w.heap.size w w' := by
  have hM := run_mx2
  go_enter Try.func73, Try.ntmps73
  go_wp2
  refine wp_loop_rounds 4 ?_
  iterate 3
    rw [rounds_succ]
    go_wp2
  rw [rounds_succ]
  go_wp2
  (go_ret; refine ⟨?_, ?_⟩; (focus (exact rfl)); ((repeat' (first | with_reducible exact Below.refl _ _ | with_reducible assumption | ((with_reducible refine Below.drew ?_)) | ((with_reducible refine below_drewN ?_ _)) | ((with_reducible refine Below.alloc ?_ ?_ _); rotate_left; focus (first | omega | (simp; done) | (simp; omega))) | ((with_reducible refine Below.setCell ?_ ?_ _); rotate_left; focus (first | omega | (simp; done) | (simp; omega))) | ((with_reducible refine Below.trans ?_ (Below.mono (by with_reducible assumption) ?_)); rotate_left; focus (first | omega | (simp; done) | (simp; omega))))); done))
theorem own_below {w w' : World} {base : Nat} {e : TypeId} {size n : Nat} {v : Value} {xs : List Value} (h : w.ownsRow base e size v n xs) (hb : Below w.heap.size w w') : w'.ownsRow base e size v n xs := by
  refine ⟨h.1, ?_⟩
  rcases h.2 with h' | ⟨g, cap, cur, h1, h2, h3, h4⟩
  · exact .inl h'
  · refine .inr ⟨g, cap, cur, h1, h2, ?_, h4⟩
    have hlt : g < w.heap.size := by
      rcases Nat.lt_or_ge g w.heap.size with h | h
      · exact h
      · rw [Array.getElem?_eq_none h] at h3; cases h3
    exact (hb.block g hlt).trans h3
theorem u64_info : (Try.prog.info? 22).map (fun i => (i.zero, i.size, i.bytes)) = some (some (.int .u64 0), 1, 8) := by kernel_rfl
set_option maxHeartbeats 2000000 in
theorem time_1 (x1 y1 m1 x2 y2 m2 n T : Int) (k1 : ∀ w, Calls Try.prog 42 #[.int .u64 n] w fun ee w' => ee = .returned (.agg #[.int .u64 (hi (n * 65536)), .int .u64 (lo (n * 65536))]) ∧ Below w.heap.size w w')
    (k2 : ∀ w, Calls Try.prog 72 #[.agg #[.int .u64 (x1), .int .u64 (hi y1), .int .u64 (lo y1), .int .u64 (m1), .int .u64 (x2), .int .u64 (hi y2), .int .u64 (lo y2), .int .u64 (m2), .bool false], .agg #[.int .u64 (hi (n * 65536)), .int .u64 (lo (n * 65536))]] w fun ee w' => ee = .returned (.int .u64 T) ∧ Below w.heap.size w w') (w : World) :
    Calls Try.prog 40 #[.agg #[.int .u64 (x1), .int .u64 (hi y1), .int .u64 (lo y1), .int .u64 (m1), .int .u64 (x2), .int .u64 (hi y2), .int .u64 (lo y2), .int .u64 (m2), .bool false], .int .u64 n] w fun ee w' => ee = .returned (.int .u64 (mx2 (mx2 0 T) x2)) ∧ Below w.heap.size w w' := by
  have K1 := Lib.hid k1
  have K2 := Lib.hid k2
  clear k1 k2
  obtain ⟨rb, hrb⟩ : ∃ rb : Bool, rb = false := ⟨_, rfl⟩
  go_enter Try.func40, Try.ntmps40
  go_wp2_with fail
  obtain ⟨Cl, hCl⟩ : ∃ Cl : List Value → World → Prop, Cl = ((fun ps w' => ((w'.cell? ⟨w.heap.size, 0, none⟩ = some (.int .u64 (x1)) ∧ w'.cell? ⟨w.heap.size, 1, none⟩ = some (.int .u64 (hi y1)) ∧ w'.cell? ⟨w.heap.size, 2, none⟩ = some (.int .u64 (lo y1)) ∧ w'.cell? ⟨w.heap.size, 3, none⟩ = some (.int .u64 (m1)) ∧ w'.cell? ⟨w.heap.size, 4, none⟩ = some (.int .u64 (x2)) ∧ w'.cell? ⟨w.heap.size, 5, none⟩ = some (.int .u64 (hi y2)) ∧ w'.cell? ⟨w.heap.size, 6, none⟩ = some (.int .u64 (lo y2)) ∧ w'.cell? ⟨w.heap.size, 7, none⟩ = some (.int .u64 (m2)) ∧ w'.cell? ⟨w.heap.size, 8, none⟩ = some (.bool false) ∧ w.heap.size < w'.heap.size) ∧ Below w.heap.size w w') ∧ (match ps with | [] => True | pz :: _ => w'.ownsRow (w.heap.size + 1) 22 1 pz 2 [.int .u64 T, .int .u64 x2]))) := ⟨_, rfl⟩; have HCl := Lib.hid hCl; clear hCl; refine wp_region_eff [7] Cl (by kernel_rfl) (by kernel_rfl) (by rw [HCl.out]; (try simp only [List.nil_append, List.cons_append]); (try dsimp only); ((repeat' apply And.intro) <;> first | (simp [go_sem, *]; done) | omega | (repeat' (first | with_reducible exact Below.refl _ _ | with_reducible assumption | ((with_reducible refine Below.drew ?_)) | ((with_reducible refine below_drewN ?_ _)) | ((with_reducible refine Below.alloc ?_ ?_ _); rotate_left; focus (first | omega | (simp; done) | (simp; omega))) | ((with_reducible refine Below.setCell ?_ ?_ _); rotate_left; focus (first | omega | (simp; done) | (simp; omega))) | ((with_reducible refine Below.trans ?_ (Below.mono (by with_reducible assumption) ?_)); rotate_left; focus (first | omega | (simp; done) | (simp; omega))))))) ?_
  (repeat (first | (refine wE_skip (by rfl) ?_; simp only [Act.put, Nat.reduceAdd, List.setIfInBounds_toArray, List.set_cons_zero, List.set_cons_succ, List.nil_append, List.cons_append]) | (refine wE_open (by rfl) (by rfl) ?_; apply Exists.intro; refine ⟨fun vs wq hw => ?_, ?_⟩; (focus (rw [HCl.out] at hw; (try simp only [List.nil_append, List.cons_append] at hw); (try dsimp only at hw); go_split_ands; go_simp <;> first | with_reducible exact (rfl : Value.bool false = _) | with_reducible exact (rfl : Value.bool true = _) | ((try go_bits) <;> exact rfl))); simp only [Act.put, Nat.reduceAdd, List.setIfInBounds_toArray, List.set_cons_zero, List.set_cons_succ, List.nil_append, List.cons_append]) | (refine wE_open (by rfl) (by rfl) ?_; apply Exists.intro; refine ⟨fun vs wq hw => ?_, ?_⟩; (focus (rw [HCl.out] at hw; (try simp only [List.nil_append, List.cons_append] at hw); (try dsimp only at hw); obtain ⟨hw1, hw2⟩ := hw; go_split_ands; go_simp; (first | (go_at_call 42; ((with_reducible refine (K1.out _).mono ?_); rintro e w' ⟨rfl, hbel⟩; obtain ⟨hcc, hff⟩ := bcell hbel; have hsz := hbel.size; (try simp at hsz); refine ⟨rfl, ?_⟩; rw [HCl.out]; (try simp only [List.nil_append, List.cons_append]); (try dsimp only); refine ⟨(by ((repeat' apply And.intro) <;> first | (simp [go_sem, *]; done) | omega | (repeat' (first | with_reducible exact Below.refl _ _ | with_reducible assumption | ((with_reducible refine Below.drew ?_)) | ((with_reducible refine below_drewN ?_ _)) | ((with_reducible refine Below.alloc ?_ ?_ _); rotate_left; focus (first | omega | (simp; done) | (simp; omega))) | ((with_reducible refine Below.setCell ?_ ?_ _); rotate_left; focus (first | omega | (simp; done) | (simp; omega))) | ((with_reducible refine Below.trans ?_ (Below.mono (by with_reducible assumption) ?_)); rotate_left; focus (first | omega | (simp; done) | (simp; omega))))))), ?_⟩; (rcases vs with _ | ⟨p1, vs⟩ <;> first | exact trivial | exact own_below hw2 hbel))) | (go_at_call 72; ((with_reducible refine (K2.out _).mono ?_); rintro e w' ⟨rfl, hbel⟩; obtain ⟨hcc, hff⟩ := bcell hbel; have hsz := hbel.size; (try simp at hsz); refine ⟨rfl, ?_⟩; rw [HCl.out]; (try simp only [List.nil_append, List.cons_append]); (try dsimp only); refine ⟨(by ((repeat' apply And.intro) <;> first | (simp [go_sem, *]; done) | omega | (repeat' (first | with_reducible exact Below.refl _ _ | with_reducible assumption | ((with_reducible refine Below.drew ?_)) | ((with_reducible refine below_drewN ?_ _)) | ((with_reducible refine Below.alloc ?_ ?_ _); rotate_left; focus (first | omega | (simp; done) | (simp; omega))) | ((with_reducible refine Below.setCell ?_ ?_ _); rotate_left; focus (first | omega | (simp; done) | (simp; omega))) | ((with_reducible refine Below.trans ?_ (Below.mono (by with_reducible assumption) ?_)); rotate_left; focus (first | omega | (simp; done) | (simp; omega))))))), ?_⟩; (rcases vs with _ | ⟨p1, vs⟩ <;> first | exact trivial | exact own_below hw2 hbel)))))); simp only [Act.put, Nat.reduceAdd, List.setIfInBounds_toArray, List.set_cons_zero, List.set_cons_succ, List.nil_append, List.cons_append])))
  refine wE_eff (by rfl) (by rfl) (fun wq hw => ?_) (fun u hu => ?_)
  · rw [HCl.out] at hw; (try simp only [List.nil_append, List.cons_append] at hw); (try dsimp only at hw)
    go_split_ands
    go_simp
    rw [HCl.out]; (try simp only [List.nil_append, List.cons_append]); (try dsimp only)
    refine ⟨by ((repeat' apply And.intro) <;> first | (simp [go_sem, *]; done) | omega | (repeat' (first | with_reducible exact Below.refl _ _ | with_reducible assumption | ((with_reducible refine Below.drew ?_)) | ((with_reducible refine below_drewN ?_ _)) | ((with_reducible refine Below.alloc ?_ ?_ _); rotate_left; focus (first | omega | (simp; done) | (simp; omega))) | ((with_reducible refine Below.setCell ?_ ?_ _); rotate_left; focus (first | omega | (simp; done) | (simp; omega))) | ((with_reducible refine Below.trans ?_ (Below.mono (by with_reducible assumption) ?_)); rotate_left; focus (first | omega | (simp; done) | (simp; omega)))))), rfl, .inr ⟨wq.heap.size, 2, #[Value.int IntKind.u64 T, Value.int IntKind.u64 x2], rfl, ?_, heap_alloc_new wq _, by omega, by unfold maxLen; omega, rfl, rfl⟩⟩
    omega
  clear hu
  simp only [Act.put, Nat.reduceAdd, List.setIfInBounds_toArray, List.set_cons_zero, List.set_cons_succ, List.nil_append, List.cons_append]
  (repeat (first | (refine wE_skip (by rfl) ?_; simp only [Act.put, Nat.reduceAdd, List.setIfInBounds_toArray, List.set_cons_zero, List.set_cons_succ, List.nil_append, List.cons_append]) | (refine wE_open (by rfl) (by rfl) ?_; apply Exists.intro; refine ⟨fun vs wq hw => ?_, ?_⟩; (focus (rw [HCl.out] at hw; (try simp only [List.nil_append, List.cons_append] at hw); (try dsimp only at hw); go_split_ands; go_simp <;> first | with_reducible exact (rfl : Value.bool false = _) | with_reducible exact (rfl : Value.bool true = _) | ((try go_bits) <;> exact rfl))); simp only [Act.put, Nat.reduceAdd, List.setIfInBounds_toArray, List.set_cons_zero, List.set_cons_succ, List.nil_append, List.cons_append])))
  refine wE_nil ?_
  intro w' hw
  rw [HCl.out] at hw; (try simp only [List.nil_append, List.cons_append] at hw); (try dsimp only at hw)
  clear HCl
  obtain ⟨hbase, hown⟩ := hw
  have HW := Lib.hid hown
  obtain ⟨_, hform⟩ := hown
  obtain ⟨g, cap, cur, rfl, hg, hh, _, _, _, _⟩ : ∃ g cap cur, u = .slice (some ⟨g, 0, none⟩) 2 cap ∧ w.heap.size + 1 ≤ g ∧ w'.heap[g]? = some (.cells cur 22 (0, 0)) ∧ 2 ≤ cap ∧ cap ≤ maxLen ∧ cur.size = cap * 1 ∧ cur.toList.take (2 * 1) = [.int .u64 T, .int .u64 x2] := by
    rcases hform with ⟨_, h⟩ | h
    · cases h
    · exact h
  have g0 : w'.cell? ⟨g, 0, none⟩ = some (.int .u64 T) := HW.out.cells (g := g) rfl 0 _ rfl
  have g1 : w'.cell? ⟨g, 1, none⟩ = some (.int .u64 x2) := HW.out.cells (g := g) rfl 1 _ rfl
  clear hform
  go_split_ands
  clear HW
  go_wp2_with (go_at_call 73; ((with_reducible refine (gre_2 g cap T x2 _ g0 g1).mono ?_); rintro e w2 ⟨rfl, hbel⟩; obtain ⟨hcc, hff⟩ := bcell hbel; have hsz := hbel.size; (try simp at hsz); have hF : Below w.heap.size w w2 := (by ((repeat' apply And.intro) <;> first | (simp [go_sem, *]; done) | omega | (repeat' (first | with_reducible exact Below.refl _ _ | with_reducible assumption | ((with_reducible refine Below.drew ?_)) | ((with_reducible refine below_drewN ?_ _)) | ((with_reducible refine Below.alloc ?_ ?_ _); rotate_left; focus (first | omega | (simp; done) | (simp; omega))) | ((with_reducible refine Below.setCell ?_ ?_ _); rotate_left; focus (first | omega | (simp; done) | (simp; omega))) | ((with_reducible refine Below.trans ?_ (Below.mono (by with_reducible assumption) ?_)); rotate_left; focus (first | omega | (simp; done) | (simp; omega))))))); go_split_ands; clear hcc hff hbel))
  (go_ret; refine ⟨?_, ?_⟩; (focus (exact rfl)); ((repeat' (first | with_reducible exact Below.refl _ _ | with_reducible assumption | ((with_reducible refine Below.drew ?_)) | ((with_reducible refine below_drewN ?_ _)) | ((with_reducible refine Below.alloc ?_ ?_ _); rotate_left; focus (first | omega | (simp; done) | (simp; omega))) | ((with_reducible refine Below.setCell ?_ ?_ _); rotate_left; focus (first | omega | (simp; done) | (simp; omega))) | ((with_reducible refine Below.trans ?_ (Below.mono (by with_reducible assumption) ?_)); rotate_left; focus (first | omega | (simp; done) | (simp; omega))))); done))
set_option maxHeartbeats 2000000 in
theorem time_2 (x1 y1 m1 x2 y2 m2 n T : Int) (k1 : ∀ w, Calls Try.prog 42 #[.int .u64 n] w fun ee w' => ee = .returned (.agg #[.int .u64 (hi (n * 65536)), .int .u64 (lo (n * 65536))]) ∧ Below w.heap.size w w')
    (k2 : ∀ w, Calls Try.prog 72 #[.agg #[.int .u64 (x1), .int .u64 (hi y1), .int .u64 (lo y1), .int .u64 (m1), .int .u64 (x2), .int .u64 (hi y2), .int .u64 (lo y2), .int .u64 (m2), .bool true], .agg #[.int .u64 (hi (n * 65536)), .int .u64 (lo (n * 65536))]] w fun ee w' => ee = .returned (.int .u64 T) ∧ Below w.heap.size w w') (w : World) :
    Calls Try.prog 40 #[.agg #[.int .u64 (x1), .int .u64 (hi y1), .int .u64 (lo y1), .int .u64 (m1), .int .u64 (x2), .int .u64 (hi y2), .int .u64 (lo y2), .int .u64 (m2), .bool true], .int .u64 n] w fun ee w' => ee = .returned (.int .u64 (mx2 (mx2 (mx2 0 T) x2) x1)) ∧ Below w.heap.size w w' := by
  have K1 := Lib.hid k1
  have K2 := Lib.hid k2
  clear k1 k2
  obtain ⟨rb, hrb⟩ : ∃ rb : Bool, rb = true := ⟨_, rfl⟩
  go_enter Try.func40, Try.ntmps40
  go_wp2_with fail
  obtain ⟨Cl, hCl⟩ : ∃ Cl : List Value → World → Prop, Cl = ((fun ps w' => ((w'.cell? ⟨w.heap.size, 0, none⟩ = some (.int .u64 (x1)) ∧ w'.cell? ⟨w.heap.size, 1, none⟩ = some (.int .u64 (hi y1)) ∧ w'.cell? ⟨w.heap.size, 2, none⟩ = some (.int .u64 (lo y1)) ∧ w'.cell? ⟨w.heap.size, 3, none⟩ = some (.int .u64 (m1)) ∧ w'.cell? ⟨w.heap.size, 4, none⟩ = some (.int .u64 (x2)) ∧ w'.cell? ⟨w.heap.size, 5, none⟩ = some (.int .u64 (hi y2)) ∧ w'.cell? ⟨w.heap.size, 6, none⟩ = some (.int .u64 (lo y2)) ∧ w'.cell? ⟨w.heap.size, 7, none⟩ = some (.int .u64 (m2)) ∧ w'.cell? ⟨w.heap.size, 8, none⟩ = some (.bool true) ∧ w.heap.size < w'.heap.size) ∧ Below w.heap.size w w') ∧ (match ps with | [] => True | pz :: _ => w'.ownsRow (w.heap.size + 1) 22 1 pz 2 [.int .u64 T, .int .u64 x2]))) := ⟨_, rfl⟩; have HCl := Lib.hid hCl; clear hCl; refine wp_region_eff [7] Cl (by kernel_rfl) (by kernel_rfl) (by rw [HCl.out]; (try simp only [List.nil_append, List.cons_append]); (try dsimp only); ((repeat' apply And.intro) <;> first | (simp [go_sem, *]; done) | omega | (repeat' (first | with_reducible exact Below.refl _ _ | with_reducible assumption | ((with_reducible refine Below.drew ?_)) | ((with_reducible refine below_drewN ?_ _)) | ((with_reducible refine Below.alloc ?_ ?_ _); rotate_left; focus (first | omega | (simp; done) | (simp; omega))) | ((with_reducible refine Below.setCell ?_ ?_ _); rotate_left; focus (first | omega | (simp; done) | (simp; omega))) | ((with_reducible refine Below.trans ?_ (Below.mono (by with_reducible assumption) ?_)); rotate_left; focus (first | omega | (simp; done) | (simp; omega))))))) ?_
  (repeat (first | (refine wE_skip (by rfl) ?_; simp only [Act.put, Nat.reduceAdd, List.setIfInBounds_toArray, List.set_cons_zero, List.set_cons_succ, List.nil_append, List.cons_append]) | (refine wE_open (by rfl) (by rfl) ?_; apply Exists.intro; refine ⟨fun vs wq hw => ?_, ?_⟩; (focus (rw [HCl.out] at hw; (try simp only [List.nil_append, List.cons_append] at hw); (try dsimp only at hw); go_split_ands; go_simp <;> first | with_reducible exact (rfl : Value.bool false = _) | with_reducible exact (rfl : Value.bool true = _) | ((try go_bits) <;> exact rfl))); simp only [Act.put, Nat.reduceAdd, List.setIfInBounds_toArray, List.set_cons_zero, List.set_cons_succ, List.nil_append, List.cons_append]) | (refine wE_open (by rfl) (by rfl) ?_; apply Exists.intro; refine ⟨fun vs wq hw => ?_, ?_⟩; (focus (rw [HCl.out] at hw; (try simp only [List.nil_append, List.cons_append] at hw); (try dsimp only at hw); obtain ⟨hw1, hw2⟩ := hw; go_split_ands; go_simp; (first | (go_at_call 42; ((with_reducible refine (K1.out _).mono ?_); rintro e w' ⟨rfl, hbel⟩; obtain ⟨hcc, hff⟩ := bcell hbel; have hsz := hbel.size; (try simp at hsz); refine ⟨rfl, ?_⟩; rw [HCl.out]; (try simp only [List.nil_append, List.cons_append]); (try dsimp only); refine ⟨(by ((repeat' apply And.intro) <;> first | (simp [go_sem, *]; done) | omega | (repeat' (first | with_reducible exact Below.refl _ _ | with_reducible assumption | ((with_reducible refine Below.drew ?_)) | ((with_reducible refine below_drewN ?_ _)) | ((with_reducible refine Below.alloc ?_ ?_ _); rotate_left; focus (first | omega | (simp; done) | (simp; omega))) | ((with_reducible refine Below.setCell ?_ ?_ _); rotate_left; focus (first | omega | (simp; done) | (simp; omega))) | ((with_reducible refine Below.trans ?_ (Below.mono (by with_reducible assumption) ?_)); rotate_left; focus (first | omega | (simp; done) | (simp; omega))))))), ?_⟩; (rcases vs with _ | ⟨p1, vs⟩ <;> first | exact trivial | exact own_below hw2 hbel))) | (go_at_call 72; ((with_reducible refine (K2.out _).mono ?_); rintro e w' ⟨rfl, hbel⟩; obtain ⟨hcc, hff⟩ := bcell hbel; have hsz := hbel.size; (try simp at hsz); refine ⟨rfl, ?_⟩; rw [HCl.out]; (try simp only [List.nil_append, List.cons_append]); (try dsimp only); refine ⟨(by ((repeat' apply And.intro) <;> first | (simp [go_sem, *]; done) | omega | (repeat' (first | with_reducible exact Below.refl _ _ | with_reducible assumption | ((with_reducible refine Below.drew ?_)) | ((with_reducible refine below_drewN ?_ _)) | ((with_reducible refine Below.alloc ?_ ?_ _); rotate_left; focus (first | omega | (simp; done) | (simp; omega))) | ((with_reducible refine Below.setCell ?_ ?_ _); rotate_left; focus (first | omega | (simp; done) | (simp; omega))) | ((with_reducible refine Below.trans ?_ (Below.mono (by with_reducible assumption) ?_)); rotate_left; focus (first | omega | (simp; done) | (simp; omega))))))), ?_⟩; (rcases vs with _ | ⟨p1, vs⟩ <;> first | exact trivial | exact own_below hw2 hbel)))))); simp only [Act.put, Nat.reduceAdd, List.setIfInBounds_toArray, List.set_cons_zero, List.set_cons_succ, List.nil_append, List.cons_append])))
  refine wE_eff (by rfl) (by rfl) (fun wq hw => ?_) (fun u hu => ?_)
  · rw [HCl.out] at hw; (try simp only [List.nil_append, List.cons_append] at hw); (try dsimp only at hw)
    go_split_ands
    go_simp
    rw [HCl.out]; (try simp only [List.nil_append, List.cons_append]); (try dsimp only)
    refine ⟨by ((repeat' apply And.intro) <;> first | (simp [go_sem, *]; done) | omega | (repeat' (first | with_reducible exact Below.refl _ _ | with_reducible assumption | ((with_reducible refine Below.drew ?_)) | ((with_reducible refine below_drewN ?_ _)) | ((with_reducible refine Below.alloc ?_ ?_ _); rotate_left; focus (first | omega | (simp; done) | (simp; omega))) | ((with_reducible refine Below.setCell ?_ ?_ _); rotate_left; focus (first | omega | (simp; done) | (simp; omega))) | ((with_reducible refine Below.trans ?_ (Below.mono (by with_reducible assumption) ?_)); rotate_left; focus (first | omega | (simp; done) | (simp; omega)))))), rfl, .inr ⟨wq.heap.size, 2, #[Value.int IntKind.u64 T, Value.int IntKind.u64 x2], rfl, ?_, heap_alloc_new wq _, by omega, by unfold maxLen; omega, rfl, rfl⟩⟩
    omega
  clear hu
  simp only [Act.put, Nat.reduceAdd, List.setIfInBounds_toArray, List.set_cons_zero, List.set_cons_succ, List.nil_append, List.cons_append]
  (repeat (first | (refine wE_skip (by rfl) ?_; simp only [Act.put, Nat.reduceAdd, List.setIfInBounds_toArray, List.set_cons_zero, List.set_cons_succ, List.nil_append, List.cons_append]) | (refine wE_open (by rfl) (by rfl) ?_; apply Exists.intro; refine ⟨fun vs wq hw => ?_, ?_⟩; (focus (rw [HCl.out] at hw; (try simp only [List.nil_append, List.cons_append] at hw); (try dsimp only at hw); go_split_ands; go_simp <;> first | with_reducible exact (rfl : Value.bool false = _) | with_reducible exact (rfl : Value.bool true = _) | ((try go_bits) <;> exact rfl))); simp only [Act.put, Nat.reduceAdd, List.setIfInBounds_toArray, List.set_cons_zero, List.set_cons_succ, List.nil_append, List.cons_append])))
  refine wE_nil ?_
  intro w' hw
  rw [HCl.out] at hw; (try simp only [List.nil_append, List.cons_append] at hw); (try dsimp only at hw)
  clear HCl
  obtain ⟨hbase, hown⟩ := hw
  have HW := Lib.hid hown
  obtain ⟨_, hform⟩ := hown
  obtain ⟨g, cap, cur, rfl, hg, hh, hcp, hcm, hcs, hct⟩ : ∃ g cap cur, u = .slice (some ⟨g, 0, none⟩) 2 cap ∧ w.heap.size + 1 ≤ g ∧ w'.heap[g]? = some (.cells cur 22 (0, 0)) ∧ 2 ≤ cap ∧ cap ≤ maxLen ∧ cur.size = cap * 1 ∧ cur.toList.take (2 * 1) = [.int .u64 T, .int .u64 x2] := by
    rcases hform with ⟨_, h⟩ | h
    · cases h
    · exact h
  have g0 : w'.cell? ⟨g, 0, none⟩ = some (.int .u64 T) := HW.out.cells (g := g) rfl 0 _ rfl
  have g1 : w'.cell? ⟨g, 1, none⟩ = some (.int .u64 x2) := HW.out.cells (g := g) rfl 1 _ rfl
  have HB := Lib.hid hbase.2
  clear hform
  go_split_ands
  clear hcs hct
  obtain ⟨ie, HI0, HZ0, HZ1, HZ2⟩ := info_parts u64_info
  go_wp2_with (at_builtin; refine wpList_append_own _ rfl _ _ 59 rfl (w.heap.size + 1) 22 ie (.int .u64 0) 1 8 Try.underlying59 HI0 HZ0 HZ1 HZ2 rfl (by decide) _ 2 [.int .u64 T, .int .u64 x2] rfl (HW.out.alloc _) ⟨w'.heap.size, 0, none⟩ 1 1 [.int .u64 x1] rfl rfl ?c1 ?c2 ?c3 ?c4 ?c5 ?_)
  case c1 =>
    intro j u hu
    rcases j with _ | j
    · simp only [List.getElem?_cons_zero, Option.some.injEq] at hu
      subst hu
      simp [Addr.add, go_sem]
    · simp at hu
  case c2 =>
    intro u hu
    simp only [List.mem_singleton] at hu
    subst hu
    rfl
  case c3 => unfold maxLen; omega
  case c4 => omega
  case c5 =>
    have := HB.out.size
    simp
    omega
  intro v' w1 hown' hgrow _
  have hB1 : Below w.heap.size w w1 := by
    have h1 := (HB.out.alloc (Nat.le_trans (Nat.le_refl _) HB.out.size) (Obj.cells #[Value.int IntKind.u64 x1] 22))
    refine ⟨hgrow.os.trans h1.os, hgrow.tape.trans h1.tape, hgrow.output.trans h1.output, Nat.le_trans h1.size hgrow.size, fun k hk => ?_⟩
    rw [hgrow.block k (Nat.lt_of_lt_of_le hk h1.size) (by simp only [Value.ownBlock]; intro he; injection he with he; omega)]
    exact h1.block k hk
  obtain ⟨g', cap', cur', rfl, _, _, _, _, _, _⟩ : ∃ g cap cur, v' = .slice (some ⟨g, 0, none⟩) 3 cap ∧ w.heap.size + 1 ≤ g ∧ w1.heap[g]? = some (.cells cur 22 (0, 0)) ∧ 3 ≤ cap ∧ cap ≤ maxLen ∧ cur.size = cap * 1 ∧ cur.toList.take (3 * 1) = [.int .u64 T, .int .u64 x2, .int .u64 x1] := by
    rcases hown'.2 with ⟨_, h⟩ | h
    · cases h
    · exact h
  have f0 : w1.cell? ⟨g', 0, none⟩ = some (.int .u64 T) := hown'.cells (g := g') rfl 0 _ rfl
  have f1 : w1.cell? ⟨g', 1, none⟩ = some (.int .u64 x2) := hown'.cells (g := g') rfl 1 _ rfl
  have f2 : w1.cell? ⟨g', 2, none⟩ = some (.int .u64 x1) := hown'.cells (g := g') rfl 2 _ rfl
  clear hown' hgrow HW
  go_wp2_with (go_at_call 73; ((with_reducible refine (gre_3 g' cap' T x2 x1 _ f0 f1 f2).mono ?_); rintro e w3 ⟨rfl, hb3⟩))
  go_ret
  exact ⟨rfl, hB1.trans (hb3.mono hB1.size)⟩
end Go.Proofs.Ytfplniooncdjdaa
