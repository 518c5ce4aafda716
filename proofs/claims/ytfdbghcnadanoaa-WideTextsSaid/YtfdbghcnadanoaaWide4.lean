import Derived.Test.YtfdbghcnadanoaaWide3
import Derived.Test.YtfdbghcnadanoaaMathDec
namespace Go.Proofs.Ytfdbghcnadanoaa
set_option linter.unusedVariables false
set_option linter.unusedSimpArgs false
open Go.RowKit Fg Reg

/-- The cells of an array of 39 bytes that has been filled from the end on. -/
def Filled (w : World) (b k : Nat) (ds : List Int) : Prop :=
  (∀ j, j < 39 → ∃ x, w.cell? ⟨b, j, none⟩ = some (.int .u8 x)) ∧ (∀ j, j < 39 → w.frozen? ⟨b, j, none⟩ = false) ∧ ∀ j x, ds[j]? = some x → w.cell? ⟨b, 39 - k + j, none⟩ = some (.int .u8 x)
theorem Filled.below {w w' : World} {b k : Nat} {ds : List Int} (h : Filled w b k ds) (hb : Below w.heap.size w w') (hlt : b < w.heap.size) : Filled w' b k ds :=
  ⟨fun j hj => let ⟨x, hx⟩ := h.1 j hj; ⟨x, (hb.cell (p := ⟨b, j, none⟩) hlt).trans hx⟩, fun j hj => (hb.frozen (p := ⟨b, j, none⟩) hlt).trans (h.2.1 j hj), fun j x hj => (hb.cell (p := ⟨b, _, none⟩) hlt).trans (h.2.2 j x hj)⟩

theorem Filled.put {w : World} {b k : Nat} {ds : List Int} (h : Filled w b k ds) (hk : k < 39) (x : Int) : Filled (w.setCell ⟨b, 39 - k - 1, none⟩ (.int .u8 x)) b (k + 1) (x :: ds) := by
  obtain ⟨h1, h2, h3⟩ := h
  refine ⟨fun j hj => ?_, fun j hj => by rw [World.frozen?_setCell]; exact h2 j hj, fun j y hj => ?_⟩
  · obtain ⟨y, hy⟩ := h1 j hj
    by_cases e : 39 - k - 1 = j
    · subst e; exact ⟨x, World.cell?_setCell_same w _ _ hy⟩
    · exact ⟨y, (World.cell?_setCell_other w _ _ _ (fun h => e (congrArg Addr.off h))).trans hy⟩
  · cases j with
    | zero =>
      have hx : x = y := by simpa using hj
      subst hx
      obtain ⟨z, hz⟩ := h1 (39 - k - 1) (by omega)
      have : (⟨b, 39 - (k + 1) + 0, none⟩ : Addr) = ⟨b, 39 - k - 1, none⟩ := by rw [show 39 - (k + 1) + 0 = 39 - k - 1 by omega]
      rw [this]
      exact World.cell?_setCell_same w _ _ hz
    | succ j =>
      have hj' : ds[j]? = some y := by simpa using hj
      have := h3 j y hj'
      rw [show 39 - (k + 1) + (j + 1) = 39 - k + j by omega]
      refine (World.cell?_setCell_other w _ _ _ (fun h => ?_)).trans this
      have : 39 - k - 1 = 39 - k + j := congrArg Addr.off h
      omega
theorem Filled.far {w : World} {b k : Nat} {ds : List Int} (h : Filled w b k ds) (p : Addr) (hp : p.block ≠ b) (v : Value) : Filled (w.setCell p v) b k ds :=
  ⟨fun j hj => let ⟨x, hx⟩ := h.1 j hj; ⟨x, (World.cell?_setCell_other w _ _ _ (fun e => hp (by rw [e]))).trans hx⟩, fun j hj => by rw [World.frozen?_setCell]; exact h.2.1 j hj, fun j x hj => (World.cell?_setCell_other w _ _ _ (fun e => hp (by rw [e]))).trans (h.2.2 j x hj)⟩
theorem Filled.alloc {w : World} {b k : Nat} {ds : List Int} (h : Filled w b k ds) (hlt : b < w.heap.size) (o : Obj) : Filled (w.alloc o) b k ds :=
  h.below ((Below.refl _ _).alloc (Nat.le_refl _) o) hlt

theorem rep_get {n j : Nat} (h : j < n) (v : Value) : (List.replicate n v).toArray[j]? = some v := by simp [h]
theorem run_dec (W : World) (b o l c : Nat) (ns : List Int) (hl : ns.length = l) (h : ∀ j x, ns[j]? = some x → W.cell? ⟨b, o + j, none⟩ = some (.int .u8 x)) :
    (convert 69 9 (.slice (some ⟨b, o, none⟩) l c)).run Try.prog W = .ok (.string (strOf ns)) W := by
  subst hl
  rw [run_convert_bytes_string W 69 9 5 _ _ _ Try.underlying69 Try.underlying5 Try.underlying9]
  refine run_bytesToString W _ _ _ ns ?_
  have := run_loadCells_list (P := Try.prog) W ⟨b, o, none⟩ (ns.map (Value.int .u8)) (fun j v hj => by
    simp only [List.getElem?_map] at hj
    cases hx : ns[j]? with
    | none => rw [hx] at hj; cases hj
    | some x =>
      rw [hx] at hj
      have hj : Value.int .u8 x = v := by simpa using hj
      subst hj
      have := h j x hx
      show W.cell? (if j = 0 then _ else _) = _
      split
      · rename_i h0; rw [h0, Nat.add_zero] at this; exact this
      · exact this)
  simpa using this
theorem run_cut (W : World) (b k : Nat) (hk : k < 39) :
    (Instr.sliceAt 68 (.pointer (some ⟨b, 0, none⟩)) (some (.int .i64 (39 - (k : Int) - 1))) none none).run Try.prog W = .ok (.slice (some ⟨b, 39 - k - 1, none⟩) (k + 1) (k + 1)) W := by
  have hn : Try.prog.arrayLen 68 = 39 := by kernel_rfl
  rw [run_sliceAt_array_l W 68 _ Try.underlying68 .i64 _ (by omega) (by rw [hn]; omega)]
  have hs : (sizeOf (Try.prog.elem 68)).run Try.prog W = .ok 1 W := by kernel_rfl
  rw [hs, hn]
  have e : (39 - (k : Int) - 1).toNat = 39 - k - 1 := by omega
  simp only [Result.andThen, slicedAt, e]
  rw [if_neg (by omega), show 39 - (39 - k - 1) = k + 1 by omega]
  simp only [Addr.add]
  split
  · rename_i h0; rw [show 39 - k - 1 = 0 by omega]
  · simp

set_option maxHeartbeats 1000000 in
theorem text_c (n : Int) (hn : Wd n) (w : World) : Calls Try.prog 26 #[.agg #[.int .u64 (hi n), .int .u64 (lo n)]] w fun e w' => e = .returned (.string (dec n)) ∧ Below w.heap.size w w' := by
  go_enter Try.func26, Try.ntmps26
  go_wp2_with fail
  go_loopw [4, 8] (fun at_ i wr => ∃ (k : Nat) (m : Int) (ds : List Int), i = .int .i64 k ∧ at_ = .int .i64 (39 - k) ∧ Decs n k m ds ∧ (wr.cell? ⟨w.heap.size, 0, none⟩ = some (.int .u64 (hi m)) ∧ wr.cell? ⟨w.heap.size, 1, none⟩ = some (.int .u64 (lo m)) ∧ wr.frozen? ⟨w.heap.size, 0, none⟩ = false ∧ wr.frozen? ⟨w.heap.size, 1, none⟩ = false ∧ w.heap.size < wr.heap.size) ∧ Filled wr (w.heap.size + 1) k ds ∧ w.heap.size + 1 < wr.heap.size ∧ Below w.heap.size w wr) (fun _ i _ => 39 - (intOf i).toNat)
  case atStart =>
    refine ⟨0, n, [], rfl, rfl, decs_zero hn, ?_, ⟨fun j hj => ⟨0, ?_⟩, fun j hj => ?_, fun j x hj => ?_⟩, ?_, ?_⟩
    · ((repeat' apply And.intro) <;> first | (simp [go_sem, *]; done) | omega | (repeat' (first | with_reducible exact Below.refl _ _ | with_reducible assumption | ((with_reducible refine Below.drew ?_)) | ((with_reducible refine below_drewN ?_ _)) | ((with_reducible refine Below.alloc ?_ ?_ _); rotate_left; focus (first | omega | (simp; done) | (simp; omega))) | ((with_reducible refine Below.setCell ?_ ?_ _); rotate_left; focus (first | omega | (simp; done) | (simp; omega))) | ((with_reducible refine Below.trans ?_ (Below.mono (by with_reducible assumption) ?_)); rotate_left; focus (first | omega | (simp; done) | (simp; omega))))))
    · have := World.cell?_alloc_new (w := w.alloc (.cells #[.int .u64 (hi n), .int .u64 (lo n)] 24)) (List.replicate 39 (Value.int .u8 0)).toArray 68 j
      rw [World.size_alloc] at this
      exact Eq.trans this (rep_get hj _)
    · have := World.frozen?_alloc_new (w := w.alloc (.cells #[.int .u64 (hi n), .int .u64 (lo n)] 24)) (List.replicate 39 (Value.int .u8 0)).toArray 68 j
      rw [World.size_alloc] at this
      exact this
    · simp at hj
    · simp
    · exact (by repeat' (first | with_reducible exact Below.refl _ _ | with_reducible assumption | ((with_reducible refine Below.drew ?_)) | ((with_reducible refine below_drewN ?_ _)) | ((with_reducible refine Below.alloc ?_ ?_ _); rotate_left; focus (first | omega | (simp; done) | (simp; omega))) | ((with_reducible refine Below.setCell ?_ ?_ _); rotate_left; focus (first | omega | (simp; done) | (simp; omega))) | ((with_reducible refine Below.trans ?_ (Below.mono (by with_reducible assumption) ?_)); rotate_left; focus (first | omega | (simp; done) | (simp; omega)))))
  case round =>
    obtain ⟨k, m, ds, rfl, rfl, HD, h1, h2, h3, h4⟩ := hrel
    have hk := decs_lt HD
    have hm := HD.2.1
    obtain ⟨x0, hx0⟩ := h2.1 (39 - k - 1) (by omega)
    have hf0 := h2.2.1 (39 - k - 1) (by omega)
    have HF := Lib.hid h2; clear h2
    have HDs := Lib.hid HD; clear HD
    have e0 := Lib.hid (val_wd hm)
    have hsl := fun W => run_cut W (w.heap.size + 1) k hk
    by_cases h10 : m / 10 = 0
    · go_wp2_with (go_at_call 24; refine (div_some _ _ 10 (hi_in _) (lo_in _) (by unfold In; omega) (by omega) _).mono ?_; rw [e0.out]; rintro e w' ⟨rfl, hbel⟩; obtain ⟨hcc, hff⟩ := bcell hbel; have hsz := hbel.size; (try simp at hsz); have n1 : ¬ w.heap.size + 1 = w'.heap.size := (by omega); have n2 : ¬ w'.heap.size = w.heap.size + 1 := (by omega); have n3 : ¬ w.heap.size = w'.heap.size := (by omega); have n4 : ¬ w'.heap.size = w.heap.size := (by omega); have n5 : w.heap.size + 1 < w'.heap.size := (by omega); have hF : (w'.cell? ⟨w.heap.size, 0, none⟩ = some (.int .u64 (hi m)) ∧ w'.cell? ⟨w.heap.size, 1, none⟩ = some (.int .u64 (lo m)) ∧ w'.frozen? ⟨w.heap.size, 0, none⟩ = false ∧ w'.frozen? ⟨w.heap.size, 1, none⟩ = false ∧ w.heap.size < w'.heap.size) ∧ w'.cell? ⟨w.heap.size + 1, 39 - k - 1, none⟩ = some (.int .u8 x0) ∧ w'.frozen? ⟨w.heap.size + 1, 39 - k - 1, none⟩ = false := (by ((repeat' apply And.intro) <;> first | (simp [go_sem, *]; done) | omega | (repeat' (first | with_reducible exact Below.refl _ _ | with_reducible assumption | ((with_reducible refine Below.drew ?_)) | ((with_reducible refine below_drewN ?_ _)) | ((with_reducible refine Below.alloc ?_ ?_ _); rotate_left; focus (first | omega | (simp; done) | (simp; omega))) | ((with_reducible refine Below.setCell ?_ ?_ _); rotate_left; focus (first | omega | (simp; done) | (simp; omega))) | ((with_reducible refine Below.trans ?_ (Below.mono (by with_reducible assumption) ?_)); rotate_left; focus (first | omega | (simp; done) | (simp; omega))))))); go_split_ands)
      have F1 := ((((HF.out.below hbel (by assumption)).put hk (48 + m % 10)).far ⟨w.heap.size, 0, none⟩ (by simp) (.int .u64 0)).far ⟨w.heap.size, 1, none⟩ (by simp) (.int .u64 0)).alloc (by simpa using n5) (.cells #[.int .u64 0, .int .u64 0] 24)
      rw [run_dec _ _ _ _ _ ((48 + m % 10) :: ds) (by simp [(HDs.out).2.2.2.2.1]) (fun j x hj => by
        have := F1.2.2 j x hj
        rwa [show 39 - (k + 1) + j = 39 - k - 1 + j by omega] at this)]
      go_wp2
      go_ret
      refine ⟨?_, (by repeat' (first | with_reducible exact Below.refl _ _ | with_reducible assumption | ((with_reducible refine Below.drew ?_)) | ((with_reducible refine below_drewN ?_ _)) | ((with_reducible refine Below.alloc ?_ ?_ _); rotate_left; focus (first | omega | (simp; done) | (simp; omega))) | ((with_reducible refine Below.setCell ?_ ?_ _); rotate_left; focus (first | omega | (simp; done) | (simp; omega))) | ((with_reducible refine Below.trans ?_ (Below.mono (by with_reducible assumption) ?_)); rotate_left; focus (first | omega | (simp; done) | (simp; omega)))))⟩
      rw [← decs_end HDs.out h10]; rfl
    · have e1 : ¬ m = 0 := by omega
      have i1 := hi_in (m / 10)
      go_wp2_with (go_at_call 24; refine (div_some _ _ 10 (hi_in _) (lo_in _) (by unfold In; omega) (by omega) _).mono ?_; rw [e0.out]; rintro e w' ⟨rfl, hbel⟩; obtain ⟨hcc, hff⟩ := bcell hbel; have hsz := hbel.size; (try simp at hsz); have n1 : ¬ w.heap.size + 1 = w'.heap.size := (by omega); have n2 : ¬ w'.heap.size = w.heap.size + 1 := (by omega); have n3 : ¬ w.heap.size = w'.heap.size := (by omega); have n4 : ¬ w'.heap.size = w.heap.size := (by omega); have n5 : w.heap.size + 1 < w'.heap.size := (by omega); have hF : (w'.cell? ⟨w.heap.size, 0, none⟩ = some (.int .u64 (hi m)) ∧ w'.cell? ⟨w.heap.size, 1, none⟩ = some (.int .u64 (lo m)) ∧ w'.frozen? ⟨w.heap.size, 0, none⟩ = false ∧ w'.frozen? ⟨w.heap.size, 1, none⟩ = false ∧ w.heap.size < w'.heap.size) ∧ w'.cell? ⟨w.heap.size + 1, 39 - k - 1, none⟩ = some (.int .u8 x0) ∧ w'.frozen? ⟨w.heap.size + 1, 39 - k - 1, none⟩ = false := (by ((repeat' apply And.intro) <;> first | (simp [go_sem, *]; done) | omega | (repeat' (first | with_reducible exact Below.refl _ _ | with_reducible assumption | ((with_reducible refine Below.drew ?_)) | ((with_reducible refine below_drewN ?_ _)) | ((with_reducible refine Below.alloc ?_ ?_ _); rotate_left; focus (first | omega | (simp; done) | (simp; omega))) | ((with_reducible refine Below.setCell ?_ ?_ _); rotate_left; focus (first | omega | (simp; done) | (simp; omega))) | ((with_reducible refine Below.trans ?_ (Below.mono (by with_reducible assumption) ?_)); rotate_left; focus (first | omega | (simp; done) | (simp; omega))))))); go_split_ands)
      have hz := hi_lo_zero (wd_div hm)
      · exfalso
        exact h10 (hz.1 ⟨by assumption, by assumption⟩)
      all_goals
        have D2 := Lib.hid (decs_on HDs.out h10)
        go_roundw
        case rel =>
          refine ⟨k + 1, m / 10, (48 + m % 10) :: ds, by go_num, by go_num, D2.out, ?_, ?_, ?_⟩
          · ((repeat' apply And.intro) <;> first | (simp [go_sem, *]; done) | omega | (repeat' (first | with_reducible exact Below.refl _ _ | with_reducible assumption | ((with_reducible refine Below.drew ?_)) | ((with_reducible refine below_drewN ?_ _)) | ((with_reducible refine Below.alloc ?_ ?_ _); rotate_left; focus (first | omega | (simp; done) | (simp; omega))) | ((with_reducible refine Below.setCell ?_ ?_ _); rotate_left; focus (first | omega | (simp; done) | (simp; omega))) | ((with_reducible refine Below.trans ?_ (Below.mono (by with_reducible assumption) ?_)); rotate_left; focus (first | omega | (simp; done) | (simp; omega))))))
          · exact ((((HF.out.below hbel (by assumption)).put hk _).far _ (by simp) _).far _ (by simp) _).alloc (by simpa using n5) _
          · ((repeat' apply And.intro) <;> first | (simp [go_sem, *]; done) | omega | (repeat' (first | with_reducible exact Below.refl _ _ | with_reducible assumption | ((with_reducible refine Below.drew ?_)) | ((with_reducible refine below_drewN ?_ _)) | ((with_reducible refine Below.alloc ?_ ?_ _); rotate_left; focus (first | omega | (simp; done) | (simp; omega))) | ((with_reducible refine Below.setCell ?_ ?_ _); rotate_left; focus (first | omega | (simp; done) | (simp; omega))) | ((with_reducible refine Below.trans ?_ (Below.mono (by with_reducible assumption) ?_)); rotate_left; focus (first | omega | (simp; done) | (simp; omega))))))
        case measure => simp [intOf]; omega
end Go.Proofs.Ytfdbghcnadanoaa
