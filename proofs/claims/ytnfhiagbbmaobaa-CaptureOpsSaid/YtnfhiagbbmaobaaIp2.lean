/- ipv4.at: a number at a place; ipv4.Sum: the sum of bytes. -/
import Derived.Test.YtnfhiagbbmaobaaIp1
namespace Go.Proofs.Ytnfhiagbbmaobaa
set_option linter.unusedVariables false
set_option linter.unusedSimpArgs false
set_option maxRecDepth 100000
open Go.RowKit Fg Reg
attribute [local irreducible] Reg.wE

theorem row_byt (W : World) (X : ByteArray) (c : Nat) (t : TypeId) (fz : Nat × Nat) (j : Nat) (hj : j < X.size) : (W.alloc (.cells (bytesRow X c) t fz)).cell? ⟨W.heap.size, j, none⟩ = some (.int .u8 (byt X j)) := by
  have h := bytesRow_at X c j hj
  have e : byt X j = (X.data[j].toNat : Int) := by unfold byt; rw [Array.getElem?_eq_getElem hj]; rfl
  rw [e]
  unfold World.cell?
  rw [heap_alloc_new]
  exact h
theorem join_str (X : ByteArray) (n : Nat) (hX : X.size = n) (hn : n ≤ 8) (W : World) (c : Nat) (fz : Nat × Nat) :
    Calls Try.prog 74 #[.slice (some ⟨W.heap.size, 0, none⟩) n c] ((W.alloc (.cells (bytesRow X c) 5 fz)).drew) fun ee w' => ee = .returned (.int .u64 (hor (byt X) n)) ∧ Below (((W.alloc (.cells (bytesRow X c) 5 fz)).drew)).heap.size ((W.alloc (.cells (bytesRow X c) 5 fz)).drew) w' :=
  joined_c (byt X) (byt_bd X) W.heap.size 0 n c hn _ (by simp) (fun j hj => by rw [Nat.zero_add]; exact row_byt W X c 5 fz j (by omega))
theorem hor_congr {f g : Nat → Int} (n : Nat) (h : ∀ j, j < n → f j = g j) : hor f n = hor g n := by
  induction n with
  | zero => rfl
  | succ n ih => unfold hor; rw [ih (fun j hj => h j (by omega)), h n (by omega)]
set_option maxHeartbeats 2000000 in
theorem at2_c (S : ByteArray) (hS : 4 ≤ S.size) (hM : S.size ≤ 9223372036854775807) (w : World) : Calls Try.prog 65 #[.string S, .int .i64 2, .int .i64 2] w fun ee w' => ee = .returned (.int .u64 (hor (fun j => byt S (2 + j)) 2)) ∧ Below w.heap.size w w' := by
  obtain ⟨X, hX⟩ : ∃ X, S.extract 2 4 = X := ⟨_, rfl⟩
  have hXs : X.size = 2 := by rw [← hX, ext_size S 2 4 hS]
  have hh : hor (byt X) 2 = hor (fun j => byt S (2 + j)) 2 := hor_congr _ fun j hj => by rw [← hX, byt_ext S 2 4 j hS (by omega)]
  have hcv := fun W => run_bytes_of_string (P := Try.prog) W 9 43 5 X Try.underlying9 Try.underlying43 Try.underlying5
  rw [hXs] at hcv
  have K := Lib.hid (join_str X 2 hXs (by omega))
  rw [← hh]
  have HX := Lib.hid hXs
  clear hXs hh
  have hS' : (4 : Int) ≤ S.size := by omega
  go_enter Try.func65, Try.ntmps65
  go_wp2_with (go_at_call 74; ((with_reducible refine (K.out _ _ _).mono ?_); rintro e w1 ⟨rfl, hbel⟩; obtain ⟨hcc, hff⟩ := bcell hbel; have hsz := hbel.size; (try simp at hsz); have hF : Below w.heap.size w w1 := (by ((repeat' apply And.intro) <;> first | (simp [go_sem, *]; done) | omega | (repeat' (first | with_reducible exact Below.refl _ _ | with_reducible assumption | ((with_reducible refine Below.drew ?_)) | ((with_reducible refine below_drewN ?_ _)) | ((with_reducible refine Below.alloc ?_ ?_ _); rotate_left; focus (first | omega | (simp; done) | (simp; omega))) | ((with_reducible refine Below.setCell ?_ ?_ _); rotate_left; focus (first | omega | (simp; done) | (simp; omega))) | ((with_reducible refine Below.trans ?_ (Below.mono (by with_reducible assumption) ?_)); rotate_left; focus (first | omega | (simp; done) | (simp; omega))))))); go_split_ands; clear hcc hff hbel))
  (go_ret; refine ⟨?_, ?_⟩; (focus (exact rfl)); ((repeat' (first | with_reducible exact Below.refl _ _ | with_reducible assumption | ((with_reducible refine Below.drew ?_)) | ((with_reducible refine below_drewN ?_ _)) | ((with_reducible refine Below.alloc ?_ ?_ _); rotate_left; focus (first | omega | (simp; done) | (simp; omega))) | ((with_reducible refine Below.setCell ?_ ?_ _); rotate_left; focus (first | omega | (simp; done) | (simp; omega))) | ((with_reducible refine Below.trans ?_ (Below.mono (by with_reducible assumption) ?_)); rotate_left; focus (first | omega | (simp; done) | (simp; omega))))); done))
set_option maxHeartbeats 2000000 in
theorem at4_c (S : ByteArray) (hS : 6 ≤ S.size) (hM : S.size ≤ 9223372036854775807) (w : World) : Calls Try.prog 65 #[.string S, .int .i64 4, .int .i64 2] w fun ee w' => ee = .returned (.int .u64 (hor (fun j => byt S (4 + j)) 2)) ∧ Below w.heap.size w w' := by
  obtain ⟨X, hX⟩ : ∃ X, S.extract 4 6 = X := ⟨_, rfl⟩
  have hXs : X.size = 2 := by rw [← hX, ext_size S 4 6 hS]
  have hh : hor (byt X) 2 = hor (fun j => byt S (4 + j)) 2 := hor_congr _ fun j hj => by rw [← hX, byt_ext S 4 6 j hS (by omega)]
  have hcv := fun W => run_bytes_of_string (P := Try.prog) W 9 43 5 X Try.underlying9 Try.underlying43 Try.underlying5
  rw [hXs] at hcv
  have K := Lib.hid (join_str X 2 hXs (by omega))
  rw [← hh]
  have HX := Lib.hid hXs
  clear hXs hh
  have hS' : (6 : Int) ≤ S.size := by omega
  go_enter Try.func65, Try.ntmps65
  go_wp2_with (go_at_call 74; ((with_reducible refine (K.out _ _ _).mono ?_); rintro e w1 ⟨rfl, hbel⟩; obtain ⟨hcc, hff⟩ := bcell hbel; have hsz := hbel.size; (try simp at hsz); have hF : Below w.heap.size w w1 := (by ((repeat' apply And.intro) <;> first | (simp [go_sem, *]; done) | omega | (repeat' (first | with_reducible exact Below.refl _ _ | with_reducible assumption | ((with_reducible refine Below.drew ?_)) | ((with_reducible refine below_drewN ?_ _)) | ((with_reducible refine Below.alloc ?_ ?_ _); rotate_left; focus (first | omega | (simp; done) | (simp; omega))) | ((with_reducible refine Below.setCell ?_ ?_ _); rotate_left; focus (first | omega | (simp; done) | (simp; omega))) | ((with_reducible refine Below.trans ?_ (Below.mono (by with_reducible assumption) ?_)); rotate_left; focus (first | omega | (simp; done) | (simp; omega))))))); go_split_ands; clear hcc hff hbel))
  (go_ret; refine ⟨?_, ?_⟩; (focus (exact rfl)); ((repeat' (first | with_reducible exact Below.refl _ _ | with_reducible assumption | ((with_reducible refine Below.drew ?_)) | ((with_reducible refine below_drewN ?_ _)) | ((with_reducible refine Below.alloc ?_ ?_ _); rotate_left; focus (first | omega | (simp; done) | (simp; omega))) | ((with_reducible refine Below.setCell ?_ ?_ _); rotate_left; focus (first | omega | (simp; done) | (simp; omega))) | ((with_reducible refine Below.trans ?_ (Below.mono (by with_reducible assumption) ?_)); rotate_left; focus (first | omega | (simp; done) | (simp; omega))))); done))
set_option maxHeartbeats 2000000 in
theorem at6_c (S : ByteArray) (hS : 8 ≤ S.size) (hM : S.size ≤ 9223372036854775807) (w : World) : Calls Try.prog 65 #[.string S, .int .i64 6, .int .i64 2] w fun ee w' => ee = .returned (.int .u64 (hor (fun j => byt S (6 + j)) 2)) ∧ Below w.heap.size w w' := by
  obtain ⟨X, hX⟩ : ∃ X, S.extract 6 8 = X := ⟨_, rfl⟩
  have hXs : X.size = 2 := by rw [← hX, ext_size S 6 8 hS]
  have hh : hor (byt X) 2 = hor (fun j => byt S (6 + j)) 2 := hor_congr _ fun j hj => by rw [← hX, byt_ext S 6 8 j hS (by omega)]
  have hcv := fun W => run_bytes_of_string (P := Try.prog) W 9 43 5 X Try.underlying9 Try.underlying43 Try.underlying5
  rw [hXs] at hcv
  have K := Lib.hid (join_str X 2 hXs (by omega))
  rw [← hh]
  have HX := Lib.hid hXs
  clear hXs hh
  have hS' : (8 : Int) ≤ S.size := by omega
  go_enter Try.func65, Try.ntmps65
  go_wp2_with (go_at_call 74; ((with_reducible refine (K.out _ _ _).mono ?_); rintro e w1 ⟨rfl, hbel⟩; obtain ⟨hcc, hff⟩ := bcell hbel; have hsz := hbel.size; (try simp at hsz); have hF : Below w.heap.size w w1 := (by ((repeat' apply And.intro) <;> first | (simp [go_sem, *]; done) | omega | (repeat' (first | with_reducible exact Below.refl _ _ | with_reducible assumption | ((with_reducible refine Below.drew ?_)) | ((with_reducible refine below_drewN ?_ _)) | ((with_reducible refine Below.alloc ?_ ?_ _); rotate_left; focus (first | omega | (simp; done) | (simp; omega))) | ((with_reducible refine Below.setCell ?_ ?_ _); rotate_left; focus (first | omega | (simp; done) | (simp; omega))) | ((with_reducible refine Below.trans ?_ (Below.mono (by with_reducible assumption) ?_)); rotate_left; focus (first | omega | (simp; done) | (simp; omega))))))); go_split_ands; clear hcc hff hbel))
  (go_ret; refine ⟨?_, ?_⟩; (focus (exact rfl)); ((repeat' (first | with_reducible exact Below.refl _ _ | with_reducible assumption | ((with_reducible refine Below.drew ?_)) | ((with_reducible refine below_drewN ?_ _)) | ((with_reducible refine Below.alloc ?_ ?_ _); rotate_left; focus (first | omega | (simp; done) | (simp; omega))) | ((with_reducible refine Below.setCell ?_ ?_ _); rotate_left; focus (first | omega | (simp; done) | (simp; omega))) | ((with_reducible refine Below.trans ?_ (Below.mono (by with_reducible assumption) ?_)); rotate_left; focus (first | omega | (simp; done) | (simp; omega))))); done))
set_option maxHeartbeats 2000000 in
theorem at10_c (S : ByteArray) (hS : 12 ≤ S.size) (hM : S.size ≤ 9223372036854775807) (w : World) : Calls Try.prog 65 #[.string S, .int .i64 10, .int .i64 2] w fun ee w' => ee = .returned (.int .u64 (hor (fun j => byt S (10 + j)) 2)) ∧ Below w.heap.size w w' := by
  obtain ⟨X, hX⟩ : ∃ X, S.extract 10 12 = X := ⟨_, rfl⟩
  have hXs : X.size = 2 := by rw [← hX, ext_size S 10 12 hS]
  have hh : hor (byt X) 2 = hor (fun j => byt S (10 + j)) 2 := hor_congr _ fun j hj => by rw [← hX, byt_ext S 10 12 j hS (by omega)]
  have hcv := fun W => run_bytes_of_string (P := Try.prog) W 9 43 5 X Try.underlying9 Try.underlying43 Try.underlying5
  rw [hXs] at hcv
  have K := Lib.hid (join_str X 2 hXs (by omega))
  rw [← hh]
  have HX := Lib.hid hXs
  clear hXs hh
  have hS' : (12 : Int) ≤ S.size := by omega
  go_enter Try.func65, Try.ntmps65
  go_wp2_with (go_at_call 74; ((with_reducible refine (K.out _ _ _).mono ?_); rintro e w1 ⟨rfl, hbel⟩; obtain ⟨hcc, hff⟩ := bcell hbel; have hsz := hbel.size; (try simp at hsz); have hF : Below w.heap.size w w1 := (by ((repeat' apply And.intro) <;> first | (simp [go_sem, *]; done) | omega | (repeat' (first | with_reducible exact Below.refl _ _ | with_reducible assumption | ((with_reducible refine Below.drew ?_)) | ((with_reducible refine below_drewN ?_ _)) | ((with_reducible refine Below.alloc ?_ ?_ _); rotate_left; focus (first | omega | (simp; done) | (simp; omega))) | ((with_reducible refine Below.setCell ?_ ?_ _); rotate_left; focus (first | omega | (simp; done) | (simp; omega))) | ((with_reducible refine Below.trans ?_ (Below.mono (by with_reducible assumption) ?_)); rotate_left; focus (first | omega | (simp; done) | (simp; omega))))))); go_split_ands; clear hcc hff hbel))
  (go_ret; refine ⟨?_, ?_⟩; (focus (exact rfl)); ((repeat' (first | with_reducible exact Below.refl _ _ | with_reducible assumption | ((with_reducible refine Below.drew ?_)) | ((with_reducible refine below_drewN ?_ _)) | ((with_reducible refine Below.alloc ?_ ?_ _); rotate_left; focus (first | omega | (simp; done) | (simp; omega))) | ((with_reducible refine Below.setCell ?_ ?_ _); rotate_left; focus (first | omega | (simp; done) | (simp; omega))) | ((with_reducible refine Below.trans ?_ (Below.mono (by with_reducible assumption) ?_)); rotate_left; focus (first | omega | (simp; done) | (simp; omega))))); done))
set_option maxHeartbeats 2000000 in
theorem at12_c (S : ByteArray) (hS : 16 ≤ S.size) (hM : S.size ≤ 9223372036854775807) (w : World) : Calls Try.prog 65 #[.string S, .int .i64 12, .int .i64 4] w fun ee w' => ee = .returned (.int .u64 (hor (fun j => byt S (12 + j)) 4)) ∧ Below w.heap.size w w' := by
  obtain ⟨X, hX⟩ : ∃ X, S.extract 12 16 = X := ⟨_, rfl⟩
  have hXs : X.size = 4 := by rw [← hX, ext_size S 12 16 hS]
  have hh : hor (byt X) 4 = hor (fun j => byt S (12 + j)) 4 := hor_congr _ fun j hj => by rw [← hX, byt_ext S 12 16 j hS (by omega)]
  have hcv := fun W => run_bytes_of_string (P := Try.prog) W 9 43 5 X Try.underlying9 Try.underlying43 Try.underlying5
  rw [hXs] at hcv
  have K := Lib.hid (join_str X 4 hXs (by omega))
  rw [← hh]
  have HX := Lib.hid hXs
  clear hXs hh
  have hS' : (16 : Int) ≤ S.size := by omega
  go_enter Try.func65, Try.ntmps65
  go_wp2_with (go_at_call 74; ((with_reducible refine (K.out _ _ _).mono ?_); rintro e w1 ⟨rfl, hbel⟩; obtain ⟨hcc, hff⟩ := bcell hbel; have hsz := hbel.size; (try simp at hsz); have hF : Below w.heap.size w w1 := (by ((repeat' apply And.intro) <;> first | (simp [go_sem, *]; done) | omega | (repeat' (first | with_reducible exact Below.refl _ _ | with_reducible assumption | ((with_reducible refine Below.drew ?_)) | ((with_reducible refine below_drewN ?_ _)) | ((with_reducible refine Below.alloc ?_ ?_ _); rotate_left; focus (first | omega | (simp; done) | (simp; omega))) | ((with_reducible refine Below.setCell ?_ ?_ _); rotate_left; focus (first | omega | (simp; done) | (simp; omega))) | ((with_reducible refine Below.trans ?_ (Below.mono (by with_reducible assumption) ?_)); rotate_left; focus (first | omega | (simp; done) | (simp; omega))))))); go_split_ands; clear hcc hff hbel))
  (go_ret; refine ⟨?_, ?_⟩; (focus (exact rfl)); ((repeat' (first | with_reducible exact Below.refl _ _ | with_reducible assumption | ((with_reducible refine Below.drew ?_)) | ((with_reducible refine below_drewN ?_ _)) | ((with_reducible refine Below.alloc ?_ ?_ _); rotate_left; focus (first | omega | (simp; done) | (simp; omega))) | ((with_reducible refine Below.setCell ?_ ?_ _); rotate_left; focus (first | omega | (simp; done) | (simp; omega))) | ((with_reducible refine Below.trans ?_ (Below.mono (by with_reducible assumption) ?_)); rotate_left; focus (first | omega | (simp; done) | (simp; omega))))); done))
set_option maxHeartbeats 2000000 in
theorem at16_c (S : ByteArray) (hS : 20 ≤ S.size) (hM : S.size ≤ 9223372036854775807) (w : World) : Calls Try.prog 65 #[.string S, .int .i64 16, .int .i64 4] w fun ee w' => ee = .returned (.int .u64 (hor (fun j => byt S (16 + j)) 4)) ∧ Below w.heap.size w w' := by
  obtain ⟨X, hX⟩ : ∃ X, S.extract 16 20 = X := ⟨_, rfl⟩
  have hXs : X.size = 4 := by rw [← hX, ext_size S 16 20 hS]
  have hh : hor (byt X) 4 = hor (fun j => byt S (16 + j)) 4 := hor_congr _ fun j hj => by rw [← hX, byt_ext S 16 20 j hS (by omega)]
  have hcv := fun W => run_bytes_of_string (P := Try.prog) W 9 43 5 X Try.underlying9 Try.underlying43 Try.underlying5
  rw [hXs] at hcv
  have K := Lib.hid (join_str X 4 hXs (by omega))
  rw [← hh]
  have HX := Lib.hid hXs
  clear hXs hh
  have hS' : (20 : Int) ≤ S.size := by omega
  go_enter Try.func65, Try.ntmps65
  go_wp2_with (go_at_call 74; ((with_reducible refine (K.out _ _ _).mono ?_); rintro e w1 ⟨rfl, hbel⟩; obtain ⟨hcc, hff⟩ := bcell hbel; have hsz := hbel.size; (try simp at hsz); have hF : Below w.heap.size w w1 := (by ((repeat' apply And.intro) <;> first | (simp [go_sem, *]; done) | omega | (repeat' (first | with_reducible exact Below.refl _ _ | with_reducible assumption | ((with_reducible refine Below.drew ?_)) | ((with_reducible refine below_drewN ?_ _)) | ((with_reducible refine Below.alloc ?_ ?_ _); rotate_left; focus (first | omega | (simp; done) | (simp; omega))) | ((with_reducible refine Below.setCell ?_ ?_ _); rotate_left; focus (first | omega | (simp; done) | (simp; omega))) | ((with_reducible refine Below.trans ?_ (Below.mono (by with_reducible assumption) ?_)); rotate_left; focus (first | omega | (simp; done) | (simp; omega))))))); go_split_ands; clear hcc hff hbel))
  (go_ret; refine ⟨?_, ?_⟩; (focus (exact rfl)); ((repeat' (first | with_reducible exact Below.refl _ _ | with_reducible assumption | ((with_reducible refine Below.drew ?_)) | ((with_reducible refine below_drewN ?_ _)) | ((with_reducible refine Below.alloc ?_ ?_ _); rotate_left; focus (first | omega | (simp; done) | (simp; omega))) | ((with_reducible refine Below.setCell ?_ ?_ _); rotate_left; focus (first | omega | (simp; done) | (simp; omega))) | ((with_reducible refine Below.trans ?_ (Below.mono (by with_reducible assumption) ?_)); rotate_left; focus (first | omega | (simp; done) | (simp; omega))))); done))
theorem join_two (x y : Int) (hx : 0 ≤ x ∧ x ≤ 255) (hy : 0 ≤ y ∧ y ≤ 255) (W : World) (c : Nat) :
    Calls Try.prog 74 #[.slice (some ⟨W.heap.size, 0, none⟩) 2 c] (W.alloc (.cells #[.int .u8 x, .int .u8 y] 5)) fun ee w' => ee = .returned (.int .u64 (x * 256 + y)) ∧ Below ((W.alloc (.cells #[.int .u8 x, .int .u8 y] 5))).heap.size (W.alloc (.cells #[.int .u8 x, .int .u8 y] 5)) w' := by
  have h := joined_c (fun j => if j = 0 then x else y) (fun j => by split <;> assumption) W.heap.size 0 2 c (by omega) (W.alloc (.cells #[.int .u8 x, .int .u8 y] 5)) (by simp) (fun j hj => by
    rcases j with _ | _ | j <;> first | (exfalso; omega) | simp [go_sem])
  have e : hor (fun j => if j = 0 then x else y) 2 = x * 256 + y := by simp [hor]
  rw [e] at h
  exact h
theorem and_words {x : Int} (h : 0 ≤ x ∧ x < 18446744073709551616) : bits .and .u64 x 65535 = x % 65536 :=
  bits_mask .u64 64 (by decide) (fun n h0 h1 => by rw [wrap_u64]; omega) 16 (by decide) x h.1 (by omega)
set_option maxHeartbeats 4000000 in
theorem sum_c (S : ByteArray) (hS : S.size ≤ 200000) (w : World) : Calls Try.prog 66 #[.string S] w fun ee w' => ee = .returned (.int .u16 (sumb S)) ∧ Below w.heap.size w w' := by
  go_enter Try.func66, Try.ntmps66
  go_wp2_with fail
  go_loopw [3, 4] (fun v ii wr => ∃ k q : Nat, q ≤ S.size + 1 ∧ q = 2 * k ∧ ii = .int .i64 q ∧ v = .int .u64 (wsf (byt S) k) ∧ Below w.heap.size w wr) (fun _ ii _ => S.size + 1 - (intOf ii).toNat)
  case atStart => exact ⟨0, 0, Nat.zero_le _, rfl, rfl, rfl, Below.refl _ _⟩
  case round =>
    obtain ⟨k, q, hk, hq, rfl, rfl, hB⟩ := hrel
    have hwb := wsf_bd (byt_bd S) k
    have hbs := hB.size
    by_cases hlt : q < S.size
    · have h0 : wsf (byt S) (k + 1) = wsf (byt S) k + (byt S q * 256 + byt S (q + 1)) := by rw [hq]; show _ + _ + _ = _; omega
      have hx := byt_bd S q
      have hy := byt_bd S (q + 1)
      have hsx : ∀ (h : q < S.size), (S[q]'h).toNat = (S.data[q]?.getD 0).toNat := fun h => by rw [Array.getElem?_eq_getElem (show q < S.data.size from h)]; rfl
      have HH := Lib.hid h0
      have hqk : (k : Int) ≤ 100001 := by omega
      have HQ := Lib.hid hq
      clear h0 hq
      by_cases h1 : q + 1 < S.size
      · have hsy : ∀ (h : q + 1 < S.size), (S[q + 1]'h).toNat = (S.data[q + 1]?.getD 0).toNat := fun h => by rw [Array.getElem?_eq_getElem (show q + 1 < S.data.size from h)]; rfl
        have ex : byt S q = ((S.data[q]?.getD 0).toNat : Int) := rfl
        have ey : byt S (q + 1) = ((S.data[q + 1]?.getD 0).toNat : Int) := rfl
        rw [ex] at hx HH
        rw [ey] at hy HH
        clear ex ey
        have d1 : decide ((q : Int) + 1 < (S.size : Int)) = true := by simp; omega
        generalize (S.data[q]?.getD 0).toNat = x at hsx hx HH
        generalize (S.data[q + 1]?.getD 0).toNat = y at hsy hy HH
        have K := Lib.hid (join_two x y hx hy)
        generalize wsf (byt S) k = sm at *
        go_wp2_with (go_at_call 74; ((with_reducible refine (K.out _ _).mono ?_); rintro e w1 ⟨rfl, hbel⟩; obtain ⟨hcc, hff⟩ := bcell hbel; have hsz := hbel.size; (try simp at hsz); have hF : Below w.heap.size w w1 := (by ((repeat' apply And.intro) <;> first | (simp [go_sem, *]; done) | omega | (repeat' (first | with_reducible exact Below.refl _ _ | with_reducible assumption | ((with_reducible refine Below.drew ?_)) | ((with_reducible refine below_drewN ?_ _)) | ((with_reducible refine Below.alloc ?_ ?_ _); rotate_left; focus (first | omega | (simp; done) | (simp; omega))) | ((with_reducible refine Below.setCell ?_ ?_ _); rotate_left; focus (first | omega | (simp; done) | (simp; omega))) | ((with_reducible refine Below.trans ?_ (Below.mono (by with_reducible assumption) ?_)); rotate_left; focus (first | omega | (simp; done) | (simp; omega))))))); go_split_ands; clear hcc hff hbel))
        go_roundw
        case rel => exact ⟨k + 1, q + 2, by omega, by have := HQ.out; omega, by go_num, by rw [HH.out], by assumption⟩
        case measure => simp [intOf]; omega
      · have hq1 : S.size = q + 1 := by omega
        have ey : byt S (q + 1) = 0 := byt_out S _ (by omega)
        have ex : byt S q = ((S.data[q]?.getD 0).toNat : Int) := rfl
        rw [ex] at hx HH
        rw [ey] at HH
        clear ex ey hy
        have d1 : decide ((q : Int) + 1 < (S.size : Int)) = false := by simp; omega
        generalize (S.data[q]?.getD 0).toNat = x at hsx hx HH
        have K := Lib.hid (join_two x 0 hx (by omega))
        simp only [Int.add_zero] at K HH
        generalize wsf (byt S) k = sm at *
        go_wp2_with (go_at_call 74; ((with_reducible refine (K.out _ _).mono ?_); rintro e w1 ⟨rfl, hbel⟩; obtain ⟨hcc, hff⟩ := bcell hbel; have hsz := hbel.size; (try simp at hsz); have hF : Below w.heap.size w w1 := (by ((repeat' apply And.intro) <;> first | (simp [go_sem, *]; done) | omega | (repeat' (first | with_reducible exact Below.refl _ _ | with_reducible assumption | ((with_reducible refine Below.drew ?_)) | ((with_reducible refine below_drewN ?_ _)) | ((with_reducible refine Below.alloc ?_ ?_ _); rotate_left; focus (first | omega | (simp; done) | (simp; omega))) | ((with_reducible refine Below.setCell ?_ ?_ _); rotate_left; focus (first | omega | (simp; done) | (simp; omega))) | ((with_reducible refine Below.trans ?_ (Below.mono (by with_reducible assumption) ?_)); rotate_left; focus (first | omega | (simp; done) | (simp; omega))))))); go_split_ands; clear hcc hff hbel))
        go_roundw
        case rel => exact ⟨k + 1, q + 2, by omega, by have := HQ.out; omega, by go_num, by rw [HH.out], by assumption⟩
        case measure => simp [intOf]; omega
    · have hk2 : k = (S.size + 1) / 2 := by omega
      have hsb : sumb S = fl (wsf (byt S) k) := by unfold sumb; rw [hk2]
      have hfb := sumb_bd S
      rw [hsb] at hfb
      have HSB := Lib.hid hsb
      have hwm : wsf (byt S) k ≤ 13107200000 := by omega
      clear hsb hk2 hq
      generalize wsf (byt S) k = s0 at *
      go_wp2
      go_loopw [3] (fun v wz => ∃ s : Int, 0 ≤ s ∧ s ≤ 13107200000 ∧ v = .int .u64 s ∧ fl s = fl s0 ∧ Below w.heap.size w wz) (fun v _ => (intOf v).toNat)
      case atStart => exact ⟨s0, by omega, by omega, rfl, rfl, hB⟩
      case round =>
        clear hB hbs
        obtain ⟨s, hs0, hs1, rfl, hf, hB⟩ := hrel
        have HF := Lib.hid hf
        clear hf
        by_cases hbig : 65535 < s
        · have hfs := fl_step (n := s) (by omega)
          have hfl := fl_less (n := s) (by omega)
          have HS := Lib.hid hfs
          have ha := and_words (x := s) (by omega)
          have hbs := hB.size
          clear hfs
          go_wp2
          go_roundw
          case rel => exact ⟨s % 65536 + s / 65536, by omega, by omega, by go_num, by rw [HS.out, HF.out], by assumption⟩
          case measure => simp [intOf]; omega
        · have hfs := fl_small (n := s) (by omega)
          have hR : s = fl s0 := by rw [← HF.out, hfs]
          have HR := Lib.hid hR
          clear hR hfs
          have hw : IntKind.u16.wrap s = s := by simp [IntKind.wrap, IntKind.bits, IntKind.signed]; omega
          go_wp2
          go_ret
          exact ⟨by rw [HSB.out, ← HR.out]; rfl, hB⟩
end Go.Proofs.Ytnfhiagbbmaobaa
