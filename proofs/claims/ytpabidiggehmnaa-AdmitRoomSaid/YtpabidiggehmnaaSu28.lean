/- slices.Sort and slices.Compact at []uint64. -/
import Derived.Test.YtpabidiggehmnaaSu27
import Derived.Test.YtpabidiggehmnaaLyF
namespace Go.Proofs.Ytpabidiggehmnaa
set_option linter.unusedVariables false
set_option linter.unusedSimpArgs false
set_option maxRecDepth 100000
open Go.RowKit Fg Reg Go.Sort Go.Shelf
attribute [local irreducible] Reg.wE Holds

def srt (zs : List Int) : List Int := zs.mergeSort fun x y => decide (x ≤ y)
theorem srt_len (zs : List Int) : (srt zs).length = zs.length := List.length_mergeSort zs
theorem sort_eq (zs : List Int) : pdq ltInt zs.toArray 0 zs.length (bitsLen zs.length) true true = (srt zs).toArray := by
  have h := sortInt zs
  have h2 : Sort.sort ltInt zs.toArray = (zs.mergeSort fun x y => decide (x ≤ y)).toArray := by rw [← h]
  rw [← show Sort.sort ltInt zs.toArray = pdq ltInt zs.toArray 0 zs.length (bitsLen zs.length) true true from by unfold Sort.sort; simp]
  exact h2
theorem sort64_c (blk off cap : Nat) (zs : List Int) (w : World) (hH : Holds (Value.int .u64) (w) blk off (zs.toArray)) (hl : blk < w.heap.size) (hsz : zs.length ≤ 100000) :
    Calls Try.prog 43 #[.slice (some ⟨blk, off, none⟩) zs.length cap] w fun e w' => e = .returned (.tuple #[]) ∧ Holds (Value.int .u64) (w') blk off ((srt zs).toArray) ∧ Only (fun k => k = blk) w w' := by
  obtain ⟨n, hn⟩ : ∃ n, n = zs.length := ⟨_, rfl⟩
  have hb17 : bitsLen n ≤ 17 := (bitsLen_le_iff n 17).2 (by omega)
  have c2 := pdq64_c blk off cap n (by omega) (n + 1) 0 n (bitsLen n) zs.toArray w (by omega) hH hl (by omega) (by simp [hn]) (by simp [hn]) (by omega) (.inl rfl)
  rw [show pdq ltInt zs.toArray 0 n (bitsLen n) true true = (srt zs).toArray from by rw [hn]; exact sort_eq zs] at c2
  rw [← hn]
  have K1 := Lib.hid (fun z => lenu_c n (by omega) z)
  have K2 := Lib.hid (show Calls Try.prog 61 #[.slice (some ⟨blk, off, none⟩) n cap, .int .i64 0, .int .i64 n, .int .i64 (bitsLen n : Nat)] w _ from c2)
  have hn1 : n ≤ 100000 := by omega
  clear c2 hn hb17 hH
  go_enter Try.func43, Try.ntmps43
  go_wp2_with (first
    | (go_at_call 62; (with_reducible refine (K1.out _).mono ?_); rintro e w' ⟨rfl, rfl⟩))
  with_reducible refine K2.out.mono ?_
  rintro e w9 ⟨rfl, hh9, ho9⟩
  go_wp2
  refine bodyPost_end (v := .tuple #[]) (by simp [results, Try.results43]) rfl ⟨rfl, hh9, ho9⟩
theorem insn_n (w : World) : Calls Try.prog 69 #[.slice none 0 0, .int .i64 0, .int .i64 0] w fun ee w' => ee = .returned (.tuple #[]) ∧ Below w.heap.size w w' := by
  go_enter Try.func69, Try.ntmps69
  go_wp2
  refine wp_loop_rounds 1 ?_
  rw [rounds_succ]
  go_wp2
  refine bodyPost_end (v := .tuple #[]) (by simp [results, Try.results69]) rfl ⟨rfl, ?_⟩
  ((repeat' (first | with_reducible exact Below.refl _ _ | with_reducible assumption | ((with_reducible refine Below.drew ?_)) | ((with_reducible refine below_drewN ?_ _)) | ((with_reducible refine Below.alloc ?_ ?_ _); rotate_left; focus (first | omega | (simp; done) | (simp; omega))) | ((with_reducible refine Below.setCell ?_ ?_ _); rotate_left; focus (first | omega | (simp; done) | (simp; omega))) | ((with_reducible refine Below.trans ?_ (Below.mono (by with_reducible assumption) ?_)); rotate_left; focus (first | omega | (simp; done) | (simp; omega))))); done)
theorem pdqn_n (w : World) : Calls Try.prog 61 #[.slice none 0 0, .int .i64 0, .int .i64 0, .int .i64 0] w fun ee w' => ee = .returned (.tuple #[]) ∧ Below w.heap.size w w' := by
  have K1 := Lib.hid insn_n
  go_enter Try.func61, Try.ntmps61
  go_wp2
  refine wp_loop_rounds 2 ?_
  rw [rounds_succ]
  go_wp2_with (go_at_call 69; ((with_reducible refine (K1.out _).mono ?_); rintro e w1 ⟨rfl, hbel⟩; obtain ⟨hcc, hff⟩ := bcell hbel; have hsz := hbel.size; (try simp at hsz); have hF : Below w.heap.size w w1 := (by ((repeat' apply And.intro) <;> first | (simp [go_sem, *]; done) | omega | (repeat' (first | with_reducible exact Below.refl _ _ | with_reducible assumption | ((with_reducible refine Below.drew ?_)) | ((with_reducible refine below_drewN ?_ _)) | ((with_reducible refine Below.alloc ?_ ?_ _); rotate_left; focus (first | omega | (simp; done) | (simp; omega))) | ((with_reducible refine Below.setCell ?_ ?_ _); rotate_left; focus (first | omega | (simp; done) | (simp; omega))) | ((with_reducible refine Below.trans ?_ (Below.mono (by with_reducible assumption) ?_)); rotate_left; focus (first | omega | (simp; done) | (simp; omega))))))); go_split_ands; clear hcc hff hbel))
  refine bodyPost_ret (v := .tuple #[]) (by simp [results, Try.results61]) rfl ⟨rfl, by assumption⟩
theorem sortn_n (w : World) : Calls Try.prog 43 #[.slice none 0 0] w fun ee w' => ee = .returned (.tuple #[]) ∧ Below w.heap.size w w' := by
  have K1 := Lib.hid (fun z => (show Calls Try.prog 62 #[.int .u64 0] z fun e w' => e = .returned (.int .i64 0) ∧ z = w' from (lenu_c 0 (by omega) z).mono (fun _ _ h => ⟨h.1, h.2.symm⟩)))
  have K2 := Lib.hid pdqn_n
  go_enter Try.func43, Try.ntmps43
  go_wp2_with (first
    | (go_at_call 62; (with_reducible refine (K1.out _).mono ?_); rintro e w' ⟨rfl, rfl⟩)
    | (go_at_call 61; ((with_reducible refine (K2.out _).mono ?_); rintro e w2 ⟨rfl, hbel⟩; obtain ⟨hcc, hff⟩ := bcell hbel; have hsz := hbel.size; (try simp at hsz); have hF : Below w.heap.size w w2 := (by ((repeat' apply And.intro) <;> first | (simp [go_sem, *]; done) | omega | (repeat' (first | with_reducible exact Below.refl _ _ | with_reducible assumption | ((with_reducible refine Below.drew ?_)) | ((with_reducible refine below_drewN ?_ _)) | ((with_reducible refine Below.alloc ?_ ?_ _); rotate_left; focus (first | omega | (simp; done) | (simp; omega))) | ((with_reducible refine Below.setCell ?_ ?_ _); rotate_left; focus (first | omega | (simp; done) | (simp; omega))) | ((with_reducible refine Below.trans ?_ (Below.mono (by with_reducible assumption) ?_)); rotate_left; focus (first | omega | (simp; done) | (simp; omega))))))); go_split_ands; clear hcc hff hbel)))
  refine bodyPost_end (v := .tuple #[]) (by simp [results, Try.results43]) rfl ⟨rfl, ?_⟩
  ((repeat' (first | with_reducible exact Below.refl _ _ | with_reducible assumption | ((with_reducible refine Below.drew ?_)) | ((with_reducible refine below_drewN ?_ _)) | ((with_reducible refine Below.alloc ?_ ?_ _); rotate_left; focus (first | omega | (simp; done) | (simp; omega))) | ((with_reducible refine Below.setCell ?_ ?_ _); rotate_left; focus (first | omega | (simp; done) | (simp; omega))) | ((with_reducible refine Below.trans ?_ (Below.mono (by with_reducible assumption) ?_)); rotate_left; focus (first | omega | (simp; done) | (simp; omega))))); done)
theorem compn_n (w : World) : Calls Try.prog 44 #[.slice none 0 0] w fun ee w' => ee = .returned (.slice none 0 0) ∧ Below w.heap.size w w' := by
  go_enter Try.func44, Try.ntmps44
  go_wp2
  (go_ret; refine ⟨?_, ?_⟩; (focus (exact rfl)); ((repeat' (first | with_reducible exact Below.refl _ _ | with_reducible assumption | ((with_reducible refine Below.drew ?_)) | ((with_reducible refine below_drewN ?_ _)) | ((with_reducible refine Below.alloc ?_ ?_ _); rotate_left; focus (first | omega | (simp; done) | (simp; omega))) | ((with_reducible refine Below.setCell ?_ ?_ _); rotate_left; focus (first | omega | (simp; done) | (simp; omega))) | ((with_reducible refine Below.trans ?_ (Below.mono (by with_reducible assumption) ?_)); rotate_left; focus (first | omega | (simp; done) | (simp; omega))))); done))

theorem only_putRow {enc : Int → Value} (w : World) (blk off : Nat) (d : Array Int) : Only (fun k => k = blk) w (putRow enc w blk off d) :=
  ⟨rfl, rfl, rfl, by simp, fun k hk hn => by simp [putRow, mapBlock, Array.getElem?_modify, show ¬ blk = k from fun h => hn h.symm]⟩
theorem one64 : OneCell (Value.int .u64) := fun _ => rfl
section
attribute [local semireducible] Holds
theorem hu_pre {blk off : Nat} {z : World} (l r : List Int) (h : Holds (Value.int .u64) (z) blk off ((l ++ r).toArray)) : Holds (Value.int .u64) (z) blk off (l.toArray) := fun j hj => by
  have hj' : j < l.length := by simpa using hj
  have := h j (by simp; omega)
  rw [show (l ++ r).toArray[j]! = l.toArray[j]! by simp [hj', List.getElem?_append]] at this
  exact this
theorem hu_holds {blk off : Nat} {z : World} {d : Array Int} (h : ∀ j, j < d.size → z.cell? ⟨blk, off + j, none⟩ = some (.int .u64 d[j]!) ∧ z.frozen? ⟨blk, off + j, none⟩ = false) : Holds (Value.int .u64) (z) blk off (d) := h
end
theorem comp64_c (blk off cap : Nat) (d : Array Int) (w : World) (hH : Holds (Value.int .u64) (w) blk off (d)) (hl : blk < w.heap.size) (hsz : d.size ≤ 100000) (hcap : d.size ≤ cap) :
    Calls Try.prog 44 #[.slice (some ⟨blk, off, none⟩) d.size cap] w fun e w' => e = .returned (.slice (some ⟨blk, off, none⟩) (Go.Lib.compactUpTo d d.size).length cap) ∧ Holds (Value.int .u64) (w') blk off ((Go.Lib.compactUpTo d d.size).toArray) ∧ Only (fun k => k = blk) w w' := by
  have h := AnyE.slices_Compact lcmp (Value.int .u64) one64 (EqlAt.intD _ _ _) (NeqAt.intD _ _ _) 0 (fun w => by kernel_rfl) blk off cap d w hH (by omega) hcap
  have hle : (Go.Lib.compactUpTo d d.size).length ≤ d.size := by
    unfold Go.Lib.compactUpTo
    have := List.length_filter_le (Go.Lib.keeps d) (List.range d.size)
    simpa using this
  refine Calls.mono h ?_
  rintro e w' ⟨rfl, q, rfl⟩
  refine ⟨rfl, hu_pre _ _ (holds_putRow _ _ _ _ d _ (holds_ahead _ _ q _ _ _ hH) (by simp; omega)), (only_drewN w q).trans (only_putRow _ _ _ _)⟩
end Go.Proofs.Ytpabidiggehmnaa
