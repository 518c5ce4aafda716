/- meter.Of of any events. -/
import Derived.Test.YtdahjhokcjfioaaMo3
import Derived.Laws.EntriesVeiled
namespace Go.Proofs.Ytdahjhokcjfioaa
set_option linter.unusedVariables false
set_option linter.unusedSimpArgs false
set_option maxRecDepth 100000
open Go.RowKit Fg Reg
attribute [local irreducible] Reg.wE TM

theorem mof_no (W s : Int) (h : mok W s = false) (ae az : Option Addr) (ne ce nz cz : Nat) (w : World) : Calls Try.prog 67 #[.slice ae ne ce, .slice az nz cz, .int .u64 W, .int .i64 s] w fun ee w' => ee = .returned (.tuple #[.int .u64 (0), .int .i64 (1)]) ∧ Below w.heap.size w w' := by
  have K1 := Lib.hid (fun z => mnew_no W s h z)
  clear h
  go_enter Try.func67, Try.ntmps67
  go_wp2_with (go_at_call 122; ((with_reducible refine (K1.out _).mono ?_); rintro e w1 ⟨rfl, hbel⟩; obtain ⟨hcc, hff⟩ := bcell hbel; have hsz := hbel.size; (try simp at hsz); have hF : Below w.heap.size w w1 := (by ((repeat' apply And.intro) <;> first | (simp [go_sem, *]; done) | omega | (repeat' (first | with_reducible exact Below.refl _ _ | with_reducible assumption | ((with_reducible refine Below.drew ?_)) | ((with_reducible refine below_drewN ?_ _)) | ((with_reducible refine Below.alloc ?_ ?_ _); rotate_left; focus (first | omega | (simp; done) | (simp; omega))) | ((with_reducible refine Below.setCell ?_ ?_ _); rotate_left; focus (first | omega | (simp; done) | (simp; omega))) | ((with_reducible refine Below.trans ?_ (Below.mono (by with_reducible assumption) ?_)); rotate_left; focus (first | omega | (simp; done) | (simp; omega))))))); go_split_ands; clear hcc hff hbel))
  go_ret2
  refine ⟨rfl, (by repeat' (first | with_reducible exact Below.refl _ _ | with_reducible assumption | ((with_reducible refine Below.drew ?_)) | ((with_reducible refine below_drewN ?_ _)) | ((with_reducible refine Below.alloc ?_ ?_ _); rotate_left; focus (first | omega | (simp; done) | (simp; omega))) | ((with_reducible refine Below.setCell ?_ ?_ _); rotate_left; focus (first | omega | (simp; done) | (simp; omega))) | ((with_reducible refine Below.trans ?_ (Below.mono (by with_reducible assumption) ?_)); rotate_left; focus (first | omega | (simp; done) | (simp; omega)))))⟩
theorem mf_start {w w2 : World} {az : Option Addr} {n cz : Nat} {W s : Int} (t1 t2 t3 : TypeId) (hT : TM w w2 (w.heap.size + 1) W s 0 0 0) (hb0 : w2.cell? ⟨w.heap.size, 0, none⟩ = some (.slice az n cz)) (hlt : w.heap.size + 1 < w2.heap.size) :
    MF w (((w2.alloc (.cells #[.pointer (some ⟨w.heap.size + 1, 0, none⟩)] t1)).alloc (.cells #[.int .u64 0] t2)).alloc (.cells #[.func (.func 125) #[] #[.pointer (some ⟨w.heap.size, 0, none⟩)]] t3)) (w2.heap.size + 1) (w2.heap.size + 1 + 1) w2.heap.size w.heap.size (w.heap.size + 1) az n cz W s 0 0 0 0 := by
  have h1 : w.heap.size < w2.heap.size := by omega
  have n1 : ¬ w.heap.size = w2.heap.size := by omega
  have n2 : ¬ w.heap.size = w2.heap.size + 1 := by omega
  have n3 : ¬ w.heap.size = w2.heap.size + 1 + 1 := by omega
  refine ⟨((hT.allo _).allo _).allo _, ?_, ?_, ?_, ?_, ?_, ?_, ?_, ?_, ?_, ?_, ?_, ?_, ?_, ?_, ?_, ?_, ?_⟩ <;> (try (first | omega | (simp [go_sem, *]; done) | (simp; omega)))
  exact (((((Below.refl w2.heap.size w2).alloc (Nat.le_refl _) _).alloc (by simp) _).alloc (by simp; omega) _).cell (p := ⟨w.heap.size, 0, none⟩) h1).trans hb0
def ofR (W q : Int) (zs : List Int) (es : List Ev) : Int × Int :=
  if (orun W q zs es).1 = 0 then ((avgs W q (orun W q zs es).2.1 (orun W q zs es).2.2.1 (orun W q zs es).2.2.2 (lst es)).1, (avgs W q (orun W q zs es).2.1 (orun W q zs es).2.2.1 (orun W q zs es).2.2.2 (lst es)).2.1) else (0, (orun W q zs es).1)
theorem lst_bd (es : List Ev) (hwf : ∀ k (h : k < es.length), es[k].wf3) : 0 ≤ lst es ∧ lst es ≤ 18446744073709551615 := by
  rcases Nat.eq_zero_or_pos es.length with h | h
  · have : es = [] := List.eq_nil_of_length_eq_zero h
    rw [this]; exact ⟨by decide, by decide⟩
  · have h2 := lst_succ es (es.length - 1) (by omega)
    rw [show es.length - 1 + 1 = es.length by omega, List.take_length] at h2
    rw [h2]
    have := hwf (es.length - 1) (by omega)
    exact ⟨this.tm0, this.tm1⟩
set_option maxHeartbeats 4000000 in
theorem mof_c (es : List Ev) (ae : Option Addr) (ce : Nat) (zs : List Int) (az : Option Addr) (cz : Nat) (W : Int) (s : Nat) (h1 : 1 ≤ W) (h2 : W ≤ 4294967296) (hs : s ≤ 8) (hn : es.length ≤ 1000) (hz : zs.length ≤ 4611686018427387904)
    (hwf : ∀ k (h : k < es.length), es[k].wf3) (w : World) (hE : EvsV w ae es) (hZ : IntsV w az zs) :
    Calls Try.prog 67 #[.slice ae es.length ce, .slice az zs.length cz, .int .u64 W, .int .i64 s] w fun ee w' => ee = .returned (.tuple #[.int .u64 ((ofR W (2 ^ s) zs es).1), .int .i64 ((ofR W (2 ^ s) zs es).2)]) ∧ Below w.heap.size w w' := by
  have kn := fun z => mnew_ok W s h1 h2 (by omega) (by omega) z
  have ke := fun lx cx mx bx x z hM => each_c es ae ce lx cx mx bx x zs az cz W s (by omega) hs hn hz hwf w z hM hE hZ
  have hl := (lst_bd es hwf).1
  have ka := fun (a n b : Int) (x : Nat) z (hI : Inv a n b) hT => avg_is (x := x) (w := w) (W := W) (s := s) (t := lst es) (by omega) hs hI hl (avgs W (2 ^ s) a n b (lst es)).1 (avgs W (2 ^ s) a n b (lst es)).2.1 (avgs W (2 ^ s) a n b (lst es)).2.2.1 (avgs W (2 ^ s) a n b (lst es)).2.2.2.1 (avgs W (2 ^ s) a n b (lst es)).2.2.2.2 rfl z hT
  unfold ofR
  obtain ⟨E, A, N, B, hO⟩ : ∃ E A N B, orun W (2 ^ s) zs es = (E, A, N, B) := ⟨_, _, _, _, rfl⟩
  rw [hO] at ke ⊢
  dsimp only at ke ⊢
  generalize lst es = L at *
  have KN := Lib.hid kn
  have KE := Lib.hid ke
  by_cases hE0 : E = 0
  · subst hE0
    rw [if_pos rfl]
    dsimp only
    have KA := Lib.hid (ka A N B)
    obtain ⟨V, hV⟩ : ∃ V, (avgs W (2 ^ s) A N B L).1 = V := ⟨_, rfl⟩
    obtain ⟨F, hF⟩ : ∃ F, (avgs W (2 ^ s) A N B L).2.1 = F := ⟨_, rfl⟩
    rw [hV, hF] at KA ⊢
    clear kn ke ka hO hl hwf hE hZ hV hF
    go_enter Try.func67, Try.ntmps67
    go_wp2_with (first
      | (go_at_call 122; (with_reducible refine (KN.out _).mono ?_); rintro e w2 ⟨rfl, hMT, hb2⟩; have hT : TM w w2 (w.heap.size + 1) W s 0 0 0 := (by unfold TM; exact ⟨by simpa using hMT, ((Below.refl _ _).alloc (Nat.le_refl _) _).trans (hb2.mono (by simp)), by omega⟩); obtain ⟨hcc, hff⟩ := bcell hb2; have hsz := hb2.size; (try simp at hsz); have hlt2 : w.heap.size + 1 < w2.heap.size := (by have := hT.mt.size; omega); have hb0 : w2.cell? ⟨w.heap.size, 0, none⟩ = some (.slice az zs.length cz) := (by simp [go_sem, *]); clear hcc hff hb2 hMT)
      | (go_at_call 126; (with_reducible refine (KE.out _ _ _ w.heap.size (w.heap.size + 1) _ ?_).mono ?_); (focus (exact mf_start _ _ _ hT hb0 hlt2)); clear hT; rintro e w3 ⟨rfl, hB3, hM3⟩; obtain ⟨hI3, hM3⟩ := hM3 (by simp); have hM3H := Lib.hid hM3; have hI3H := Lib.hid hI3; have hm0 := hM3.m0; have hl0 := hM3.l0; have hms := hM3.ms; have hls := hM3.ls; clear hM3 hI3)
      | (go_at_call 124; (with_reducible refine (KA.out _ _ hI3H.out hM3H.out.tm).mono ?_); rintro e w4 ⟨rfl, hT4, hO4⟩; have hB4 := hT4.bl))
    go_ret2
    exact ⟨rfl, hB4⟩
  · have hne : (E == 0) = false := by simpa using hE0
    rw [if_neg hE0]
    dsimp only
    clear kn ke ka hO hl hwf hE hZ
    go_enter Try.func67, Try.ntmps67
    go_wp2_with (first
      | (go_at_call 122; (with_reducible refine (KN.out _).mono ?_); rintro e w2 ⟨rfl, hMT, hb2⟩; have hT : TM w w2 (w.heap.size + 1) W s 0 0 0 := (by unfold TM; exact ⟨by simpa using hMT, ((Below.refl _ _).alloc (Nat.le_refl _) _).trans (hb2.mono (by simp)), by omega⟩); obtain ⟨hcc, hff⟩ := bcell hb2; have hsz := hb2.size; (try simp at hsz); have hlt2 : w.heap.size + 1 < w2.heap.size := (by have := hT.mt.size; omega); have hb0 : w2.cell? ⟨w.heap.size, 0, none⟩ = some (.slice az zs.length cz) := (by simp [go_sem, *]); clear hcc hff hb2 hMT)
      | (go_at_call 126; (with_reducible refine (KE.out _ _ _ w.heap.size (w.heap.size + 1) _ ?_).mono ?_); (focus (exact mf_start _ _ _ hT hb0 hlt2)); clear hT; rintro e w3 ⟨rfl, hB3, hM3⟩; clear hM3))
    go_ret2
    exact ⟨rfl, hB3⟩
end Go.Proofs.Ytdahjhokcjfioaa
