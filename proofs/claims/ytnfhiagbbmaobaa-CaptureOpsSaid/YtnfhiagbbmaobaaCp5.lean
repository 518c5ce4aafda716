/- capture.Decode. -/
import Derived.Test.YtnfhiagbbmaobaaCp4
import Derived.ScopeJumps
namespace Go.Proofs.Ytnfhiagbbmaobaa
set_option linter.unusedVariables false
set_option linter.unusedSimpArgs false
set_option maxRecDepth 100000
open Go.RowKit Fg Reg
attribute [local irreducible] Reg.wE Reg2.wT World.ownsRow

theorem flog_lit : strOf flog = (⟨#[102, 108, 111, 103]⟩ : ByteArray) := by decide +kernel
theorem pstep_val (S : ByteArray) (i : Nat) (last : Int) : pstep S i last = 0 ∨ pstep S i last = 3 ∨ pstep S i last = 26 ∨ pstep S i last = 27 := by
  unfold pstep
  split
  · omega
  split
  · omega
  split
  · omega
  split <;> omega
theorem cuf_bad (S : ByteArray) (hM : S.size ≤ 9223372036854775807) (i : Nat) (hi : i ≤ S.size) (last : Int) (hp : pstep S i last ≠ 0) (w : World) : Calls Try.prog 59 #[.string (S.extract i S.size), .int .u64 last] w fun ee w' => ee = .returned (.tuple #[.agg #[.int .u64 0, .string ⟨#[]⟩], .string (⟨#[]⟩ : ByteArray), .int .i64 (pstep S i last)]) ∧ Below w.heap.size w w' := by
  have hs : (S.extract i S.size).size = S.size - i := ext_size _ _ _ (Nat.le_refl _)
  by_cases h1 : S.size < i + 10
  · rw [show pstep S i last = 3 by unfold pstep; rw [if_pos h1]]
    exact cuf_short _ last (by omega) w
  have n8 := nat_tail S i 8 2 (by omega)
  have n0 := nat_tail S i 0 8 (by omega)
  rw [Nat.add_zero] at n0
  by_cases h2 : nat S (i + 8) 2 < 1 ∨ 16384 < nat S (i + 8) 2
  · rw [show pstep S i last = 26 by unfold pstep; rw [if_neg h1, if_pos h2]]
    exact cuf_len _ last (by omega) (by omega) (by rw [n8]; exact h2) w
  by_cases h3 : (S.size : Int) < i + 10 + nat S (i + 8) 2
  · rw [show pstep S i last = 3 by unfold pstep; rw [if_neg h1, if_neg h2, if_pos h3]]
    exact cuf_rest _ last (by omega) (by omega) (by rw [n8]; omega) (by rw [n8]; omega) w
  by_cases h4 : nat S i 8 < last ∨ 4611686018427387904 < nat S i 8
  · rw [show pstep S i last = 27 by unfold pstep; rw [if_neg h1, if_neg h2, if_neg h3, if_pos h4]]
    exact cuf_clock _ last (by omega) (by omega) (by rw [n8]; omega) (by rw [n8]; omega) (by rw [n0]; exact h4) w
  · exact absurd (show pstep S i last = 0 by unfold pstep; rw [if_neg h1, if_neg h2, if_neg h3, if_neg h4]) hp
theorem pstep_ok {S : ByteArray} {i : Nat} {last : Int} (hp : pstep S i last = 0) : i + 10 ≤ S.size ∧ (1 ≤ nat S (i + 8) 2 ∧ nat S (i + 8) 2 ≤ 16384) ∧ (i : Int) + 10 + nat S (i + 8) 2 ≤ S.size ∧ last ≤ nat S i 8 ∧ nat S i 8 ≤ 4611686018427387904 := by
  unfold pstep at hp
  split at hp
  · omega
  split at hp
  · omega
  split at hp
  · omega
  split at hp
  · omega
  exact ⟨by omega, by omega, by omega, by omega, by omega⟩
theorem cuf_good (S : ByteArray) (hM : S.size ≤ 9223372036854775807) (i : Nat) (hi : i ≤ S.size) (last : Int) (hp : pstep S i last = 0) (w : World) :
    Calls Try.prog 59 #[.string (S.extract i S.size), .int .u64 last] w fun ee w' => ee = .returned (.tuple #[.agg #[.int .u64 (pfr S i).t, .string (pfr S i).d], .string (S.extract (pnx S i) S.size), .int .i64 0]) ∧ Below w.heap.size w w' := by
  obtain ⟨h1, h2, h3, h4, h5⟩ := pstep_ok hp
  have hs : (S.extract i S.size).size = S.size - i := ext_size _ _ _ (Nat.le_refl _)
  have n8 := nat_tail S i 8 2 (by omega)
  have n0 := nat_tail S i 0 8 (by omega)
  rw [Nat.add_zero] at n0
  have h := cuf_ok (S.extract i S.size) last (by omega) (by omega) (by rw [n8]; exact h2) (by rw [n8, hs]; omega) (by rw [n0]; exact ⟨h4, h5⟩) w
  rw [n8, n0, ext_tail S i 10 _ hi (by omega), hs, ext_tail S i _ _ hi (by omega), show i + (S.size - i) = S.size by omega, show i + (10 + (nat S (i + 8) 2).toNat) = pnx S i by unfold pnx; omega] at h
  exact h
def strLen : Value → Nat
  | .string s => s.size
  | _ => 0
/-- What Decode answers. -/
def CDP (w : World) (T : TypeId) (R : List Fm × Int) (e : Ending) (w' : World) : Prop := ∃ v, e = .returned (.tuple #[v, .int .i64 R.2]) ∧ w'.ownsRow w.heap.size T 2 v R.1.length (R.1.flatMap Fm.cells) ∧ Below w.heap.size w w'
theorem fmt_info : (Try.prog.info? 93).map (fun i => (i.zero, i.size, i.bytes)) = some (some (.agg #[.int .u64 0, .string ⟨#[]⟩]), 2, 24) := by kernel_rfl
theorem fmt_parts : ∃ i, Try.prog.info? 93 = some i ∧ i.zero = some (.agg #[.int .u64 0, .string ⟨#[]⟩]) ∧ i.size = 2 ∧ i.bytes = 24 := by
  obtain ⟨i, hi, h⟩ := Option.map_eq_some_iff.1 fmt_info
  simp only [Prod.mk.injEq] at h
  exact ⟨i, hi, h.1, h.2.1, h.2.2⟩
theorem cdec_short (S : ByteArray) (h : S.size < 4) (w : World) : Calls Try.prog 32 #[.string S] w (CDP w 93 (pdec S)) := by
  have hp : pdec S = ([], 3) := by unfold pdec; rw [if_pos h]
  rw [hp]
  have d1 : decide ((S.size : Int) < 4) = true := by simp; omega
  go_enter Try.func32, Try.ntmps32
  go_wp2
  refine wp_scope_jumps 0 (fun _ _ => False) (fun _ _ => 0) rfl ?_ (fun _ _ h => h.elim)
  go_wp2
  go_ret2
  exact ⟨_, rfl, World.ownsRow_nil _ _ _ _, Below.refl _ _⟩
theorem list_ne {X Y : ByteArray} (h : X ≠ Y) : (X.toList == Y.toList) = false := by
  rw [beq_eq_false_iff_ne]
  intro e
  rw [ByteArray.toList_eq, ByteArray.toList_eq] at e
  exact h (ByteArray.ext (Array.ext' e))
theorem cpf_yes (S : ByteArray) (h4 : 4 ≤ S.size) (hM : S.size ≤ 9223372036854775807) (h : S.extract 0 4 = (⟨#[102, 108, 111, 103]⟩ : ByteArray)) (w : World) : Calls Try.prog 58 #[.string S, .string (⟨#[102, 108, 111, 103]⟩ : ByteArray)] w fun ee w' => ee = .returned (.tuple #[.string (S.extract 4 S.size), .bool true]) ∧ Below w.heap.size w w' := by
  have hi : (4 : Int) ≤ S.size := by omega
  have hb : ((S.extract 0 4).toList == [102, 108, 111, 103]) = true := by rw [h]; decide +kernel
  obtain ⟨E, hE⟩ : ∃ E, S.extract 4 S.size = E := ⟨_, rfl⟩
  rw [hE]
  clear h
  go_enter Try.func58, Try.ntmps58
  go_wp2
  (go_ret2; refine ⟨?_, ?_⟩; (focus (exact rfl)); ((repeat' (first | with_reducible exact Below.refl _ _ | with_reducible assumption | ((with_reducible refine Below.drew ?_)) | ((with_reducible refine below_drewN ?_ _)) | ((with_reducible refine Below.alloc ?_ ?_ _); rotate_left; focus (first | omega | (simp; done) | (simp; omega))) | ((with_reducible refine Below.setCell ?_ ?_ _); rotate_left; focus (first | omega | (simp; done) | (simp; omega))) | ((with_reducible refine Below.trans ?_ (Below.mono (by with_reducible assumption) ?_)); rotate_left; focus (first | omega | (simp; done) | (simp; omega))))); done))
theorem cpf_no (S : ByteArray) (h4 : 4 ≤ S.size) (hM : S.size ≤ 9223372036854775807) (h : S.extract 0 4 ≠ (⟨#[102, 108, 111, 103]⟩ : ByteArray)) (w : World) : Calls Try.prog 58 #[.string S, .string (⟨#[102, 108, 111, 103]⟩ : ByteArray)] w fun ee w' => ee = .returned (.tuple #[.string S, .bool false]) ∧ Below w.heap.size w w' := by
  have hi : (4 : Int) ≤ S.size := by omega
  have hb : ((S.extract 0 4).toList == [102, 108, 111, 103]) = false := by
    have := list_ne h
    rw [show ((⟨#[102, 108, 111, 103]⟩ : ByteArray)).toList = [102, 108, 111, 103] by decide +kernel] at this
    exact this
  clear h
  go_enter Try.func58, Try.ntmps58
  go_wp2
  (go_ret2; refine ⟨?_, ?_⟩; (focus (exact rfl)); ((repeat' (first | with_reducible exact Below.refl _ _ | with_reducible assumption | ((with_reducible refine Below.drew ?_)) | ((with_reducible refine below_drewN ?_ _)) | ((with_reducible refine Below.alloc ?_ ?_ _); rotate_left; focus (first | omega | (simp; done) | (simp; omega))) | ((with_reducible refine Below.setCell ?_ ?_ _); rotate_left; focus (first | omega | (simp; done) | (simp; omega))) | ((with_reducible refine Below.trans ?_ (Below.mono (by with_reducible assumption) ?_)); rotate_left; focus (first | omega | (simp; done) | (simp; omega))))); done))
theorem cdec_form (S : ByteArray) (h4 : 4 ≤ S.size) (hM : S.size ≤ 9223372036854775807) (h : S.extract 0 4 ≠ (⟨#[102, 108, 111, 103]⟩ : ByteArray)) (w : World) : Calls Try.prog 32 #[.string S] w (CDP w 93 (pdec S)) := by
  have hp : pdec S = ([], 4) := by unfold pdec; rw [if_neg (by omega), if_pos (by rw [flog_lit]; exact h)]
  rw [hp]
  have K := Lib.hid (cpf_no S h4 hM h w)
  have d1 : decide ((S.size : Int) < 4) = false := by simp; omega
  clear h hp
  go_enter Try.func32, Try.ntmps32
  go_wp2
  refine wp_scope_jumps 0 (fun _ _ => False) (fun _ _ => 0) rfl ?_ (fun _ _ h => h.elim)
  go_wp2_with (go_at_call 58; ((with_reducible refine (K.out).mono ?_); rintro e w1 ⟨rfl, hbel⟩; obtain ⟨hcc, hff⟩ := bcell hbel; have hsz := hbel.size; (try simp at hsz); have hF : Below w.heap.size w w1 := (by ((repeat' apply And.intro) <;> first | (simp [go_sem, *]; done) | omega | (repeat' (first | with_reducible exact Below.refl _ _ | with_reducible assumption | ((with_reducible refine Below.drew ?_)) | ((with_reducible refine below_drewN ?_ _)) | ((with_reducible refine Below.alloc ?_ ?_ _); rotate_left; focus (first | omega | (simp; done) | (simp; omega))) | ((with_reducible refine Below.setCell ?_ ?_ _); rotate_left; focus (first | omega | (simp; done) | (simp; omega))) | ((with_reducible refine Below.trans ?_ (Below.mono (by with_reducible assumption) ?_)); rotate_left; focus (first | omega | (simp; done) | (simp; omega))))))); go_split_ands; clear hcc hff hbel))
  go_ret2
  exact ⟨_, rfl, World.ownsRow_nil _ _ _ _, by assumption⟩
theorem str_empty {R : ByteArray} (h : R.size = 0) : R = (⟨#[]⟩ : ByteArray) := ByteArray.ext (Array.eq_empty_of_size_eq_zero h)
theorem str_some {R : ByteArray} (h : 0 < R.size) : (R.toList == []) = false := by
  have := list_ne (X := R) (Y := (⟨#[]⟩ : ByteArray)) (fun e => by rw [e] at h; exact absurd h (by decide))
  rw [show ((⟨#[]⟩ : ByteArray)).toList = [] by decide +kernel] at this
  exact this
set_option maxHeartbeats 16000000 in
theorem cdec_main (S : ByteArray) (h4 : 4 ≤ S.size) (hM : S.size ≤ 9223372036854775807) (h : S.extract 0 4 = (⟨#[102, 108, 111, 103]⟩ : ByteArray)) (w : World) : Calls Try.prog 32 #[.string S] w (CDP w 93 (pdec S)) := by
  obtain ⟨ie, HI0, HZ0, HZ1, HZ2⟩ := fmt_parts
  have hp : pdec S = pg S 4 0 0 := by unfold pdec; rw [if_neg (by omega), if_neg (by rw [flog_lit]; simpa using h)]
  have K := Lib.hid (cpf_yes S h4 hM h w)
  have d1 : decide ((S.size : Int) < 4) = false := by simp; omega
  obtain ⟨RR, hRR⟩ : ∃ RR, pdec S = RR := ⟨_, rfl⟩
  rw [hRR]
  have H0 : onto [] (pg S 4 0 ([] : List Fm).length) = RR := by
    rw [← hRR, hp]
    unfold onto
    show (if (pg S 4 0 0).2 = 0 then ([] ++ (pg S 4 0 0).1, 0) else ([], (pg S 4 0 0).2)) = pg S 4 0 0
    split
    · rename_i h0; rw [List.nil_append]; exact Prod.ext rfl h0.symm
    · rename_i h0
      by_cases hp2 : pstep S 4 0 = 0
      · by_cases hs : S.size ≤ 4
        · rw [pg_end S hs] at h0; exact absurd rfl h0
        · rw [pg_good S (by omega) (by omega) hp2] at h0 ⊢
          split at h0
          · exact absurd rfl h0
          · rename_i h1; rw [if_neg h1]
      · by_cases hs : S.size ≤ 4
        · rw [pg_end S hs] at h0; exact absurd rfl h0
        · rw [pg_bad S (by omega) (by omega) hp2]
  have HH0 := Lib.hid H0
  clear h hp hRR H0
  go_enter Try.func32, Try.ntmps32
  go_wp2
  refine wp_scope_jumps 0 (fun _ _ => False) (fun _ _ => 0) rfl ?_ (fun _ _ h => h.elim)
  go_wp2_with (go_at_call 58; ((with_reducible refine (K.out).mono ?_); rintro e w1 ⟨rfl, hbel⟩; obtain ⟨hcc, hff⟩ := bcell hbel; have hsz := hbel.size; (try simp at hsz); have hF : Below w.heap.size w w1 := (by ((repeat' apply And.intro) <;> first | (simp [go_sem, *]; done) | omega | (repeat' (first | with_reducible exact Below.refl _ _ | with_reducible assumption | ((with_reducible refine Below.drew ?_)) | ((with_reducible refine below_drewN ?_ _)) | ((with_reducible refine Below.alloc ?_ ?_ _); rotate_left; focus (first | omega | (simp; done) | (simp; omega))) | ((with_reducible refine Below.setCell ?_ ?_ _); rotate_left; focus (first | omega | (simp; done) | (simp; omega))) | ((with_reducible refine Below.trans ?_ (Below.mono (by with_reducible assumption) ?_)); rotate_left; focus (first | omega | (simp; done) | (simp; omega))))))); go_split_ands; clear hcc hff hbel))
  have hB1 : Below w.heap.size w w1 := by assumption
  refine wp_label ?_
  go_wp2
  go_loopw [4, 6, 7, 8] (fun rest out err la wr => ∃ (i : Nat) (x : Int) (A : List Fm) (v : Value), 4 ≤ i ∧ i ≤ S.size ∧ rest = .string (S.extract i S.size) ∧ out = v ∧ err = .int .i64 0 ∧ la = .int .u64 x ∧ 0 ≤ x ∧ x ≤ 4611686018427387904 ∧ A.length ≤ 1000 ∧ wr.ownsRow w.heap.size 93 2 v A.length (A.flatMap Fm.cells) ∧ onto A (pg S i x A.length) = RR ∧ Below w.heap.size w wr) (fun rest _ _ _ _ => strLen rest)
  case atStart => exact ⟨4, 0, [], _, by omega, h4, rfl, rfl, rfl, rfl, by omega, by omega, by simp, World.ownsRow_nil _ _ _ _, HH0.out, hB1⟩
  case round =>
    obtain ⟨i, x, A, v, hi4, hi, rfl, hv, rfl, rfl, hx0, hx1, hA, hO, hon, hB⟩ := hrel
    have hv' := hv.symm
    subst hv'
    have HON := Lib.hid hon
    clear hon
    obtain ⟨ao, cp, rfl⟩ := row_form hO
    have hRs : (S.extract i S.size).size = S.size - i := ext_size _ _ _ (Nat.le_refl _)
    by_cases hlt : i < S.size
    · have hr1 := str_some (R := S.extract i S.size) (by omega)
      have hr2 : (S.extract i S.size).toList.isEmpty = false := by
        cases hq : (S.extract i S.size).toList with
        | nil => rw [hq] at hr1; exact absurd hr1 (by decide)
        | cons _ _ => rfl
      by_cases hfull : A.length = 1000
      · have hres : RR = ([], 2) := by
          have := HON.out
          rw [hfull, pg_full S hlt] at this
          exact this.symm
        have d2 : ((A.length : Int) == 1000) = true := by simp; omega
        have HRES := Lib.hid hres
        clear hres hfull
        go_wp2
        go_ret2
        exact ⟨_, by rw [HRES.out]; rfl, by rw [HRES.out]; exact World.ownsRow_nil _ _ _ _, hB⟩
      · have d2 : ((A.length : Int) == 1000) = false := by simp; omega
        by_cases hps : pstep S i x = 0
        · have KC0 := fun z => cuf_good S hM i hi x hps z
          obtain ⟨o1, o2, o3, o4, o5⟩ := pstep_ok hps
          have hng : onto (A ++ [pfr S i]) (pg S (pnx S i) (nat S i 8) (A ++ [pfr S i]).length) = RR := by rw [← onto_good S hlt hfull hps]; exact HON.out
          have hnx1 : pnx S i ≤ S.size := by unfold pnx; omega
          have hnx2 : i + 10 ≤ pnx S i := by unfold pnx; omega
          have ht : (pfr S i).t = nat S i 8 := rfl
          rw [ht] at KC0
          have hfc : Fm.cells (pfr S i) = [.int .u64 (nat S i 8), .string (pfr S i).d] := rfl
          have hA2 : A.length + 1 ≤ 1000 := by omega
          have hRn : (S.extract (pnx S i) S.size).size = S.size - pnx S i := ext_size _ _ _ (Nat.le_refl _)
          generalize hte : nat S i 8 = t at *
          generalize (pfr S i).d = D at *
          have KC := Lib.hid KC0
          have HNG := Lib.hid hng
          have HFC := Lib.hid hfc
          clear KC0 hng hfc ht hte hps
          have hsz := hB.size
          have hblk := row_blk hO
          have hvb : (Value.slice ao A.length cp).ownBlock ≠ some wr.heap.size := fun e => by have := (hblk _ e).2; omega
          go_wp2_with (first
            | (go_at_call 59; ((with_reducible refine (KC.out _).mono ?_); rintro e w3 ⟨rfl, hbel⟩; (have hO3 := row_bel (row_al hO _) hbel); obtain ⟨hcc, hff⟩ := bcell hbel; (have hsz3 := hbel.size); (try simp at hsz3); have hF : w3.cell? ⟨wr.heap.size, 0, none⟩ = some (.int .u64 0) ∧ w3.cell? ⟨wr.heap.size, 1, none⟩ = some (.string (⟨#[]⟩ : ByteArray)) ∧ w3.frozen? ⟨wr.heap.size, 0, none⟩ = false ∧ w3.frozen? ⟨wr.heap.size, 1, none⟩ = false ∧ wr.heap.size < w3.heap.size ∧ Below w.heap.size w w3 := (by ((repeat' apply And.intro) <;> first | (simp [go_sem, *]; done) | omega | (repeat' (first | with_reducible exact Below.refl _ _ | with_reducible assumption | ((with_reducible refine Below.drew ?_)) | ((with_reducible refine below_drewN ?_ _)) | ((with_reducible refine Below.alloc ?_ ?_ _); rotate_left; focus (first | omega | (simp; done) | (simp; omega))) | ((with_reducible refine Below.setCell ?_ ?_ _); rotate_left; focus (first | omega | (simp; done) | (simp; omega))) | ((with_reducible refine Below.trans ?_ (Below.mono (by with_reducible assumption) ?_)); rotate_left; focus (first | omega | (simp; done) | (simp; omega))))))); go_split_ands; clear hcc hff hbel))
            | (at_builtin; (refine wpList_append_gw rfl _ _ 69 rfl w.heap.size 93 ie (.agg #[.int .u64 0, .string ⟨#[]⟩]) 2 24 Try.underlying69 HI0 HZ0 HZ1 HZ2 rfl (by decide) _ _ _ rfl (row_al (row_set2 (row_set2 hO3 hvb _ _ _) hvb _ _ _) _) ⟨_, 0, none⟩ 1 1 [.int .u64 t, .string D] rfl rfl ?c1 ?c2 ?c3 ?c4 ?c5 ?_)))
          case c1 => (intro j u hu; rcases j with _ | _ | j <;> simp at hu <;> (try subst hu) <;> simp [Addr.add, go_sem])
          case c2 => (intro u hu; simp at hu; rcases hu with rfl | rfl <;> rfl)
          case c3 => (unfold maxLen; omega)
          case c4 => omega
          case c5 => (simp; omega)
          intro v5 w5 hO5 hg5
          have hz0 : w5.cell? ⟨wr.heap.size, 0, none⟩ = some (.int .u64 t) := (hg5.cell (by simp; omega) hvb).trans (by simp [go_sem, *])
          have hbw := hg5.only.below (B := w.heap.size) (a := w) (by repeat' (first | with_reducible exact Below.refl _ _ | with_reducible assumption | ((with_reducible refine Below.drew ?_)) | ((with_reducible refine below_drewN ?_ _)) | ((with_reducible refine Below.alloc ?_ ?_ _); rotate_left; focus (first | omega | (simp; done) | (simp; omega))) | ((with_reducible refine Below.setCell ?_ ?_ _); rotate_left; focus (first | omega | (simp; done) | (simp; omega))) | ((with_reducible refine Below.trans ?_ (Below.mono (by with_reducible assumption) ?_)); rotate_left; focus (first | omega | (simp; done) | (simp; omega))))) (by simp; omega) (fun k hk => (hblk k hk).1)
          have hO6 : w5.ownsRow w.heap.size 93 2 v5 (A ++ [pfr S i]).length ((A ++ [pfr S i]).flatMap Fm.cells) := by
            rw [List.length_append, List.flatMap_append]
            have e : List.flatMap Fm.cells [pfr S i] = [.int .u64 t, .string D] := by simp [HFC.out]
            rw [e]
            exact hO5
          have HO6 := Lib.hid hO6
          clear hO5 hO6 hO3
          go_wp2
          go_roundw
          case rel => exact ⟨pnx S i, t, A ++ [pfr S i], v5, by omega, hnx1, rfl, rfl, rfl, rfl, by omega, by omega, by simp; omega, HO6.out, HNG.out, hbw⟩
          case measure => show strLen (.string (S.extract (pnx S i) S.size)) < strLen (.string (S.extract i S.size)); simp only [strLen]; omega
        · have KC := Lib.hid (fun z => cuf_bad S hM i hi x hps z)
          have hres : RR = ([], pstep S i x) := by
            have := HON.out
            rw [pg_bad S hlt hfull hps] at this
            rw [← this]
            unfold onto
            rw [if_neg hps]
          have d3 : (pstep S i x == 0) = false := by simpa using hps
          have d4 : (pstep S i x != 0) = true := by simpa using hps
          have HRES := Lib.hid hres
          clear hres hfull hps
          generalize pstep S i x = e at *
          have hsz := hB.size
          go_wp2_with (go_at_call 59; ((with_reducible refine (KC.out _).mono ?_); rintro e w3 ⟨rfl, hbel⟩; obtain ⟨hcc, hff⟩ := bcell hbel; have hsz := hbel.size; (try simp at hsz); have hF : w3.cell? ⟨wr.heap.size, 0, none⟩ = some (.int .u64 0) ∧ w3.cell? ⟨wr.heap.size, 1, none⟩ = some (.string (⟨#[]⟩ : ByteArray)) ∧ w3.frozen? ⟨wr.heap.size, 0, none⟩ = false ∧ w3.frozen? ⟨wr.heap.size, 1, none⟩ = false ∧ wr.heap.size < w3.heap.size ∧ Below w.heap.size w w3 := (by ((repeat' apply And.intro) <;> first | (simp [go_sem, *]; done) | omega | (repeat' (first | with_reducible exact Below.refl _ _ | with_reducible assumption | ((with_reducible refine Below.drew ?_)) | ((with_reducible refine below_drewN ?_ _)) | ((with_reducible refine Below.alloc ?_ ?_ _); rotate_left; focus (first | omega | (simp; done) | (simp; omega))) | ((with_reducible refine Below.setCell ?_ ?_ _); rotate_left; focus (first | omega | (simp; done) | (simp; omega))) | ((with_reducible refine Below.trans ?_ (Below.mono (by with_reducible assumption) ?_)); rotate_left; focus (first | omega | (simp; done) | (simp; omega))))))); go_split_ands; clear hcc hff hbel))
          go_ret2
          exact ⟨_, by rw [HRES.out]; rfl, by rw [HRES.out]; exact World.ownsRow_nil _ _ _ _, by ((repeat' (first | with_reducible exact Below.refl _ _ | with_reducible assumption | ((with_reducible refine Below.drew ?_)) | ((with_reducible refine below_drewN ?_ _)) | ((with_reducible refine Below.alloc ?_ ?_ _); rotate_left; focus (first | omega | (simp; done) | (simp; omega))) | ((with_reducible refine Below.setCell ?_ ?_ _); rotate_left; focus (first | omega | (simp; done) | (simp; omega))) | ((with_reducible refine Below.trans ?_ (Below.mono (by with_reducible assumption) ?_)); rotate_left; focus (first | omega | (simp; done) | (simp; omega))))); done)⟩
    · obtain rfl : i = S.size := by omega
      have hE : S.extract S.size S.size = (⟨#[]⟩ : ByteArray) := str_empty (by omega)
      have hres : RR = (A, 0) := by
        have := HON.out
        rw [pg_end S (Nat.le_refl _)] at this
        rw [← this]
        unfold onto
        rw [if_pos rfl, List.append_nil]
      have HRES := Lib.hid hres
      clear hres hRs
      have HO := Lib.hid hO
      clear hO
      go_wp2
      go_ret2
      exact ⟨_, by rw [HRES.out]; rfl, by rw [HRES.out]; exact HO.out, hB⟩
end Go.Proofs.Ytnfhiagbbmaobaa
