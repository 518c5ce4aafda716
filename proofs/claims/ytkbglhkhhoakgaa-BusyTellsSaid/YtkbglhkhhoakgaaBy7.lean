/- busy: what is learnt of all events; Stretches, Work and Until. -/
import Derived.Test.YtkbglhkhhoakgaaBy5
import Derived.Test.YtkbglhkhhoakgaaBy3T
import Derived.Test.YtkbglhkhhoakgaaBy3F
import Derived.Deep.Onto
namespace Go.Proofs.Ytkbglhkhhoakgaa
set_option linter.unusedVariables false
set_option linter.unusedSimpArgs false
set_option maxRecDepth 100000
open Go.RowKit Fg Reg
attribute [local irreducible] Reg.wE Reg.wN

theorem mx_self (a : Int) : mx a a = a := by unfold mx; split <;> rfl
theorem learn_c (x : Nat) (v : Value) (s : Bz) (e : Ev) (w : World) (hS : SN w x v s) (hwk : s.wk ≤ 1000000) (hl : s.st.length ≤ 1000000) : Calls Try.prog 67 #[.pointer (some ⟨x, 0, none⟩), .agg #[.int .i64 (e).op, .bool (e).inn, .bool (e).real, .int .u64 (e).tm, .int .u64 (e).dn, .int .i64 (e).cls, .int .u64 (e).id, .int .i64 (e).ln, .int .u16 (e).a, .int .u16 (e).b, .int .u16 (e).c, .int .u16 (e).d]] w fun ee w' => ee = .returned (.tuple #[]) ∧ (∃ v', SN w' x v' (blearn s e)) ∧ Below x w w' := by
  cases hi : e.inn with
  | true =>
    have := learn_in x v s e w hS hwk hi
    rwa [hi] at this
  | false =>
    obtain ⟨st, un, wk, si⟩ := s
    simp only at hwk hl
    have hb : blearn ⟨st, un, wk, si⟩ e = ⟨bst ⟨st, un, wk, si⟩ e, mx un e.dn, wk - 1, si⟩ := by unfold blearn; rw [if_neg (by simp [hi])]
    rw [hb]
    unfold bst
    simp only
    by_cases hc : st = [] ∨ un < e.tm
    · rw [if_pos hc]
      have hd : (⟨e.tm, e.dn⟩ : Str) = ⟨(⟨e.tm, e.dn⟩ : Str).fr, mx (⟨e.tm, e.dn⟩ : Str).tt e.dn⟩ := by simp only; rw [mx_self]
      by_cases h0 : st = []
      · have := learn_newT x v e st ⟨e.tm, e.dn⟩ rfl rfl un si wk w hS hwk hl hi (by rw [h0]; rfl)
        rw [← hd, hi] at this
        exact this
      · have hlt : un < e.tm := by
          rcases hc with h | h
          · exact absurd h h0
          · exact h
        have hne : st.length ≠ 0 := fun h => h0 (List.eq_nil_of_length_eq_zero h)
        have := learn_newF x v e st ⟨e.tm, e.dn⟩ rfl rfl un si wk w hS hwk hl hi (by simp; omega) (by simpa using hlt)
        rw [← hd, hi] at this
        exact this
    · rw [if_neg hc]
      have h0 : st ≠ [] := fun h => hc (.inl h)
      have hle : e.tm ≤ un := by
        have : ¬ un < e.tm := fun h => hc (.inr h)
        omega
      rcases List.eq_nil_or_concat st with h | ⟨pre, a, rfl⟩
      · exact absurd h h0
      · rw [List.concat_eq_append] at hS hl ⊢
        have hg : bgo (pre ++ [a]) e.dn = pre ++ [⟨a.fr, mx a.tt e.dn⟩] := by unfold bgo; simp
        rw [hg]
        have := learn_old x v e pre a un si wk w hS hwk (by simp at hl; omega) hi hle
        rwa [hi] at this
set_option maxHeartbeats 4000000 in
theorem all_c (es : List Ev) (a : Option Addr) (c : Nat) (hn : es.length ≤ 100000) (w : World) (hE : EvsV w a es) :
    Calls Try.prog 64 #[.slice a es.length c] w fun ee w' => ee = .returned (.pointer (some ⟨w.heap.size, 0, none⟩)) ∧ (∃ v, SN w' w.heap.size v (brun es es.length)) ∧ Below w.heap.size w w' := by
  have HE := Lib.hid hE
  have HS := Lib.hid (brun_succ es)
  have HP := Lib.hid (brun_le es)
  have EI := Lib.hid ev_info
  clear hE
  go_enter Try.func64, Try.ntmps64
  go_wp2_with fail
  go_loopw [10] (fun i wr => ∃ (k : Nat) (v : Value), k ≤ es.length ∧ i = .int .i64 k ∧ SN wr w.heap.size v (brun es k) ∧ Below w.heap.size w wr) (fun i _ => es.length - (intOf i).toNat)
  case atStart =>
    refine ⟨0, .slice none 0 0, Nat.zero_le _, rfl, ⟨?_, World.ownsRow_nil _ _ _ _⟩, (by repeat' (first | with_reducible exact Below.refl _ _ | with_reducible assumption | ((with_reducible refine Below.drew ?_)) | ((with_reducible refine below_drewN ?_ _)) | ((with_reducible refine Below.alloc ?_ ?_ _); rotate_left; focus (first | omega | (simp; done) | (simp; omega))) | ((with_reducible refine Below.setCell ?_ ?_ _); rotate_left; focus (first | omega | (simp; done) | (simp; omega))) | ((with_reducible refine Below.trans ?_ (Below.mono (by with_reducible assumption) ?_)); rotate_left; focus (first | omega | (simp; done) | (simp; omega)))))⟩
    show _ ∧ _
    simp [brun, go_sem]
  case round =>
    obtain ⟨k, v, hk, rfl, hS, hB⟩ := hrel
    have hsz := hB.size
    by_cases hlt : k < es.length
    · obtain ⟨b, o, rfl, hb, hr⟩ := (HE.out.below hB) k hlt
      have hs := HS.out k hlt
      have hp := HP.out k
      generalize es[k] = e at hs hr
      have HN := Lib.hid hs
      have KL := Lib.hid (fun z hz => learn_c w.heap.size v (brun es k) e z hz (by omega) (by omega))
      have HSb := Lib.hid (fun ob => hS.below (Below.alloc (Below.refl _ _) (Nat.le_refl _) ob))
      clear hs hp hS
      go_wp2_with (first
        | (refine wpList_load_mid rfl 73 _ rfl b (o + k * 12) rfl _ _ hr Try.underlying73 rfl EI.out ?_)
        | (refine wpList_store_new rfl 73 _ _ rfl _ #[.int .i64 (e).op, .bool (e).inn, .bool (e).real, .int .u64 (e).tm, .int .u64 (e).dn, .int .i64 (e).cls, .int .u64 (e).id, .int .i64 (e).ln, .int .u16 (e).a, .int .u16 (e).b, .int .u16 (e).c, .int .u16 (e).d] rfl rfl EI.out rfl (all_oneCell_toArray e.one) ?_)
        | (go_at_call 67; (with_reducible refine (KL.out _ (HSb.out _)).mono ?_); rintro e1 w1 ⟨rfl, ⟨v1, hS1⟩, hb1⟩))
      go_roundw
      case rel => exact ⟨k + 1, v1, by omega, by go_num, by rw [HN.out]; exact hS1, (hB.alloc hB.size _).trans hb1⟩
      case measure => simp [intOf]; omega
    · obtain rfl : k = es.length := by omega
      clear hlt HE HS HP
      go_wp2
      go_ret
      exact ⟨rfl, ⟨v, hS⟩, hB⟩
theorem bwk_c (es : List Ev) (a : Option Addr) (c : Nat) (hn : es.length ≤ 100000) (w : World) (hE : EvsV w a es) : Calls Try.prog 39 #[.slice a es.length c] w fun ee w' => ee = .returned (.int .i64 (brun es es.length).wk) ∧ Below w.heap.size w w' := by
  have K := Lib.hid (all_c es a c hn w hE)
  clear hE
  go_enter Try.func39, Try.ntmps39
  go_wp2_with (go_at_call 64; (with_reducible refine (K.out).mono ?_); rintro e w1 ⟨rfl, ⟨v, hS⟩, hb⟩; obtain ⟨⟨a0, a1, a2, a3, f0, f1, f2, f3, hx⟩, hown⟩ := hS; clear hown)
  (go_ret; refine ⟨?_, ?_⟩; (focus (exact rfl)); ((repeat' (first | with_reducible exact Below.refl _ _ | with_reducible assumption | ((with_reducible refine Below.drew ?_)) | ((with_reducible refine below_drewN ?_ _)) | ((with_reducible refine Below.alloc ?_ ?_ _); rotate_left; focus (first | omega | (simp; done) | (simp; omega))) | ((with_reducible refine Below.setCell ?_ ?_ _); rotate_left; focus (first | omega | (simp; done) | (simp; omega))) | ((with_reducible refine Below.trans ?_ (Below.mono (by with_reducible assumption) ?_)); rotate_left; focus (first | omega | (simp; done) | (simp; omega))))); done))
theorem bun_c (es : List Ev) (a : Option Addr) (c : Nat) (hn : es.length ≤ 100000) (w : World) (hE : EvsV w a es) : Calls Try.prog 41 #[.slice a es.length c] w fun ee w' => ee = .returned (.int .u64 (brun es es.length).un) ∧ Below w.heap.size w w' := by
  have K := Lib.hid (all_c es a c hn w hE)
  clear hE
  go_enter Try.func41, Try.ntmps41
  go_wp2_with (go_at_call 64; (with_reducible refine (K.out).mono ?_); rintro e w1 ⟨rfl, ⟨v, hS⟩, hb⟩; obtain ⟨⟨a0, a1, a2, a3, f0, f1, f2, f3, hx⟩, hown⟩ := hS; clear hown)
  (go_ret; refine ⟨?_, ?_⟩; (focus (exact rfl)); ((repeat' (first | with_reducible exact Below.refl _ _ | with_reducible assumption | ((with_reducible refine Below.drew ?_)) | ((with_reducible refine below_drewN ?_ _)) | ((with_reducible refine Below.alloc ?_ ?_ _); rotate_left; focus (first | omega | (simp; done) | (simp; omega))) | ((with_reducible refine Below.setCell ?_ ?_ _); rotate_left; focus (first | omega | (simp; done) | (simp; omega))) | ((with_reducible refine Below.trans ?_ (Below.mono (by with_reducible assumption) ?_)); rotate_left; focus (first | omega | (simp; done) | (simp; omega))))); done))
theorem bst_c (es : List Ev) (a : Option Addr) (c : Nat) (hn : es.length ≤ 100000) (w : World) (hE : EvsV w a es) : Calls Try.prog 36 #[.slice a es.length c] w fun ee w' => (∃ v, ee = .returned v ∧ w'.ownsRow w.heap.size 80 2 v (brun es es.length).st.length ((brun es es.length).st.flatMap Str.cells)) ∧ Below w.heap.size w w' := by
  have K := Lib.hid (all_c es a c hn w hE)
  clear hE
  go_enter Try.func36, Try.ntmps36
  go_wp2_with (go_at_call 64; (with_reducible refine (K.out).mono ?_); rintro e w1 ⟨rfl, ⟨v, hS⟩, hb⟩; obtain ⟨⟨a0, a1, a2, a3, f0, f1, f2, f3, hx⟩, hown⟩ := hS; (have HO := Lib.hid (hown.mono (Nat.le_succ _))); (obtain ⟨av, cv, rfl⟩ : ∃ av cv, v = Value.slice av (brun es es.length).st.length cv := (by rcases hown.2 with ⟨h1, h2⟩ | ⟨g, cap, cur, h, _⟩; (exact ⟨none, 0, by rw [h2]; exact h1⟩); exact ⟨_, cap, h⟩)); clear hown)
  go_ret
  exact ⟨⟨_, rfl, HO.out⟩, hb⟩
end Go.Proofs.Ytkbglhkhhoakgaa
