/- What the law calls. -/
import Derived.Test.YtnpidbodeebnkaaSl2
namespace Go.Proofs.Ytnpidbodeebnkaa
set_option linter.unusedVariables false
set_option linter.unusedSimpArgs false
set_option maxRecDepth 100000
open Go.RowKit Fg Reg Go.Maps
attribute [local irreducible] Reg.wN Reg.wE QR

theorem k_row {z w : World} {B p mw mr : Nat} {f : Int → Option Value} {W : Int → List Int} {bk : Int → Option Nat} {R : Int → Option R5} {l : List PK} {ao : Option Addr} {n c : Nat} {rb : Option Nat} (h : LW z w B p mw mr f W bk R l ao n c rb) (hs : SL f W R l) {cl : Int} (hc : iok cl) : Calls Try.prog 11 #[.pointer (some ⟨p, 0, none⟩), .int .i64 cl] z fun e z' => e = .returned (r5v (cntC cl l)) ∧ Below z.heap.size z z' := by
  have := srow_c h.sg hc
  rw [hs.r] at this
  exact this
theorem k_cnt {z w : World} {B p mw mr : Nat} {f : Int → Option Value} {W : Int → List Int} {bk : Int → Option Nat} {R : Int → Option R5} {l : List PK} {ao : Option Addr} {n c : Nat} {rb : Option Nat} (h : LW z w B p mw mr f W bk R l ao n c rb) (hn : n ≤ 1000) (cl : Int) : Calls Try.prog 13 #[.slice ao n c, .int .i64 cl, .bool false] z fun e z' => e = .returned (r5v (cntC cl l)) ∧ Below z.heap.size z z' := by
  have := rc7_c l n h.ln hn cl false ao c z h.rw
  rw [cntG_one] at this
  exact this
theorem k_cntA {z w : World} {B p mw mr : Nat} {f : Int → Option Value} {W : Int → List Int} {bk : Int → Option Nat} {R : Int → Option R5} {l : List PK} {ao : Option Addr} {n c : Nat} {rb : Option Nat} (h : LW z w B p mw mr f W bk R l ao n c rb) (hn : n ≤ 1000) (cl : Int) : Calls Try.prog 13 #[.slice ao n c, .int .i64 cl, .bool true] z fun e z' => e = .returned (r5v (cntA l)) ∧ Below z.heap.size z z' := by
  have := rc7_c l n h.ln hn cl true ao c z h.rw
  rw [cntG_all] at this
  exact this
theorem k_wait {z w : World} {B p mw mr : Nat} {f : Int → Option Value} {W : Int → List Int} {bk : Int → Option Nat} {R : Int → Option R5} {l : List PK} {ao : Option Addr} {n c : Nat} {rb : Option Nat} (h : LW z w B p mw mr f W bk R l ao n c rb) (hs : SL f W R l) {cl : Int} (hc : iok cl) : Calls Try.prog 14 #[.pointer (some ⟨p, 0, none⟩), .int .i64 cl] z fun e z' => e = .returned (.int .i64 ((waitC cl l).length : Int)) ∧ Below z.heap.size z z' := by
  have := swait_c h.sg hc
  rw [hs.w, List.length_map] at this
  exact this
theorem k_rn {z w : World} {B p mw mr : Nat} {f : Int → Option Value} {W : Int → List Int} {bk : Int → Option Nat} {R : Int → Option R5} {l : List PK} {ao : Option Addr} {n c : Nat} {rb : Option Nat} (h : LW z w B p mw mr f W bk R l ao n c rb) (hn : n ≤ 1000) (cl : Int) : Calls Try.prog 15 #[.slice ao n c, .int .i64 cl] z fun e z' => e = .returned (.int .i64 ((waitC cl l).length : Int)) ∧ Below z.heap.size z z' := rn7_c l n h.ln hn cl ao c z h.rw
theorem k_tot {z w : World} {B p mw mr : Nat} {f : Int → Option Value} {W : Int → List Int} {bk : Int → Option Nat} {R : Int → Option R5} {l : List PK} {ao : Option Addr} {n c : Nat} {rb : Option Nat} (h : LW z w B p mw mr f W bk R l ao n c rb) (hs : SL f W R l) (hn : n ≤ 1000) : Calls Try.prog 16 #[.pointer (some ⟨p, 0, none⟩)] z fun e z' => e = .returned (r5v (cntA l)) ∧ Below z.heap.size z z' := by
  refine (stot_c h.sg (ndA (clsL_srt (goneA l))) hs.rows (fun x hx => ?_) ?_).mono ?_
  · obtain ⟨q, hq, rfl⟩ := (clsL_mem _ _).1 hx
    exact (hs.rg q (List.mem_filter.1 hq).1).1
  · have h1 := clsL_len (goneA l)
    have h2 : (goneA l).length ≤ l.length := List.length_filter_le _ _
    have h3 := h.ln
    omega
  · rintro e z' ⟨ks, hp, rfl, hb⟩
    exact ⟨by rw [hs.total hp], hb⟩
theorem k_cla {z w : World} {B p mw mr : Nat} {f : Int → Option Value} {W : Int → List Int} {bk : Int → Option Nat} {R : Int → Option R5} {l : List PK} {ao : Option Addr} {n c : Nat} {rb : Option Nat} (h : LW z w B p mw mr f W bk R l ao n c rb) (hs : SL f W R l) (hn : n ≤ 1000) : Calls Try.prog 18 #[.pointer (some ⟨p, 0, none⟩)] z fun e z' => ∃ ao cap, e = .returned (.slice ao (clsL l).length cap) ∧ RwV (fun x : Int => [Value.int .i64 x]) 1 z' ao (clsL l) ∧ Below z.heap.size z z' :=
  scla_c h.sg (clsL_srt l) hs.keys (by have h1 := clsL_len l; have h3 := h.ln; omega)
theorem k_rk {z w : World} {B p mw mr : Nat} {f : Int → Option Value} {W : Int → List Int} {bk : Int → Option Nat} {R : Int → Option R5} {l : List PK} {ao : Option Addr} {n c : Nat} {rb : Option Nat} (h : LW z w B p mw mr f W bk R l ao n c rb) (hn : n ≤ 1000) : Calls Try.prog 19 #[.slice ao n c] z fun e z' => ∃ oo cp, e = .returned (.slice oo (clsL l).length cp) ∧ RwV (fun x : Int => [Value.int .i64 x]) 1 z' oo (clsL l) ∧ Below z.heap.size z z' := rk7_c l n h.ln hn ao c z h.rw
theorem wait_len {z w : World} {B p mw mr : Nat} {f : Int → Option Value} {W : Int → List Int} {bk : Int → Option Nat} {R : Int → Option R5} {l : List PK} {ao : Option Addr} {n c : Nat} {rb : Option Nat} (h : LW z w B p mw mr f W bk R l ao n c rb) (hs : SL f W R l) (x : Int) : (W x).length ≤ n := by
  rw [hs.w, List.length_map, ← h.ln]
  exact List.length_filter_le _ _
theorem k_wno {z w : World} {B p mw mr : Nat} {f : Int → Option Value} {W : Int → List Int} {bk : Int → Option Nat} {R : Int → Option R5} {l : List PK} {ao : Option Addr} {n c : Nat} {rb : Option Nat} (h : LW z w B p mw mr f W bk R l ao n c rb) (hs : SL f W R l) (hn : n ≤ 100) {cl dn ln : Int} (rl : Bool) (hc : iok cl) (hE : wnv cl dn ln l ≠ 0) : Calls Try.prog 8 #[.pointer (some ⟨p, 0, none⟩), .int .i64 cl, .int .u64 dn, .int .i64 ln, .bool rl] z fun ee w' => ee = .returned (.int .i64 (wnv cl dn ln l)) ∧ Below z.heap.size z w' := by
  have hw := hs.w cl
  unfold wnv at hE ⊢
  cases hf : fstI cl l with
  | none =>
    simp only
    rw [fst_none hf] at hw
    exact wen_none h.sg hc hw dn ln rl
  | some i =>
    obtain ⟨hi, -⟩ := fst_some hf
    rw [hf] at hE
    simp only at hE ⊢
    rw [wait_split hf hi, List.map_cons] at hw
    have hgd : l.getD i default = l[i] := by simp [List.getD, List.getElem?_eq_getElem hi]
    rw [hgd] at hE ⊢
    by_cases h1 : ln < 1
    · rw [if_pos h1]
      exact wen_len h.sg hc (by rw [hw]; simp) dn ln rl h1
    · rw [if_neg h1] at hE ⊢
      by_cases h2 : dn < l[i].ta
      · rw [if_pos h2]
        have hl := wait_len h hs cl
        rw [hw, List.length_cons] at hl
        exact wen_clock h.sg hc hw (by omega) dn ln rl (by omega) h2
      · rw [if_neg h2] at hE
        exact absurd rfl hE
/-- What Went leaves where a packet goes. -/
def WenQ (z : World) (B p mw mr : Nat) (bk : Int → Option Nat) (l2 : List PK) (e : Ending) (z' : World) : Prop := e = .returned (.int .i64 0) ∧ ∃ f' W' R', SG z' B p mw mr f' W' bk R' ∧ SL f' W' R' l2 ∧ Only (fun k => k = mw ∨ k = mr) z z'
theorem k_wok {z w : World} {B p mw mr : Nat} {f : Int → Option Value} {W : Int → List Int} {bk : Int → Option Nat} {R : Int → Option R5} {l : List PK} {ao : Option Addr} {n c : Nat} {rb : Option Nat} (h : LW z w B p mw mr f W bk R l ao n c rb) (hs : SL f W R l) (hn : n ≤ 100) {cl dn ln : Int} (rl : Bool) (hc : iok cl) (hdn : dn ≤ 18446744073709551615) (hl2 : ln ≤ 9223372036854775807) (hE : wnv cl dn ln l = 0) : ∃ (i : Nat) (hi : i < l.length), fsv cl l = i ∧ Calls Try.prog 8 #[.pointer (some ⟨p, 0, none⟩), .int .i64 cl, .int .u64 dn, .int .i64 ln, .bool rl] z (WenQ z B p mw mr bk (goneL l i (gone1 l[i] dn ln rl))) := by
  have hw := hs.w cl
  unfold wnv at hE
  cases hf : fstI cl l with
  | none => rw [hf] at hE; cases hE
  | some i =>
    obtain ⟨hi, -⟩ := fst_some hf
    rw [hf] at hE
    simp only at hE
    rw [wait_split hf hi, List.map_cons] at hw
    have hgd : l.getD i default = l[i] := by simp [List.getD, List.getElem?_eq_getElem hi]
    rw [hgd] at hE
    by_cases h1 : ln < 1
    · rw [if_pos h1] at hE; cases hE
    · rw [if_neg h1] at hE
      by_cases h2 : dn < l[i].ta
      · rw [if_pos h2] at hE; cases hE
      · have hl := wait_len h hs cl
        rw [hw, List.length_cons] at hl
        have hg := hs.rg _ (List.getElem_mem hi)
        refine ⟨i, hi, by unfold fsv; rw [hf], (wen_ok h.sg hc hw (by omega) dn ln rl (by omega) hl2 hg.2.1 (by omega) hdn).mono ?_⟩
        rintro e z' ⟨rfl, v, hS, ho⟩
        have h9 := hs.went hf hi v (dn := dn) (ln := ln) (rl := rl) (by omega) hl2 (by omega) hdn
        rw [hw, List.tail_cons] at h9
        exact ⟨rfl, _, _, _, hS, h9, ho⟩
theorem goneL_len {l : List PK} {i : Nat} (hi : i < l.length) (q : PK) : (goneL l i q).length = l.length := by
  unfold goneL
  rw [List.length_append, List.length_cons, List.length_take, List.length_drop]
  omega
theorem lw_new (w : World) : Calls Try.prog 5 #[] w fun e w' => ∃ p mw mr B, e = .returned (.pointer (some ⟨p, 0, none⟩)) ∧ LW w' w B p mw mr (fun _ => none) (fun _ => []) (fun _ => none) (fun _ => none) [] none 0 0 none := by
  refine (sgnew_c w).mono ?_
  rintro e w' ⟨rfl, hs, hb⟩
  exact ⟨_, _, _, _, rfl, hs, QR.nil _ _ _, fun x b h => (by cases h), hb, rfl, by omega, by omega, by omega⟩
end Go.Proofs.Ytnpidbodeebnkaa
