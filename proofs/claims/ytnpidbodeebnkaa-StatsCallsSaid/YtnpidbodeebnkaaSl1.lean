/- Statistics and the list of packets (mathematics). -/
import Derived.Test.YtnpidbodeebnkaaRf5
import Derived.Test.YtnpidbodeebnkaaRf3
namespace Go.Proofs.Ytnpidbodeebnkaa
set_option linter.unusedVariables false
set_option linter.unusedSimpArgs false
set_option maxRecDepth 100000
open Go.RowKit Fg Reg Go.Maps
attribute [local irreducible] Reg.wN Reg.wE QR

/-- What the statistics know is what the list tells. -/
structure SL (f : Int → Option Value) (W : Int → List Int) (R : Int → Option R5) (l : List PK) : Prop where
  w : ∀ c, W c = (waitC c l).map PK.ta
  r : ∀ c, (R c).getD r50 = cntC c l
  rs : ∀ c, (R c).isSome = true ↔ ∃ q ∈ l, q.gn = true ∧ q.cl = c
  fs : ∀ c, (f c).isSome = true ↔ ∃ q ∈ l, q.cl = c
  rg : ∀ q ∈ l, iok q.cl ∧ 0 ≤ q.ta ∧ q.ta ≤ 18446744073709551615
theorem SL.zero : SL (fun _ => none) (fun _ => []) (fun _ => none) [] := ⟨fun c => rfl, fun c => rfl, fun c => by simp, fun c => by simp, fun q h => (by cases h)⟩
theorem SL.came {f : Int → Option Value} {W : Int → List Int} {R : Int → Option R5} {l : List PK} (h : SL f W R l) {c ta : Int} (v : Value) (hc : iok c) (h0 : 0 ≤ ta) (h1 : ta ≤ 18446744073709551615) : SL (upd f c v) (uw W c (W c ++ [ta])) R (l ++ [⟨c, ta, 0, 0, false, false⟩]) := by
  refine ⟨fun d => ?_, fun d => by rw [h.r d, cnt_came], fun d => ?_, fun d => ?_, fun q hq => ?_⟩
  · rw [wait_came]
    by_cases hd : d = c
    · subst hd; rw [uw_at, if_pos rfl, List.map_append, ← h.w d]; rfl
    · rw [uw_ne _ _ hd, if_neg hd, h.w d]
  · rw [h.rs d]
    constructor
    · rintro ⟨q, h1, h2⟩; exact ⟨q, List.mem_append_left _ h1, h2⟩
    · rintro ⟨q, h1, h2⟩
      rcases List.mem_append.1 h1 with g | g
      · exact ⟨q, g, h2⟩
      · rw [List.mem_singleton] at g; subst g; exact absurd h2.1 (by simp)
  · by_cases hd : d = c
    · subst hd
      exact ⟨fun _ => ⟨_, List.mem_append_right _ (List.mem_singleton.2 rfl), rfl⟩, fun _ => by simp [upd]⟩
    · rw [show upd f c v d = f d by simp [upd, hd], h.fs d]
      constructor
      · rintro ⟨q, h1, h2⟩; exact ⟨q, List.mem_append_left _ h1, h2⟩
      · rintro ⟨q, h1, h2⟩
        rcases List.mem_append.1 h1 with g | g
        · exact ⟨q, g, h2⟩
        · rw [List.mem_singleton] at g; subst g; exact absurd h2.symm hd
  · rcases List.mem_append.1 hq with g | g
    · exact h.rg q g
    · rw [List.mem_singleton] at g; subst g; exact ⟨hc, h0, h1⟩
theorem goneL_mem {l : List PK} {i : Nat} (hi : i < l.length) (q x : PK) : x ∈ goneL l i q ↔ x = q ∨ x ∈ l.take i ∨ x ∈ l.drop (i + 1) := by
  unfold goneL
  rw [List.mem_append, List.mem_cons]
  constructor
  · rintro (h | h | h)
    · exact .inr (.inl h)
    · exact .inl h
    · exact .inr (.inr h)
  · rintro (h | h | h)
    · exact .inr (.inl h)
    · exact .inl h
    · exact .inr (.inr h)
theorem mem_parts {l : List PK} {i : Nat} (hi : i < l.length) (x : PK) : x ∈ l ↔ x = l[i] ∨ x ∈ l.take i ∨ x ∈ l.drop (i + 1) := by
  have h := goneL_mem hi l[i] x
  unfold goneL at h
  rw [← split_at hi] at h
  exact h
theorem SL.went {f : Int → Option Value} {W : Int → List Int} {R : Int → Option R5} {l : List PK} (h : SL f W R l) {c : Int} {i : Nat} (hf : fstI c l = some i) (hi : i < l.length) (v : Value) {dn ln : Int} {rl : Bool} (hl : 1 ≤ ln) (hl2 : ln ≤ 9223372036854775807) (hd0 : l[i].ta ≤ dn) (hd1 : dn ≤ 18446744073709551615) :
    SL (upd f c v) (uw W c (W c).tail) (upd R c (tog ((R c).getD r50) ⟨1, ln, if rl = true then 1 else 0, dn - l[i].ta, dn - l[i].ta⟩)) (goneL l i (gone1 l[i] dn ln rl)) := by
  obtain ⟨_, h1, h2, -⟩ := fst_some hf
  have hg := h.rg _ (List.getElem_mem hi)
  have hrow : (gone1 l[i] dn ln rl).row = ⟨1, ln, if rl = true then 1 else 0, dn - l[i].ta, dn - l[i].ta⟩ := by
    unfold PK.row gone1
    rw [wrap_id (x := ln) (by omega), wrap_id (x := dn - l[i].ta) (by omega)]
  refine ⟨fun d => ?_, fun d => ?_, fun d => ?_, fun d => ?_, fun q hq => ?_⟩
  · rw [wait_gone hf hi]
    by_cases hd : d = c
    · subst hd; rw [uw_at, if_pos rfl, h.w d, List.map_tail]
    · rw [uw_ne _ _ hd, if_neg hd, h.w d]
  · rw [cnt_gone hf hi]
    by_cases hd : d = c
    · subst hd; rw [if_pos rfl, hrow, ← h.r d]; simp [upd]
    · rw [if_neg hd, ← h.r d]; simp [upd, hd]
  · by_cases hd : d = c
    · subst hd
      exact ⟨fun _ => ⟨_, (goneL_mem hi _ _).2 (.inl rfl), rfl, h1⟩, fun _ => by simp [upd]⟩
    · rw [show ∀ y, upd R c y d = R d from fun y => by simp [upd, hd], h.rs d]
      constructor
      · rintro ⟨q, g1, g2, g3⟩
        rcases (mem_parts hi q).1 g1 with rfl | g
        · rw [h2] at g2; cases g2
        · exact ⟨q, (goneL_mem hi _ _).2 (.inr g), g2, g3⟩
      · rintro ⟨q, g1, g2, g3⟩
        rcases (goneL_mem hi _ _).1 g1 with rfl | g
        · exact absurd (g3.symm.trans h1) hd
        · exact ⟨q, (mem_parts hi q).2 (.inr g), g2, g3⟩
  · have hm : (∃ q ∈ goneL l i (gone1 l[i] dn ln rl), q.cl = d) ↔ ∃ q ∈ l, q.cl = d := by
      constructor
      · rintro ⟨q, g1, g3⟩
        rcases (goneL_mem hi _ _).1 g1 with rfl | g
        · exact ⟨l[i], List.getElem_mem hi, g3⟩
        · exact ⟨q, (mem_parts hi q).2 (.inr g), g3⟩
      · rintro ⟨q, g1, g3⟩
        rcases (mem_parts hi q).1 g1 with rfl | g
        · exact ⟨_, (goneL_mem hi _ _).2 (.inl rfl), g3⟩
        · exact ⟨q, (goneL_mem hi _ _).2 (.inr g), g3⟩
    rw [hm, ← h.fs d]
    by_cases hd : d = c
    · subst hd
      exact ⟨fun _ => (h.fs d).2 ⟨l[i], List.getElem_mem hi, h1⟩, fun _ => by simp [upd]⟩
    · simp [upd, hd]
  · rcases (goneL_mem hi _ _).1 hq with rfl | g
    · exact hg
    · exact h.rg q ((mem_parts hi q).2 (.inr g))
theorem SL.keys {f : Int → Option Value} {W : Int → List Int} {R : Int → Option R5} {l : List PK} (h : SL f W R l) : ∀ x, x ∈ clsL l ↔ (f x).isSome = true := fun x => by rw [clsL_mem, h.fs]
theorem SL.rows {f : Int → Option Value} {W : Int → List Int} {R : Int → Option R5} {l : List PK} (h : SL f W R l) : ∀ x, x ∈ clsL (goneA l) ↔ (R x).isSome = true := fun x => by
  rw [clsL_mem, h.rs]
  unfold goneA
  constructor
  · rintro ⟨q, h1, h2⟩
    obtain ⟨h3, h4⟩ := List.mem_filter.1 h1
    exact ⟨q, h3, by simpa using h4, h2⟩
  · rintro ⟨q, h1, h2, h3⟩
    exact ⟨q, List.mem_filter.2 ⟨h1, by simpa using h2⟩, h3⟩
theorem SL.total {f : Int → Option Value} {W : Int → List Int} {R : Int → Option R5} {l : List PK} (h : SL f W R l) {ks : List Int} (hp : ks.Perm (clsL (goneA l))) : sums r50 (ks.map (fun c => (R c).getD r50)) = cntA l := by
  have e : ks.map (fun c => (R c).getD r50) = ks.map (fun c => cntC c l) := List.map_congr_left fun c _ => h.r c
  rw [e]
  exact all_parts l ks (hp.nodup_iff.2 (ndA (clsL_srt _))) (fun q hq => hp.mem_iff.2 ((clsL_mem _ _).2 ⟨q, hq, rfl⟩))
end Go.Proofs.Ytnpidbodeebnkaa
