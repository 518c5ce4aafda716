/- Captures as bytes, and bytes as captures: the plain mathematics. -/
import Derived.Test.YtnfhiagbbmaobaaIp17
import Derived.Test.YtnfhiagbbmaobaaOpenA
import Derived.Test.YtnfhiagbbmaobaaRows0
namespace Go.Proofs.Ytnfhiagbbmaobaa
set_option linter.unusedVariables false
set_option linter.unusedSimpArgs false
set_option maxRecDepth 100000
open Go.RowKit Fg Reg

/-- A frame. -/
structure Fm where
  t : Int
  d : ByteArray
instance : Inhabited Fm := ⟨⟨0, ⟨#[]⟩⟩⟩
def Fm.cells (f : Fm) : List Value := [.int .u64 f.t, .string f.d]
theorem fm_of : CellsOf Fm.cells 2 := ⟨fun _ => rfl, fun f v hv => by simp [Fm.cells] at hv; rcases hv with rfl | rfl <;> rfl, by decide⟩
def Fm.wf (f : Fm) : Prop := (0 ≤ f.t ∧ f.t ≤ 18446744073709551615) ∧ f.d.size ≤ 9223372036854775807
theorem fms_of {w : World} {v : Value} (h : Op.FlatSlice w 2 [.int .u64, .str] v) :
    ∃ a, ∃ l : List Fm, ∃ cap, v = .slice a l.length cap ∧ RwV Fm.cells 2 w a l ∧ ∀ k (h : k < l.length), l[k].wf := by
  rcases h with h | ⟨a, cap, h, hc⟩ | ⟨b, o, n, cap, css, h0, rfl, h3, h4, hlt, hn, hi⟩
  · exact ⟨none, [], 0, h, RwV.nil _ _, fun k h => absurd h (Nat.not_lt_zero _)⟩
  · exact ⟨some a, [], cap, h, RwV.nil _ _, fun k h => absurd h (Nat.not_lt_zero _)⟩
  · have h1 : ∀ i, i < n → ∃ q : Fm, w.rangeAt b (o + i * 2) q.cells ∧ q.wf := fun i hin => by
      obtain ⟨hf, he⟩ := hi i (by omega)
      obtain ⟨_, _, e0, ⟨x0, rfl, w0⟩, _, _, rfl, ⟨x1, rfl, w1⟩, rfl⟩ := hf
      rw [e0] at he
      unfold maxLen at w1
      have hb := bounds_u64 w0
      exact ⟨⟨x0, x1⟩, fun j x hx => he j x hx, ⟨by omega, by dsimp only; omega⟩⟩
    obtain ⟨qs, hqs⟩ := Go.Deep.choose_lt h1
    refine ⟨some ⟨b, o, none⟩, (List.range n).map qs, cap, by simp, fun k hk => ?_, fun k hk => ?_⟩
    · have := hqs k (by simpa using hk)
      exact ⟨b, o, rfl, hlt, by simpa using this.1⟩
    · have := hqs k (by simpa using hk)
      simpa using this.2
/-- Why a capture may not be. -/
def chkf (last : Int) : List Fm → Int
  | [] => 0
  | f :: l => if f.d.size < 1 ∨ 16384 < f.d.size then 26 else if f.t < last ∨ 4611686018427387904 < f.t then 27 else chkf f.t l
def chk (L : List Fm) : Int := if 1000 < L.length then 2 else chkf 0 L
theorem chkf_cases (last : Int) (L : List Fm) : chkf last L = 0 ∨ chkf last L = 26 ∨ chkf last L = 27 := by
  induction L generalizing last with
  | nil => exact .inl rfl
  | cons f l ih =>
    unfold chkf
    split
    · omega
    · split
      · omega
      · exact ih _
def by8 (v : Int) : List Int := [v / 72057594037927936 % 256, v / 281474976710656 % 256, v / 1099511627776 % 256, v / 4294967296 % 256, v / 16777216 % 256, v / 65536 % 256, v / 256 % 256, v % 256]
theorem by8_ok (v : Int) : ∀ x ∈ by8 v, 0 ≤ x ∧ x ≤ 255 := fun x hx => by simp [by8] at hx; omega
def encf (f : Fm) : List Int := by8 f.t ++ by2 f.d.size ++ bl f.d
theorem encf_len (f : Fm) : (encf f).length = 10 + f.d.size := by unfold encf; rw [List.length_append, List.length_append, bl_len]; rfl
theorem encf_ok (f : Fm) : ∀ x ∈ encf f, 0 ≤ x ∧ x ≤ 255 := fun x hx => by
  simp only [encf, List.mem_append] at hx
  rcases hx with (h | h) | h
  · exact by8_ok _ x h
  · exact by2_ok _ x h
  · exact bl_ok _ x h
def encl (L : List Fm) : List Int := L.flatMap encf
theorem encl_ok (L : List Fm) : ∀ x ∈ encl L, 0 ≤ x ∧ x ≤ 255 := fun x hx => by
  obtain ⟨f, _, h⟩ := List.mem_flatMap.1 hx
  exact encf_ok f x h
def flog : List Int := [102, 108, 111, 103]
def capS (L : List Fm) : ByteArray := strOf (flog ++ encl L)
/-- The number of eight bytes at a place. -/
theorem nat_eight (S : ByteArray) (p : Nat) : nat S p 8 = ((((((byt S p * 256 + byt S (p + 1)) * 256 + byt S (p + 2)) * 256 + byt S (p + 3)) * 256 + byt S (p + 4)) * 256 + byt S (p + 5)) * 256 + byt S (p + 6)) * 256 + byt S (p + 7) := by simp [nat, hor]
theorem nat_bd8 (S : ByteArray) (p : Nat) : 0 ≤ nat S p 8 ∧ nat S p 8 ≤ 18446744073709551615 := by
  have := nat_bd S p 8
  simp at this
  omega
theorem nat_bd2 (S : ByteArray) (p : Nat) : 0 ≤ nat S p 2 ∧ nat S p 2 ≤ 65535 := by
  have := nat_bd S p 2
  simp at this
  omega
/-- A frame at a place of a text: what is wrong with it, what it is, and where the next one stands. -/
def pstep (S : ByteArray) (i : Nat) (last : Int) : Int :=
  if S.size < i + 10 then 3 else if nat S (i + 8) 2 < 1 ∨ 16384 < nat S (i + 8) 2 then 26 else if (S.size : Int) < i + 10 + nat S (i + 8) 2 then 3 else if nat S i 8 < last ∨ 4611686018427387904 < nat S i 8 then 27 else 0
def pnx (S : ByteArray) (i : Nat) : Nat := i + 10 + (nat S (i + 8) 2).toNat
def pfr (S : ByteArray) (i : Nat) : Fm := ⟨nat S i 8, S.extract (i + 10) (pnx S i)⟩
def pgo (S : ByteArray) : Nat → Nat → Int → Nat → List Fm × Int
  | 0, _, _, _ => ([], 0)
  | f + 1, i, last, c => if S.size ≤ i then ([], 0) else if c = 1000 then ([], 2) else if pstep S i last ≠ 0 then ([], pstep S i last) else
      if (pgo S f (pnx S i) (nat S i 8) (c + 1)).2 = 0 then (pfr S i :: (pgo S f (pnx S i) (nat S i 8) (c + 1)).1, 0) else ([], (pgo S f (pnx S i) (nat S i 8) (c + 1)).2)
theorem pgo_fuel (S : ByteArray) : ∀ f g i last c, S.size < i + f → S.size < i + g → pgo S f i last c = pgo S g i last c := by
  intro f
  induction f with
  | zero =>
    intro g i last c h1 h2
    cases g with
    | zero => rfl
    | succ g => unfold pgo; rw [if_pos (by omega)]
  | succ f ih =>
    intro g i last c h1 h2
    cases g with
    | zero => unfold pgo; rw [if_pos (by omega)]
    | succ g =>
      have hn : i + 10 ≤ pnx S i := by unfold pnx; omega
      unfold pgo
      rw [ih g (pnx S i) (nat S i 8) (c + 1) (by omega) (by omega)]
def pg (S : ByteArray) (i : Nat) (last : Int) (c : Nat) : List Fm × Int := pgo S (S.size + 1) i last c
theorem pg_end (S : ByteArray) {i : Nat} {last : Int} {c : Nat} (h : S.size ≤ i) : pg S i last c = ([], 0) := by
  unfold pg pgo; rw [if_pos h]
theorem pg_full (S : ByteArray) {i : Nat} {last : Int} (h : i < S.size) : pg S i last 1000 = ([], 2) := by
  unfold pg pgo; rw [if_neg (by omega), if_pos rfl]
theorem pg_bad (S : ByteArray) {i : Nat} {last : Int} {c : Nat} (h : i < S.size) (hc : c ≠ 1000) (hp : pstep S i last ≠ 0) : pg S i last c = ([], pstep S i last) := by
  unfold pg pgo; rw [if_neg (by omega), if_neg hc, if_pos hp]
theorem pg_good (S : ByteArray) {i : Nat} {last : Int} {c : Nat} (h : i < S.size) (hc : c ≠ 1000) (hp : pstep S i last = 0) :
    pg S i last c = if (pg S (pnx S i) (nat S i 8) (c + 1)).2 = 0 then (pfr S i :: (pg S (pnx S i) (nat S i 8) (c + 1)).1, 0) else ([], (pg S (pnx S i) (nat S i 8) (c + 1)).2) := by
  have hn : i + 10 ≤ pnx S i := by unfold pnx; omega
  have e : pgo S S.size (pnx S i) (nat S i 8) (c + 1) = pgo S (S.size + 1) (pnx S i) (nat S i 8) (c + 1) := pgo_fuel S _ _ _ _ _ (by omega) (by omega)
  unfold pg
  rw [show pgo S (S.size + 1) i last c = if S.size ≤ i then ([], 0) else if c = 1000 then ([], 2) else if pstep S i last ≠ 0 then ([], pstep S i last) else
      if (pgo S S.size (pnx S i) (nat S i 8) (c + 1)).2 = 0 then (pfr S i :: (pgo S S.size (pnx S i) (nat S i 8) (c + 1)).1, 0) else ([], (pgo S S.size (pnx S i) (nat S i 8) (c + 1)).2) from rfl, e, if_neg (by omega), if_neg hc, if_neg (by simpa using hp)]
/-- What is in front of a list that is to be answered, unless there is an error. -/
def onto (a : List Fm) (r : List Fm × Int) : List Fm × Int := if r.2 = 0 then (a ++ r.1, 0) else ([], r.2)
theorem onto_good (S : ByteArray) {i : Nat} {last : Int} {a : List Fm} (h : i < S.size) (hc : a.length ≠ 1000) (hp : pstep S i last = 0) :
    onto a (pg S i last a.length) = onto (a ++ [pfr S i]) (pg S (pnx S i) (nat S i 8) (a ++ [pfr S i]).length) := by
  rw [pg_good S h hc hp]
  have hl : (a ++ [pfr S i]).length = a.length + 1 := by simp
  rw [hl]
  unfold onto
  split
  · rename_i h0; simp [h0]
  · rename_i h0; simp [h0]
def pdec (S : ByteArray) : List Fm × Int := if S.size < 4 then ([], 3) else if S.extract 0 4 ≠ strOf flog then ([], 4) else pg S 4 0 0
theorem byt_mid (P Q R : List Int) (hok : ∀ x ∈ P ++ (Q ++ R), 0 ≤ x ∧ x ≤ 255) (j : Nat) (hj : j < Q.length) : byt (strOf (P ++ (Q ++ R))) (P.length + j) = Q.getD j 0 := by
  rw [byt_strOf _ _ hok]
  unfold List.getD
  rw [List.getElem?_append_right (by omega), show P.length + j - P.length = j by omega, List.getElem?_append_left hj]
theorem chkf_step {last : Int} {f : Fm} {l : List Fm} (h : chkf last (f :: l) = 0) : (1 ≤ f.d.size ∧ f.d.size ≤ 16384) ∧ (last ≤ f.t ∧ f.t ≤ 4611686018427387904) ∧ chkf f.t l = 0 := by
  unfold chkf at h
  split at h
  · omega
  · split at h
    · omega
    · exact ⟨by omega, by omega, h⟩
theorem pg_encl : ∀ (L : List Fm) (P : List Int) (last : Int) (c : Nat), (∀ x ∈ P, 0 ≤ x ∧ x ≤ 255) → 0 ≤ last → chkf last L = 0 → c + L.length ≤ 1000 → pg (strOf (P ++ encl L)) P.length last c = (L, 0) := by
  intro L
  induction L with
  | nil =>
    intro P last c hP h0 h hc
    exact pg_end _ (by rw [strOf_size]; simp [encl])
  | cons f l ih =>
    intro P last c hP h0 h hc
    obtain ⟨⟨d1, d2⟩, ⟨t1, t2⟩, hl⟩ := chkf_step h
    have hE : encl (f :: l) = encf f ++ encl l := rfl
    have hok : ∀ x ∈ P ++ (encf f ++ encl l), 0 ≤ x ∧ x ≤ 255 := fun x hx => by
      simp only [List.mem_append] at hx
      rcases hx with h | h | h
      · exact hP x h
      · exact encf_ok f x h
      · exact encl_ok l x h
    have hfl := encf_len f
    have hsz : (strOf (P ++ encl (f :: l))).size = P.length + (10 + f.d.size) + (encl l).length := by rw [hE, strOf_size, List.length_append, List.length_append, hfl]; omega
    have hb : ∀ j, j < 10 + f.d.size → byt (strOf (P ++ encl (f :: l))) (P.length + j) = (encf f).getD j 0 := fun j hj => by
      rw [hE]; exact byt_mid P (encf f) (encl l) hok j (by omega)
    have n8 : nat (strOf (P ++ encl (f :: l))) P.length 8 = f.t := by
      have q0 := hb 0 (by omega)
      have q1 := hb 1 (by omega)
      have q2 := hb 2 (by omega)
      have q3 := hb 3 (by omega)
      have q4 := hb 4 (by omega)
      have q5 := hb 5 (by omega)
      have q6 := hb 6 (by omega)
      have q7 := hb 7 (by omega)
      rw [nat_eight, q1, q2, q3, q4, q5, q6, q7]
      rw [Nat.add_zero] at q0
      rw [q0]
      simp only [encf, by8, List.cons_append, List.getD, List.getElem?_cons_zero, List.getElem?_cons_succ, Option.getD_some]
      omega
    have n2 : nat (strOf (P ++ encl (f :: l))) (P.length + 8) 2 = f.d.size := by
      have q8 := hb 8 (by omega)
      have q9 := hb 9 (by omega)
      rw [nat_two, show P.length + 8 + 1 = P.length + 9 by omega, q8, q9]
      simp only [encf, by8, by2, List.cons_append, List.nil_append, List.getD, List.getElem?_cons_zero, List.getElem?_cons_succ, Option.getD_some]
      omega
    have hp : pstep (strOf (P ++ encl (f :: l))) P.length last = 0 := by
      unfold pstep
      rw [n8, n2, hsz, if_neg (by omega), if_neg (by omega), if_neg (by omega), if_neg (by omega)]
    have hx : pnx (strOf (P ++ encl (f :: l))) P.length = (P ++ encf f).length := by unfold pnx; rw [n2, List.length_append, hfl]; omega
    have hfr : pfr (strOf (P ++ encl (f :: l))) P.length = f := by
      unfold pfr
      rw [n8, hx, List.length_append, hfl]
      have hd : (strOf (P ++ encl (f :: l))).extract (P.length + 10) (P.length + (10 + f.d.size)) = f.d := by
        apply bytes_same
        · rw [ext_size _ _ _ (by omega)]; omega
        · intro j hj
          rw [ext_size _ _ _ (by omega)] at hj
          rw [byt_ext _ _ _ _ (by omega) (by omega), show P.length + 10 + j = P.length + (10 + j) by omega, hb (10 + j) (by omega), ← bl_get]
          unfold encf List.getD
          rw [List.getElem?_append_right (by simp [by8, by2])]
          congr 2
          simp [by8, by2]
          try omega
      rw [hd]
    rw [pg_good _ (by omega) (by simp at hc; omega) hp, n8, hx, hfr]
    have hi := ih (P ++ encf f) f.t (c + 1) (fun x hx => by rcases List.mem_append.1 hx with h | h; exact hP x h; exact encf_ok f x h) (by omega) hl (by simp at hc; omega)
    rw [List.append_assoc, ← hE] at hi
    rw [hi]
    rfl
theorem pdec_enc (L : List Fm) (h : chk L = 0) : pdec (capS L) = (L, 0) := by
  unfold chk at h
  split at h
  · omega
  · have hsz : (capS L).size = 4 + (encl L).length := by unfold capS; rw [strOf_size, List.length_append]; rfl
    have h4 : (capS L).extract 0 4 = strOf flog := by
      have := extract_front (strOf flog) (strOf (encl L))
      rw [strOf_append, show (strOf flog).size = 4 by rw [strOf_size]; rfl] at this
      exact this
    unfold pdec
    rw [if_neg (by omega), if_neg (by simpa using h4)]
    exact pg_encl L flog 0 0 (by simp [flog]) (by omega) h (by omega)
set_option maxHeartbeats 8000000 in
theorem pg_back (S : ByteArray) : ∀ (n i : Nat) (last : Int) (c : Nat) (L : List Fm), S.size < i + n → i ≤ S.size → c ≤ 1000 → pg S i last c = (L, 0) → strOf (encl L) = S.extract i S.size ∧ chkf last L = 0 ∧ c + L.length ≤ 1000 ∧ ∀ k (h : k < L.length), L[k].wf := by
  intro n
  induction n with
  | zero => intro i last c L h1 h2; omega
  | succ n ih =>
    intro i last c L h1 h2 hc h
    by_cases he : S.size ≤ i
    · rw [pg_end S he] at h
      obtain ⟨rfl, -⟩ := Prod.mk.inj h
      have : i = S.size := by omega
      subst this
      refine ⟨?_, rfl, by simpa using hc, fun k h => absurd h (Nat.not_lt_zero _)⟩
      apply bytes_same
      · rw [strOf_size, ext_size _ _ _ (Nat.le_refl _)]; simp [encl]
      · intro j hj; rw [strOf_size] at hj; simp [encl] at hj
    · by_cases hk : c = 1000
      · subst hk
        rw [pg_full S (by omega)] at h
        have := (Prod.mk.inj h).2
        omega
      · by_cases hp : pstep S i last = 0
        · rw [pg_good S (by omega) hk hp] at h
          split at h
          · rename_i h0
            obtain ⟨rfl, -⟩ := Prod.mk.inj h
            unfold pstep at hp
            split at hp
            · omega
            split at hp
            · omega
            split at hp
            · omega
            split at hp
            · omega
            rename_i a1 a2 a3 a4
            have hn : pnx S i = i + 10 + (nat S (i + 8) 2).toNat := rfl
            have b2 := nat_bd2 S (i + 8)
            obtain ⟨r1, r2, r3, r4⟩ := ih (pnx S i) (nat S i 8) (c + 1) (pg S (pnx S i) (nat S i 8) (c + 1)).1 (by omega) (by omega) (by omega) (Prod.ext rfl h0)
            have hd : (pfr S i).d.size = (nat S (i + 8) 2).toNat := by show (S.extract _ _).size = _; rw [ext_size _ _ _ (by omega)]; omega
            refine ⟨?_, ?_, by rw [List.length_cons]; omega, ?_⟩
            · rw [show encl (pfr S i :: (pg S (pnx S i) (nat S i 8) (c + 1)).1) = encf (pfr S i) ++ encl (pg S (pnx S i) (nat S i 8) (c + 1)).1 from rfl, ← strOf_append, r1]
              have hfl := encf_len (pfr S i)
              apply bytes_same
              · rw [app_size, strOf_size, hfl, ext_size _ _ _ (Nat.le_refl _), ext_size _ _ _ (Nat.le_refl _), hd]; omega
              · intro j hj
                rw [app_size, strOf_size, hfl, ext_size _ _ _ (Nat.le_refl _), hd] at hj
                rw [byt_app, strOf_size, hfl, byt_ext S i S.size j (Nat.le_refl _) (by omega)]
                by_cases hj1 : j < 10 + (pfr S i).d.size
                · rw [if_pos hj1, byt_strOf _ _ (encf_ok _)]
                  unfold encf
                  by_cases hj2 : j < 10
                  · have e8 := nat_eight S i
                    have e2 := nat_two S (i + 8)
                    have z0 := byt_bd S i
                    have z1 := byt_bd S (i + 1)
                    have z2 := byt_bd S (i + 2)
                    have z3 := byt_bd S (i + 3)
                    have z4 := byt_bd S (i + 4)
                    have z5 := byt_bd S (i + 5)
                    have z6 := byt_bd S (i + 6)
                    have z7 := byt_bd S (i + 7)
                    have z8 := byt_bd S (i + 8)
                    have z9 := byt_bd S (i + 9)
                    rw [show i + 8 + 1 = i + 9 from rfl] at e2
                    have ht : (pfr S i).t = nat S i 8 := rfl
                    rw [ht, hd]
                    rcases j with _ | _ | _ | _ | _ | _ | _ | _ | _ | _ | j <;> first | (exfalso; omega) | (simp only [by8, by2, List.cons_append, List.nil_append, List.getD, List.getElem?_cons_zero, List.getElem?_cons_succ, Option.getD_some, Nat.add_zero, Nat.zero_add, Nat.reduceAdd]; omega)
                  · unfold List.getD
                    rw [List.getElem?_append_right (by simp [by8, by2]; omega)]
                    have := bl_get (pfr S i).d (j - 10)
                    unfold List.getD at this
                    rw [show j - (by8 (pfr S i).t ++ by2 ((pfr S i).d.size : Int)).length = j - 10 by simp [by8, by2], this]
                    show byt (S.extract _ _) _ = _
                    rw [byt_ext _ _ _ _ (by omega) (by omega)]
                    congr 1; omega
                · rw [if_neg hj1, byt_ext _ _ _ _ (Nat.le_refl _) (by omega)]
                  congr 1; omega
            · unfold chkf
              rw [hd, if_neg (by omega), show (pfr S i).t = nat S i 8 from rfl, if_neg a4]
              exact r2
            · intro k hk
              cases k with
              | zero =>
                have := nat_bd8 S i
                exact ⟨this, by show (pfr S i).d.size ≤ _; rw [hd]; omega⟩
              | succ k => exact r4 k (by simpa using hk)
          · rename_i h0
            exact absurd (Prod.mk.inj h).2 h0
        · rw [pg_bad S (by omega) hk hp] at h
          exact absurd (Prod.mk.inj h).2 hp
theorem pdec_back (S : ByteArray) (L : List Fm) (h : pdec S = (L, 0)) : capS L = S ∧ chk L = 0 ∧ ∀ k (h : k < L.length), L[k].wf := by
  unfold pdec at h
  split at h
  · have := (Prod.mk.inj h).2; omega
  split at h
  · have := (Prod.mk.inj h).2; omega
  rename_i h4 hf
  have hf' : S.extract 0 4 = strOf flog := by simpa using hf
  obtain ⟨r1, r2, r3, r4⟩ := pg_back S (S.size + 1) 4 0 0 L (by omega) (by omega) (by omega) h
  refine ⟨?_, ?_, r4⟩
  · unfold capS
    rw [← strOf_append, r1, ← hf']
    apply bytes_same
    · rw [app_size, ext_size _ _ _ (by omega), ext_size _ _ _ (Nat.le_refl _)]; omega
    · intro j hj
      rw [app_size, ext_size _ _ _ (by omega), ext_size _ _ _ (Nat.le_refl _)] at hj
      rw [byt_app, ext_size _ _ _ (by omega)]
      by_cases hj4 : j < 4
      · rw [if_pos (by omega), byt_ext _ _ _ _ (by omega) (by omega), Nat.zero_add]
      · rw [if_neg (by omega), byt_ext _ _ _ _ (Nat.le_refl _) (by omega)]; congr 1; omega
  · unfold chk
    rw [if_neg (by omega)]
    exact r2
end Go.Proofs.Ytnfhiagbbmaobaa
