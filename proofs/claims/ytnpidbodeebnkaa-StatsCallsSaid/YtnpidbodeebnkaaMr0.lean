/- A slice that is gathered by append and taken away from the front of: elements of any number of cells. -/
import Derived.Test.YtnpidbodeebnkaaQSlice
import Derived.Test.YtnpidbodeebnkaaRows0
namespace Go.Proofs.Ytnpidbodeebnkaa
set_option linter.unusedVariables false
set_option linter.unusedSimpArgs false
set_option maxRecDepth 100000
open Go.RowKit Fg Reg

/-- Such a slice, whose block is bk. -/
def QR (z : World) (B s : Nat) (v : Value) (m : Nat) (xs : List Value) (bk : Option Nat) : Prop :=
  xs.length = m * s ∧ ((v = .slice none 0 0 ∧ m = 0 ∧ bk = none) ∨ ∃ b o cap, bk = some b ∧ v = .slice (some ⟨b, o, none⟩) m cap ∧ m ≤ cap ∧ cap ≤ maxLen ∧ B ≤ b ∧ b < z.heap.size ∧
    (∀ j, j < cap * s → (z.cell? ⟨b, o + j, none⟩).isSome = true ∧ z.frozen? ⟨b, o + j, none⟩ = false) ∧ ∀ j x, xs[j]? = some x → z.cell? ⟨b, o + j, none⟩ = some x)
theorem QR.nil (z : World) (B s : Nat) : QR z B s (.slice none 0 0) 0 [] none := ⟨by simp, .inl ⟨rfl, rfl, rfl⟩⟩
theorem QR.lt {z : World} {B s m : Nat} {v : Value} {xs : List Value} {bk : Option Nat} (h : QR z B s v m xs bk) : ∀ b, bk = some b → B ≤ b ∧ b < z.heap.size := fun b hb => by
  rcases h.2 with ⟨_, _, h3⟩ | ⟨b', o, cap, h1, _, _, _, h2, h3, _⟩
  · rw [h3] at hb; cases hb
  · rw [h1] at hb; cases hb; exact ⟨h2, h3⟩
theorem QR.only {S : Nat → Prop} {z z' : World} {B s m : Nat} {v : Value} {xs : List Value} {bk : Option Nat} (h : QR z B s v m xs bk) (ho : Only S z z') (hS : ∀ b, bk = some b → ¬ S b) : QR z' B s v m xs bk := by
  obtain ⟨h0, h | ⟨b, o, cap, h1, h2, h3, h4, h5, h6, h7, h8⟩⟩ := h
  · exact ⟨h0, .inl h⟩
  · have hn := hS b h1
    exact ⟨h0, .inr ⟨b, o, cap, h1, h2, h3, h4, h5, Nat.lt_of_lt_of_le h6 ho.size, fun j hj => ⟨by rw [ho.cell h6 hn]; exact (h7 j hj).1, by rw [ho.frozen h6 hn]; exact (h7 j hj).2⟩, fun j x hj => by rw [ho.cell h6 hn]; exact h8 j x hj⟩⟩
theorem QR.below {z z' : World} {B s m : Nat} {v : Value} {xs : List Value} {bk : Option Nat} (h : QR z B s v m xs bk) (hb : Below z.heap.size z z') : QR z' B s v m xs bk := h.only (Only.of_below (S := fun _ => False) hb) (fun _ _ h => h)
theorem QR.form {z : World} {B s m : Nat} {v : Value} {xs : List Value} {bk : Option Nat} (h : QR z B s v m xs bk) : ∃ ao cp, v = .slice ao m cp := by
  rcases h.2 with ⟨h1, h2, _⟩ | ⟨b, o, cap, _, h1, _⟩
  · subst h2; exact ⟨none, 0, h1⟩
  · exact ⟨_, cap, h1⟩
/-- The slice behind the first element. -/
def tlq (s : Nat) (b o m cap : Nat) : Value := .slice (if cap = 1 then some ⟨b, o, none⟩ else some ⟨b, o + s, none⟩) (m - 1) (cap - 1)
theorem QR.tail {z : World} {B s m : Nat} {xs : List Value} {b o cap : Nat} {bk : Option Nat} (h : QR z B s (.slice (some ⟨b, o, none⟩) m cap) m xs bk) (hm : 0 < m) : QR z B s (tlq s b o m cap) (m - 1) (xs.drop s) bk := by
  obtain ⟨h0, ⟨h, _⟩ | ⟨b', o', cap', h1, h2, h3, h4, h5, h6, h7, h8⟩⟩ := h
  · cases h
  · injection h2 with e1 e2 e3
    injection e1 with e1
    injection e1 with e1 e4
    subst e1 e4 e3
    obtain ⟨c, rfl⟩ : ∃ c, cap = c + 1 := ⟨cap - 1, by omega⟩
    obtain ⟨k, rfl⟩ : ∃ k, m = k + 1 := ⟨m - 1, by omega⟩
    have hl : (xs.drop s).length = (k + 1 - 1) * s := by rw [List.length_drop, h0, Nat.succ_mul]; simp
    unfold tlq
    refine ⟨hl, .inr ?_⟩
    by_cases hc : c + 1 = 1
    · rw [if_pos hc]
      have : c = 0 := by omega
      subst this
      have : k = 0 := by omega
      subst this
      refine ⟨b, o, 0, h1, rfl, by omega, by omega, h5, h6, fun j hj => by simp at hj, fun j x hj => ?_⟩
      have := (List.getElem?_eq_some_iff.1 hj).1
      rw [hl] at this; simp at this
    · rw [if_neg hc]
      refine ⟨b, o + s, c, h1, rfl, by omega, by omega, h5, h6, fun j hj => ?_, fun j x hj => ?_⟩
      · have := h7 (s + j) (by rw [Nat.succ_mul]; omega)
        rwa [← Nat.add_assoc] at this
      · have := h8 (s + j) x (by rw [List.getElem?_drop] at hj; exact hj)
        rwa [← Nat.add_assoc] at this
theorem QR.of_own {w : World} {B s n : Nat} {e : TypeId} {v : Value} {xs : List Value} (h : w.ownsRow B e s v n xs) (hn : 0 < n) : ∃ b, QR w B s v n xs (some b) := by
  obtain ⟨hl, h⟩ := h
  rcases h with ⟨_, rfl⟩ | ⟨g, cap, cur, rfl, hg, hh, hnc, hcm, hsz, ht⟩
  · omega
  · have hlt : g < w.heap.size := by
      rcases Nat.lt_or_ge g w.heap.size with h' | h'
      · exact h'
      · rw [Array.getElem?_eq_none h'] at hh; cases hh
    refine ⟨g, hl, .inr ⟨g, 0, cap, rfl, rfl, hnc, hcm, hg, hlt, fun j hj => ?_, fun j x hj => ?_⟩⟩
    · have hj' : j < cur.size := by omega
      constructor
      · simp [World.cell?, hh, hj']
      · simp [World.frozen?, hh]
    · have hjl : j < xs.length := (List.getElem?_eq_some_iff.1 hj).1
      have hcs : n * s ≤ cap * s := Nat.mul_le_mul_right s hnc
      have hj' : j < cur.size := by omega
      rw [← ht, List.getElem?_take, if_pos (by omega)] at hj
      have hx : cur[j]? = some x := by simpa using hj
      simp [World.cell?, hh, hx]
theorem setCells_only (b : Nat) : ∀ (us : List Value) (o : Nat) (w : World), Only (fun k => k = b) w (w.setCells b o us)
  | [], _, w => Only.refl _ _
  | u :: us, o, w => ((Only.refl (fun k => k = b) w).setCell (p := ⟨b, o, none⟩) (.inl rfl) u).trans (setCells_only b us (o + 1) _)
section
variable {P : Program} (w : World)
theorem run_append_qr (B s : Nat) (t ty e : TypeId) (i : TypeInfo) (z : Value) (bytes : Nat) (ht : P.underlying t = some (.slice e)) (hi : P.info? e = some i) (hz : i.zero = some z)
    (hsize : i.size = s) (hby : i.bytes = bytes) (hzs : z.cells.size = s) (hs : 0 < s) (v : Value) (m : Nat) (xs : List Value) (bk : Option Nat) (hq : QR w B s v m xs bk)
    (a : Addr) (c : Nat) (us : List Value) (hul : us.length = s) (hu : ∀ j u, us[j]? = some u → w.cell? (a.add j) = some u) (h1 : ∀ u ∈ us, u.oneCell' = true) (h63 : m + 1 ≤ maxLen) (hbytes : (m + 1) * bytes ≤ 140737488355328) (hB : B ≤ w.heap.size) :
    ∃ v' w' b', (Builtin.append_ #[t, t] ty #[v, .slice (some a) 1 c]).run P w = .ok v' w' ∧ QR w' B s v' (m + 1) (xs ++ us) (some b') ∧ Only (fun k => bk = some k) w w' ∧ (bk = some b' ∨ w.heap.size ≤ b') := by
  obtain ⟨h0, hq⟩ := hq
  rcases hq with ⟨rfl, rfl, rfl⟩ | ⟨b, o, cap, rfl, rfl, hmc, hcm, hBb, hbs, hcells, hg⟩
  · have hx : xs = [] := List.length_eq_zero_iff.1 (by rw [h0]; simp)
    subst hx
    obtain ⟨v', w', hr, h2, h3, _⟩ := run_append_own (P := P) w w.heap.size t ty e i z s bytes ht hi hz hsize hby hzs hs (.slice none 0 0) 0 [] (World.ownsRow_nil w w.heap.size e s) a 1 c us (by omega) hu h1 h63 hbytes (Nat.le_refl _)
    obtain ⟨b', hb⟩ := QR.of_own h2 (by omega)
    have hlo := (hb.lt b' rfl).1
    refine ⟨v', w', b', hr, ?_, ?_, .inr hlo⟩
    · obtain ⟨q0, q⟩ := hb
      refine ⟨q0, ?_⟩
      rcases q with ⟨_, q, _⟩ | ⟨b2, o2, cap2, q1, q2, q3, q4, q5, q6⟩
      · omega
      · exact .inr ⟨b2, o2, cap2, q1, q2, q3, q4, by omega, q6⟩
    · exact ⟨h3.os, h3.tape, h3.output, h3.size, fun k hk hn => h3.block k hk (by simp [Value.ownBlock])⟩
  · by_cases hroom : m + 1 ≤ cap
    · have hms : m * s + s ≤ cap * s := by have := Nat.mul_le_mul_right s hroom; rwa [Nat.succ_mul] at this
      have hcj := fun j (hj : j < s) => hcells (m * s + j) (by omega)
      have hr := run_append_room_cells (P := P) w t ty e i ht hi b o m cap a 1 c us (by rw [hsize]; omega) hu h1 hroom
        (fun j hj => by rw [hsize, Nat.add_assoc]; exact (hcj j (by omega)).1)
        (fun j hj => by rw [hsize, Nat.add_assoc]; exact (hcj j (by omega)).2)
      rw [hsize] at hr
      have hin := World.cell?_setCells_in b us (o + m * s) w (fun j hj => by rw [Nat.add_assoc]; exact (hcj j (by omega)).1)
      have hout : ∀ j, (j < m * s ∨ m * s + s ≤ j) → (w.setCells b (o + m * s) us).cell? ⟨b, o + j, none⟩ = w.cell? ⟨b, o + j, none⟩ := fun j hj =>
        World.cell?_setCells_out b us (o + m * s) w ⟨b, o + j, none⟩ (fun _ _ => by simp; omega)
      have hon := setCells_only b us (o + m * s) w
      refine ⟨_, _, b, hr, ⟨by rw [List.length_append, h0, hul, Nat.succ_mul], .inr ⟨b, o, cap, rfl, rfl, hroom, hcm, hBb, Nat.lt_of_lt_of_le hbs hon.size, fun j hj => ⟨?_, by rw [World.frozen?_setCells]; exact (hcells j hj).2⟩, fun j x hj => ?_⟩⟩, hon.mono (fun k hk => by rw [hk]), .inl rfl⟩
      · by_cases hjm : j < m * s ∨ m * s + s ≤ j
        · rw [hout j hjm]; exact (hcells j hj).1
        · obtain ⟨q, rfl⟩ : ∃ q, j = m * s + q := ⟨j - m * s, by omega⟩
          have := hin q (by omega)
          rw [Nat.add_assoc] at this
          rw [this]; rfl
      · by_cases hjm : j < m * s
        · rw [hout j (.inl hjm)]
          rw [List.getElem?_append_left (by omega)] at hj
          exact hg j x hj
        · rw [List.getElem?_append_right (by omega)] at hj
          obtain ⟨q, rfl⟩ : ∃ q, j = m * s + q := ⟨j - m * s, by omega⟩
          have hq : q < us.length := by have := (List.getElem?_eq_some_iff.1 hj).1; omega
          have := hin q hq
          rw [Nat.add_assoc] at this
          rw [this, ← hj, h0, Nat.add_sub_cancel_left, List.getElem?_eq_getElem hq]
    · have holds : ∀ j x, xs[j]? = some x → w.cell? ((⟨b, o, none⟩ : Addr).add j) = some x := fun j x hj => by
        have hadd : (⟨b, o, none⟩ : Addr).add j = ⟨b, o + j, none⟩ := by unfold Addr.add; split <;> simp_all
        rw [hadd]; exact hg j x hj
      obtain ⟨v', w', hr, h2, h3⟩ := run_append_arg_grows (P := P) w t ty e i z s bytes ht hi hz hsize hby hzs hs ⟨b, o, none⟩ m cap xs h0 holds a 1 c us (by omega) hu (by omega) h63 hbytes
      obtain ⟨b', hb⟩ := QR.of_own h2 (by omega)
      have hlo := (hb.lt b' rfl).1
      refine ⟨v', w', b', hr, ?_, ?_, .inr hlo⟩
      · obtain ⟨q0, q⟩ := hb
        refine ⟨q0, ?_⟩
        rcases q with ⟨_, q, _⟩ | ⟨b2, o2, cap2, q1, q2, q3, q4, q5, q6⟩
        · omega
        · exact .inr ⟨b2, o2, cap2, q1, q2, q3, q4, by omega, q6⟩
      · exact ⟨h3.os, h3.tape, h3.output, h3.size, fun k hk hn => h3.block k hk (by simp)⟩
end
end Go.Proofs.Ytnpidbodeebnkaa
