/- The reference: Classes. -/
import Derived.Test.YtnpidbodeebnkaaRf1
import Derived.Test.YtnpidbodeebnkaaAppR
namespace Go.Proofs.Ytnpidbodeebnkaa
set_option linter.unusedVariables false
set_option linter.unusedSimpArgs false
set_option maxRecDepth 100000
open Go.RowKit Fg Reg Go.Maps
attribute [local irreducible] Reg.wN Reg.wE QR

theorem ins_all {l : List Int} {id : Int} (h : ∀ y ∈ l, y < id) : insA id l = l ++ [id] := by
  unfold insA
  rw [List.filter_eq_self.2 (fun y hy => by simpa using h y hy), List.filter_eq_nil_iff.2 (fun y hy => by have := h y hy; simp; omega)]
theorem ins_put {l : List Int} {id y : Int} (h : ∀ q ∈ l, q < id) (hy : id < y) : insA id (l ++ [y]) = l ++ [id] ++ [y] := by
  unfold insA
  rw [List.filter_append, List.filter_append]
  have h1 : [y].filter (fun q => decide (q < id)) = [] := by simp; omega
  have h2 : [y].filter (fun q => decide (id < q)) = [y] := by simp [hy]
  have h3 : l.filter (fun q => decide (q < id)) = l := List.filter_eq_self.2 (fun q hq => by simpa using h q hq)
  have h4 : l.filter (fun q => decide (id < q)) = [] := List.filter_eq_nil_iff.2 (fun q hq => by have := h q hq; simp; omega)
  rw [h1, h2, h3, h4]
  simp
theorem ins_more {l : List Int} {id y : Int} (hy : id < y) : insA id (l ++ [y]) = insA id l ++ [y] := by
  unfold insA
  rw [List.filter_append, List.filter_append]
  have h1 : [y].filter (fun q => decide (q < id)) = [] := by simp; omega
  have h2 : [y].filter (fun q => decide (id < q)) = [y] := by simp [hy]
  rw [h1, h2]
  simp
def wst (id : Int) (l : List Int) (pt : Bool) : List Int := if pt = true then insA id l else l
theorem int7_parts : ∃ i, Try.prog.info? 3 = some i ∧ i.zero = some (.int .i64 0) ∧ i.size = 1 ∧ i.bytes = 8 := ⟨_, rfl, rfl, rfl, rfl⟩
theorem ins_same {l : List Int} {id : Int} (h : ∀ y ∈ l, y < id) : insA id (l ++ [id]) = l ++ [id] := by
  unfold insA
  rw [List.filter_append, List.filter_append]
  have h1 : [id].filter (fun q => decide (q < id)) = [] := by simp
  have h2 : [id].filter (fun q => decide (id < q)) = [] := by simp
  have h3 : l.filter (fun q => decide (q < id)) = l := List.filter_eq_self.2 (fun q hq => by simpa using h q hq)
  have h4 : l.filter (fun q => decide (id < q)) = [] := List.filter_eq_nil_iff.2 (fun q hq => by have := h q hq; simp; omega)
  rw [h1, h2, h3, h4]
  simp
/-- The classes of packets, rising. -/
def clsL (l : List PK) : List Int := l.foldl (fun K q => insA q.cl K) []
theorem clsL_snoc (l : List PK) (q : PK) : clsL (l ++ [q]) = insA q.cl (clsL l) := by unfold clsL; rw [List.foldl_append]; rfl
theorem clsL_srt (l : List PK) : (clsL l).Pairwise (· < ·) := by
  have h : ∀ (l : List PK) (K : List Int), K.Pairwise (· < ·) → (l.foldl (fun K q => insA q.cl K) K).Pairwise (· < ·) := fun l => by
    induction l with
    | nil => exact fun K h => h
    | cons q l ih => exact fun K h => ih _ (insA_srt h)
  exact h l [] List.Pairwise.nil
theorem clsL_mem (l : List PK) (x : Int) : x ∈ clsL l ↔ ∃ q ∈ l, q.cl = x := by
  have h : ∀ (l : List PK) (K : List Int), x ∈ l.foldl (fun K q => insA q.cl K) K ↔ x ∈ K ∨ ∃ q ∈ l, q.cl = x := fun l => by
    induction l with
    | nil => exact fun K => ⟨.inl, fun h => h.elim id (fun ⟨q, h, _⟩ => by cases h)⟩
    | cons q l ih =>
      intro K
      rw [List.foldl_cons, ih, insA_mem]
      constructor
      · rintro ((rfl | h) | ⟨y, h1, h2⟩)
        · exact .inr ⟨q, List.mem_cons_self, rfl⟩
        · exact .inl h
        · exact .inr ⟨y, List.mem_cons_of_mem _ h1, h2⟩
      · rintro (h | ⟨y, h1, h2⟩)
        · exact .inl (.inr h)
        · rcases List.mem_cons.1 h1 with rfl | h1
          · exact .inl (.inl h2.symm)
          · exact .inr ⟨y, h1, h2⟩
  unfold clsL
  rw [h l []]
  simp
theorem ins_len1 (x : Int) (K : List Int) (h : K.Pairwise (· < ·)) : (insA x K).length ≤ K.length + 1 := by
  have h1 : (insA x K).Nodup := ndA (insA_srt h)
  refine Nat.le_trans (len_sub h1 (L := x :: K) (fun y hy => ?_)) (by simp)
  rcases (insA_mem y).1 hy with rfl | h
  · exact List.mem_cons_self
  · exact List.mem_cons_of_mem _ h
theorem clsL_len (l : List PK) : (clsL l).length ≤ l.length := by
  have h : ∀ (l : List PK) (K : List Int), K.Pairwise (· < ·) → (l.foldl (fun K q => insA q.cl K) K).length ≤ K.length + l.length := fun l => by
    induction l with
    | nil => exact fun K _ => Nat.le_refl _
    | cons q l ih =>
      intro K hK
      rw [List.foldl_cons, List.length_cons]
      have h1 := ih _ (insA_srt (x := q.cl) hK)
      have h2 := ins_len1 q.cl K hK
      omega
  have := h l [] List.Pairwise.nil
  simpa [clsL] using this
end Go.Proofs.Ytnpidbodeebnkaa
