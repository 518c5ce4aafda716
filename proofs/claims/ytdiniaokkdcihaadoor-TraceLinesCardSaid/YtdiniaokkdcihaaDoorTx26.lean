/- The reference's words of a text. -/
import Derived.Test.YtdiniaokkdcihaaDoorTx4
import Derived.Test.YtdiniaokkdcihaaDoorTx13
import Derived.Laws.OwnMore
import Derived.OwnWalk
namespace Go.Proofs.YtdiniaokkdcihaaDoor
set_option linter.unusedVariables false
set_option linter.unusedSimpArgs false
set_option maxRecDepth 100000
open Go.RowKit Fg Reg
attribute [local irreducible] Reg.wE

theorem own_belT {w w' : World} {base : Nat} {e : TypeId} {size n : Nat} {v : Value} {xs : List Value} (h : w.ownsRow base e size v n xs) (hb : Below w.heap.size w w') : w'.ownsRow base e size v n xs := by
  refine ⟨h.1, ?_⟩
  rcases h.2 with h' | ⟨g, cap, cur, h1, h2, h3, h4⟩
  · exact .inl h'
  · refine .inr ⟨g, cap, cur, h1, h2, ?_, h4⟩
    have hlt : g < w.heap.size := by
      rcases Nat.lt_or_ge g w.heap.size with h | h
      · exact h
      · rw [Array.getElem?_eq_none h] at h3; cases h3
    rw [hb.block g hlt]; exact h3
theorem own_blkT {z : World} {B m size : Nat} {e : TypeId} {v : Value} {xs : List Value} (h : z.ownsRow B e size v m xs) : ∀ k, v.ownBlock = some k → B ≤ k := fun k hk => (h.lt k hk).1
theorem st_parts : ∃ i, Tryd.prog.info? 9 = some i ∧ i.zero = some (.string ⟨#[]⟩) ∧ i.size = 1 ∧ i.bytes = 16 := by
  have h : (Tryd.prog.info? 9).map (fun i => (i.zero, i.size, i.bytes)) = some (some (.string ⟨#[]⟩), 1, 16) := by kernel_rfl
  obtain ⟨i, hi, h⟩ := Option.map_eq_some_iff.1 h
  simp only [Prod.mk.injEq] at h
  exact ⟨i, hi, h.1, h.2.1, h.2.2⟩
def glue (x : List UInt8) : List (List UInt8) → List (List UInt8)
  | [] => [x]
  | h :: t => (x ++ h) :: t
/-- The pieces that are whole, and what there is of the next one, ahead of place k. -/
def WI (L : List UInt8) (k : Nat) (ds : List (List UInt8)) (x : List UInt8) : Prop := cutL 32 L = ds ++ glue x (cutL 32 (L.drop k)) ∧ ds.length ≤ k ∧ x.length ≤ k
theorem wi_zero (L : List UInt8) : WI L 0 [] [] := by
  refine ⟨?_, by simp, by simp⟩
  have hn := cutL_ne 32 L
  rw [List.drop_zero, List.nil_append]
  unfold glue
  split
  · rename_i e; exact absurd e hn
  · rename_i e; rw [e]; simp
theorem wi_cut {L : List UInt8} {k : Nat} {ds : List (List UInt8)} {x : List UInt8} (h : WI L k ds x) (hk : k < L.length) (hb : L[k] = 32) : WI L (k + 1) (ds ++ [x]) [] := by
  obtain ⟨h1, h2, h3⟩ := h
  refine ⟨?_, by simp; omega, by simp⟩
  have hn := cutL_ne 32 (L.drop (k + 1))
  rw [h1, List.drop_eq_getElem_cons hk]
  have hu : cutL 32 (L[k] :: L.drop (k + 1)) = [] :: cutL 32 (L.drop (k + 1)) := by
    rw [hb]; rfl
  rw [hu]
  cases e : cutL 32 (L.drop (k + 1)) with
  | nil => exact absurd e hn
  | cons a t => simp [glue]
theorem wi_put {L : List UInt8} {k : Nat} {ds : List (List UInt8)} {x : List UInt8} (h : WI L k ds x) (hk : k < L.length) (hb : L[k] ≠ 32) : WI L (k + 1) ds (x ++ [L[k]]) := by
  obtain ⟨h1, h2, h3⟩ := h
  refine ⟨?_, by omega, by simp; omega⟩
  have hn := cutL_ne 32 (L.drop (k + 1))
  rw [h1, List.drop_eq_getElem_cons hk]
  cases e : cutL 32 (L.drop (k + 1)) with
  | nil => exact absurd e hn
  | cons a t =>
    have hu : cutL 32 (L[k] :: L.drop (k + 1)) = (L[k] :: a) :: t := by
      show (if L[k] = 32 then [] :: cutL 32 (L.drop (k + 1)) else match cutL 32 (L.drop (k + 1)) with
        | h :: t => (L[k] :: h) :: t
        | [] => [[L[k]]]) = _
      rw [if_neg hb, e]
    rw [hu]
    simp [glue]
theorem wi_end {L : List UInt8} {ds : List (List UInt8)} {x : List UInt8} (h : WI L L.length ds x) : cutL 32 L = ds ++ [x] := by
  have := h.1
  rw [List.drop_length] at this
  rw [this]; simp [cutL, glue]
set_option maxHeartbeats 4000000 in
theorem rwords_c (S : ByteArray) (hS : S.size ≤ 1000) (w : World) : Calls Tryd.prog 73 #[.string S] w fun e w' => ∃ b cap, e = .returned (.slice (some ⟨b, 0, none⟩) (pcs32 S).length cap) ∧ (∀ j P, (pcs32 S)[j]? = some P → w'.cell? ⟨b, j, none⟩ = some (.string P)) ∧ w.heap.size ≤ b ∧ b < w'.heap.size ∧ Below w.heap.size w w' := by
  obtain ⟨ie, HI0, HZ0, HZ1, HZ2⟩ := st_parts
  have hl := size_len S
  go_enter Tryd.func73, Tryd.ntmps73
  go_wp2
  go_loopw [3, 4, 8] (fun v wd i wr => ∃ (k : Nat) (ds : List (List UInt8)) (x : List UInt8), k ≤ S.size ∧ i = .int .i64 k ∧ wd = .string ⟨x.toArray⟩ ∧ WI S.data.toList k ds x ∧ wr.ownsRow w.heap.size 9 1 v ds.length ((ds).map fun l : List UInt8 => Value.string ⟨l.toArray⟩) ∧ Below w.heap.size w wr) (fun _ _ i _ => S.size - (intOf i).toNat)
  case atStart => exact ⟨0, [], [], Nat.zero_le _, rfl, rfl, wi_zero _, ⟨rfl, .inl ⟨rfl, rfl⟩⟩, Below.refl _ _⟩
  case round =>
    obtain ⟨k, ds, x, hk, rfl, rfl, hW, hown, hB⟩ := hrel
    have hsB := hB.size
    have hdl := hW.2.1
    have hxl := hW.2.2
    by_cases hlt : k < S.size
    · have hkl : k < S.data.toList.length := by omega
      obtain ⟨y, hy⟩ : ∃ y : Nat, ∀ (h : k < S.size), (S[k]'h).toNat = y := ⟨(S[k]'hlt).toNat, fun _ => rfl⟩
      have d5 : (k : Int) < S.size := by omega
      by_cases hb : y = 32
      · subst hb
        have hW2 := wi_cut hW hkl (by rw [byte_at S k hlt]; exact UInt8.toNat_inj.1 (hy hlt))
        have HW2 := Lib.hid hW2
        clear hW hW2
        go_wp2_with (at_builtin; refine wpList_append_own _ rfl _ _ 96 rfl w.heap.size 9 ie (.string ⟨#[]⟩) 1 16 Tryd.underlying96 HI0 HZ0 HZ1 HZ2 rfl (by decide) _ (ds).length ((ds).map fun l : List UInt8 => Value.string ⟨l.toArray⟩) rfl (hown.alloc _) ⟨_, 0, none⟩ 1 1 [.string ⟨(x).toArray⟩] rfl rfl ?c1 ?c2 ?c3 ?c4 ?c5 ?_)
        case c1 => (intro j u hu; rcases j with _ | j <;> simp at hu <;> (try subst hu) <;> simp [Addr.add, go_sem])
        case c2 => (intro u hu; simp at hu; rcases hu with rfl; rfl)
        case c3 => (unfold maxLen; omega)
        case c4 => omega
        case c5 => (simp; omega)
        intro v' w5 hown' hgrow _
        have hB5 : Below w.heap.size w w5 := by
          have hb := own_blkT hown
          exact Below.grown (by repeat' (first | with_reducible exact Below.refl _ _ | with_reducible assumption | ((with_reducible refine Below.drew ?_)) | ((with_reducible refine below_drewN ?_ _)) | ((with_reducible refine Below.alloc ?_ ?_ _); rotate_left; focus (first | omega | (simp; done) | (simp; omega))) | ((with_reducible refine Below.setCell ?_ ?_ _); rotate_left; focus (first | omega | (simp; done) | (simp; omega))) | ((with_reducible refine Below.trans ?_ (Below.mono (by with_reducible assumption) ?_)); rotate_left; focus (first | omega | (simp; done) | (simp; omega))))) hgrow (by simp; omega) hb
        go_wp2
        go_roundw
        case rel => exact ⟨k + 1, _, [], by omega, by go_num, rfl, HW2.out, by simpa using hown', hB5⟩
        case measure => simp [intOf]; omega
      · have hyd : ((y : Int) == 32) = false := by simpa using (by omega : ¬ (y : Int) = 32)
        have hW2 := wi_put hW hkl (by rw [byte_at S k hlt]; intro e; apply hb; rw [← hy hlt, e]; rfl)
        have HW2 := Lib.hid hW2
        obtain ⟨X, hX⟩ : ∃ X, S.extract k (k + 1) = X := ⟨_, rfl⟩
        have hXe : X = ⟨[S.data.toList[k]].toArray⟩ := by
          rw [← hX]
          apply ByteArray.ext
          apply Array.toList_inj.1
          rw [Lib.extract_data, List.drop_eq_getElem_cons hkl]
          simp
        have hadd : ∀ w, (Op.stringOp .add (⟨x.toArray⟩ : ByteArray) X).run Tryd.prog w = .ok (.string ⟨(x ++ [S.data.toList[k]]).toArray⟩) w := fun w => by
          rw [hXe, run_string_add_sum _ _ _ (by show x.toArray.size + [S.data.toList[k]].toArray.size ≤ _; simp only [List.size_toArray, List.length_singleton]; omega)]
          congr 2
        have HAD := Lib.hid hadd
        clear hW hW2 hXe
        go_wp2
        go_roundw
        case rel => exact ⟨k + 1, ds, _, by omega, by go_num, rfl, by simpa using HW2.out, hown, hB⟩
        case measure => simp [intOf]; omega
    · obtain rfl : k = S.size := by omega
      rw [← hl] at hW
      have hE := wi_end hW
      have hp : pcs32 S = ds.map (fun l => (⟨l.toArray⟩ : ByteArray)) ++ [⟨x.toArray⟩] := by unfold pcs32; rw [hE]; simp
      have hpl : (pcs32 S).length = ds.length + 1 := by rw [hp]; simp
      have HP := Lib.hid hp
      clear hW hE hp
      go_wp2_with (at_builtin; refine wpList_append_own _ rfl _ _ 96 rfl w.heap.size 9 ie (.string ⟨#[]⟩) 1 16 Tryd.underlying96 HI0 HZ0 HZ1 HZ2 rfl (by decide) _ (ds).length ((ds).map fun l : List UInt8 => Value.string ⟨l.toArray⟩) rfl (hown.alloc _) ⟨_, 0, none⟩ 1 1 [.string ⟨(x).toArray⟩] rfl rfl ?c1 ?c2 ?c3 ?c4 ?c5 ?_)
      case c1 => (intro j u hu; rcases j with _ | j <;> simp at hu <;> (try subst hu) <;> simp [Addr.add, go_sem])
      case c2 => (intro u hu; simp at hu; rcases hu with rfl; rfl)
      case c3 => (unfold maxLen; omega)
      case c4 => omega
      case c5 => (simp; omega)
      intro v' w5 hown' hgrow _
      have hB5 : Below w.heap.size w w5 := by
        have hb := own_blkT hown
        exact Below.grown (by repeat' (first | with_reducible exact Below.refl _ _ | with_reducible assumption | ((with_reducible refine Below.drew ?_)) | ((with_reducible refine below_drewN ?_ _)) | ((with_reducible refine Below.alloc ?_ ?_ _); rotate_left; focus (first | omega | (simp; done) | (simp; omega))) | ((with_reducible refine Below.setCell ?_ ?_ _); rotate_left; focus (first | omega | (simp; done) | (simp; omega))) | ((with_reducible refine Below.trans ?_ (Below.mono (by with_reducible assumption) ?_)); rotate_left; focus (first | omega | (simp; done) | (simp; omega))))) hgrow (by simp; omega) hb
      obtain ⟨b, cap, cur, rfl, hcap, hblk, hcur⟩ : ∃ g cap cur, v' = .slice (some ⟨g, 0, none⟩) (ds.length + 1) cap ∧ True ∧ True ∧ True := by
        rcases hown'.2 with ⟨_, h⟩ | ⟨g, cap, cur, h, _⟩
        · omega
        · exact ⟨g, cap, 0, h, trivial, trivial, trivial⟩
      have hlt := hown'.lt b rfl
      go_wp2
      go_ret
      refine ⟨b, cap, by rw [hpl]; rfl, fun j P hj => ?_, hlt.1, hlt.2, hB5⟩
      have hc := hown'.cells (g := b) rfl j (.string P)
      have ha : (⟨b, 0, none⟩ : Addr).add j = ⟨b, j, none⟩ := by unfold Addr.add; split <;> simp_all
      rw [ha] at hc
      refine hc ?_
      rw [HP.out] at hj
      have e : (ds.map fun l : List UInt8 => Value.string ⟨l.toArray⟩) ++ [Value.string ⟨x.toArray⟩] = (ds.map (fun l : List UInt8 => (⟨l.toArray⟩ : ByteArray)) ++ [(⟨x.toArray⟩ : ByteArray)]).map Value.string := by simp
      rw [e, List.getElem?_map, hj]; rfl
end Go.Proofs.YtdiniaokkdcihaaDoor
