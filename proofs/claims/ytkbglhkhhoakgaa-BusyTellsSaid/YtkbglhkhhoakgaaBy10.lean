/- busy.Sending; the law's own example. -/
import Derived.Test.YtkbglhkhhoakgaaBy9
namespace Go.Proofs.Ytkbglhkhhoakgaa
set_option linter.unusedVariables false
set_option linter.unusedSimpArgs false
set_option maxRecDepth 100000
open Go.RowKit Fg Reg
attribute [local irreducible] Reg.wE Reg.wN

theorem Str.one (s : Str) : ∀ v ∈ s.cells, v.oneCell' = true := by
  intro v hv
  unfold Str.cells at hv
  simp only [List.mem_cons, List.not_mem_nil, or_false] at hv
  rcases hv with rfl | rfl <;> rfl
def StV (z : World) (a : Option Addr) (l : List Str) : Prop := ∀ k (h : k < l.length), ∃ g, a = some ⟨g, 0, none⟩ ∧ g < z.heap.size ∧ z.rangeAt g (k * 2) l[k].cells
theorem StV.below {z z' : World} {a : Option Addr} {l : List Str} (h : StV z a l) (hb : Below z.heap.size z z') : StV z' a l := fun k hk => by
  obtain ⟨g, e, h1, h2⟩ := h k hk
  exact ⟨g, e, Nat.lt_of_lt_of_le h1 hb.size, fun j v hv => (hb.cell (p := ⟨g, k * 2 + j, none⟩) h1).trans (h2 j v hv)⟩
theorem str_get (l : List Str) (k j : Nat) (hk : k < l.length) (hj : j < 2) : (l.flatMap Str.cells)[k * 2 + j]? = l[k].cells[j]? := by
  induction l generalizing k with
  | nil => exact absurd hk (Nat.not_lt_zero _)
  | cons x l ih =>
    have hl : x.cells.length = 2 := rfl
    rw [List.flatMap_cons]
    cases k with
    | zero => rw [List.getElem?_append_left (by omega), Nat.zero_mul, Nat.zero_add]; rfl
    | succ k =>
      rw [List.getElem?_append_right (by omega), hl, show (k + 1) * 2 + j - 2 = k * 2 + j by omega]
      exact ih k (by simpa using hk)
theorem stv_of {z : World} {B : Nat} {v : Value} {t : TypeId} {l : List Str} (h : z.ownsRow B t 2 v l.length (l.flatMap Str.cells)) : ∃ a cap, v = .slice a l.length cap ∧ StV z a l := by
  rcases h.2 with ⟨h1, h2⟩ | ⟨b, cap, cur, rfl, h2, h3, h4⟩
  · exact ⟨none, 0, by rw [h2]; exact h1, fun k hk => absurd hk (by omega)⟩
  · refine ⟨_, cap, rfl, fun k hk => ⟨b, rfl, (h.lt b rfl).2, fun j v hv => ?_⟩⟩
    have hj : j < 2 := (List.getElem?_eq_some_iff.1 hv).1
    rw [h.cellAt _ (by omega), str_get l k j hk hj]
    exact hv
theorem bstv_c (es : List Ev) (a : Option Addr) (c : Nat) (hn : es.length ≤ 100000) (w : World) (hE : EvsV w a es) : Calls Try.prog 36 #[.slice a es.length c] w fun ee w' => (∃ ao cap, ee = .returned (.slice ao (brun es es.length).st.length cap) ∧ StV w' ao (brun es es.length).st) ∧ Below w.heap.size w w' :=
  (bst_c es a c hn w hE).mono fun e w' ⟨⟨v, he, ho⟩, hb⟩ => by
    obtain ⟨ao, cap, rfl, hs⟩ := stv_of ho
    exact ⟨⟨ao, cap, he, hs⟩, hb⟩
theorem str_info2 : (Try.prog.info? 80).map (·.size) = some 2 := by kernel_rfl
/-- How many ticks stretches have. -/
def ssum (l : List Str) : Int := l.foldl (fun s x => if x.fr < x.tt then (s + x.tt - x.fr) % 18446744073709551616 else s) 0
theorem ssum_succ (l : List Str) (k : Nat) (h : k < l.length) : ssum (l.take (k + 1)) = if l[k].fr < l[k].tt then (ssum (l.take k) + l[k].tt - l[k].fr) % 18446744073709551616 else ssum (l.take k) := by
  unfold ssum; rw [take_snoc'' l k h, List.foldl_append]; rfl
set_option maxHeartbeats 4000000 in
theorem snd_c (es : List Ev) (a : Option Addr) (c : Nat) (hn : es.length ≤ 100000) (w : World) (hE : EvsV w a es) : Calls Try.prog 38 #[.slice a es.length c] w fun ee w' => ee = .returned (.int .u64 (ssum (brun es es.length).st)) ∧ Below w.heap.size w w' := by
  have K := Lib.hid (bstv_c es a c hn w hE)
  have hl := (brun_le es es.length).2
  have SI := Lib.hid str_info2
  clear hE
  generalize (brun es es.length).st = st at K hl
  go_enter Try.func38, Try.ntmps38
  go_wp2_with (go_at_call 36; (with_reducible refine (K.out).mono ?_); rintro e w1 ⟨⟨ao, cap, rfl, hS⟩, hb⟩; have HS := Lib.hid hS; have hsz := hb.size; clear hS)
  go_loopw [3, 9] (fun s i wr => ∃ k : Nat, k ≤ st.length ∧ i = .int .i64 k ∧ s = .int .u64 (ssum (st.take k)) ∧ Below w1.heap.size w1 wr) (fun _ i _ => st.length - (intOf i).toNat)
  case atStart => exact ⟨0, Nat.zero_le _, rfl, rfl, Below.refl _ _⟩
  case round =>
    obtain ⟨k, hk, rfl, rfl, hB⟩ := hrel
    have hsz2 := hB.size
    by_cases hlt : k < st.length
    · obtain ⟨g, rfl, hg, hr⟩ := (HS.out.below hB) k hlt
      have hs := ssum_succ st k hlt
      generalize st[k] = x at hr hs
      obtain ⟨fr, tt⟩ := x
      simp only at hs
      by_cases hft : fr < tt
      · rw [if_pos hft] at hs
        have d1 : decide (fr < tt) = true := by simpa using hft
        have W1 : IntKind.u64.wrap (ssum (st.take k) + IntKind.u64.wrap (tt - fr)) = (ssum (st.take k) + tt - fr) % 18446744073709551616 := by rw [wrap_u64, wrap_u64]; omega
        have HN := Lib.hid hs
        clear hs
        go_wp2_with (first | (refine wpList_load_mid rfl 80 _ rfl g (k * 2) rfl _ _ hr Try.underlying80 rfl SI.out ?_) | (refine wpList_store_new rfl 80 _ _ rfl _ #[.int .u64 fr, .int .u64 tt] rfl rfl SI.out rfl (all_oneCell_toArray (Str.one ⟨fr, tt⟩)) ?_))
        go_roundw
        case rel => exact ⟨k + 1, by omega, by go_num, by rw [HN.out], (by repeat' (first | with_reducible exact Below.refl _ _ | with_reducible assumption | ((with_reducible refine Below.drew ?_)) | ((with_reducible refine below_drewN ?_ _)) | ((with_reducible refine Below.alloc ?_ ?_ _); rotate_left; focus (first | omega | (simp; done) | (simp; omega))) | ((with_reducible refine Below.setCell ?_ ?_ _); rotate_left; focus (first | omega | (simp; done) | (simp; omega))) | ((with_reducible refine Below.trans ?_ (Below.mono (by with_reducible assumption) ?_)); rotate_left; focus (first | omega | (simp; done) | (simp; omega)))))⟩
        case measure => simp [intOf]; omega
      · rw [if_neg hft] at hs
        have d1 : decide (fr < tt) = false := by simpa using hft
        have HN := Lib.hid hs
        clear hs
        go_wp2_with (first | (refine wpList_load_mid rfl 80 _ rfl g (k * 2) rfl _ _ hr Try.underlying80 rfl SI.out ?_) | (refine wpList_store_new rfl 80 _ _ rfl _ #[.int .u64 fr, .int .u64 tt] rfl rfl SI.out rfl (all_oneCell_toArray (Str.one ⟨fr, tt⟩)) ?_))
        go_roundw
        case rel => exact ⟨k + 1, by omega, by go_num, by rw [HN.out], (by repeat' (first | with_reducible exact Below.refl _ _ | with_reducible assumption | ((with_reducible refine Below.drew ?_)) | ((with_reducible refine below_drewN ?_ _)) | ((with_reducible refine Below.alloc ?_ ?_ _); rotate_left; focus (first | omega | (simp; done) | (simp; omega))) | ((with_reducible refine Below.setCell ?_ ?_ _); rotate_left; focus (first | omega | (simp; done) | (simp; omega))) | ((with_reducible refine Below.trans ?_ (Below.mono (by with_reducible assumption) ?_)); rotate_left; focus (first | omega | (simp; done) | (simp; omega)))))⟩
        case measure => simp [intOf]; omega
    · obtain rfl : k = st.length := by omega
      rw [List.take_length]
      have hbw := hb.trans (hB.mono hsz)
      clear hlt HS
      go_wp2
      (go_ret; refine ⟨?_, ?_⟩; (focus (exact rfl)); ((repeat' (first | with_reducible exact Below.refl _ _ | with_reducible assumption | ((with_reducible refine Below.drew ?_)) | ((with_reducible refine below_drewN ?_ _)) | ((with_reducible refine Below.alloc ?_ ?_ _); rotate_left; focus (first | omega | (simp; done) | (simp; omega))) | ((with_reducible refine Below.setCell ?_ ?_ _); rotate_left; focus (first | omega | (simp; done) | (simp; omega))) | ((with_reducible refine Below.trans ?_ (Below.mono (by with_reducible assumption) ?_)); rotate_left; focus (first | omega | (simp; done) | (simp; omega))))); done))
theorem eqStr (a b : Int) (w : World) : (Op.equalIn 10000 80 (.agg #[.int .u64 a, .int .u64 b]) (.agg #[.int .u64 a, .int .u64 b])).run Try.prog w = .ok true w := by
  have hz : ∀ w, (sizeOf 45).run Try.prog w = .ok 1 w := fun w => by kernel_rfl
  have ha : ∀ w, (isAgg 45).run Try.prog w = .ok false w := fun w => by kernel_rfl
  have u1 := Try.underlying45
  have hS : Try.prog.underlying 80 = some (.struct (Try.prog.fieldsOf 80)) := by kernel_rfl
  have hp : Try.prog.stoodInHeld 80 = false := by kernel_rfl
  rw [show (10000 : Nat) = 9999 + 1 from rfl, run_equalIn_agg w 9999 80 _ _ hS hp]
  simp only [Program.fieldsOf, Try.underlying80]
  go_simp
def l3 : List Ev := [(⟨0, false, false, 0, 100, 0, 0, 0, 0, 0, 0, 0⟩ : Ev), (⟨0, false, false, 100, 150, 0, 0, 0, 0, 0, 0, 0⟩ : Ev), (⟨0, false, false, 200, 250, 0, 0, 0, 0, 0, 0, 0⟩ : Ev)]
def m4 : List Ev := [(⟨0, true, false, 5, 0, 0, 0, 0, 0, 0, 0, 0⟩ : Ev), (⟨0, true, false, 9, 0, 0, 0, 0, 0, 0, 0, 0⟩ : Ev), (⟨0, false, false, 5, 15, 0, 0, 0, 0, 0, 0, 0⟩ : Ev), (⟨0, false, false, 16, 20, 0, 0, 0, 0, 0, 0, 0⟩ : Ev)]
def m3 : List Ev := [(⟨0, true, false, 5, 0, 0, 0, 0, 0, 0, 0, 0⟩ : Ev), (⟨0, true, false, 9, 0, 0, 0, 0, 0, 0, 0, 0⟩ : Ev), (⟨0, false, false, 5, 15, 0, 0, 0, 0, 0, 0, 0⟩ : Ev)]
theorem l3_st : (brun l3 3).st = [⟨0, 150⟩, ⟨200, 250⟩] := rfl
theorem l3_sum : ssum [⟨0, 150⟩, ⟨200, 250⟩] = 200 := rfl
theorem m3_wk : (brun m3 3).wk = 1 := rfl
theorem m4_un : (brun m4 4).un = 20 := rfl
theorem l3_late {i : Int} {b : Bool} (h : LATE l3 i b) : i = 0 ∧ b = false := by
  rcases h with ⟨_, k, hk, _, ht, _⟩ | ⟨h1, h2, _⟩
  · have : k < 3 := hk
    rcases k with _ | _ | _ | k
    · exact absurd (show (false : Bool) = true from ht) (by decide)
    · exact absurd (show (false : Bool) = true from ht) (by decide)
    · exact absurd (show (false : Bool) = true from ht) (by decide)
    · omega
  · exact ⟨h2, h1⟩
theorem m4_late {i : Int} {b : Bool} (h : LATE m4 i b) : i = 3 ∧ b = true := by
  rcases h with ⟨h1, k, hk, h2, ht, _⟩ | ⟨_, _, hno⟩
  · have : k < 4 := hk
    rcases k with _ | _ | _ | _ | k
    · exact absurd (show (false : Bool) = true from ht) (by decide)
    · exact absurd (show (false : Bool) = true from ht) (by decide)
    · exact absurd (show (false : Bool) = true from ht) (by decide)
    · exact ⟨by rw [h2]; rfl, h1⟩
    · omega
  · exact absurd (show (true : Bool) = false from hno 3 (by decide)) (by decide)
end Go.Proofs.Ytkbglhkhhoakgaa
