/- spans.Backlogged; the law's own example. -/
import Derived.Test.YtkbglhkhhoakgaaSp1
namespace Go.Proofs.Ytkbglhkhhoakgaa
set_option linter.unusedVariables false
set_option linter.unusedSimpArgs false
set_option maxRecDepth 100000
open Go.RowKit Fg Reg
attribute [local irreducible] Reg.wE

theorem Sp.one (x : Sp) : ∀ v ∈ x.cells, v.oneCell' = true := by
  intro v hv
  unfold Sp.cells at hv
  simp only [List.mem_cons, List.not_mem_nil, or_false] at hv
  rcases hv with rfl | rfl | rfl | rfl | rfl <;> rfl
/-- A slice of spans, made by a call: its cells. -/
def SpV (z : World) (B : Nat) (a : Option Addr) (l : List Sp) : Prop := ∀ k (h : k < l.length), ∃ g, a = some ⟨g, 0, none⟩ ∧ B ≤ g ∧ g < z.heap.size ∧ z.rangeAt g (k * 5) l[k].cells
theorem SpV.below {z z' : World} {B : Nat} {a : Option Addr} {l : List Sp} (h : SpV z B a l) (hb : Below z.heap.size z z') : SpV z' B a l := fun k hk => by
  obtain ⟨g, e, h0, h1, h2⟩ := h k hk
  exact ⟨g, e, h0, Nat.lt_of_lt_of_le h1 hb.size, fun j v hv => (hb.cell (p := ⟨g, k * 5 + j, none⟩) h1).trans (h2 j v hv)⟩
theorem sp_get (l : List Sp) (k j : Nat) (hk : k < l.length) (hj : j < 5) : (l.flatMap Sp.cells)[k * 5 + j]? = l[k].cells[j]? := by
  induction l generalizing k with
  | nil => exact absurd hk (Nat.not_lt_zero _)
  | cons x l ih =>
    have hl : x.cells.length = 5 := rfl
    rw [List.flatMap_cons]
    cases k with
    | zero => rw [List.getElem?_append_left (by omega), Nat.zero_mul, Nat.zero_add]; rfl
    | succ k =>
      rw [List.getElem?_append_right (by omega), hl, show (k + 1) * 5 + j - 5 = k * 5 + j by omega]
      exact ih k (by simpa using hk)
theorem spv_of {z : World} {B : Nat} {v : Value} {t : TypeId} {l : List Sp} (h : z.ownsRow B t 5 v l.length (l.flatMap Sp.cells)) : ∃ a cap, v = .slice a l.length cap ∧ SpV z B a l := by
  rcases h.2 with ⟨h1, h2⟩ | ⟨b, cap, cur, rfl, h2, h3, h4⟩
  · exact ⟨none, 0, by rw [h2]; exact h1, fun k hk => absurd hk (by omega)⟩
  · refine ⟨_, cap, rfl, fun k hk => ⟨b, rfl, h2, (h.lt b rfl).2, fun j v hv => ?_⟩⟩
    have hj : j < 5 := (List.getElem?_eq_some_iff.1 hv).1
    rw [h.cellAt _ (by omega), sp_get l k j hk hj]
    exact hv
theorem sp_all (zs : List Int) (es : List Ev) : ∀ k, ∀ x ∈ (srun zs es k).cl, x.op = false
  | 0 => by simp [srun]
  | k + 1 => by
    have ih := sp_all zs es k
    rw [srun]
    split
    · exact ih
    · unfold sstep
      (repeat' split) <;> (try exact ih)
      intro x hx
      rcases List.mem_append.1 hx with h | h
      · exact ih x h
      · simp at h; subst h; rfl
theorem ofv_c (zs : List Int) (es : List Ev) (a a2 : Option Addr) (c c2 : Nat) (hn : es.length ≤ 100000) (hn2 : zs.length ≤ 100000) (w : World) (hE : EvsV w a es) (hZ : IntsV w a2 zs) :
    Calls Try.prog 30 #[.slice a es.length c, .slice a2 zs.length c2] w fun e w' => (∃ ao cap, e = .returned (.slice ao (srun zs es es.length).rows.length cap) ∧ SpV w' w.heap.size ao (srun zs es es.length).rows) ∧ Below w.heap.size w w' :=
  (of_c zs es a a2 c c2 hn hn2 w hE hZ).mono fun e w' ⟨⟨v, he, ho⟩, hb⟩ => by
    obtain ⟨ao, cap, rfl, hs⟩ := spv_of ho
    exact ⟨⟨ao, cap, he, hs⟩, hb⟩
theorem bl_c (zs : List Int) (es : List Ev) (a a2 : Option Addr) (c c2 : Nat) (hn : es.length ≤ 100000) (hn2 : zs.length ≤ 100000) (w : World) (hE : EvsV w a es) (hZ : IntsV w a2 zs) :
    Calls Try.prog 34 #[.slice a es.length c, .slice a2 zs.length c2] w fun ee w' => ee = .returned (.bool (decide (0 < (srun zs es es.length).p))) ∧ Below w.heap.size w w' := by
  have K := Lib.hid (ofv_c zs es a a2 c c2 hn hn2 w hE hZ)
  have hp := srun_p zs es es.length
  have hal := sp_all zs es es.length
  clear hE hZ
  generalize srun zs es es.length = s at K hp hal
  obtain ⟨p, cl, fr, fi⟩ := s
  by_cases h0 : p = 0
  · subst h0
    have e0 : (SS.mk 0 cl fr fi).rows = cl := by simp [SS.rows]
    rw [e0] at K
    have hc1 : cl.length ≤ es.length := hp.2
    rcases List.eq_nil_or_concat cl with rfl | ⟨l, x, rfl⟩
    · go_enter Try.func34, Try.ntmps34
      go_wp2_with (go_at_call 30; (with_reducible refine (K.out).mono ?_); rintro e w1 ⟨⟨ao, cap, rfl, hS⟩, hb⟩; clear hS)
      (go_ret; refine ⟨?_, ?_⟩; (focus (exact rfl)); ((repeat' (first | with_reducible exact Below.refl _ _ | with_reducible assumption | ((with_reducible refine Below.drew ?_)) | ((with_reducible refine below_drewN ?_ _)) | ((with_reducible refine Below.alloc ?_ ?_ _); rotate_left; focus (first | omega | (simp; done) | (simp; omega))) | ((with_reducible refine Below.setCell ?_ ?_ _); rotate_left; focus (first | omega | (simp; done) | (simp; omega))) | ((with_reducible refine Below.trans ?_ (Below.mono (by with_reducible assumption) ?_)); rotate_left; focus (first | omega | (simp; done) | (simp; omega))))); done))
    · have hx : x.op = false := hal x (by simp)
      have hl : (l.concat x).length = l.length + 1 := by simp
      rw [hl] at K hc1
      have W1 : IntKind.i64.wrap (l.length : Int) = l.length := by rw [IntKind.wrap_i64]; omega
      go_enter Try.func34, Try.ntmps34
      go_wp2_with (go_at_call 30; (with_reducible refine (K.out).mono ?_); rintro e w1 ⟨⟨ao, cap, rfl, hS⟩, hb⟩; (obtain ⟨g, rfl, h0, h1, h2⟩ := hS l.length (by simp)); (have c4 := h2 4 (.bool false) (by simp [Sp.cells, hx])); clear hS h2)
      (go_ret; refine ⟨?_, ?_⟩; (focus (exact rfl)); ((repeat' (first | with_reducible exact Below.refl _ _ | with_reducible assumption | ((with_reducible refine Below.drew ?_)) | ((with_reducible refine below_drewN ?_ _)) | ((with_reducible refine Below.alloc ?_ ?_ _); rotate_left; focus (first | omega | (simp; done) | (simp; omega))) | ((with_reducible refine Below.setCell ?_ ?_ _); rotate_left; focus (first | omega | (simp; done) | (simp; omega))) | ((with_reducible refine Below.trans ?_ (Below.mono (by with_reducible assumption) ?_)); rotate_left; focus (first | omega | (simp; done) | (simp; omega))))); done))
  · have e0 : (SS.mk p cl fr fi).rows = cl ++ [⟨fr, 0, fi, 0, true⟩] := by simp [SS.rows, h0]
    rw [e0] at K
    have hc1 : cl.length ≤ es.length := hp.2
    have hl : (cl ++ [(⟨fr, 0, fi, 0, true⟩ : Sp)]).length = cl.length + 1 := by simp
    rw [hl] at K
    have W1 : IntKind.i64.wrap (cl.length : Int) = cl.length := by rw [IntKind.wrap_i64]; omega
    have hd : decide (0 < p) = true := by simp; omega
    rw [hd]
    go_enter Try.func34, Try.ntmps34
    go_wp2_with (go_at_call 30; (with_reducible refine (K.out).mono ?_); rintro e w1 ⟨⟨ao, cap, rfl, hS⟩, hb⟩; (obtain ⟨g, rfl, h0, h1, h2⟩ := hS cl.length (by simp)); (have c4 := h2 4 (.bool true) (by simp [Sp.cells])); clear hS h2)
    (go_ret; refine ⟨?_, ?_⟩; (focus (exact rfl)); ((repeat' (first | with_reducible exact Below.refl _ _ | with_reducible assumption | ((with_reducible refine Below.drew ?_)) | ((with_reducible refine below_drewN ?_ _)) | ((with_reducible refine Below.alloc ?_ ?_ _); rotate_left; focus (first | omega | (simp; done) | (simp; omega))) | ((with_reducible refine Below.setCell ?_ ?_ _); rotate_left; focus (first | omega | (simp; done) | (simp; omega))) | ((with_reducible refine Below.trans ?_ (Below.mono (by with_reducible assumption) ?_)); rotate_left; focus (first | omega | (simp; done) | (simp; omega))))); done))
theorem tw1_c (t : Int) (w : World) : Calls Try.prog 60 #[.int .u64 t] w fun ee w' => ee = .returned (.agg #[.int .i64 0, .bool true, .bool false, .int .u64 (t), .int .u64 0, .int .i64 3, .int .u64 0, .int .i64 0, .int .u16 0, .int .u16 0, .int .u16 0, .int .u16 0]) ∧ Below w.heap.size w w' := by
  have EI := Lib.hid ev_info
  go_enter Try.func60, Try.ntmps60
  go_wp2_with (refine wpList_store_new rfl 73 _ _ rfl _ #[.int .i64 ((⟨0, true, false, t, 0, 3, 0, 0, 0, 0, 0, 0⟩ : Ev)).op, .bool ((⟨0, true, false, t, 0, 3, 0, 0, 0, 0, 0, 0⟩ : Ev)).inn, .bool ((⟨0, true, false, t, 0, 3, 0, 0, 0, 0, 0, 0⟩ : Ev)).real, .int .u64 ((⟨0, true, false, t, 0, 3, 0, 0, 0, 0, 0, 0⟩ : Ev)).tm, .int .u64 ((⟨0, true, false, t, 0, 3, 0, 0, 0, 0, 0, 0⟩ : Ev)).dn, .int .i64 ((⟨0, true, false, t, 0, 3, 0, 0, 0, 0, 0, 0⟩ : Ev)).cls, .int .u64 ((⟨0, true, false, t, 0, 3, 0, 0, 0, 0, 0, 0⟩ : Ev)).id, .int .i64 ((⟨0, true, false, t, 0, 3, 0, 0, 0, 0, 0, 0⟩ : Ev)).ln, .int .u16 ((⟨0, true, false, t, 0, 3, 0, 0, 0, 0, 0, 0⟩ : Ev)).a, .int .u16 ((⟨0, true, false, t, 0, 3, 0, 0, 0, 0, 0, 0⟩ : Ev)).b, .int .u16 ((⟨0, true, false, t, 0, 3, 0, 0, 0, 0, 0, 0⟩ : Ev)).c, .int .u16 ((⟨0, true, false, t, 0, 3, 0, 0, 0, 0, 0, 0⟩ : Ev)).d] rfl rfl EI.out rfl (all_oneCell_toArray (Ev.one _)) ?_)
  refine bodyPost_ret (v := .agg #[.int .i64 0, .bool true, .bool false, .int .u64 (t), .int .u64 0, .int .i64 3, .int .u64 0, .int .i64 0, .int .u16 0, .int .u16 0, .int .u16 0, .int .u16 0]) (by simp [results, Try.results60, go_sem, *]) rfl ⟨rfl, (by repeat' (first | with_reducible exact Below.refl _ _ | with_reducible assumption | ((with_reducible refine Below.drew ?_)) | ((with_reducible refine below_drewN ?_ _)) | ((with_reducible refine Below.alloc ?_ ?_ _); rotate_left; focus (first | omega | (simp; done) | (simp; omega))) | ((with_reducible refine Below.setCell ?_ ?_ _); rotate_left; focus (first | omega | (simp; done) | (simp; omega))) | ((with_reducible refine Below.trans ?_ (Below.mono (by with_reducible assumption) ?_)); rotate_left; focus (first | omega | (simp; done) | (simp; omega)))))⟩
theorem tw2_c (t : Int) (w : World) : Calls Try.prog 61 #[.int .u64 t] w fun ee w' => ee = .returned (.agg #[.int .i64 0, .bool false, .bool false, .int .u64 (t), .int .u64 0, .int .i64 3, .int .u64 0, .int .i64 0, .int .u16 0, .int .u16 0, .int .u16 0, .int .u16 0]) ∧ Below w.heap.size w w' := by
  have EI := Lib.hid ev_info
  go_enter Try.func61, Try.ntmps61
  go_wp2_with (refine wpList_store_new rfl 73 _ _ rfl _ #[.int .i64 ((⟨0, false, false, t, 0, 3, 0, 0, 0, 0, 0, 0⟩ : Ev)).op, .bool ((⟨0, false, false, t, 0, 3, 0, 0, 0, 0, 0, 0⟩ : Ev)).inn, .bool ((⟨0, false, false, t, 0, 3, 0, 0, 0, 0, 0, 0⟩ : Ev)).real, .int .u64 ((⟨0, false, false, t, 0, 3, 0, 0, 0, 0, 0, 0⟩ : Ev)).tm, .int .u64 ((⟨0, false, false, t, 0, 3, 0, 0, 0, 0, 0, 0⟩ : Ev)).dn, .int .i64 ((⟨0, false, false, t, 0, 3, 0, 0, 0, 0, 0, 0⟩ : Ev)).cls, .int .u64 ((⟨0, false, false, t, 0, 3, 0, 0, 0, 0, 0, 0⟩ : Ev)).id, .int .i64 ((⟨0, false, false, t, 0, 3, 0, 0, 0, 0, 0, 0⟩ : Ev)).ln, .int .u16 ((⟨0, false, false, t, 0, 3, 0, 0, 0, 0, 0, 0⟩ : Ev)).a, .int .u16 ((⟨0, false, false, t, 0, 3, 0, 0, 0, 0, 0, 0⟩ : Ev)).b, .int .u16 ((⟨0, false, false, t, 0, 3, 0, 0, 0, 0, 0, 0⟩ : Ev)).c, .int .u16 ((⟨0, false, false, t, 0, 3, 0, 0, 0, 0, 0, 0⟩ : Ev)).d] rfl rfl EI.out rfl (all_oneCell_toArray (Ev.one _)) ?_)
  refine bodyPost_ret (v := .agg #[.int .i64 0, .bool false, .bool false, .int .u64 (t), .int .u64 0, .int .i64 3, .int .u64 0, .int .i64 0, .int .u16 0, .int .u16 0, .int .u16 0, .int .u16 0]) (by simp [results, Try.results61, go_sem, *]) rfl ⟨rfl, (by repeat' (first | with_reducible exact Below.refl _ _ | with_reducible assumption | ((with_reducible refine Below.drew ?_)) | ((with_reducible refine below_drewN ?_ _)) | ((with_reducible refine Below.alloc ?_ ?_ _); rotate_left; focus (first | omega | (simp; done) | (simp; omega))) | ((with_reducible refine Below.setCell ?_ ?_ _); rotate_left; focus (first | omega | (simp; done) | (simp; omega))) | ((with_reducible refine Below.trans ?_ (Below.mono (by with_reducible assumption) ?_)); rotate_left; focus (first | omega | (simp; done) | (simp; omega)))))⟩
def es5 : List Ev := [(⟨0, true, false, 5, 0, 3, 0, 0, 0, 0, 0, 0⟩ : Ev), (⟨0, false, false, 5, 0, 3, 0, 0, 0, 0, 0, 0⟩ : Ev), (⟨0, true, false, 9, 0, 3, 0, 0, 0, 0, 0, 0⟩ : Ev), (⟨0, true, false, 9, 0, 3, 0, 0, 0, 0, 0, 0⟩ : Ev), (⟨0, false, false, 20, 0, 3, 0, 0, 0, 0, 0, 0⟩ : Ev)]
theorem es5_3 : (srun [3] es5 5).rows = [⟨5, 5, 0, 1, false⟩, ⟨9, 0, 2, 0, true⟩] := rfl
end Go.Proofs.Ytkbglhkhhoakgaa
