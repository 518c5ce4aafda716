/- What a link sent, as a row: the reference's Until, Send, Ticks and Sum. -/
import Derived.Test.YtohdcpkacdaanaaLink6
import Derived.Deep.MidRow
import Derived.Deep.WholeRow
import Derived.Laws.AppendOwn
import Derived.Laws.OwnMore
namespace Go.Proofs.Ytohdcpkacdaanaa
set_option linter.unusedVariables false
set_option linter.unusedSimpArgs false
set_option maxRecDepth 100000
open Go.RowKit Fg Reg
attribute [local irreducible] Reg.wE

structure Snt where
  bg : Int
  dn : Int
  ln : Int
instance : Inhabited Snt := ⟨⟨0, 0, 0⟩⟩
def Snt.cells (s : Snt) : List Value := [.int .u64 s.bg, .int .u64 s.dn, .int .i64 s.ln]
theorem Snt.one (s : Snt) : ∀ v ∈ s.cells, v.oneCell' = true := by
  intro v hv
  unfold Snt.cells at hv
  simp only [List.mem_cons, List.not_mem_nil, or_false] at hv
  rcases hv with rfl | rfl | rfl <;> rfl
def sumL (l : List Snt) : Int := l.foldl (fun a s => a + s.ln) 0
def sumT (l : List Snt) : Int := l.foldl (fun a s => a + (s.dn - s.bg)) 0
def untl (l : List Snt) : Int := match l.getLast? with | none => 0 | some s => s.dn
theorem sumL_snoc (l : List Snt) (s : Snt) : sumL (l ++ [s]) = sumL l + s.ln := by unfold sumL; rw [List.foldl_append]; rfl
theorem sumT_snoc (l : List Snt) (s : Snt) : sumT (l ++ [s]) = sumT l + (s.dn - s.bg) := by unfold sumT; rw [List.foldl_append]; rfl
theorem untl_snoc (l : List Snt) (s : Snt) : untl (l ++ [s]) = s.dn := by unfold untl; simp
/-- What the law's link sends. -/
def sok (t : Int) (s : Snt) : Prop := 0 ≤ s.bg ∧ s.bg ≤ 4611686018427387904 ∧ 1 ≤ s.ln ∧ s.ln ≤ 16384 ∧ s.dn = s.bg + s.ln * t
def soks (t : Int) (l : List Snt) : Prop := ∀ k (h : k < l.length), sok t l[k]
theorem sok_le {t : Int} {s : Snt} (h : sok t s) (h1 : 1 ≤ t) (h2 : t ≤ 65536) : s.bg ≤ s.dn ∧ s.dn ≤ s.bg + 1073741824 := by
  obtain ⟨_, _, a1, a2, e⟩ := h
  have m1 : 0 ≤ s.ln * t := Int.mul_nonneg (by omega) (by omega)
  have m2 : s.ln * t ≤ 16384 * 65536 := Int.mul_le_mul a2 h2 (by omega) (by omega)
  omega
theorem soks_snoc {t : Int} {l : List Snt} {s : Snt} (h : soks t l) (hs : sok t s) : soks t (l ++ [s]) := fun k hk => by
  by_cases e : k < l.length
  · rw [List.getElem_append_left e]; exact h k e
  · have : k = l.length := by simp at hk; omega
    subst this
    simpa using hs
theorem tk_snoc {α : Type} (l : List α) (k : Nat) (h : k < l.length) : l.take (k + 1) = l.take k ++ [l[k]] := by simp
theorem sum_bd {t : Int} {l : List Snt} (h : soks t l) (h1 : 1 ≤ t) (h2 : t ≤ 65536) : ∀ k : Nat, k ≤ l.length → 0 ≤ sumL (l.take k) ∧ sumL (l.take k) ≤ 16384 * k ∧ 0 ≤ sumT (l.take k) ∧ sumT (l.take k) ≤ 1073741824 * k := by
  intro k
  induction k with
  | zero => intro _; simp [sumL, sumT]
  | succ k ih =>
    intro hk
    have i := ih (by omega)
    have hs := h k (by omega)
    have hl := sok_le hs h1 h2
    obtain ⟨_, _, a1, a2, _⟩ := hs
    rw [tk_snoc l k (by omega), sumL_snoc, sumT_snoc]
    omega
def SnV (z : World) (a : Option Addr) (l : List Snt) : Prop := ∀ k (h : k < l.length), ∃ g, a = some ⟨g, 0, none⟩ ∧ g < z.heap.size ∧ z.rangeAt g (k * 3) l[k].cells
theorem SnV.below {z z' : World} {a : Option Addr} {l : List Snt} (h : SnV z a l) (hb : Below z.heap.size z z') : SnV z' a l := fun k hk => by
  obtain ⟨g, e, h1, h2⟩ := h k hk
  exact ⟨g, e, Nat.lt_of_lt_of_le h1 hb.size, fun j v hv => (hb.cell (p := ⟨g, k * 3 + j, none⟩) h1).trans (h2 j v hv)⟩
theorem snt_get (l : List Snt) (k j : Nat) (hk : k < l.length) (hj : j < 3) : (l.flatMap Snt.cells)[k * 3 + j]? = l[k].cells[j]? := by
  induction l generalizing k with
  | nil => exact absurd hk (Nat.not_lt_zero _)
  | cons x l ih =>
    have hl : x.cells.length = 3 := rfl
    rw [List.flatMap_cons]
    cases k with
    | zero => rw [List.getElem?_append_left (by omega), Nat.zero_mul, Nat.zero_add]; rfl
    | succ k =>
      rw [List.getElem?_append_right (by omega), hl, show (k + 1) * 3 + j - 3 = k * 3 + j by omega]
      exact ih k (by simpa using hk)
theorem own_form {z : World} {B n size : Nat} {v : Value} {t : TypeId} {xs : List Value} (h : z.ownsRow B t size v n xs) : ∃ a cap, v = .slice a n cap := by
  rcases h.2 with ⟨h1, h2⟩ | ⟨b, cap, cur, rfl, _⟩
  · exact ⟨none, 0, by rw [h2]; exact h1⟩
  · exact ⟨_, cap, rfl⟩
theorem own_snv {z : World} {B cap : Nat} {a : Option Addr} {t : TypeId} {l : List Snt} (h : z.ownsRow B t 3 (.slice a l.length cap) l.length (l.flatMap Snt.cells)) : SnV z a l := by
  rcases h.2 with ⟨h1, h2⟩ | ⟨b, cap', cur, h1, h2, h3, h4⟩
  · exact fun k hk => absurd hk (by omega)
  · simp only [Value.slice.injEq, true_and] at h1
    obtain ⟨rfl, rfl⟩ := h1
    refine fun k hk => ⟨b, rfl, (h.lt b rfl).2, fun j v hv => ?_⟩
    have hj : j < 3 := (List.getElem?_eq_some_iff.1 hv).1
    rw [h.cellAt _ (by omega), snt_get l k j hk hj]
    exact hv
theorem snt_info : (Try.prog.info? 73).map (fun i => (i.zero, i.size, i.bytes)) = some (some (.agg #[.int .u64 0, .int .u64 0, .int .i64 0]), 3, 24) := by kernel_rfl
theorem snt_parts : ∃ i, Try.prog.info? 73 = some i ∧ i.zero = some (.agg #[.int .u64 0, .int .u64 0, .int .i64 0]) ∧ i.size = 3 ∧ i.bytes = 24 := by
  obtain ⟨i, hi, h⟩ := Option.map_eq_some_iff.1 snt_info
  simp only [Prod.mk.injEq] at h
  exact ⟨i, hi, h.1, h.2.1, h.2.2⟩
theorem snt_info3 : (Try.prog.info? 73).map (·.size) = some 3 := by kernel_rfl
theorem rut_c (l : List Snt) (a : Option Addr) (cap : Nat) (hn : l.length ≤ 1000) (z : World) (hS : SnV z a l) : Calls Try.prog 39 #[.slice a l.length cap] z fun ee w' => ee = .returned (.int .u64 (untl l)) ∧ Below z.heap.size z w' := by
  rcases List.eq_nil_or_concat l with rfl | ⟨l', s, rfl⟩
  · go_enter Try.func39, Try.ntmps39
    go_wp2
    (go_ret; refine ⟨?_, ?_⟩; (focus (exact rfl)); ((repeat' (first | with_reducible exact Below.refl _ _ | with_reducible assumption | ((with_reducible refine Below.drew ?_)) | ((with_reducible refine below_drewN ?_ _)) | ((with_reducible refine Below.alloc ?_ ?_ _); rotate_left; focus (first | omega | (simp; done) | (simp; omega))) | ((with_reducible refine Below.setCell ?_ ?_ _); rotate_left; focus (first | omega | (simp; done) | (simp; omega))) | ((with_reducible refine Below.trans ?_ (Below.mono (by with_reducible assumption) ?_)); rotate_left; focus (first | omega | (simp; done) | (simp; omega))))); done))
  · obtain ⟨g, rfl, hg, hr⟩ := hS l'.length (by simp)
    have hu : untl (l'.concat s) = s.dn := by rw [List.concat_eq_append]; exact untl_snoc l' s
    have hl : (l'.concat s).length = l'.length + 1 := by simp
    have c1 : z.cell? ⟨g, l'.length * 3 + 1, none⟩ = some (.int .u64 s.dn) := hr 1 _ (by simp [Snt.cells])
    rw [hl] at hn
    rw [hu, hl]
    have W1 : IntKind.i64.wrap (l'.length : Int) = l'.length := by rw [IntKind.wrap_i64]; omega
    clear hS hr hu hl
    go_enter Try.func39, Try.ntmps39
    go_wp2
    (go_ret; refine ⟨?_, ?_⟩; (focus (exact rfl)); ((repeat' (first | with_reducible exact Below.refl _ _ | with_reducible assumption | ((with_reducible refine Below.drew ?_)) | ((with_reducible refine below_drewN ?_ _)) | ((with_reducible refine Below.alloc ?_ ?_ _); rotate_left; focus (first | omega | (simp; done) | (simp; omega))) | ((with_reducible refine Below.setCell ?_ ?_ _); rotate_left; focus (first | omega | (simp; done) | (simp; omega))) | ((with_reducible refine Below.trans ?_ (Below.mono (by with_reducible assumption) ?_)); rotate_left; focus (first | omega | (simp; done) | (simp; omega))))); done))
theorem rti_c (t n : Int) (h1 : 1 ≤ t) (h2 : t ≤ 65536) (n1 : 1 ≤ n) (n2 : n ≤ 16384) (z : World) : Calls Try.prog 38 #[.int .i64 t, .int .i64 n] z fun ee w' => ee = .returned (.int .u64 (n * t)) ∧ Below z.heap.size z w' := by
  have m1 : 0 ≤ n * t := Int.mul_nonneg (by omega) (by omega)
  have m2 : n * t ≤ 16384 * 65536 := Int.mul_le_mul n2 h2 (by omega) (by omega)
  have W1 : IntKind.u64.wrap t = t := by rw [wrap_u64]; omega
  have W2 : IntKind.u64.wrap n = n := by rw [wrap_u64]; omega
  have W3 : IntKind.u64.wrap (t * n) = n * t := by rw [wrap_u64, Int.mul_comm]; omega
  go_enter Try.func38, Try.ntmps38
  go_wp2
  (go_ret; refine ⟨?_, ?_⟩; (focus (exact rfl)); ((repeat' (first | with_reducible exact Below.refl _ _ | with_reducible assumption | ((with_reducible refine Below.drew ?_)) | ((with_reducible refine below_drewN ?_ _)) | ((with_reducible refine Below.alloc ?_ ?_ _); rotate_left; focus (first | omega | (simp; done) | (simp; omega))) | ((with_reducible refine Below.setCell ?_ ?_ _); rotate_left; focus (first | omega | (simp; done) | (simp; omega))) | ((with_reducible refine Below.trans ?_ (Below.mono (by with_reducible assumption) ?_)); rotate_left; focus (first | omega | (simp; done) | (simp; omega))))); done))
end Go.Proofs.Ytohdcpkacdaanaa
