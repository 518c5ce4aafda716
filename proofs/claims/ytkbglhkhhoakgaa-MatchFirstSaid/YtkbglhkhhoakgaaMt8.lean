/- slices.Clone of rules; what a table keeps of them. -/
import Derived.Test.YtkbglhkhhoakgaaMt7
import Derived.Test.YtkbglhkhhoakgaaMap0
import Derived.Test.YtkbglhkhhoakgaaRows0
import Derived.Lib.SliceRun
namespace Go.Proofs.Ytkbglhkhhoakgaa
set_option linter.unusedVariables false
set_option linter.unusedSimpArgs false
set_option maxRecDepth 100000
open Go.RowKit Fg Reg
attribute [local irreducible] Reg.wE

theorem rl_of : CellsOf Rl.cells 9 := ⟨fun _ => rfl, Rl.one, by decide⟩
theorem rl_info4 : (Try.prog.info? 37).map (fun i => (i.zero, i.size, i.bytes)) = some (some (.agg #[.int .u16 0, .int .u16 0, .int .u16 0, .int .u16 0, .int .u16 0, .int .u16 0, .int .u16 0, .int .u16 0, .int .i64 0]), 9, 24) := by kernel_rfl
theorem rl_parts : ∃ i, Try.prog.info? 37 = some i ∧ i.zero = some (.agg #[.int .u16 0, .int .u16 0, .int .u16 0, .int .u16 0, .int .u16 0, .int .u16 0, .int .u16 0, .int .u16 0, .int .i64 0]) ∧ i.size = 9 ∧ i.bytes = 24 := by
  obtain ⟨i, hi, h⟩ := Option.map_eq_some_iff.1 rl_info4
  simp only [Prod.mk.injEq] at h
  exact ⟨i, hi, h.1, h.2.1, h.2.2⟩
set_option maxHeartbeats 2000000 in
theorem clone_c (rs : List Rl) (a : Option Addr) (c : Nat) (hn : rs.length ≤ 100000) (w : World) (hR : RlsV w a rs) :
    Calls Try.prog 51 #[.slice a rs.length c] w fun e w' => (∃ v', e = .returned v' ∧ w'.ownsRow w.heap.size 37 9 v' rs.length (rs.flatMap Rl.cells)) ∧ Below w.heap.size w w' := by
  have q22 : ∀ (w : World) (a : Option Addr) (n c n' c' : Nat), (binOp .eql 22 (.slice a n c) (.slice none n' c')).run Try.prog w = .ok (.bool a.isNone) w := fun w a n c n' c' => Lib.run_eql_slice_nil w _ _ a n c n' c' Try.underlying22
  obtain ⟨ie, HI0, HZ0, HZ1, HZ2⟩ := rl_parts
  cases a with
  | none =>
    have hl : rs.length = 0 := by
      rcases Nat.eq_zero_or_pos rs.length with h | h
      · exact h
      · obtain ⟨b, o, e, _⟩ := hR 0 h
        cases e
    have hnil : rs = [] := List.length_eq_zero_iff.1 hl
    subst hnil
    clear hR
    go_enter Try.func51, Try.ntmps51
    go_wp2
    go_ret
    exact ⟨⟨_, rfl, World.ownsRow_nil _ _ _ _⟩, Below.refl _ _⟩
  | some ad =>
    have hs := RwV.src (cells := Rl.cells) rl_of hR
    have HS := Lib.hid hs
    have hlen := flat_len rl_of rs
    have hone := flat_one rl_of rs
    clear hR hs
    go_enter Try.func51, Try.ntmps51
    go_wp2_with (at_builtin; refine wpList_append_own _ rfl _ _ 22 rfl w.heap.size 37 ie (.agg #[.int .u16 0, .int .u16 0, .int .u16 0, .int .u16 0, .int .u16 0, .int .u16 0, .int .u16 0, .int .u16 0, .int .i64 0]) 9 24 Try.underlying22 HI0 HZ0 HZ1 HZ2 rfl (by decide) _ 0 [] rfl (World.ownsRow_made w #[] 0 (Nat.le_refl _) (Nat.zero_le _) rfl) ad rs.length c (rs.flatMap Rl.cells) rfl hlen ?qc2 hone ?qc4 ?qc5 ?qc6 ?_)
    case qc2 =>
      intro j u hj
      exact Lib.cell?_alloc_some _ (HS.out j u hj)
    case qc4 => unfold maxLen; omega
    case qc5 => omega
    case qc6 => simp
    intro v' w1 hown hgrow hnil
    go_wp2
    go_ret
    refine ⟨⟨v', rfl, by simpa using hown⟩, ?_⟩
    exact ((Below.refl _ w).alloc (Nat.le_refl _) _).grown hgrow (by simp) (by intro k hk; simp [Value.ownBlock] at hk; omega)

/-- Four numbers as a key. -/
abbrev H4 := Nat × Nat × Nat × Nat
def key4 (h : Nat → Nat) : H4 := (h 0, h 1, h 2, h 3)
def kv4 (x : H4) : Value := .agg #[.int .u16 (x.1 : Nat), .int .u16 (x.2.1 : Nat), .int .u16 (x.2.2.1 : Nat), .int .u16 (x.2.2.2 : Nat)]
def vvn (n : Nat) : Value := .int .i64 (n : Nat)
def ok4 (x : H4) : Prop := x.1 < 65536 ∧ x.2.1 < 65536 ∧ x.2.2.1 < 65536 ∧ x.2.2.2 < 65536
def Rl.full (r : Rl) : Bool := [((r.m 0 : Nat) : Int), ((r.m 1 : Nat) : Int), ((r.m 2 : Nat) : Int), ((r.m 3 : Nat) : Int)] == [65535, 65535, 65535, 65535]
/-- What a table keeps of the first k rules. -/
structure TInv (rs : List Rl) (k : Nat) (F : H4 → Option Nat) (ms : List Int) : Prop where
  f1 : ∀ x i, F x = some i → ∃ h : i < rs.length, i < k ∧ rs[i].full = true ∧ key4 rs[i].s = x
  f2 : ∀ i (h : i < rs.length), i < k → rs[i].full = true → ∃ j, j ≤ i ∧ F (key4 rs[i].s) = some j
  m1 : ∀ v ∈ ms, ∃ i : Nat, i < rs.length ∧ i < k ∧ v = (i : Int)
  m2 : ∀ i (h : i < rs.length), i < k → rs[i].full = false → (i : Int) ∈ ms
theorem TInv.start (rs : List Rl) : TInv rs 0 (fun _ => none) [] :=
  ⟨fun x i h => (by cases h), fun i _ h => absurd h (Nat.not_lt_zero _), fun v h => (by cases h), fun i _ h => absurd h (Nat.not_lt_zero _)⟩
variable {rs : List Rl} {k : Nat} {F : H4 → Option Nat} {ms : List Int}
theorem TInv.mask (h : TInv rs k F ms) (hk : k < rs.length) (hf : rs[k].full = false) : TInv rs (k + 1) F (ms ++ [(k : Int)]) where
  f1 x i hx := by
    obtain ⟨h0, h1, h2⟩ := h.f1 x i hx
    exact ⟨h0, by omega, h2⟩
  f2 i h0 h1 h2 := by
    by_cases he : i = k
    · subst he; rw [hf] at h2; cases h2
    · exact h.f2 i h0 (by omega) h2
  m1 v hv := by
    rcases List.mem_append.1 hv with hv | hv
    · obtain ⟨i, h0, h1, h2⟩ := h.m1 v hv
      exact ⟨i, h0, by omega, h2⟩
    · exact ⟨k, hk, by omega, by simpa using hv⟩
  m2 i h0 h1 h2 := by
    by_cases he : i = k
    · subst he; simp
    · exact List.mem_append.2 (.inl (h.m2 i h0 (by omega) h2))
theorem TInv.keep (h : TInv rs k F ms) (hk : k < rs.length) (hf : rs[k].full = true) {j : Nat} (hj : F (key4 rs[k].s) = some j) : TInv rs (k + 1) F ms where
  f1 x i hx := by
    obtain ⟨h0, h1, h2⟩ := h.f1 x i hx
    exact ⟨h0, by omega, h2⟩
  f2 i h0 h1 h2 := by
    by_cases he : i = k
    · subst he
      obtain ⟨_, h1, _⟩ := h.f1 _ _ hj
      exact ⟨j, by omega, hj⟩
    · exact h.f2 i h0 (by omega) h2
  m1 v hv := by
    obtain ⟨i, h0, h1, h2⟩ := h.m1 v hv
    exact ⟨i, h0, by omega, h2⟩
  m2 i h0 h1 h2 := by
    by_cases he : i = k
    · subst he; rw [hf] at h2; cases h2
    · exact h.m2 i h0 (by omega) h2
theorem TInv.put (h : TInv rs k F ms) (hk : k < rs.length) (hf : rs[k].full = true) (hj : F (key4 rs[k].s) = none) : TInv rs (k + 1) (upd F (key4 rs[k].s) k) ms where
  f1 x i hx := by
    unfold upd at hx
    split at hx
    · rename_i he
      cases hx
      exact ⟨hk, by omega, hf, he.symm⟩
    · obtain ⟨h0, h1, h2⟩ := h.f1 x i hx
      exact ⟨h0, by omega, h2⟩
  f2 i h0 h1 h2 := by
    unfold upd
    by_cases he : i = k
    · subst he; exact ⟨i, Nat.le_refl _, by simp⟩
    · obtain ⟨j, h3, h4⟩ := h.f2 i h0 (by omega) h2
      refine ⟨j, h3, ?_⟩
      rw [if_neg (fun hc => ?_), h4]
      rw [hc, hj] at h4
      cases h4
  m1 v hv := by
    obtain ⟨i, h0, h1, h2⟩ := h.m1 v hv
    exact ⟨i, h0, by omega, h2⟩
  m2 i h0 h1 h2 := by
    by_cases he : i = k
    · subst he; rw [hf] at h2; cases h2
    · exact h.m2 i h0 (by omega) h2
theorem hd_keyed : Maps.Keyed Try.prog 25 := Maps.Keyed.of_law (deep_law_gate (P := Try.prog) (by kernel_rfl) (of_decide_eq_true (by kernel_rfl)) (of_decide_eq_true (by kernel_rfl)) (by kernel_rfl) (by kernel_rfl))
end Go.Proofs.Ytkbglhkhhoakgaa
