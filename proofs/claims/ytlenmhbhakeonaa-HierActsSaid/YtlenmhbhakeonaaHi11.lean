/- What spec tells of a class. -/
import Derived.Test.YtlenmhbhakeonaaHi10
import Derived.Test.YtlenmhbhakeonaaSpec2
import Derived.Test.YtlenmhbhakeonaaSpec3
import Derived.Test.YtlenmhbhakeonaaSpec4
namespace Go.Proofs.Ytlenmhbhakeonaa
set_option linter.unusedVariables false
set_option linter.unusedSimpArgs false
set_option maxRecDepth 100000
open Go.RowKit Fg Reg Go.Maps
attribute [local irreducible] Reg.wE

/-- A class whose numbers fit their kinds. -/
structure CIn (c : Cls) : Prop where
  id : iok c.id
  par : iok c.par
  ra : In c.ra
  rb : In c.rb
  rc : In c.rc
  la : In c.la
  lb : In c.lb
  lc : In c.lc
  ua : In c.ua
  ub : In c.ub
  uc : In c.uc
  pk : iok c.pk
  bt : iok c.bt
def rl1 (c : Cls) : Bool := decide (1 < kind c.ra c.rb c.rc)
def sh1 (c : Cls) : Bool := decide (1 < kind c.la c.lb c.lc)
def cp1 (c : Cls) : Bool := decide (1 < kind c.ua c.ub c.uc)
/-- A class's error. -/
def wrC (c : Cls) : Int := wr c.id c.par (cr (kind c.ra c.rb c.rc) (kind c.la c.lb c.lc) (kind c.ua c.ub c.uc)) (sh c.leaf (rl1 c) (sh1 c) (cp1 c) c.pk c.bt)
theorem creal_c {c : Cls} (h : CIn c) (w : World) : Calls Try.prog 77 #[.agg #[.int .i64 (c).id, .int .i64 (c).par, .bool (c).leaf, .int .u64 (c).ra, .int .u64 (c).rb, .int .u64 (c).rc, .int .u64 (c).la, .int .u64 (c).lb, .int .u64 (c).lc, .int .u64 (c).ua, .int .u64 (c).ub, .int .u64 (c).uc, .int .i64 (c).pk, .int .i64 (c).bt]] w fun ee w' => ee = .returned (.bool (rl1 c)) ∧ Below w.heap.size w w' :=
  real_c c.id c.par c.leaf c.ra c.rb c.rc c.la c.lb c.lc c.ua c.ub c.uc c.pk c.bt _ (has_c _ _ _ _ (skof_c _ _ _ h.ra h.rb h.rc)) w
theorem cshares_c {c : Cls} (h : CIn c) (w : World) : Calls Try.prog 73 #[.agg #[.int .i64 (c).id, .int .i64 (c).par, .bool (c).leaf, .int .u64 (c).ra, .int .u64 (c).rb, .int .u64 (c).rc, .int .u64 (c).la, .int .u64 (c).lb, .int .u64 (c).lc, .int .u64 (c).ua, .int .u64 (c).ub, .int .u64 (c).uc, .int .i64 (c).pk, .int .i64 (c).bt]] w fun ee w' => ee = .returned (.bool (sh1 c)) ∧ Below w.heap.size w w' :=
  shares_c c.id c.par c.leaf c.ra c.rb c.rc c.la c.lb c.lc c.ua c.ub c.uc c.pk c.bt _ (has_c _ _ _ _ (skof_c _ _ _ h.la h.lb h.lc)) w
theorem ccapped_c {c : Cls} (h : CIn c) (w : World) : Calls Try.prog 120 #[.agg #[.int .i64 (c).id, .int .i64 (c).par, .bool (c).leaf, .int .u64 (c).ra, .int .u64 (c).rb, .int .u64 (c).rc, .int .u64 (c).la, .int .u64 (c).lb, .int .u64 (c).lc, .int .u64 (c).ua, .int .u64 (c).ub, .int .u64 (c).uc, .int .i64 (c).pk, .int .i64 (c).bt]] w fun ee w' => ee = .returned (.bool (cp1 c)) ∧ Below w.heap.size w w' :=
  capped_c c.id c.par c.leaf c.ra c.rb c.rc c.la c.lb c.lc c.ua c.ub c.uc c.pk c.bt _ (has_c _ _ _ _ (skof_c _ _ _ h.ua h.ub h.uc)) w
theorem cright_c {c : Cls} (h : CIn c) (w : World) : Calls Try.prog 71 #[.agg #[.int .i64 (c).id, .int .i64 (c).par, .bool (c).leaf, .int .u64 (c).ra, .int .u64 (c).rb, .int .u64 (c).rc, .int .u64 (c).la, .int .u64 (c).lb, .int .u64 (c).lc, .int .u64 (c).ua, .int .u64 (c).ub, .int .u64 (c).uc, .int .i64 (c).pk, .int .i64 (c).bt]] w fun ee w' => ee = .returned (.int .i64 (wrC c)) ∧ Below w.heap.size w w' :=
  right_c c.id c.par c.leaf c.ra c.rb c.rc c.la c.lb c.lc c.ua c.ub c.uc c.pk c.bt _ _
    (crt_c _ _ _ _ _ _ _ _ _ _ _ _ _ _ _ _ _ (skof_c _ _ _ h.ra h.rb h.rc) (skof_c _ _ _ h.la h.lb h.lc) (skof_c _ _ _ h.ua h.ub h.uc))
    (shape_c _ _ _ _ _ _ _ _ _ _ _ _ _ _ _ _ _ (creal_c h) (cshares_c h) (ccapped_c h)) w
theorem wrC_zero {c : Cls} (h : wrC c = 0) : 1 ≤ c.id ∧ c.id ≤ 65536 ∧ 0 ≤ c.par ∧ c.par ≤ 65536 ∧ c.par ≠ c.id ∧ (c.leaf = false → rl1 c = false) := by
  unfold wrC wr at h
  split at h
  · cases h
  · rename_i h1
    split at h
    · cases h
    · split at h
      · cases h
      · rename_i h3
        simp [who] at h1
        refine ⟨by omega, by omega, by omega, by omega, h1.2, fun hl => ?_⟩
        simp [sh, hl] at h3
        exact h3.2.2.2
/-- May classes below it share? -/
def shA (f : Int → Option Cls) (i : Int) : Bool := (i == 0) || (match f i with | some c => sh1 c | none => false)
theorem sharesAt_c {w : World} {tb mb : Nat} {f : Int → Option Cls} (h : HT w tb mb f) {i : Int} (hi : iok i) (hf : i ≠ 0 → ∃ c, f i = some c ∧ CIn c) : Calls Try.prog 74 #[.pointer (some ⟨tb, 0, none⟩), .int .i64 i] w fun ee w' => ee = .returned (.bool (shA f i)) ∧ Below w.heap.size w w' := by
  have c0 := h.c0
  have lt := h.lt
  have hl0 := h.look hi false
  unfold shA
  cases hz : (i == 0) with
  | true =>
    rw [Bool.true_or]
    clear hl0 h
    go_enter Try.func74, Try.ntmps74
    go_wp2_with (first | go_guarded)
    refine bodyPost_ret (v := (.bool true)) (by simp [results, Try.results74, go_sem, *]) rfl ⟨rfl, ?_⟩
    (repeat' (first | assumption | exact Below.refl _ _ | refine Below.setCell ?_ (by first | (simp; done) | omega | (simp; omega)) _ | refine Below.alloc ?_ (by first | (simp; done) | omega | (simp; omega)) _ | refine Below.drew ?_ | refine below_drewN ?_ _))
  | false =>
    obtain ⟨c, hc, hin⟩ := hf (by simpa using hz)
    rw [Bool.false_or]
    have HC := Lib.hid hc
    rw [hc] at hl0 ⊢
    have hl : (Instr.lookup 108 (.map (some mb)) (.int .i64 i) false).run Try.prog w = .ok (.agg #[.int .i64 (c).id, .int .i64 (c).par, .bool (c).leaf, .int .u64 (c).ra, .int .u64 (c).rb, .int .u64 (c).rc, .int .u64 (c).la, .int .u64 (c).lb, .int .u64 (c).lc, .int .u64 (c).ua, .int .u64 (c).ub, .int .u64 (c).uc, .int .i64 (c).pk, .int .i64 (c).bt]) w := hl0
    have K := Lib.hid (fun z => cshares_c hin z)
    show Calls Try.prog 74 #[.pointer (some ⟨tb, 0, none⟩), .int .i64 i] w fun ee w' => ee = .returned (.bool (sh1 c)) ∧ Below w.heap.size w w'
    clear hl0 h hc hf
    go_enter Try.func74, Try.ntmps74
    go_wp2_with (first | go_guarded | (go_at_call 73; (with_reducible refine (K.out _).mono ?_); rintro _ w1 ⟨rfl, hbel⟩))
    refine bodyPost_ret (v := (.bool (sh1 c))) (by simp [results, Try.results74, go_sem, *]) rfl ⟨rfl, ?_⟩
    first | (with_reducible assumption) | (repeat' (first | assumption | exact Below.refl _ _ | refine Below.setCell ?_ (by first | (simp; done) | omega | (simp; omega)) _ | refine Below.alloc ?_ (by first | (simp; done) | omega | (simp; omega)) _ | refine Below.drew ?_ | refine below_drewN ?_ _))
end Go.Proofs.Ytlenmhbhakeonaa
