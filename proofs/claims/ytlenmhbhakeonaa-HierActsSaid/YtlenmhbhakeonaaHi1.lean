/- A nil tree. -/
import Derived.Test.YtlenmhbhakeonaaMathA
import Derived.Test.YtlenmhbhakeonaaRegS
import Derived.Test.YtlenmhbhakeonaaOpenA
import Derived.LoopN
namespace Go.Proofs.Ytlenmhbhakeonaa
set_option linter.unusedVariables false
set_option linter.unusedSimpArgs false
set_option maxRecDepth 100000
open Go.RowKit Fg Reg
attribute [local irreducible] Reg.wE

structure Cls where
  id : Int
  par : Int
  leaf : Bool
  ra : Int
  rb : Int
  rc : Int
  la : Int
  lb : Int
  lc : Int
  ua : Int
  ub : Int
  uc : Int
  pk : Int
  bt : Int
theorem get_nil (id : Int) (w : World) : Calls Try.prog 21 #[.pointer none, .int .i64 id] w fun ee w' => ee = .returned (.tuple #[.agg #[.int .i64 0, .int .i64 0, .bool false, .int .u64 0, .int .u64 0, .int .u64 0, .int .u64 0, .int .u64 0, .int .u64 0, .int .u64 0, .int .u64 0, .int .u64 0, .int .i64 0, .int .i64 0], .int .i64 7]) ∧ Below w.heap.size w w' := by
  go_enter Try.func21, Try.ntmps21
  go_wp2
  refine bodyPost_ret (v := (.tuple #[.agg #[.int .i64 0, .int .i64 0, .bool false, .int .u64 0, .int .u64 0, .int .u64 0, .int .u64 0, .int .u64 0, .int .u64 0, .int .u64 0, .int .u64 0, .int .u64 0, .int .i64 0, .int .i64 0], .int .i64 7])) (by simp [results, Try.results21, go_sem, *]) rfl ⟨rfl, ?_⟩
  first | (with_reducible assumption) | (repeat' (first | assumption | exact Below.refl _ _ | refine Below.setCell ?_ (by first | (simp; done) | omega | (simp; omega)) _ | refine Below.alloc ?_ (by first | (simp; done) | omega | (simp; omega)) _ | refine Below.drew ?_ | refine below_drewN ?_ _))
theorem add_nil (c : Cls) (w : World) : Calls Try.prog 23 #[.pointer none, .agg #[.int .i64 (c).id, .int .i64 (c).par, .bool (c).leaf, .int .u64 (c).ra, .int .u64 (c).rb, .int .u64 (c).rc, .int .u64 (c).la, .int .u64 (c).lb, .int .u64 (c).lc, .int .u64 (c).ua, .int .u64 (c).ub, .int .u64 (c).uc, .int .i64 (c).pk, .int .i64 (c).bt]] w fun ee w' => ee = .returned (.int .i64 7) ∧ Below w.heap.size w w' := by
  go_enter Try.func23, Try.ntmps23
  go_wp2
  refine bodyPost_ret (v := (.int .i64 7)) (by simp [results, Try.results23, go_sem, *]) rfl ⟨rfl, ?_⟩
  first | (with_reducible assumption) | (repeat' (first | assumption | exact Below.refl _ _ | refine Below.setCell ?_ (by first | (simp; done) | omega | (simp; omega)) _ | refine Below.alloc ?_ (by first | (simp; done) | omega | (simp; omega)) _ | refine Below.drew ?_ | refine below_drewN ?_ _))
theorem set_nil (c : Cls) (w : World) : Calls Try.prog 24 #[.pointer none, .agg #[.int .i64 (c).id, .int .i64 (c).par, .bool (c).leaf, .int .u64 (c).ra, .int .u64 (c).rb, .int .u64 (c).rc, .int .u64 (c).la, .int .u64 (c).lb, .int .u64 (c).lc, .int .u64 (c).ua, .int .u64 (c).ub, .int .u64 (c).uc, .int .i64 (c).pk, .int .i64 (c).bt]] w fun ee w' => ee = .returned (.int .i64 7) ∧ Below w.heap.size w w' := by
  go_enter Try.func24, Try.ntmps24
  go_wp2
  refine bodyPost_ret (v := (.int .i64 7)) (by simp [results, Try.results24, go_sem, *]) rfl ⟨rfl, ?_⟩
  first | (with_reducible assumption) | (repeat' (first | assumption | exact Below.refl _ _ | refine Below.setCell ?_ (by first | (simp; done) | omega | (simp; omega)) _ | refine Below.alloc ?_ (by first | (simp; done) | omega | (simp; omega)) _ | refine Below.drew ?_ | refine below_drewN ?_ _))
theorem those_nil (f : Value) (w : World) : Calls Try.prog 68 #[.pointer none, f] w fun ee w' => ee = .returned (.slice none 0 0) ∧ Below w.heap.size w w' := by
  go_enter Try.func68, Try.ntmps68
  go_wp2
  refine bodyPost_ret (v := (.slice none 0 0)) (by simp [results, Try.results68, go_sem, *]) rfl ⟨rfl, ?_⟩
  first | (with_reducible assumption) | (repeat' (first | assumption | exact Below.refl _ _ | refine Below.setCell ?_ (by first | (simp; done) | omega | (simp; omega)) _ | refine Below.alloc ?_ (by first | (simp; done) | omega | (simp; omega)) _ | refine Below.drew ?_ | refine below_drewN ?_ _))
theorem copy_nil (w : World) : Calls Try.prog 17 #[.pointer none] w fun ee w' => ee = .returned (.pointer none) ∧ Below w.heap.size w w' := by
  go_enter Try.func17, Try.ntmps17
  go_wp2
  refine bodyPost_ret (v := (.pointer none)) (by simp [results, Try.results17, go_sem, *]) rfl ⟨rfl, ?_⟩
  first | (with_reducible assumption) | (repeat' (first | assumption | exact Below.refl _ _ | refine Below.setCell ?_ (by first | (simp; done) | omega | (simp; omega)) _ | refine Below.alloc ?_ (by first | (simp; done) | omega | (simp; omega)) _ | refine Below.drew ?_ | refine below_drewN ?_ _))
theorem leaves_nil (w : World) : Calls Try.prog 18 #[.pointer none] w fun ee w' => ee = .returned (.slice none 0 0) ∧ Below w.heap.size w w' := by
  go_enter Try.func18, Try.ntmps18
  go_wp2_with (first | go_guarded | (go_at_call 68; (with_reducible refine (those_nil _ _).mono ?_); rintro _ w1 ⟨rfl, hbel⟩; have hsz1 := hbel.size))
  refine bodyPost_ret (v := (.slice none 0 0)) (by simp [results, Try.results18, go_sem, *]) rfl ⟨rfl, ?_⟩
  first | (with_reducible assumption) | (repeat' (first | assumption | exact Below.refl _ _ | refine Below.setCell ?_ (by first | (simp; done) | omega | (simp; omega)) _ | refine Below.alloc ?_ (by first | (simp; done) | omega | (simp; omega)) _ | refine Below.drew ?_ | refine below_drewN ?_ _))
theorem ids_nil (w : World) : Calls Try.prog 20 #[.pointer none] w fun ee w' => ee = .returned (.slice none 0 0) ∧ Below w.heap.size w w' := by
  go_enter Try.func20, Try.ntmps20
  go_wp2_with (first | go_guarded | (go_at_call 68; (with_reducible refine (those_nil _ _).mono ?_); rintro _ w1 ⟨rfl, hbel⟩; have hsz1 := hbel.size))
  refine bodyPost_ret (v := (.slice none 0 0)) (by simp [results, Try.results20, go_sem, *]) rfl ⟨rfl, ?_⟩
  first | (with_reducible assumption) | (repeat' (first | assumption | exact Below.refl _ _ | refine Below.setCell ?_ (by first | (simp; done) | omega | (simp; omega)) _ | refine Below.alloc ?_ (by first | (simp; done) | omega | (simp; omega)) _ | refine Below.drew ?_ | refine below_drewN ?_ _))
theorem children_nil (id : Int) (w : World) : Calls Try.prog 25 #[.pointer none, .int .i64 id] w fun ee w' => ee = .returned (.slice none 0 0) ∧ Below w.heap.size w w' := by
  go_enter Try.func25, Try.ntmps25
  go_wp2_with (first | go_guarded | (go_at_call 68; (with_reducible refine (those_nil _ _).mono ?_); rintro _ w1 ⟨rfl, hbel⟩; have HB1 : Below w.heap.size w w1 := Below.trans (by (repeat' (first | assumption | exact Below.refl _ _ | refine Below.setCell ?_ (by first | (simp; done) | omega | (simp; omega)) _ | refine Below.alloc ?_ (by first | (simp; done) | omega | (simp; omega)) _ | refine Below.drew ?_ | refine below_drewN ?_ _))) (hbel.mono (by simp)); clear hbel))
  refine bodyPost_ret (v := (.slice none 0 0)) (by simp [results, Try.results25, go_sem, *]) rfl ⟨rfl, ?_⟩
  first | (with_reducible assumption) | (repeat' (first | assumption | exact Below.refl _ _ | refine Below.setCell ?_ (by first | (simp; done) | omega | (simp; omega)) _ | refine Below.alloc ?_ (by first | (simp; done) | omega | (simp; omega)) _ | refine Below.drew ?_ | refine below_drewN ?_ _))
theorem del_nil (id : Int) (w : World) : Calls Try.prog 19 #[.pointer none, .int .i64 id] w fun ee w' => ee = .returned (.int .i64 7) ∧ Below w.heap.size w w' := by
  go_enter Try.func19, Try.ntmps19
  go_wp2_with (first | go_guarded | (go_at_call 21; (with_reducible refine (get_nil _ _).mono ?_); rintro _ w1 ⟨rfl, hbel⟩; have hsz1 := hbel.size))
  refine bodyPost_ret (v := (.int .i64 7)) (by simp [results, Try.results19, go_sem, *]) rfl ⟨rfl, ?_⟩
  first | (with_reducible assumption) | (repeat' (first | assumption | exact Below.refl _ _ | refine Below.setCell ?_ (by first | (simp; done) | omega | (simp; omega)) _ | refine Below.alloc ?_ (by first | (simp; done) | omega | (simp; omega)) _ | refine Below.drew ?_ | refine below_drewN ?_ _))
theorem up_nil (id : Int) (w : World) : Calls Try.prog 22 #[.pointer none, .int .i64 id] w fun ee w' => ee = .returned (.slice none 0 0) ∧ Below w.heap.size w w' := by
  go_enter Try.func22, Try.ntmps22
  go_wp2_with (first | go_guarded | (go_at_call 21; (with_reducible refine (get_nil _ _).mono ?_); rintro _ w1 ⟨rfl, hbel⟩; have hsz1 := hbel.size))
  refine wp_loop_rounds 1 ?_
  rw [rounds_succ]
  go_wp2
  refine bodyPost_ret (v := (.slice none 0 0)) (by simp [results, Try.results22, go_sem, *]) rfl ⟨rfl, ?_⟩
  first | (with_reducible assumption) | (repeat' (first | assumption | exact Below.refl _ _ | refine Below.setCell ?_ (by first | (simp; done) | omega | (simp; omega)) _ | refine Below.alloc ?_ (by first | (simp; done) | omega | (simp; omega)) _ | refine Below.drew ?_ | refine below_drewN ?_ _))
theorem depth_nil (id : Int) (w : World) : Calls Try.prog 26 #[.pointer none, .int .i64 id] w fun ee w' => ee = .returned (.int .i64 0) ∧ Below w.heap.size w w' := by
  go_enter Try.func26, Try.ntmps26
  go_wp2_with (first | go_guarded | (go_at_call 22; (with_reducible refine (up_nil _ _).mono ?_); rintro _ w1 ⟨rfl, hbel⟩; have hsz1 := hbel.size))
  refine bodyPost_ret (v := (.int .i64 0)) (by simp [results, Try.results26, go_sem, *]) rfl ⟨rfl, ?_⟩
  first | (with_reducible assumption) | (repeat' (first | assumption | exact Below.refl _ _ | refine Below.setCell ?_ (by first | (simp; done) | omega | (simp; omega)) _ | refine Below.alloc ?_ (by first | (simp; done) | omega | (simp; omega)) _ | refine Below.drew ?_ | refine below_drewN ?_ _))
theorem reals_nil (w : World) : Calls Try.prog 27 #[.pointer none] w fun ee w' => ee = .returned (.slice none 0 0) ∧ Below w.heap.size w w' := by
  go_enter Try.func27, Try.ntmps27
  go_wp2_with (first | go_guarded | (go_at_call 18; (with_reducible refine (leaves_nil _).mono ?_); rintro _ w1 ⟨rfl, hbel⟩; have hsz1 := hbel.size))
  refine wp_loop_rounds 1 ?_
  rw [rounds_succ]
  go_wp2
  refine bodyPost_ret (v := (.slice none 0 0)) (by simp [results, Try.results27, go_sem, *]) rfl ⟨rfl, ?_⟩
  first | (with_reducible assumption) | (repeat' (first | assumption | exact Below.refl _ _ | refine Below.setCell ?_ (by first | (simp; done) | omega | (simp; omega)) _ | refine Below.alloc ?_ (by first | (simp; done) | omega | (simp; omega)) _ | refine Below.drew ?_ | refine below_drewN ?_ _))
end Go.Proofs.Ytlenmhbhakeonaa
