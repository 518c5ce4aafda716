/- Wrong. -/
import Derived.Test.YtlenmhbhakeonaaAu10
namespace Go.Proofs.Ytlenmhbhakeonaa
set_option linter.unusedVariables false
set_option linter.unusedSimpArgs false
set_option maxRecDepth 100000
open Go.RowKit Fg Reg
attribute [local irreducible] Reg.wE QR

def CZ (w z : World) (e : Ev) (T lm : Int) : Prop := (z.cell? ⟨w.heap.size + 1, 3, none⟩ = some (.int .u64 e.tm) ∧ z.cell? ⟨w.heap.size + 1, 4, none⟩ = some (.int .u64 e.dn) ∧ z.cell? ⟨w.heap.size + 1, 5, none⟩ = some (.int .i64 e.cls) ∧ z.cell? ⟨w.heap.size + 1, 6, none⟩ = some (.int .u64 e.id) ∧ z.cell? ⟨w.heap.size + 1, 7, none⟩ = some (.int .i64 e.ln) ∧ z.cell? ⟨w.heap.size + 1, 8, none⟩ = some (.int .u16 e.a) ∧ z.cell? ⟨w.heap.size + 1, 9, none⟩ = some (.int .u16 e.b) ∧ z.cell? ⟨w.heap.size + 1, 10, none⟩ = some (.int .u16 e.c) ∧ z.cell? ⟨w.heap.size + 1, 11, none⟩ = some (.int .u16 e.d) ∧ z.cell? ⟨w.heap.size, 0, none⟩ = some (.int .i64 T) ∧ z.cell? ⟨w.heap.size, 1, none⟩ = some (.int .i64 lm) ∧ w.heap.size + 2 < z.heap.size ∧ Below w.heap.size w z)
theorem CZ.below {w z z' : World} {e : Ev} {T lm : Int} (h : CZ w z e T lm) (hb : Below z.heap.size z z') : CZ w z' e T lm := by
  obtain ⟨c3, c4, c5, c6, c7, c8, c9, c10, c11, x0, x1, hs, hB⟩ := h
  have h1 : w.heap.size + 1 < z.heap.size := by omega
  have h0 : w.heap.size < z.heap.size := by omega
  exact ⟨(hb.cell h1).trans c3, (hb.cell h1).trans c4, (hb.cell h1).trans c5, (hb.cell h1).trans c6, (hb.cell h1).trans c7, (hb.cell h1).trans c8, (hb.cell h1).trans c9, (hb.cell h1).trans c10, (hb.cell h1).trans c11, (hb.cell h0).trans x0, (hb.cell h0).trans x1, by have := hb.size; omega, hB.trans (hb.mono (by omega))⟩
set_option maxHeartbeats 8000000 in
theorem wro_0_1a (T lm : Int) (e p : Ev) (eb eo n i j cap : Nat) (w : World) (heb : eb < w.heap.size) (hin : 0 < n) (hcap : n ≤ cap) (hcm : cap ≤ maxLen) (hr : ∀ z, Below w.heap.size w z → z.rangeAt eb eo e.cells) (f0 : decide (e.op < 0) = true) :
    Calls Try.prog 47 #[.agg #[.int .i64 T, .int .i64 lm], .slice (some ⟨eb, eo, none⟩) n cap, .int .i64 0] w fun ee w' => ee = .returned (.int .i64 1) ∧ Below w.heap.size w w' := by
  have EI := Lib.hid ev_info
  have HR := Lib.hid hr
  clear hr
  go_enter Try.func47, Try.ntmps47
  go_wp2_with (first | (refine wpList_load_mid rfl 96 _ rfl eb eo rfl _ _ (HR.out _ (by (repeat' (first | assumption | exact Below.refl _ _ | refine Below.setCell ?_ (by first | (simp; done) | omega | (simp; omega)) _ | refine Below.alloc ?_ (by first | (simp; done) | omega | (simp; omega)) _ | refine Below.drew ?_ | refine below_drewN ?_ _)))) Try.underlying96 rfl EI.out ?_) | (refine wpList_store_new rfl 96 _ _ rfl _ #[.int .i64 (e).op, .bool (e).inn, .bool (e).real, .int .u64 (e).tm, .int .u64 (e).dn, .int .i64 (e).cls, .int .u64 (e).id, .int .i64 (e).ln, .int .u16 (e).a, .int .u16 (e).b, .int .u16 (e).c, .int .u16 (e).d] (Eq.trans (b := Value.pointer (some ⟨w.heap.size + 1, 0, none⟩)) rfl (by simp [go_sem])) rfl EI.out rfl (all_oneCell_toArray e.one) ?_) | go_guarded)
  go_ret; first | exact ⟨rfl, hb9⟩ | exact ⟨rfl, by (repeat' (first | assumption | exact Below.refl _ _ | refine Below.setCell ?_ (by first | (simp; done) | omega | (simp; omega)) _ | refine Below.alloc ?_ (by first | (simp; done) | omega | (simp; omega)) _ | refine Below.drew ?_ | refine below_drewN ?_ _))⟩
set_option maxHeartbeats 8000000 in
theorem wro_0_1b (T lm : Int) (e p : Ev) (eb eo n i j cap : Nat) (w : World) (heb : eb < w.heap.size) (hin : 0 < n) (hcap : n ≤ cap) (hcm : cap ≤ maxLen) (hr : ∀ z, Below w.heap.size w z → z.rangeAt eb eo e.cells) (f0 : decide (e.op < 0) = false) (f1 : decide (e.cls < 1) = true) :
    Calls Try.prog 47 #[.agg #[.int .i64 T, .int .i64 lm], .slice (some ⟨eb, eo, none⟩) n cap, .int .i64 0] w fun ee w' => ee = .returned (.int .i64 1) ∧ Below w.heap.size w w' := by
  have EI := Lib.hid ev_info
  have HR := Lib.hid hr
  clear hr
  go_enter Try.func47, Try.ntmps47
  go_wp2_with (first | (refine wpList_load_mid rfl 96 _ rfl eb eo rfl _ _ (HR.out _ (by (repeat' (first | assumption | exact Below.refl _ _ | refine Below.setCell ?_ (by first | (simp; done) | omega | (simp; omega)) _ | refine Below.alloc ?_ (by first | (simp; done) | omega | (simp; omega)) _ | refine Below.drew ?_ | refine below_drewN ?_ _)))) Try.underlying96 rfl EI.out ?_) | (refine wpList_store_new rfl 96 _ _ rfl _ #[.int .i64 (e).op, .bool (e).inn, .bool (e).real, .int .u64 (e).tm, .int .u64 (e).dn, .int .i64 (e).cls, .int .u64 (e).id, .int .i64 (e).ln, .int .u16 (e).a, .int .u16 (e).b, .int .u16 (e).c, .int .u16 (e).d] (Eq.trans (b := Value.pointer (some ⟨w.heap.size + 1, 0, none⟩)) rfl (by simp [go_sem])) rfl EI.out rfl (all_oneCell_toArray e.one) ?_) | go_guarded)
  go_ret; first | exact ⟨rfl, hb9⟩ | exact ⟨rfl, by (repeat' (first | assumption | exact Below.refl _ _ | refine Below.setCell ?_ (by first | (simp; done) | omega | (simp; omega)) _ | refine Below.alloc ?_ (by first | (simp; done) | omega | (simp; omega)) _ | refine Below.drew ?_ | refine below_drewN ?_ _))⟩
set_option maxHeartbeats 8000000 in
theorem wro_0_2a (T lm : Int) (e p : Ev) (eb eo n i j cap : Nat) (w : World) (heb : eb < w.heap.size) (hin : 0 < n) (hcap : n ≤ cap) (hcm : cap ≤ maxLen) (hr : ∀ z, Below w.heap.size w z → z.rangeAt eb eo e.cells) (f0 : decide (e.op < 0) = false) (f1 : decide (e.cls < 1) = false) (f2 : decide (e.tm < 0) = true) :
    Calls Try.prog 47 #[.agg #[.int .i64 T, .int .i64 lm], .slice (some ⟨eb, eo, none⟩) n cap, .int .i64 0] w fun ee w' => ee = .returned (.int .i64 27) ∧ Below w.heap.size w w' := by
  have EI := Lib.hid ev_info
  have HR := Lib.hid hr
  clear hr
  go_enter Try.func47, Try.ntmps47
  go_wp2_with (first | (refine wpList_load_mid rfl 96 _ rfl eb eo rfl _ _ (HR.out _ (by (repeat' (first | assumption | exact Below.refl _ _ | refine Below.setCell ?_ (by first | (simp; done) | omega | (simp; omega)) _ | refine Below.alloc ?_ (by first | (simp; done) | omega | (simp; omega)) _ | refine Below.drew ?_ | refine below_drewN ?_ _)))) Try.underlying96 rfl EI.out ?_) | (refine wpList_store_new rfl 96 _ _ rfl _ #[.int .i64 (e).op, .bool (e).inn, .bool (e).real, .int .u64 (e).tm, .int .u64 (e).dn, .int .i64 (e).cls, .int .u64 (e).id, .int .i64 (e).ln, .int .u16 (e).a, .int .u16 (e).b, .int .u16 (e).c, .int .u16 (e).d] (Eq.trans (b := Value.pointer (some ⟨w.heap.size + 1, 0, none⟩)) rfl (by simp [go_sem])) rfl EI.out rfl (all_oneCell_toArray e.one) ?_) | go_guarded)
  go_ret; first | exact ⟨rfl, hb9⟩ | exact ⟨rfl, by (repeat' (first | assumption | exact Below.refl _ _ | refine Below.setCell ?_ (by first | (simp; done) | omega | (simp; omega)) _ | refine Below.alloc ?_ (by first | (simp; done) | omega | (simp; omega)) _ | refine Below.drew ?_ | refine below_drewN ?_ _))⟩
set_option maxHeartbeats 8000000 in
theorem wro_0_2b (T lm : Int) (e p : Ev) (eb eo n i j cap : Nat) (w : World) (heb : eb < w.heap.size) (hin : 0 < n) (hcap : n ≤ cap) (hcm : cap ≤ maxLen) (hr : ∀ z, Below w.heap.size w z → z.rangeAt eb eo e.cells) (f0 : decide (e.op < 0) = false) (f1 : decide (e.cls < 1) = false) (f2 : decide (e.tm < 0) = false) (f3 : decide (4611686018427387904 < e.tm) = true) :
    Calls Try.prog 47 #[.agg #[.int .i64 T, .int .i64 lm], .slice (some ⟨eb, eo, none⟩) n cap, .int .i64 0] w fun ee w' => ee = .returned (.int .i64 27) ∧ Below w.heap.size w w' := by
  have EI := Lib.hid ev_info
  have HR := Lib.hid hr
  clear hr
  go_enter Try.func47, Try.ntmps47
  go_wp2_with (first | (refine wpList_load_mid rfl 96 _ rfl eb eo rfl _ _ (HR.out _ (by (repeat' (first | assumption | exact Below.refl _ _ | refine Below.setCell ?_ (by first | (simp; done) | omega | (simp; omega)) _ | refine Below.alloc ?_ (by first | (simp; done) | omega | (simp; omega)) _ | refine Below.drew ?_ | refine below_drewN ?_ _)))) Try.underlying96 rfl EI.out ?_) | (refine wpList_store_new rfl 96 _ _ rfl _ #[.int .i64 (e).op, .bool (e).inn, .bool (e).real, .int .u64 (e).tm, .int .u64 (e).dn, .int .i64 (e).cls, .int .u64 (e).id, .int .i64 (e).ln, .int .u16 (e).a, .int .u16 (e).b, .int .u16 (e).c, .int .u16 (e).d] (Eq.trans (b := Value.pointer (some ⟨w.heap.size + 1, 0, none⟩)) rfl (by simp [go_sem])) rfl EI.out rfl (all_oneCell_toArray e.one) ?_) | go_guarded)
  go_ret; first | exact ⟨rfl, hb9⟩ | exact ⟨rfl, by (repeat' (first | assumption | exact Below.refl _ _ | refine Below.setCell ?_ (by first | (simp; done) | omega | (simp; omega)) _ | refine Below.alloc ?_ (by first | (simp; done) | omega | (simp; omega)) _ | refine Below.drew ?_ | refine below_drewN ?_ _))⟩
set_option maxHeartbeats 8000000 in
theorem wro_0_3a (T lm : Int) (e p : Ev) (eb eo n i j cap : Nat) (w : World) (heb : eb < w.heap.size) (hin : 0 < n) (hcap : n ≤ cap) (hcm : cap ≤ maxLen) (hr : ∀ z, Below w.heap.size w z → z.rangeAt eb eo e.cells) (f0 : decide (e.op < 0) = false) (f1 : decide (e.cls < 1) = false) (f2 : decide (e.tm < 0) = false) (f3 : decide (4611686018427387904 < e.tm) = false) (f4 : decide (e.ln < 1) = true) :
    Calls Try.prog 47 #[.agg #[.int .i64 T, .int .i64 lm], .slice (some ⟨eb, eo, none⟩) n cap, .int .i64 0] w fun ee w' => ee = .returned (.int .i64 26) ∧ Below w.heap.size w w' := by
  have EI := Lib.hid ev_info
  have HR := Lib.hid hr
  clear hr
  go_enter Try.func47, Try.ntmps47
  go_wp2_with (first | (refine wpList_load_mid rfl 96 _ rfl eb eo rfl _ _ (HR.out _ (by (repeat' (first | assumption | exact Below.refl _ _ | refine Below.setCell ?_ (by first | (simp; done) | omega | (simp; omega)) _ | refine Below.alloc ?_ (by first | (simp; done) | omega | (simp; omega)) _ | refine Below.drew ?_ | refine below_drewN ?_ _)))) Try.underlying96 rfl EI.out ?_) | (refine wpList_store_new rfl 96 _ _ rfl _ #[.int .i64 (e).op, .bool (e).inn, .bool (e).real, .int .u64 (e).tm, .int .u64 (e).dn, .int .i64 (e).cls, .int .u64 (e).id, .int .i64 (e).ln, .int .u16 (e).a, .int .u16 (e).b, .int .u16 (e).c, .int .u16 (e).d] (Eq.trans (b := Value.pointer (some ⟨w.heap.size + 1, 0, none⟩)) rfl (by simp [go_sem])) rfl EI.out rfl (all_oneCell_toArray e.one) ?_) | go_guarded)
  go_ret; first | exact ⟨rfl, hb9⟩ | exact ⟨rfl, by (repeat' (first | assumption | exact Below.refl _ _ | refine Below.setCell ?_ (by first | (simp; done) | omega | (simp; omega)) _ | refine Below.alloc ?_ (by first | (simp; done) | omega | (simp; omega)) _ | refine Below.drew ?_ | refine below_drewN ?_ _))⟩
set_option maxHeartbeats 8000000 in
theorem wro_0_3b (T lm : Int) (e p : Ev) (eb eo n i j cap : Nat) (w : World) (heb : eb < w.heap.size) (hin : 0 < n) (hcap : n ≤ cap) (hcm : cap ≤ maxLen) (hr : ∀ z, Below w.heap.size w z → z.rangeAt eb eo e.cells) (f0 : decide (e.op < 0) = false) (f1 : decide (e.cls < 1) = false) (f2 : decide (e.tm < 0) = false) (f3 : decide (4611686018427387904 < e.tm) = false) (f4 : decide (e.ln < 1) = false) (f5 : decide (lm < e.ln) = true) :
    Calls Try.prog 47 #[.agg #[.int .i64 T, .int .i64 lm], .slice (some ⟨eb, eo, none⟩) n cap, .int .i64 0] w fun ee w' => ee = .returned (.int .i64 26) ∧ Below w.heap.size w w' := by
  have EI := Lib.hid ev_info
  have HR := Lib.hid hr
  clear hr
  go_enter Try.func47, Try.ntmps47
  go_wp2_with (first | (refine wpList_load_mid rfl 96 _ rfl eb eo rfl _ _ (HR.out _ (by (repeat' (first | assumption | exact Below.refl _ _ | refine Below.setCell ?_ (by first | (simp; done) | omega | (simp; omega)) _ | refine Below.alloc ?_ (by first | (simp; done) | omega | (simp; omega)) _ | refine Below.drew ?_ | refine below_drewN ?_ _)))) Try.underlying96 rfl EI.out ?_) | (refine wpList_store_new rfl 96 _ _ rfl _ #[.int .i64 (e).op, .bool (e).inn, .bool (e).real, .int .u64 (e).tm, .int .u64 (e).dn, .int .i64 (e).cls, .int .u64 (e).id, .int .i64 (e).ln, .int .u16 (e).a, .int .u16 (e).b, .int .u16 (e).c, .int .u16 (e).d] (Eq.trans (b := Value.pointer (some ⟨w.heap.size + 1, 0, none⟩)) rfl (by simp [go_sem])) rfl EI.out rfl (all_oneCell_toArray e.one) ?_) | go_guarded)
  go_ret; first | exact ⟨rfl, hb9⟩ | exact ⟨rfl, by (repeat' (first | assumption | exact Below.refl _ _ | refine Below.setCell ?_ (by first | (simp; done) | omega | (simp; omega)) _ | refine Below.alloc ?_ (by first | (simp; done) | omega | (simp; omega)) _ | refine Below.drew ?_ | refine below_drewN ?_ _))⟩
set_option maxHeartbeats 8000000 in
theorem wro_0_4a (T lm : Int) (e p : Ev) (eb eo n i j cap : Nat) (w : World) (heb : eb < w.heap.size) (hin : 0 < n) (hcap : n ≤ cap) (hcm : cap ≤ maxLen) (hr : ∀ z, Below w.heap.size w z → z.rangeAt eb eo e.cells) (f0 : decide (e.op < 0) = false) (f1 : decide (e.cls < 1) = false) (f2 : decide (e.tm < 0) = false) (f3 : decide (4611686018427387904 < e.tm) = false) (f4 : decide (e.ln < 1) = false) (f5 : decide (lm < e.ln) = false) (f6 : e.inn = true) (f7 : (e.dn != 0) = true) :
    Calls Try.prog 47 #[.agg #[.int .i64 T, .int .i64 lm], .slice (some ⟨eb, eo, none⟩) n cap, .int .i64 0] w fun ee w' => ee = .returned (.int .i64 4) ∧ Below w.heap.size w w' := by
  have EI := Lib.hid ev_info
  have HR := Lib.hid hr
  clear hr
  go_enter Try.func47, Try.ntmps47
  go_wp2_with (first | (refine wpList_load_mid rfl 96 _ rfl eb eo rfl _ _ (HR.out _ (by (repeat' (first | assumption | exact Below.refl _ _ | refine Below.setCell ?_ (by first | (simp; done) | omega | (simp; omega)) _ | refine Below.alloc ?_ (by first | (simp; done) | omega | (simp; omega)) _ | refine Below.drew ?_ | refine below_drewN ?_ _)))) Try.underlying96 rfl EI.out ?_) | (refine wpList_store_new rfl 96 _ _ rfl _ #[.int .i64 (e).op, .bool (e).inn, .bool (e).real, .int .u64 (e).tm, .int .u64 (e).dn, .int .i64 (e).cls, .int .u64 (e).id, .int .i64 (e).ln, .int .u16 (e).a, .int .u16 (e).b, .int .u16 (e).c, .int .u16 (e).d] (Eq.trans (b := Value.pointer (some ⟨w.heap.size + 1, 0, none⟩)) rfl (by simp [go_sem])) rfl EI.out rfl (all_oneCell_toArray e.one) ?_) | go_guarded)
  go_ret; first | exact ⟨rfl, hb9⟩ | exact ⟨rfl, by (repeat' (first | assumption | exact Below.refl _ _ | refine Below.setCell ?_ (by first | (simp; done) | omega | (simp; omega)) _ | refine Below.alloc ?_ (by first | (simp; done) | omega | (simp; omega)) _ | refine Below.drew ?_ | refine below_drewN ?_ _))⟩
set_option maxHeartbeats 8000000 in
theorem wro_0_4b (T lm : Int) (e p : Ev) (eb eo n i j cap : Nat) (w : World) (heb : eb < w.heap.size) (hin : 0 < n) (hcap : n ≤ cap) (hcm : cap ≤ maxLen) (hr : ∀ z, Below w.heap.size w z → z.rangeAt eb eo e.cells) (f0 : decide (e.op < 0) = false) (f1 : decide (e.cls < 1) = false) (f2 : decide (e.tm < 0) = false) (f3 : decide (4611686018427387904 < e.tm) = false) (f4 : decide (e.ln < 1) = false) (f5 : decide (lm < e.ln) = false) (f6 : e.inn = true) (f7 : (e.dn != 0) = false) (f8 : e.real = true) :
    Calls Try.prog 47 #[.agg #[.int .i64 T, .int .i64 lm], .slice (some ⟨eb, eo, none⟩) n cap, .int .i64 0] w fun ee w' => ee = .returned (.int .i64 4) ∧ Below w.heap.size w w' := by
  have EI := Lib.hid ev_info
  have HR := Lib.hid hr
  clear hr
  go_enter Try.func47, Try.ntmps47
  go_wp2_with (first | (refine wpList_load_mid rfl 96 _ rfl eb eo rfl _ _ (HR.out _ (by (repeat' (first | assumption | exact Below.refl _ _ | refine Below.setCell ?_ (by first | (simp; done) | omega | (simp; omega)) _ | refine Below.alloc ?_ (by first | (simp; done) | omega | (simp; omega)) _ | refine Below.drew ?_ | refine below_drewN ?_ _)))) Try.underlying96 rfl EI.out ?_) | (refine wpList_store_new rfl 96 _ _ rfl _ #[.int .i64 (e).op, .bool (e).inn, .bool (e).real, .int .u64 (e).tm, .int .u64 (e).dn, .int .i64 (e).cls, .int .u64 (e).id, .int .i64 (e).ln, .int .u16 (e).a, .int .u16 (e).b, .int .u16 (e).c, .int .u16 (e).d] (Eq.trans (b := Value.pointer (some ⟨w.heap.size + 1, 0, none⟩)) rfl (by simp [go_sem])) rfl EI.out rfl (all_oneCell_toArray e.one) ?_) | go_guarded)
  go_ret; first | exact ⟨rfl, hb9⟩ | exact ⟨rfl, by (repeat' (first | assumption | exact Below.refl _ _ | refine Below.setCell ?_ (by first | (simp; done) | omega | (simp; omega)) _ | refine Below.alloc ?_ (by first | (simp; done) | omega | (simp; omega)) _ | refine Below.drew ?_ | refine below_drewN ?_ _))⟩
set_option maxHeartbeats 8000000 in
theorem wro_0_0i (T lm : Int) (e p : Ev) (eb eo n i j cap : Nat) (w : World) (heb : eb < w.heap.size) (hin : 0 < n) (hcap : n ≤ cap) (hcm : cap ≤ maxLen) (hr : ∀ z, Below w.heap.size w z → z.rangeAt eb eo e.cells) (f0 : decide (e.op < 0) = false) (f1 : decide (e.cls < 1) = false) (f2 : decide (e.tm < 0) = false) (f3 : decide (4611686018427387904 < e.tm) = false) (f4 : decide (e.ln < 1) = false) (f5 : decide (lm < e.ln) = false) (f6 : e.inn = true) (f7 : (e.dn != 0) = false) (f8 : e.real = false) :
    Calls Try.prog 47 #[.agg #[.int .i64 T, .int .i64 lm], .slice (some ⟨eb, eo, none⟩) n cap, .int .i64 0] w fun ee w' => ee = .returned (.int .i64 0) ∧ Below w.heap.size w w' := by
  have EI := Lib.hid ev_info
  have HR := Lib.hid hr
  clear hr
  go_enter Try.func47, Try.ntmps47
  go_wp2_with (first | (refine wpList_load_mid rfl 96 _ rfl eb eo rfl _ _ (HR.out _ (by (repeat' (first | assumption | exact Below.refl _ _ | refine Below.setCell ?_ (by first | (simp; done) | omega | (simp; omega)) _ | refine Below.alloc ?_ (by first | (simp; done) | omega | (simp; omega)) _ | refine Below.drew ?_ | refine below_drewN ?_ _)))) Try.underlying96 rfl EI.out ?_) | (refine wpList_store_new rfl 96 _ _ rfl _ #[.int .i64 (e).op, .bool (e).inn, .bool (e).real, .int .u64 (e).tm, .int .u64 (e).dn, .int .i64 (e).cls, .int .u64 (e).id, .int .i64 (e).ln, .int .u16 (e).a, .int .u16 (e).b, .int .u16 (e).c, .int .u16 (e).d] (Eq.trans (b := Value.pointer (some ⟨w.heap.size + 1, 0, none⟩)) rfl (by simp [go_sem])) rfl EI.out rfl (all_oneCell_toArray e.one) ?_) | go_guarded)
  go_ret; first | exact ⟨rfl, hb9⟩ | exact ⟨rfl, by (repeat' (first | assumption | exact Below.refl _ _ | refine Below.setCell ?_ (by first | (simp; done) | omega | (simp; omega)) _ | refine Below.alloc ?_ (by first | (simp; done) | omega | (simp; omega)) _ | refine Below.drew ?_ | refine below_drewN ?_ _))⟩
set_option maxHeartbeats 8000000 in
theorem wro_S_1a (T lm : Int) (e p : Ev) (eb eo n i j cap : Nat) (w : World) (heb : eb < w.heap.size) (hin : i < n) (hcap : n ≤ cap) (hcm : cap ≤ maxLen) (hij : j + 1 = i) (hp : ∀ z, Below w.heap.size w z → z.rangeAt eb (eo + j * 12) p.cells) (hr : ∀ z, Below w.heap.size w z → z.rangeAt eb (eo + i * 12) e.cells) (f0 : decide (e.op < p.op) = true) :
    Calls Try.prog 47 #[.agg #[.int .i64 T, .int .i64 lm], .slice (some ⟨eb, eo, none⟩) n cap, .int .i64 (i : Int)] w fun ee w' => ee = .returned (.int .i64 1) ∧ Below w.heap.size w w' := by
  have EI := Lib.hid ev_info
  have HR := Lib.hid hr
  have HP := Lib.hid hp
  have W1 : IntKind.i64.wrap ((i : Int) - 1) = (j : Int) := by rw [IntKind.wrap_i64]; have : n ≤ 9223372036854775807 := Nat.le_trans hcap (Nat.le_trans hcm (by decide)); omega
  have D0 : decide ((0 : Int) < (i : Int)) = true := decide_eq_true (by omega)
  have D0b : decide (0 < i) = true := decide_eq_true (by omega)
  have hjn : j < n := by omega
  have hic : i ≤ cap := by omega
  have hic2 : (i : Int) ≤ (cap : Int) := by omega
  clear hp hij
  clear hr
  go_enter Try.func47, Try.ntmps47
  go_wp2_with (first | (refine wpList_load_mid rfl 96 _ rfl eb (eo + i * 12) rfl _ _ (HR.out _ (by (repeat' (first | assumption | exact Below.refl _ _ | refine Below.setCell ?_ (by first | (simp; done) | omega | (simp; omega)) _ | refine Below.alloc ?_ (by first | (simp; done) | omega | (simp; omega)) _ | refine Below.drew ?_ | refine below_drewN ?_ _)))) Try.underlying96 rfl EI.out ?_) | (refine wpList_store_new rfl 96 _ _ rfl _ #[.int .i64 (e).op, .bool (e).inn, .bool (e).real, .int .u64 (e).tm, .int .u64 (e).dn, .int .i64 (e).cls, .int .u64 (e).id, .int .i64 (e).ln, .int .u16 (e).a, .int .u16 (e).b, .int .u16 (e).c, .int .u16 (e).d] (Eq.trans (b := Value.pointer (some ⟨w.heap.size + 1, 0, none⟩)) rfl (by simp [go_sem])) rfl EI.out rfl (all_oneCell_toArray e.one) ?_) | (refine wpList_load_mid rfl 96 _ rfl eb (eo + j * 12) rfl _ _ (HP.out _ (by (repeat' (first | assumption | exact Below.refl _ _ | refine Below.setCell ?_ (by first | (simp; done) | omega | (simp; omega)) _ | refine Below.alloc ?_ (by first | (simp; done) | omega | (simp; omega)) _ | refine Below.drew ?_ | refine below_drewN ?_ _)))) Try.underlying96 rfl EI.out ?_) | (refine wpList_store_new rfl 96 _ _ rfl _ #[.int .i64 (p).op, .bool (p).inn, .bool (p).real, .int .u64 (p).tm, .int .u64 (p).dn, .int .i64 (p).cls, .int .u64 (p).id, .int .i64 (p).ln, .int .u16 (p).a, .int .u16 (p).b, .int .u16 (p).c, .int .u16 (p).d] (Eq.trans (b := Value.pointer (some ⟨w.heap.size + 2, 0, none⟩)) rfl (by simp [go_sem])) rfl EI.out rfl (all_oneCell_toArray p.one) ?_) | go_guarded)
  go_ret; first | exact ⟨rfl, hb9⟩ | exact ⟨rfl, by (repeat' (first | assumption | exact Below.refl _ _ | refine Below.setCell ?_ (by first | (simp; done) | omega | (simp; omega)) _ | refine Below.alloc ?_ (by first | (simp; done) | omega | (simp; omega)) _ | refine Below.drew ?_ | refine below_drewN ?_ _))⟩
set_option maxHeartbeats 8000000 in
theorem wro_S_1b (T lm : Int) (e p : Ev) (eb eo n i j cap : Nat) (w : World) (heb : eb < w.heap.size) (hin : i < n) (hcap : n ≤ cap) (hcm : cap ≤ maxLen) (hij : j + 1 = i) (hp : ∀ z, Below w.heap.size w z → z.rangeAt eb (eo + j * 12) p.cells) (hr : ∀ z, Below w.heap.size w z → z.rangeAt eb (eo + i * 12) e.cells) (f0 : decide (e.op < p.op) = false) (f1 : decide (e.op < 0) = false) (f2 : decide (e.cls < 1) = true) :
    Calls Try.prog 47 #[.agg #[.int .i64 T, .int .i64 lm], .slice (some ⟨eb, eo, none⟩) n cap, .int .i64 (i : Int)] w fun ee w' => ee = .returned (.int .i64 1) ∧ Below w.heap.size w w' := by
  have EI := Lib.hid ev_info
  have HR := Lib.hid hr
  have HP := Lib.hid hp
  have W1 : IntKind.i64.wrap ((i : Int) - 1) = (j : Int) := by rw [IntKind.wrap_i64]; have : n ≤ 9223372036854775807 := Nat.le_trans hcap (Nat.le_trans hcm (by decide)); omega
  have D0 : decide ((0 : Int) < (i : Int)) = true := decide_eq_true (by omega)
  have D0b : decide (0 < i) = true := decide_eq_true (by omega)
  have hjn : j < n := by omega
  have hic : i ≤ cap := by omega
  have hic2 : (i : Int) ≤ (cap : Int) := by omega
  clear hp hij
  clear hr
  go_enter Try.func47, Try.ntmps47
  go_wp2_with (first | (refine wpList_load_mid rfl 96 _ rfl eb (eo + i * 12) rfl _ _ (HR.out _ (by (repeat' (first | assumption | exact Below.refl _ _ | refine Below.setCell ?_ (by first | (simp; done) | omega | (simp; omega)) _ | refine Below.alloc ?_ (by first | (simp; done) | omega | (simp; omega)) _ | refine Below.drew ?_ | refine below_drewN ?_ _)))) Try.underlying96 rfl EI.out ?_) | (refine wpList_store_new rfl 96 _ _ rfl _ #[.int .i64 (e).op, .bool (e).inn, .bool (e).real, .int .u64 (e).tm, .int .u64 (e).dn, .int .i64 (e).cls, .int .u64 (e).id, .int .i64 (e).ln, .int .u16 (e).a, .int .u16 (e).b, .int .u16 (e).c, .int .u16 (e).d] (Eq.trans (b := Value.pointer (some ⟨w.heap.size + 1, 0, none⟩)) rfl (by simp [go_sem])) rfl EI.out rfl (all_oneCell_toArray e.one) ?_) | (refine wpList_load_mid rfl 96 _ rfl eb (eo + j * 12) rfl _ _ (HP.out _ (by (repeat' (first | assumption | exact Below.refl _ _ | refine Below.setCell ?_ (by first | (simp; done) | omega | (simp; omega)) _ | refine Below.alloc ?_ (by first | (simp; done) | omega | (simp; omega)) _ | refine Below.drew ?_ | refine below_drewN ?_ _)))) Try.underlying96 rfl EI.out ?_) | (refine wpList_store_new rfl 96 _ _ rfl _ #[.int .i64 (p).op, .bool (p).inn, .bool (p).real, .int .u64 (p).tm, .int .u64 (p).dn, .int .i64 (p).cls, .int .u64 (p).id, .int .i64 (p).ln, .int .u16 (p).a, .int .u16 (p).b, .int .u16 (p).c, .int .u16 (p).d] (Eq.trans (b := Value.pointer (some ⟨w.heap.size + 2, 0, none⟩)) rfl (by simp [go_sem])) rfl EI.out rfl (all_oneCell_toArray p.one) ?_) | go_guarded)
  go_ret; first | exact ⟨rfl, hb9⟩ | exact ⟨rfl, by (repeat' (first | assumption | exact Below.refl _ _ | refine Below.setCell ?_ (by first | (simp; done) | omega | (simp; omega)) _ | refine Below.alloc ?_ (by first | (simp; done) | omega | (simp; omega)) _ | refine Below.drew ?_ | refine below_drewN ?_ _))⟩
set_option maxHeartbeats 8000000 in
theorem wro_S_2a (T lm : Int) (e p : Ev) (eb eo n i j cap : Nat) (w : World) (heb : eb < w.heap.size) (hin : i < n) (hcap : n ≤ cap) (hcm : cap ≤ maxLen) (hij : j + 1 = i) (hp : ∀ z, Below w.heap.size w z → z.rangeAt eb (eo + j * 12) p.cells) (hr : ∀ z, Below w.heap.size w z → z.rangeAt eb (eo + i * 12) e.cells) (f0 : decide (e.op < p.op) = false) (f1 : decide (e.op < 0) = false) (f2 : decide (e.cls < 1) = false) (f3 : decide (e.tm < p.tm) = true) :
    Calls Try.prog 47 #[.agg #[.int .i64 T, .int .i64 lm], .slice (some ⟨eb, eo, none⟩) n cap, .int .i64 (i : Int)] w fun ee w' => ee = .returned (.int .i64 27) ∧ Below w.heap.size w w' := by
  have EI := Lib.hid ev_info
  have HR := Lib.hid hr
  have HP := Lib.hid hp
  have W1 : IntKind.i64.wrap ((i : Int) - 1) = (j : Int) := by rw [IntKind.wrap_i64]; have : n ≤ 9223372036854775807 := Nat.le_trans hcap (Nat.le_trans hcm (by decide)); omega
  have D0 : decide ((0 : Int) < (i : Int)) = true := decide_eq_true (by omega)
  have D0b : decide (0 < i) = true := decide_eq_true (by omega)
  have hjn : j < n := by omega
  have hic : i ≤ cap := by omega
  have hic2 : (i : Int) ≤ (cap : Int) := by omega
  clear hp hij
  clear hr
  go_enter Try.func47, Try.ntmps47
  go_wp2_with (first | (refine wpList_load_mid rfl 96 _ rfl eb (eo + i * 12) rfl _ _ (HR.out _ (by (repeat' (first | assumption | exact Below.refl _ _ | refine Below.setCell ?_ (by first | (simp; done) | omega | (simp; omega)) _ | refine Below.alloc ?_ (by first | (simp; done) | omega | (simp; omega)) _ | refine Below.drew ?_ | refine below_drewN ?_ _)))) Try.underlying96 rfl EI.out ?_) | (refine wpList_store_new rfl 96 _ _ rfl _ #[.int .i64 (e).op, .bool (e).inn, .bool (e).real, .int .u64 (e).tm, .int .u64 (e).dn, .int .i64 (e).cls, .int .u64 (e).id, .int .i64 (e).ln, .int .u16 (e).a, .int .u16 (e).b, .int .u16 (e).c, .int .u16 (e).d] (Eq.trans (b := Value.pointer (some ⟨w.heap.size + 1, 0, none⟩)) rfl (by simp [go_sem])) rfl EI.out rfl (all_oneCell_toArray e.one) ?_) | (refine wpList_load_mid rfl 96 _ rfl eb (eo + j * 12) rfl _ _ (HP.out _ (by (repeat' (first | assumption | exact Below.refl _ _ | refine Below.setCell ?_ (by first | (simp; done) | omega | (simp; omega)) _ | refine Below.alloc ?_ (by first | (simp; done) | omega | (simp; omega)) _ | refine Below.drew ?_ | refine below_drewN ?_ _)))) Try.underlying96 rfl EI.out ?_) | (refine wpList_store_new rfl 96 _ _ rfl _ #[.int .i64 (p).op, .bool (p).inn, .bool (p).real, .int .u64 (p).tm, .int .u64 (p).dn, .int .i64 (p).cls, .int .u64 (p).id, .int .i64 (p).ln, .int .u16 (p).a, .int .u16 (p).b, .int .u16 (p).c, .int .u16 (p).d] (Eq.trans (b := Value.pointer (some ⟨w.heap.size + 2, 0, none⟩)) rfl (by simp [go_sem])) rfl EI.out rfl (all_oneCell_toArray p.one) ?_) | go_guarded)
  go_ret; first | exact ⟨rfl, hb9⟩ | exact ⟨rfl, by (repeat' (first | assumption | exact Below.refl _ _ | refine Below.setCell ?_ (by first | (simp; done) | omega | (simp; omega)) _ | refine Below.alloc ?_ (by first | (simp; done) | omega | (simp; omega)) _ | refine Below.drew ?_ | refine below_drewN ?_ _))⟩
set_option maxHeartbeats 8000000 in
theorem wro_S_2b (T lm : Int) (e p : Ev) (eb eo n i j cap : Nat) (w : World) (heb : eb < w.heap.size) (hin : i < n) (hcap : n ≤ cap) (hcm : cap ≤ maxLen) (hij : j + 1 = i) (hp : ∀ z, Below w.heap.size w z → z.rangeAt eb (eo + j * 12) p.cells) (hr : ∀ z, Below w.heap.size w z → z.rangeAt eb (eo + i * 12) e.cells) (f0 : decide (e.op < p.op) = false) (f1 : decide (e.op < 0) = false) (f2 : decide (e.cls < 1) = false) (f3 : decide (e.tm < p.tm) = false) (f4 : decide (4611686018427387904 < e.tm) = true) :
    Calls Try.prog 47 #[.agg #[.int .i64 T, .int .i64 lm], .slice (some ⟨eb, eo, none⟩) n cap, .int .i64 (i : Int)] w fun ee w' => ee = .returned (.int .i64 27) ∧ Below w.heap.size w w' := by
  have EI := Lib.hid ev_info
  have HR := Lib.hid hr
  have HP := Lib.hid hp
  have W1 : IntKind.i64.wrap ((i : Int) - 1) = (j : Int) := by rw [IntKind.wrap_i64]; have : n ≤ 9223372036854775807 := Nat.le_trans hcap (Nat.le_trans hcm (by decide)); omega
  have D0 : decide ((0 : Int) < (i : Int)) = true := decide_eq_true (by omega)
  have D0b : decide (0 < i) = true := decide_eq_true (by omega)
  have hjn : j < n := by omega
  have hic : i ≤ cap := by omega
  have hic2 : (i : Int) ≤ (cap : Int) := by omega
  clear hp hij
  clear hr
  go_enter Try.func47, Try.ntmps47
  go_wp2_with (first | (refine wpList_load_mid rfl 96 _ rfl eb (eo + i * 12) rfl _ _ (HR.out _ (by (repeat' (first | assumption | exact Below.refl _ _ | refine Below.setCell ?_ (by first | (simp; done) | omega | (simp; omega)) _ | refine Below.alloc ?_ (by first | (simp; done) | omega | (simp; omega)) _ | refine Below.drew ?_ | refine below_drewN ?_ _)))) Try.underlying96 rfl EI.out ?_) | (refine wpList_store_new rfl 96 _ _ rfl _ #[.int .i64 (e).op, .bool (e).inn, .bool (e).real, .int .u64 (e).tm, .int .u64 (e).dn, .int .i64 (e).cls, .int .u64 (e).id, .int .i64 (e).ln, .int .u16 (e).a, .int .u16 (e).b, .int .u16 (e).c, .int .u16 (e).d] (Eq.trans (b := Value.pointer (some ⟨w.heap.size + 1, 0, none⟩)) rfl (by simp [go_sem])) rfl EI.out rfl (all_oneCell_toArray e.one) ?_) | (refine wpList_load_mid rfl 96 _ rfl eb (eo + j * 12) rfl _ _ (HP.out _ (by (repeat' (first | assumption | exact Below.refl _ _ | refine Below.setCell ?_ (by first | (simp; done) | omega | (simp; omega)) _ | refine Below.alloc ?_ (by first | (simp; done) | omega | (simp; omega)) _ | refine Below.drew ?_ | refine below_drewN ?_ _)))) Try.underlying96 rfl EI.out ?_) | (refine wpList_store_new rfl 96 _ _ rfl _ #[.int .i64 (p).op, .bool (p).inn, .bool (p).real, .int .u64 (p).tm, .int .u64 (p).dn, .int .i64 (p).cls, .int .u64 (p).id, .int .i64 (p).ln, .int .u16 (p).a, .int .u16 (p).b, .int .u16 (p).c, .int .u16 (p).d] (Eq.trans (b := Value.pointer (some ⟨w.heap.size + 2, 0, none⟩)) rfl (by simp [go_sem])) rfl EI.out rfl (all_oneCell_toArray p.one) ?_) | go_guarded)
  go_ret; first | exact ⟨rfl, hb9⟩ | exact ⟨rfl, by (repeat' (first | assumption | exact Below.refl _ _ | refine Below.setCell ?_ (by first | (simp; done) | omega | (simp; omega)) _ | refine Below.alloc ?_ (by first | (simp; done) | omega | (simp; omega)) _ | refine Below.drew ?_ | refine below_drewN ?_ _))⟩
set_option maxHeartbeats 8000000 in
theorem wro_S_3a (T lm : Int) (e p : Ev) (eb eo n i j cap : Nat) (w : World) (heb : eb < w.heap.size) (hin : i < n) (hcap : n ≤ cap) (hcm : cap ≤ maxLen) (hij : j + 1 = i) (hp : ∀ z, Below w.heap.size w z → z.rangeAt eb (eo + j * 12) p.cells) (hr : ∀ z, Below w.heap.size w z → z.rangeAt eb (eo + i * 12) e.cells) (f0 : decide (e.op < p.op) = false) (f1 : decide (e.op < 0) = false) (f2 : decide (e.cls < 1) = false) (f3 : decide (e.tm < p.tm) = false) (f4 : decide (4611686018427387904 < e.tm) = false) (f5 : decide (e.ln < 1) = true) :
    Calls Try.prog 47 #[.agg #[.int .i64 T, .int .i64 lm], .slice (some ⟨eb, eo, none⟩) n cap, .int .i64 (i : Int)] w fun ee w' => ee = .returned (.int .i64 26) ∧ Below w.heap.size w w' := by
  have EI := Lib.hid ev_info
  have HR := Lib.hid hr
  have HP := Lib.hid hp
  have W1 : IntKind.i64.wrap ((i : Int) - 1) = (j : Int) := by rw [IntKind.wrap_i64]; have : n ≤ 9223372036854775807 := Nat.le_trans hcap (Nat.le_trans hcm (by decide)); omega
  have D0 : decide ((0 : Int) < (i : Int)) = true := decide_eq_true (by omega)
  have D0b : decide (0 < i) = true := decide_eq_true (by omega)
  have hjn : j < n := by omega
  have hic : i ≤ cap := by omega
  have hic2 : (i : Int) ≤ (cap : Int) := by omega
  clear hp hij
  clear hr
  go_enter Try.func47, Try.ntmps47
  go_wp2_with (first | (refine wpList_load_mid rfl 96 _ rfl eb (eo + i * 12) rfl _ _ (HR.out _ (by (repeat' (first | assumption | exact Below.refl _ _ | refine Below.setCell ?_ (by first | (simp; done) | omega | (simp; omega)) _ | refine Below.alloc ?_ (by first | (simp; done) | omega | (simp; omega)) _ | refine Below.drew ?_ | refine below_drewN ?_ _)))) Try.underlying96 rfl EI.out ?_) | (refine wpList_store_new rfl 96 _ _ rfl _ #[.int .i64 (e).op, .bool (e).inn, .bool (e).real, .int .u64 (e).tm, .int .u64 (e).dn, .int .i64 (e).cls, .int .u64 (e).id, .int .i64 (e).ln, .int .u16 (e).a, .int .u16 (e).b, .int .u16 (e).c, .int .u16 (e).d] (Eq.trans (b := Value.pointer (some ⟨w.heap.size + 1, 0, none⟩)) rfl (by simp [go_sem])) rfl EI.out rfl (all_oneCell_toArray e.one) ?_) | (refine wpList_load_mid rfl 96 _ rfl eb (eo + j * 12) rfl _ _ (HP.out _ (by (repeat' (first | assumption | exact Below.refl _ _ | refine Below.setCell ?_ (by first | (simp; done) | omega | (simp; omega)) _ | refine Below.alloc ?_ (by first | (simp; done) | omega | (simp; omega)) _ | refine Below.drew ?_ | refine below_drewN ?_ _)))) Try.underlying96 rfl EI.out ?_) | (refine wpList_store_new rfl 96 _ _ rfl _ #[.int .i64 (p).op, .bool (p).inn, .bool (p).real, .int .u64 (p).tm, .int .u64 (p).dn, .int .i64 (p).cls, .int .u64 (p).id, .int .i64 (p).ln, .int .u16 (p).a, .int .u16 (p).b, .int .u16 (p).c, .int .u16 (p).d] (Eq.trans (b := Value.pointer (some ⟨w.heap.size + 2, 0, none⟩)) rfl (by simp [go_sem])) rfl EI.out rfl (all_oneCell_toArray p.one) ?_) | go_guarded)
  go_ret; first | exact ⟨rfl, hb9⟩ | exact ⟨rfl, by (repeat' (first | assumption | exact Below.refl _ _ | refine Below.setCell ?_ (by first | (simp; done) | omega | (simp; omega)) _ | refine Below.alloc ?_ (by first | (simp; done) | omega | (simp; omega)) _ | refine Below.drew ?_ | refine below_drewN ?_ _))⟩
set_option maxHeartbeats 8000000 in
theorem wro_S_3b (T lm : Int) (e p : Ev) (eb eo n i j cap : Nat) (w : World) (heb : eb < w.heap.size) (hin : i < n) (hcap : n ≤ cap) (hcm : cap ≤ maxLen) (hij : j + 1 = i) (hp : ∀ z, Below w.heap.size w z → z.rangeAt eb (eo + j * 12) p.cells) (hr : ∀ z, Below w.heap.size w z → z.rangeAt eb (eo + i * 12) e.cells) (f0 : decide (e.op < p.op) = false) (f1 : decide (e.op < 0) = false) (f2 : decide (e.cls < 1) = false) (f3 : decide (e.tm < p.tm) = false) (f4 : decide (4611686018427387904 < e.tm) = false) (f5 : decide (e.ln < 1) = false) (f6 : decide (lm < e.ln) = true) :
    Calls Try.prog 47 #[.agg #[.int .i64 T, .int .i64 lm], .slice (some ⟨eb, eo, none⟩) n cap, .int .i64 (i : Int)] w fun ee w' => ee = .returned (.int .i64 26) ∧ Below w.heap.size w w' := by
  have EI := Lib.hid ev_info
  have HR := Lib.hid hr
  have HP := Lib.hid hp
  have W1 : IntKind.i64.wrap ((i : Int) - 1) = (j : Int) := by rw [IntKind.wrap_i64]; have : n ≤ 9223372036854775807 := Nat.le_trans hcap (Nat.le_trans hcm (by decide)); omega
  have D0 : decide ((0 : Int) < (i : Int)) = true := decide_eq_true (by omega)
  have D0b : decide (0 < i) = true := decide_eq_true (by omega)
  have hjn : j < n := by omega
  have hic : i ≤ cap := by omega
  have hic2 : (i : Int) ≤ (cap : Int) := by omega
  clear hp hij
  clear hr
  go_enter Try.func47, Try.ntmps47
  go_wp2_with (first | (refine wpList_load_mid rfl 96 _ rfl eb (eo + i * 12) rfl _ _ (HR.out _ (by (repeat' (first | assumption | exact Below.refl _ _ | refine Below.setCell ?_ (by first | (simp; done) | omega | (simp; omega)) _ | refine Below.alloc ?_ (by first | (simp; done) | omega | (simp; omega)) _ | refine Below.drew ?_ | refine below_drewN ?_ _)))) Try.underlying96 rfl EI.out ?_) | (refine wpList_store_new rfl 96 _ _ rfl _ #[.int .i64 (e).op, .bool (e).inn, .bool (e).real, .int .u64 (e).tm, .int .u64 (e).dn, .int .i64 (e).cls, .int .u64 (e).id, .int .i64 (e).ln, .int .u16 (e).a, .int .u16 (e).b, .int .u16 (e).c, .int .u16 (e).d] (Eq.trans (b := Value.pointer (some ⟨w.heap.size + 1, 0, none⟩)) rfl (by simp [go_sem])) rfl EI.out rfl (all_oneCell_toArray e.one) ?_) | (refine wpList_load_mid rfl 96 _ rfl eb (eo + j * 12) rfl _ _ (HP.out _ (by (repeat' (first | assumption | exact Below.refl _ _ | refine Below.setCell ?_ (by first | (simp; done) | omega | (simp; omega)) _ | refine Below.alloc ?_ (by first | (simp; done) | omega | (simp; omega)) _ | refine Below.drew ?_ | refine below_drewN ?_ _)))) Try.underlying96 rfl EI.out ?_) | (refine wpList_store_new rfl 96 _ _ rfl _ #[.int .i64 (p).op, .bool (p).inn, .bool (p).real, .int .u64 (p).tm, .int .u64 (p).dn, .int .i64 (p).cls, .int .u64 (p).id, .int .i64 (p).ln, .int .u16 (p).a, .int .u16 (p).b, .int .u16 (p).c, .int .u16 (p).d] (Eq.trans (b := Value.pointer (some ⟨w.heap.size + 2, 0, none⟩)) rfl (by simp [go_sem])) rfl EI.out rfl (all_oneCell_toArray p.one) ?_) | go_guarded)
  go_ret; first | exact ⟨rfl, hb9⟩ | exact ⟨rfl, by (repeat' (first | assumption | exact Below.refl _ _ | refine Below.setCell ?_ (by first | (simp; done) | omega | (simp; omega)) _ | refine Below.alloc ?_ (by first | (simp; done) | omega | (simp; omega)) _ | refine Below.drew ?_ | refine below_drewN ?_ _))⟩
set_option maxHeartbeats 8000000 in
theorem wro_S_4a (T lm : Int) (e p : Ev) (eb eo n i j cap : Nat) (w : World) (heb : eb < w.heap.size) (hin : i < n) (hcap : n ≤ cap) (hcm : cap ≤ maxLen) (hij : j + 1 = i) (hp : ∀ z, Below w.heap.size w z → z.rangeAt eb (eo + j * 12) p.cells) (hr : ∀ z, Below w.heap.size w z → z.rangeAt eb (eo + i * 12) e.cells) (f0 : decide (e.op < p.op) = false) (f1 : decide (e.op < 0) = false) (f2 : decide (e.cls < 1) = false) (f3 : decide (e.tm < p.tm) = false) (f4 : decide (4611686018427387904 < e.tm) = false) (f5 : decide (e.ln < 1) = false) (f6 : decide (lm < e.ln) = false) (f7 : e.inn = true) (f8 : (e.dn != 0) = true) :
    Calls Try.prog 47 #[.agg #[.int .i64 T, .int .i64 lm], .slice (some ⟨eb, eo, none⟩) n cap, .int .i64 (i : Int)] w fun ee w' => ee = .returned (.int .i64 4) ∧ Below w.heap.size w w' := by
  have EI := Lib.hid ev_info
  have HR := Lib.hid hr
  have HP := Lib.hid hp
  have W1 : IntKind.i64.wrap ((i : Int) - 1) = (j : Int) := by rw [IntKind.wrap_i64]; have : n ≤ 9223372036854775807 := Nat.le_trans hcap (Nat.le_trans hcm (by decide)); omega
  have D0 : decide ((0 : Int) < (i : Int)) = true := decide_eq_true (by omega)
  have D0b : decide (0 < i) = true := decide_eq_true (by omega)
  have hjn : j < n := by omega
  have hic : i ≤ cap := by omega
  have hic2 : (i : Int) ≤ (cap : Int) := by omega
  clear hp hij
  clear hr
  go_enter Try.func47, Try.ntmps47
  go_wp2_with (first | (refine wpList_load_mid rfl 96 _ rfl eb (eo + i * 12) rfl _ _ (HR.out _ (by (repeat' (first | assumption | exact Below.refl _ _ | refine Below.setCell ?_ (by first | (simp; done) | omega | (simp; omega)) _ | refine Below.alloc ?_ (by first | (simp; done) | omega | (simp; omega)) _ | refine Below.drew ?_ | refine below_drewN ?_ _)))) Try.underlying96 rfl EI.out ?_) | (refine wpList_store_new rfl 96 _ _ rfl _ #[.int .i64 (e).op, .bool (e).inn, .bool (e).real, .int .u64 (e).tm, .int .u64 (e).dn, .int .i64 (e).cls, .int .u64 (e).id, .int .i64 (e).ln, .int .u16 (e).a, .int .u16 (e).b, .int .u16 (e).c, .int .u16 (e).d] (Eq.trans (b := Value.pointer (some ⟨w.heap.size + 1, 0, none⟩)) rfl (by simp [go_sem])) rfl EI.out rfl (all_oneCell_toArray e.one) ?_) | (refine wpList_load_mid rfl 96 _ rfl eb (eo + j * 12) rfl _ _ (HP.out _ (by (repeat' (first | assumption | exact Below.refl _ _ | refine Below.setCell ?_ (by first | (simp; done) | omega | (simp; omega)) _ | refine Below.alloc ?_ (by first | (simp; done) | omega | (simp; omega)) _ | refine Below.drew ?_ | refine below_drewN ?_ _)))) Try.underlying96 rfl EI.out ?_) | (refine wpList_store_new rfl 96 _ _ rfl _ #[.int .i64 (p).op, .bool (p).inn, .bool (p).real, .int .u64 (p).tm, .int .u64 (p).dn, .int .i64 (p).cls, .int .u64 (p).id, .int .i64 (p).ln, .int .u16 (p).a, .int .u16 (p).b, .int .u16 (p).c, .int .u16 (p).d] (Eq.trans (b := Value.pointer (some ⟨w.heap.size + 2, 0, none⟩)) rfl (by simp [go_sem])) rfl EI.out rfl (all_oneCell_toArray p.one) ?_) | go_guarded)
  go_ret; first | exact ⟨rfl, hb9⟩ | exact ⟨rfl, by (repeat' (first | assumption | exact Below.refl _ _ | refine Below.setCell ?_ (by first | (simp; done) | omega | (simp; omega)) _ | refine Below.alloc ?_ (by first | (simp; done) | omega | (simp; omega)) _ | refine Below.drew ?_ | refine below_drewN ?_ _))⟩
set_option maxHeartbeats 8000000 in
theorem wro_S_4b (T lm : Int) (e p : Ev) (eb eo n i j cap : Nat) (w : World) (heb : eb < w.heap.size) (hin : i < n) (hcap : n ≤ cap) (hcm : cap ≤ maxLen) (hij : j + 1 = i) (hp : ∀ z, Below w.heap.size w z → z.rangeAt eb (eo + j * 12) p.cells) (hr : ∀ z, Below w.heap.size w z → z.rangeAt eb (eo + i * 12) e.cells) (f0 : decide (e.op < p.op) = false) (f1 : decide (e.op < 0) = false) (f2 : decide (e.cls < 1) = false) (f3 : decide (e.tm < p.tm) = false) (f4 : decide (4611686018427387904 < e.tm) = false) (f5 : decide (e.ln < 1) = false) (f6 : decide (lm < e.ln) = false) (f7 : e.inn = true) (f8 : (e.dn != 0) = false) (f9 : e.real = true) :
    Calls Try.prog 47 #[.agg #[.int .i64 T, .int .i64 lm], .slice (some ⟨eb, eo, none⟩) n cap, .int .i64 (i : Int)] w fun ee w' => ee = .returned (.int .i64 4) ∧ Below w.heap.size w w' := by
  have EI := Lib.hid ev_info
  have HR := Lib.hid hr
  have HP := Lib.hid hp
  have W1 : IntKind.i64.wrap ((i : Int) - 1) = (j : Int) := by rw [IntKind.wrap_i64]; have : n ≤ 9223372036854775807 := Nat.le_trans hcap (Nat.le_trans hcm (by decide)); omega
  have D0 : decide ((0 : Int) < (i : Int)) = true := decide_eq_true (by omega)
  have D0b : decide (0 < i) = true := decide_eq_true (by omega)
  have hjn : j < n := by omega
  have hic : i ≤ cap := by omega
  have hic2 : (i : Int) ≤ (cap : Int) := by omega
  clear hp hij
  clear hr
  go_enter Try.func47, Try.ntmps47
  go_wp2_with (first | (refine wpList_load_mid rfl 96 _ rfl eb (eo + i * 12) rfl _ _ (HR.out _ (by (repeat' (first | assumption | exact Below.refl _ _ | refine Below.setCell ?_ (by first | (simp; done) | omega | (simp; omega)) _ | refine Below.alloc ?_ (by first | (simp; done) | omega | (simp; omega)) _ | refine Below.drew ?_ | refine below_drewN ?_ _)))) Try.underlying96 rfl EI.out ?_) | (refine wpList_store_new rfl 96 _ _ rfl _ #[.int .i64 (e).op, .bool (e).inn, .bool (e).real, .int .u64 (e).tm, .int .u64 (e).dn, .int .i64 (e).cls, .int .u64 (e).id, .int .i64 (e).ln, .int .u16 (e).a, .int .u16 (e).b, .int .u16 (e).c, .int .u16 (e).d] (Eq.trans (b := Value.pointer (some ⟨w.heap.size + 1, 0, none⟩)) rfl (by simp [go_sem])) rfl EI.out rfl (all_oneCell_toArray e.one) ?_) | (refine wpList_load_mid rfl 96 _ rfl eb (eo + j * 12) rfl _ _ (HP.out _ (by (repeat' (first | assumption | exact Below.refl _ _ | refine Below.setCell ?_ (by first | (simp; done) | omega | (simp; omega)) _ | refine Below.alloc ?_ (by first | (simp; done) | omega | (simp; omega)) _ | refine Below.drew ?_ | refine below_drewN ?_ _)))) Try.underlying96 rfl EI.out ?_) | (refine wpList_store_new rfl 96 _ _ rfl _ #[.int .i64 (p).op, .bool (p).inn, .bool (p).real, .int .u64 (p).tm, .int .u64 (p).dn, .int .i64 (p).cls, .int .u64 (p).id, .int .i64 (p).ln, .int .u16 (p).a, .int .u16 (p).b, .int .u16 (p).c, .int .u16 (p).d] (Eq.trans (b := Value.pointer (some ⟨w.heap.size + 2, 0, none⟩)) rfl (by simp [go_sem])) rfl EI.out rfl (all_oneCell_toArray p.one) ?_) | go_guarded)
  go_ret; first | exact ⟨rfl, hb9⟩ | exact ⟨rfl, by (repeat' (first | assumption | exact Below.refl _ _ | refine Below.setCell ?_ (by first | (simp; done) | omega | (simp; omega)) _ | refine Below.alloc ?_ (by first | (simp; done) | omega | (simp; omega)) _ | refine Below.drew ?_ | refine below_drewN ?_ _))⟩
set_option maxHeartbeats 8000000 in
theorem wro_S_0i (T lm : Int) (e p : Ev) (eb eo n i j cap : Nat) (w : World) (heb : eb < w.heap.size) (hin : i < n) (hcap : n ≤ cap) (hcm : cap ≤ maxLen) (hij : j + 1 = i) (hp : ∀ z, Below w.heap.size w z → z.rangeAt eb (eo + j * 12) p.cells) (hr : ∀ z, Below w.heap.size w z → z.rangeAt eb (eo + i * 12) e.cells) (f0 : decide (e.op < p.op) = false) (f1 : decide (e.op < 0) = false) (f2 : decide (e.cls < 1) = false) (f3 : decide (e.tm < p.tm) = false) (f4 : decide (4611686018427387904 < e.tm) = false) (f5 : decide (e.ln < 1) = false) (f6 : decide (lm < e.ln) = false) (f7 : e.inn = true) (f8 : (e.dn != 0) = false) (f9 : e.real = false) :
    Calls Try.prog 47 #[.agg #[.int .i64 T, .int .i64 lm], .slice (some ⟨eb, eo, none⟩) n cap, .int .i64 (i : Int)] w fun ee w' => ee = .returned (.int .i64 0) ∧ Below w.heap.size w w' := by
  have EI := Lib.hid ev_info
  have HR := Lib.hid hr
  have HP := Lib.hid hp
  have W1 : IntKind.i64.wrap ((i : Int) - 1) = (j : Int) := by rw [IntKind.wrap_i64]; have : n ≤ 9223372036854775807 := Nat.le_trans hcap (Nat.le_trans hcm (by decide)); omega
  have D0 : decide ((0 : Int) < (i : Int)) = true := decide_eq_true (by omega)
  have D0b : decide (0 < i) = true := decide_eq_true (by omega)
  have hjn : j < n := by omega
  have hic : i ≤ cap := by omega
  have hic2 : (i : Int) ≤ (cap : Int) := by omega
  clear hp hij
  clear hr
  go_enter Try.func47, Try.ntmps47
  go_wp2_with (first | (refine wpList_load_mid rfl 96 _ rfl eb (eo + i * 12) rfl _ _ (HR.out _ (by (repeat' (first | assumption | exact Below.refl _ _ | refine Below.setCell ?_ (by first | (simp; done) | omega | (simp; omega)) _ | refine Below.alloc ?_ (by first | (simp; done) | omega | (simp; omega)) _ | refine Below.drew ?_ | refine below_drewN ?_ _)))) Try.underlying96 rfl EI.out ?_) | (refine wpList_store_new rfl 96 _ _ rfl _ #[.int .i64 (e).op, .bool (e).inn, .bool (e).real, .int .u64 (e).tm, .int .u64 (e).dn, .int .i64 (e).cls, .int .u64 (e).id, .int .i64 (e).ln, .int .u16 (e).a, .int .u16 (e).b, .int .u16 (e).c, .int .u16 (e).d] (Eq.trans (b := Value.pointer (some ⟨w.heap.size + 1, 0, none⟩)) rfl (by simp [go_sem])) rfl EI.out rfl (all_oneCell_toArray e.one) ?_) | (refine wpList_load_mid rfl 96 _ rfl eb (eo + j * 12) rfl _ _ (HP.out _ (by (repeat' (first | assumption | exact Below.refl _ _ | refine Below.setCell ?_ (by first | (simp; done) | omega | (simp; omega)) _ | refine Below.alloc ?_ (by first | (simp; done) | omega | (simp; omega)) _ | refine Below.drew ?_ | refine below_drewN ?_ _)))) Try.underlying96 rfl EI.out ?_) | (refine wpList_store_new rfl 96 _ _ rfl _ #[.int .i64 (p).op, .bool (p).inn, .bool (p).real, .int .u64 (p).tm, .int .u64 (p).dn, .int .i64 (p).cls, .int .u64 (p).id, .int .i64 (p).ln, .int .u16 (p).a, .int .u16 (p).b, .int .u16 (p).c, .int .u16 (p).d] (Eq.trans (b := Value.pointer (some ⟨w.heap.size + 2, 0, none⟩)) rfl (by simp [go_sem])) rfl EI.out rfl (all_oneCell_toArray p.one) ?_) | go_guarded)
  go_ret; first | exact ⟨rfl, hb9⟩ | exact ⟨rfl, by (repeat' (first | assumption | exact Below.refl _ _ | refine Below.setCell ?_ (by first | (simp; done) | omega | (simp; omega)) _ | refine Below.alloc ?_ (by first | (simp; done) | omega | (simp; omega)) _ | refine Below.drew ?_ | refine below_drewN ?_ _))⟩
end Go.Proofs.Ytlenmhbhakeonaa
