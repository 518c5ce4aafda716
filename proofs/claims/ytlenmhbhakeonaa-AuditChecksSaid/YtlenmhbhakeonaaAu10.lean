/- What the reference's Wrong calls. -/
import Derived.Test.YtlenmhbhakeonaaAu9
namespace Go.Proofs.Ytlenmhbhakeonaa
set_option linter.unusedVariables false
set_option linter.unusedSimpArgs false
set_option maxRecDepth 100000
open Go.RowKit Fg Reg
attribute [local irreducible] Reg.wE QR

set_option maxHeartbeats 8000000 in
theorem rdone_c (T lm : Int) (l : List Ev) (n : Nat) (hln : l.length = n) (hn : n ≤ 500) (ad : Option Addr) (cap : Nat) (w : World) (hE : EvsV w ad l) :
    Calls Try.prog 83 #[.slice ad n cap] w fun ee w' => ee = .returned (.int .u64 (stOf T lm l).dn) ∧ Below w.heap.size w w' := by
  have EI := Lib.hid ev_info
  have HE := Lib.hid hE
  have HLN := Lib.hid hln
  obtain ⟨R, hR⟩ : ∃ R, (stOf T lm l).dn = R := ⟨_, rfl⟩
  rw [hR]
  have HR := Lib.hid hR
  clear hE hln hR
  go_enter Try.func83, Try.ntmps83
  go_wp2
  go_loopg [8, 3] n (fun k9 s8 s3 wr => ∃ (i : Nat) (D : Int), s8 = .int .i64 i ∧ s3 = .int .u64 D ∧ D = (stOf T lm (l.take i)).dn ∧ i ≤ n ∧ n - i ≤ k9 ∧ Below w.heap.size w wr)
  case atStart => exact ⟨0, 0, rfl, rfl, rfl, by omega, by omega, by (repeat' (first | assumption | exact Below.refl _ _ | refine Below.setCell ?_ (by first | (simp; done) | omega | (simp; omega)) _ | refine Below.alloc ?_ (by first | (simp; done) | omega | (simp; omega)) _ | refine Below.drew ?_ | refine below_drewN ?_ _))⟩
  case round =>
    obtain ⟨i, D, rfl, rfl, hD, hi, hk, hbl⟩ := hrel
    have HBL := Lib.hid hbl
    by_cases hin : i < n
    · have hil : i < l.length := by rw [HLN.out]; exact hin
      obtain ⟨eb, eo, had, heb, hr⟩ := (HE.out.below hbl) i hil
      subst had
      have W4 : IntKind.i64.wrap ((i : Int) + 1) = ((i + 1 : Nat) : Int) := by rw [IntKind.wrap_i64]; omega
      have e9 : l[i] = evn l i := by unfold evn; rw [List.getD_eq_getElem?_getD, List.getElem?_eq_getElem hil]; rfl
      rw [e9] at hr
      have hst := st_next T lm hil
      obtain ⟨e, he⟩ : ∃ e, evn l i = e := ⟨_, rfl⟩
      rw [he] at hr hst
      have hdn : (stOf T lm (l.take (i + 1))).dn = if e.inn = true then D else e.dn := by rw [hst, hD]; rfl
      clear e9 he
      cases hinn : e.inn with
      | true =>
        rw [hinn, if_pos rfl] at hdn
        have HDN := Lib.hid hdn
        clear hdn hst hD
        go_wp2_with (first | go_guarded | (refine wpList_load_mid rfl 96 _ rfl eb (eo + i * 12) rfl _ _ hr Try.underlying96 rfl EI.out ?_) | (refine wpList_store_new rfl 96 _ _ rfl _ #[.int .i64 (e).op, .bool (e).inn, .bool (e).real, .int .u64 (e).tm, .int .u64 (e).dn, .int .i64 (e).cls, .int .u64 (e).id, .int .i64 (e).ln, .int .u16 (e).a, .int .u16 (e).b, .int .u16 (e).c, .int .u16 (e).d] rfl rfl EI.out rfl (all_oneCell_toArray e.one) ?_))
        go_roundg (n - (i + 1))
        case rel =>
          refine ⟨i + 1, _, by first | rfl | go_num | (congr 1; omega), rfl, HDN.out.symm, by omega, Nat.le_refl _, ?_⟩
          have hb := HBL.out
          have hs := hb.size
          (repeat' (first | assumption | exact Below.refl _ _ | refine Below.setCell ?_ (by first | (simp; done) | omega | (simp; omega)) _ | refine Below.alloc ?_ (by first | (simp; done) | omega | (simp; omega)) _ | refine Below.drew ?_ | refine below_drewN ?_ _))
        case measure => omega
      | false =>
        rw [hinn, if_neg (by simp)] at hdn
        have HDN := Lib.hid hdn
        clear hdn hst hD
        go_wp2_with (first | go_guarded | (refine wpList_load_mid rfl 96 _ rfl eb (eo + i * 12) rfl _ _ hr Try.underlying96 rfl EI.out ?_) | (refine wpList_store_new rfl 96 _ _ rfl _ #[.int .i64 (e).op, .bool (e).inn, .bool (e).real, .int .u64 (e).tm, .int .u64 (e).dn, .int .i64 (e).cls, .int .u64 (e).id, .int .i64 (e).ln, .int .u16 (e).a, .int .u16 (e).b, .int .u16 (e).c, .int .u16 (e).d] rfl rfl EI.out rfl (all_oneCell_toArray e.one) ?_))
        go_roundg (n - (i + 1))
        case rel =>
          refine ⟨i + 1, _, by first | rfl | go_num | (congr 1; omega), rfl, HDN.out.symm, by omega, Nat.le_refl _, ?_⟩
          have hb := HBL.out
          have hs := hb.size
          (repeat' (first | assumption | exact Below.refl _ _ | refine Below.setCell ?_ (by first | (simp; done) | omega | (simp; omega)) _ | refine Below.alloc ?_ (by first | (simp; done) | omega | (simp; omega)) _ | refine Below.drew ?_ | refine below_drewN ?_ _))
        case measure => omega
    · have hie : i = n := by omega
      subst hie
      rw [List.take_of_length_le (by rw [HLN.out]; exact Nat.le_refl _), HR.out] at hD
      subst hD
      clear hin
      go_wp2
      go_ret
      exact ⟨rfl, hbl⟩
theorem rticks_c (T n : Int) (h1 : 1 ≤ T) (h2 : T ≤ 65536) (hl1 : 1 ≤ n) (hl2 : n ≤ 16384) (w : World) : Calls Try.prog 84 #[.int .i64 T, .int .i64 n] w fun ee w' => ee = .returned (.int .u64 (n * T)) ∧ Below w.heap.size w w' := by
  have hb1 : 0 ≤ n * T := Int.mul_nonneg (by omega) (by omega)
  have hb2 : n * T ≤ 16384 * 65536 := Int.mul_le_mul hl2 h2 (by omega) (by omega)
  have w1 : IntKind.u64.wrap n = n := by rw [IntKind.wrap_u64]; omega
  have w2 : IntKind.u64.wrap T = T := by rw [IntKind.wrap_u64]; omega
  have w3 : IntKind.u64.wrap (T * n) = n * T := by rw [IntKind.wrap_u64, Int.mul_comm T n]; omega
  clear h1 h2 hl1 hl2 hb1 hb2
  go_enter Try.func84, Try.ntmps84
  go_wp2
  go_ret
  exact ⟨rfl, by (repeat' (first | assumption | exact Below.refl _ _ | refine Below.setCell ?_ (by first | (simp; done) | omega | (simp; omega)) _ | refine Below.alloc ?_ (by first | (simp; done) | omega | (simp; omega)) _ | refine Below.drew ?_ | refine below_drewN ?_ _))⟩
theorem rmay_c (T lm : Int) (w : World) : Calls Try.prog 46 #[.agg #[.int .i64 T, .int .i64 lm]] w fun ee w' => ee = .returned (.bool (decide (1 ≤ T ∧ T ≤ 65536 ∧ 1 ≤ lm ∧ lm ≤ 16384))) ∧ Below w.heap.size w w' := by
  by_cases g1 : 1 ≤ T
  · have D1 : decide (1 ≤ T) = true := decide_eq_true g1
    by_cases g2 : T ≤ 65536
    · have D2 : decide (T ≤ 65536) = true := decide_eq_true g2
      by_cases g3 : 1 ≤ lm
      · have D3 : decide (1 ≤ lm) = true := decide_eq_true g3
        by_cases g4 : lm ≤ 16384
        · have D4 : decide (lm ≤ 16384) = true := decide_eq_true g4
          have Z : decide (1 ≤ T ∧ T ≤ 65536 ∧ 1 ≤ lm ∧ lm ≤ 16384) = true := decide_eq_true ⟨g1, g2, g3, g4⟩
          rw [Z]
          clear Z; go_enter Try.func46, Try.ntmps46; go_wp2; go_ret; exact ⟨rfl, by (repeat' (first | assumption | exact Below.refl _ _ | refine Below.setCell ?_ (by first | (simp; done) | omega | (simp; omega)) _ | refine Below.alloc ?_ (by first | (simp; done) | omega | (simp; omega)) _ | refine Below.drew ?_ | refine below_drewN ?_ _))⟩
        · have D4 : decide (lm ≤ 16384) = false := decide_eq_false g4
          have Z : decide (1 ≤ T ∧ T ≤ 65536 ∧ 1 ≤ lm ∧ lm ≤ 16384) = false := decide_eq_false fun h => g4 h.2.2.2
          rw [Z]
          clear Z; go_enter Try.func46, Try.ntmps46; go_wp2; go_ret; exact ⟨rfl, by (repeat' (first | assumption | exact Below.refl _ _ | refine Below.setCell ?_ (by first | (simp; done) | omega | (simp; omega)) _ | refine Below.alloc ?_ (by first | (simp; done) | omega | (simp; omega)) _ | refine Below.drew ?_ | refine below_drewN ?_ _))⟩
      · have D3 : decide (1 ≤ lm) = false := decide_eq_false g3
        have Z : decide (1 ≤ T ∧ T ≤ 65536 ∧ 1 ≤ lm ∧ lm ≤ 16384) = false := decide_eq_false fun h => g3 h.2.2.1
        rw [Z]
        clear Z; go_enter Try.func46, Try.ntmps46; go_wp2; go_ret; exact ⟨rfl, by (repeat' (first | assumption | exact Below.refl _ _ | refine Below.setCell ?_ (by first | (simp; done) | omega | (simp; omega)) _ | refine Below.alloc ?_ (by first | (simp; done) | omega | (simp; omega)) _ | refine Below.drew ?_ | refine below_drewN ?_ _))⟩
    · have D2 : decide (T ≤ 65536) = false := decide_eq_false g2
      have Z : decide (1 ≤ T ∧ T ≤ 65536 ∧ 1 ≤ lm ∧ lm ≤ 16384) = false := decide_eq_false fun h => g2 h.2.1
      rw [Z]
      clear Z; go_enter Try.func46, Try.ntmps46; go_wp2; go_ret; exact ⟨rfl, by (repeat' (first | assumption | exact Below.refl _ _ | refine Below.setCell ?_ (by first | (simp; done) | omega | (simp; omega)) _ | refine Below.alloc ?_ (by first | (simp; done) | omega | (simp; omega)) _ | refine Below.drew ?_ | refine below_drewN ?_ _))⟩
  · have D1 : decide (1 ≤ T) = false := decide_eq_false g1
    have Z : decide (1 ≤ T ∧ T ≤ 65536 ∧ 1 ≤ lm ∧ lm ≤ 16384) = false := decide_eq_false fun h => g1 h.1
    rw [Z]
    clear Z; go_enter Try.func46, Try.ntmps46; go_wp2; go_ret; exact ⟨rfl, by (repeat' (first | assumption | exact Below.refl _ _ | refine Below.setCell ?_ (by first | (simp; done) | omega | (simp; omega)) _ | refine Below.alloc ?_ (by first | (simp; done) | omega | (simp; omega)) _ | refine Below.drew ?_ | refine below_drewN ?_ _))⟩
end Go.Proofs.Ytlenmhbhakeonaa
