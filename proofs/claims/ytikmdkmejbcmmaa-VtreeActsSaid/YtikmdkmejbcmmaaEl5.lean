/- Picks. -/
import Derived.Test.YtikmdkmejbcmmaaEl4
namespace Go.Proofs.Ytikmdkmejbcmmaa
set_option linter.unusedVariables false
set_option linter.unusedSimpArgs false
set_option maxRecDepth 100000
open Go.RowKit Fg Reg
attribute [local irreducible] Reg.wE NT

def dcd (o : Option Rw) : Int := if o.isSome = true then 0 else 6
/-- Rows with good numbers. -/
def okR (L : List Rw) : Prop := ∀ r ∈ L, iok r.id ∧ r.a ≤ 18446744073709551615
theorem okR.drop {L : List Rw} (h : okR L) (i : Int) : okR (dropL i L) := fun r hr => h r (drop_mem.1 hr).1
theorem okR.set {L : List Rw} (h : okR L) {x : Rw} (h1 : iok x.id) (h2 : x.a ≤ 18446744073709551615) : okR (setL x L) := fun r hr => by
  rcases set_mem.1 hr with e | e
  · subst e; exact ⟨h1, h2⟩
  · exact h r e.1
def nthR (L : List Rw) (j : Nat) : Rw := L.getD j default
theorem nthR_mem {L : List Rw} {j : Nat} (hj : j < L.length) : nthR L j ∈ L := by
  have e : nthR L j = L[j] := by unfold nthR; rw [List.getD_eq_getElem?_getD, List.getElem?_eq_getElem hj]; rfl
  rw [e]; exact List.getElem_mem _
theorem id_cell {w : World} {ao : Option Addr} {L : List Rw} (h : RwV (fun x : Int => [Value.int .i64 x]) 1 w ao (L.map Rw.id)) {j : Nat} (hj : j < L.length) : ∃ b o, ao = some ⟨b, o, none⟩ ∧ b < w.heap.size ∧ w.cell? ⟨b, o + j, none⟩ = some (.int .i64 (nthR L j).id) := by
  obtain ⟨b, o, h1, h2, h3⟩ := h j (by simpa using hj)
  have e : nthR L j = L[j] := by unfold nthR; rw [List.getD_eq_getElem?_getD, List.getElem?_eq_getElem hj]; rfl
  refine ⟨b, o, h1, h2, ?_⟩
  rw [e]
  have := h3 0 _ rfl
  simpa using this
theorem e_dropo {w : World} (tb mb a : Nat) (t : Tr) (L : List Rw) (i : Int) (z : World) (h : OT w z tb mb a t L) (hi : iok i) (hL : L.length ≤ 200) :
    Calls Try.prog 33 #[.pointer (some ⟨tb, 0, none⟩), .int .i64 i] z fun e w' => e = .returned (.int .i64 (dcd (rfd i L))) ∧ ∃ t', OT w w' tb mb a t' (dropL i L) := by
  cases hr : rfd i L with
  | none =>
    refine (e_drop_n tb mb a t L i z h.tbl hi hr).mono ?_
    rintro e w' ⟨h1, h2⟩
    exact ⟨h1, t, by rw [drop_no hr]; exact h.step h2⟩
  | some r =>
    obtain ⟨h1, h2⟩ := rfd_some hr
    subst h2
    refine (e_drop_y tb mb a t L r z h.tbl hi h1 hL).mono ?_
    rintro e w' ⟨g1, t', g2, g3, g4⟩
    exact ⟨g1, t', h.turn g2 g3 fun k hk => .inl (g4 k hk)⟩
theorem e_getany (tb mb a : Nat) (t : Tr) (L : List Rw) (i : Int) (w : World) (h : TBL w tb mb a t L) (hi : iok i) :
    Calls Try.prog 37 #[.pointer (some ⟨tb, 0, none⟩), .int .i64 i] w fun e w' => (∃ x y z : Int, e = .returned (.tuple #[.int .u64 x, .int .u64 y, .int .i64 z])) ∧ Below w.heap.size w w' := by
  cases hr : rfd i L with
  | none => exact (e_get_n tb mb a t L i w h hi hr).mono fun e w' ⟨h1, h2⟩ => ⟨⟨_, _, _, h1⟩, h2⟩
  | some r => exact (e_get_y tb mb a t L i r w h hi hr).mono fun e w' ⟨h1, h2⟩ => ⟨⟨_, _, _, h1⟩, h2⟩
theorem e_getr (tb mb a : Nat) (t : Tr) (L : List Rw) (r : Rw) (w : World) (h : TBL w tb mb a t L) (hi : iok r.id) (hr : r ∈ L) : Calls Try.prog 37 #[.pointer (some ⟨tb, 0, none⟩), .int .i64 r.id] w fun ee w' => ee = .returned (.tuple #[.int .u64 r.a, .int .u64 r.b, .int .i64 0]) ∧ Below w.heap.size w w' :=
  e_get_y tb mb a t L r.id r w h hi (rfd_mem h.rs hr)
theorem e_nextN (tb mb a : Nat) (t : Tr) (L : List Rw) (w : World) (h : TBL w tb mb a t L) : Calls Try.prog 41 #[.pointer (some ⟨tb, 0, none⟩)] w fun ee w' => ee = .returned (.int .u64 (nxt t)) ∧ Below w.heap.size w w' := e_next_c tb mb a t L w h
set_option maxHeartbeats 32000000 in
theorem e_picks_c (l : List Bc) (n : Nat) (hln : l.length = n) (ad : Option Addr) (cap : Nat) (now : Int) (w : World) (hR : RwV Bc.cells 5 w ad l) (hbk : ∀ j, j < l.length → iok (nthB l j).id ∧ (nthB l j).a ≤ 18446744073709551615) (hn : n ≤ 80) :
    Calls Try.prog 7 #[.slice ad n cap, .int .u64 now] w fun ee w' => ee = .returned (.bool true) ∧ Below w.heap.size w w' := by
  have HR := Lib.hid hR
  have HLN := Lib.hid hln
  have HBK := Lib.hid hbk
  have D1 : decide (80 < (n : Int)) = false := decide_eq_false (by omega)
  have D1b : decide (80 < n) = false := decide_eq_false (by omega)
  clear hR hln hbk
  go_enter Try.func7, Try.ntmps7
  go_wp2_with (go_at_call 31; (with_reducible refine (e_new_c w).mono ?_); rintro _ w1 ⟨tb, mb, a, rfl, hO⟩; have HS0 := Lib.hid hO; clear hO)
  go_loopg [25] n (fun k9 s25 wr => ∃ (i : Nat) (t : Tr) (L : List Rw), s25 = .int .i64 i ∧ i ≤ n ∧ n - i ≤ k9 ∧ OT w wr tb mb a t L ∧ L.length ≤ i ∧ okR L)
  case atStart => exact ⟨0, .nil, [], rfl, by omega, by omega, HS0.out, by simp, fun r hr => by simp at hr⟩
  case round =>
    obtain ⟨i, t, L, rfl, hi, hk, hS, hLi, hok⟩ := hrel
    have HS := Lib.hid hS
    have HOK := Lib.hid hok
    by_cases hin : i < n
    · obtain ⟨pb, po, had, hpb, e0, e1, e2, e3, e4⟩ := bc_cells (HR.out.below hS.hb) (i := i) (by rw [HLN.out]; exact hin)
      subst had
      have W4 : IntKind.i64.wrap ((i : Int) + 1) = ((i + 1 : Nat) : Int) := by rw [IntKind.wrap_i64]; omega
      have hbi := HBK.out i (by rw [HLN.out]; exact hin)
      obtain ⟨X, hX⟩ : ∃ X, nthB l i = X := ⟨_, rfl⟩
      rw [hX] at e0 e1 e2 e3 e4 hbi
      have HBI := Lib.hid hbi
      clear hX hS hok hbi
      by_cases hkd : X.kd = 0
      · have hkb : (X.kd == 0) = true := by simpa using hkd
        have hkb2 : decide (X.kd = 0) = true := decide_eq_true hkd
        clear hkd
        have KD := Lib.hid (fun z (h : OT w z tb mb a t L) => e_dropo tb mb a t L X.id z h HBI.out.1 (by omega))
        go_wp2_with (first | go_guarded | (go_at_call 33; (with_reducible refine (KD.out _ (HS.out.step (by (repeat' (first | assumption | exact Below.refl _ _ | refine Below.setCell ?_ (by first | (simp; done) | omega | (simp; omega)) _ | refine Below.alloc ?_ (by first | (simp; done) | omega | (simp; omega)) _ | refine Below.drew ?_ | refine below_drewN ?_ _))))).mono ?_); rintro _ w5 ⟨rfl, t1, hO⟩; have HS1 := Lib.hid hO; clear hO))
        go_roundg (n - (i + 1))
        case rel => exact ⟨i + 1, t1, dropL X.id L, by first | rfl | go_num | (congr 1; omega), by omega, Nat.le_refl _, HS1.out, Nat.le_trans (drop_len _ _) (by omega), HOK.out.drop _⟩
        case measure => omega
      · have hkb : (X.kd == 0) = false := by simpa using hkd
        have hkb2 : decide (X.kd = 0) = false := decide_eq_false hkd
        clear hkd
        have KT := Lib.hid (fun z (h : OT w z tb mb a t L) => (show Calls Try.prog 35 #[.pointer (some ⟨tb, 0, none⟩), .int .i64 X.id, .int .u64 X.a, .int .u64 X.b] z fun e w' => e = .returned (.int .i64 0) ∧ ∃ t', OT w w' tb mb a t' (setL X.rw L) from e_seto tb mb a t L X.rw z h HBI.out.1 (by omega)))
        have HSL := Lib.hid (set_len X.rw L HS.out.tbl.rs)
        go_wp2_with (first | go_guarded | (go_at_call 35; (with_reducible refine (KT.out _ (HS.out.step (by (repeat' (first | assumption | exact Below.refl _ _ | refine Below.setCell ?_ (by first | (simp; done) | omega | (simp; omega)) _ | refine Below.alloc ?_ (by first | (simp; done) | omega | (simp; omega)) _ | refine Below.drew ?_ | refine below_drewN ?_ _))))).mono ?_); rintro _ w5 ⟨rfl, t1, hO⟩; have HS1 := Lib.hid hO; clear hO))
        go_roundg (n - (i + 1))
        case rel => exact ⟨i + 1, t1, setL X.rw L, by first | rfl | go_num | (congr 1; omega), by omega, Nat.le_refl _, HS1.out, by have := HSL.out; omega, HOK.out.set HBI.out.1 HBI.out.2⟩
        case measure => omega
    · have hie : i = n := by omega
      subst hie
      clear hin hS
      cases ho : belL (mnn now 9223372036854775807) (tl t) with
      | none =>
        have hq3 := e_pickN HS.out.tbl.tm HS.out.tbl.tr.ss ho
        have kp : ∀ z, OT w z tb mb a t L → Calls Try.prog 39 #[.pointer (some ⟨tb, 0, none⟩), .int .u64 now] z fun e w' => e = .returned (.tuple #[.int .i64 0, .bool false]) ∧ Below z.heap.size z w' := fun z h => by
          have h1 := e_pick_c tb mb a t L now z h.tbl
          rw [ho] at h1
          exact h1
        have kg : ∀ z, OT w z tb mb a t L → Calls Try.prog 37 #[.pointer (some ⟨tb, 0, none⟩), .int .i64 0] z fun e w' => (∃ x y z : Int, e = .returned (.tuple #[.int .u64 x, .int .u64 y, .int .i64 z])) ∧ Below z.heap.size z w' := fun z h => e_getany tb mb a t L 0 z h.tbl (show (Lit.int .i64 0).wf = true by decide)
        have kn := fun z (h : OT w z tb mb a t L) => e_nextN tb mb a t L z h.tbl
        obtain ⟨hnx1, hnx2⟩ := nxt_le HS.out.tbl.tm HS.out.tbl.tr.ss
        obtain ⟨N, hN⟩ : ∃ N, nxt t = N := ⟨_, rfl⟩
        simp only [hN] at kn hnx2
        clear hnx1
        have hkr : ∀ j, j < L.length → ∀ z, OT w z tb mb a t L → Calls Try.prog 37 #[.pointer (some ⟨tb, 0, none⟩), .int .i64 (nthR L j).id] z fun e w' => e = .returned (.tuple #[.int .u64 (nthR L j).a, .int .u64 (nthR L j).b, .int .i64 0]) ∧ Below z.heap.size z w' := fun j hj z h => e_getr tb mb a t L (nthR L j) z h.tbl (hok _ (nthR_mem hj)).1 (nthR_mem hj)
        have ki := fun z (h : OT w z tb mb a t L) => e_ids_c tb mb a t L z h.tbl (by omega)
        have hcd : ∀ j, j < L.length → ¬ ((nthR L j).a ≤ now ∧ (nthR L j).a < 9223372036854775808) := fun j hj => hq3 _ (nthR_mem hj)
        have hnn : ∀ j, j < L.length → N ≤ (nthR L j).a := fun j hj => hnx2 _ (nthR_mem hj)
        obtain ⟨M, hM⟩ : ∃ M, L.length = M := ⟨_, rfl⟩
        simp only [hM] at ki hkr hcd hnn
        have hM8 : M ≤ 80 := by omega
        have HML := Lib.hid hM
        have HNN := Lib.hid hnn
        clear hnn hnx2
        have KP := Lib.hid kp
        have KG := Lib.hid kg
        have KN := Lib.hid kn
        have KR := Lib.hid hkr
        have KI := Lib.hid ki
        have HCD := Lib.hid hcd
        have HOK := Lib.hid hok
        clear kp kg kn ki hkr hcd hok  ho hM hN hq3 
        go_wp2_with (first | go_guarded | (go_at_call 39; (with_reducible refine (KP.out _ (HS.out.step (by (repeat' (first | assumption | exact Below.refl _ _ | refine Below.setCell ?_ (by first | (simp; done) | omega | (simp; omega)) _ | refine Below.alloc ?_ (by first | (simp; done) | omega | (simp; omega)) _ | refine Below.drew ?_ | refine below_drewN ?_ _))))).mono ?_); rintro _ wk ⟨rfl, hbel⟩; have HS := Lib.hid ((HS.out.step (by (repeat' (first | assumption | exact Below.refl _ _ | refine Below.setCell ?_ (by first | (simp; done) | omega | (simp; omega)) _ | refine Below.alloc ?_ (by first | (simp; done) | omega | (simp; omega)) _ | refine Below.drew ?_ | refine below_drewN ?_ _)))).step hbel); clear hbel) | (go_at_call 37; (with_reducible refine (KG.out _ (HS.out.step (by (repeat' (first | assumption | exact Below.refl _ _ | refine Below.setCell ?_ (by first | (simp; done) | omega | (simp; omega)) _ | refine Below.alloc ?_ (by first | (simp; done) | omega | (simp; omega)) _ | refine Below.drew ?_ | refine below_drewN ?_ _))))).mono ?_); rintro _ wk ⟨⟨gx, gy, gz, rfl⟩, hbel⟩; have HS := Lib.hid ((HS.out.step (by (repeat' (first | assumption | exact Below.refl _ _ | refine Below.setCell ?_ (by first | (simp; done) | omega | (simp; omega)) _ | refine Below.alloc ?_ (by first | (simp; done) | omega | (simp; omega)) _ | refine Below.drew ?_ | refine below_drewN ?_ _)))).step hbel); clear hbel) | (go_at_call 41; (with_reducible refine (KN.out _ (HS.out.step (by (repeat' (first | assumption | exact Below.refl _ _ | refine Below.setCell ?_ (by first | (simp; done) | omega | (simp; omega)) _ | refine Below.alloc ?_ (by first | (simp; done) | omega | (simp; omega)) _ | refine Below.drew ?_ | refine below_drewN ?_ _))))).mono ?_); rintro _ wk ⟨rfl, hbel⟩; have HS := Lib.hid ((HS.out.step (by (repeat' (first | assumption | exact Below.refl _ _ | refine Below.setCell ?_ (by first | (simp; done) | omega | (simp; omega)) _ | refine Below.alloc ?_ (by first | (simp; done) | omega | (simp; omega)) _ | refine Below.drew ?_ | refine below_drewN ?_ _)))).step hbel); clear hbel) | (go_at_call 40; (with_reducible refine (KI.out _ (HS.out.step (by (repeat' (first | assumption | exact Below.refl _ _ | refine Below.setCell ?_ (by first | (simp; done) | omega | (simp; omega)) _ | refine Below.alloc ?_ (by first | (simp; done) | omega | (simp; omega)) _ | refine Below.drew ?_ | refine below_drewN ?_ _))))).mono ?_); rintro _ w9 ⟨⟨ai, ci, rfl, hri⟩, hbel⟩; have HRI := Lib.hid hri; clear hri; have HS := Lib.hid ((HS.out.step (by (repeat' (first | assumption | exact Below.refl _ _ | refine Below.setCell ?_ (by first | (simp; done) | omega | (simp; omega)) _ | refine Below.alloc ?_ (by first | (simp; done) | omega | (simp; omega)) _ | refine Below.drew ?_ | refine below_drewN ?_ _)))).step hbel); clear hbel))
        go_loopg [75] M (fun k9 s9 wy => ∃ (j : Nat), s9 = .int .i64 j ∧ j ≤ M ∧ M - j ≤ k9 ∧ Below w9.heap.size w9 wy)
        case atStart => exact ⟨0, rfl, by omega, by omega, Below.refl _ _⟩
        case round =>
          rename World => wy
          obtain ⟨j, rfl, hj, hkk, hBy⟩ := hrel
          have HBY := Lib.hid hBy
          have hszy := hBy.size
          by_cases hjm : j < M
          · obtain ⟨qb, qo, had2, hqb, q0⟩ := id_cell (HRI.out.below hBy) (j := j) (by rw [HML.out]; exact hjm)
            subst had2
            have W5 : IntKind.i64.wrap ((j : Int) + 1) = ((j + 1 : Nat) : Int) := by rw [IntKind.wrap_i64]; omega
            have KRJ := Lib.hid (KR.out j hjm)
            have hc := HCD.out j hjm
            have hnj := HNN.out j hjm
            obtain ⟨R, hR⟩ : ∃ R, nthR L j = R := ⟨_, rfl⟩
            simp only [hR] at KRJ hc q0 hnj
            clear hR
            have HC := Lib.hid hc
            clear hc
            by_cases g1 : R.a ≤ now
            · have E1 : decide (R.a ≤ now) = true := decide_eq_true g1
              by_cases g2 : R.a < 9223372036854775808
              · have E2 : decide (R.a < 9223372036854775808) = true := decide_eq_true g2
                exact absurd ⟨g1, g2⟩ HC.out
              · have E2 : decide (R.a < 9223372036854775808) = false := decide_eq_false g2
                have DN2 : decide (R.a < N) = false := decide_eq_false (by omega)
                clear hnj
                clear g1 g2
                go_wp2_with (first | go_guarded | (go_at_call 37; (with_reducible refine (KRJ.out _ (HS.out.step HBY.out)).mono ?_); rintro _ wq ⟨rfl, hbq⟩; have HBQ := Lib.hid (HBY.out.trans (hbq.mono hszy)); clear hbq) | (go_at_call 41; (with_reducible refine (KN.out _ (HS.out.step HBQ.out)).mono ?_); rintro _ wq ⟨rfl, hbq⟩; have HBQ := Lib.hid (HBQ.out.trans (hbq.mono HBQ.out.size)); clear hbq))
                go_roundg (M - (j + 1))
                case rel => exact ⟨j + 1, by first | rfl | go_num | (congr 1; omega), by omega, Nat.le_refl _, HBQ.out⟩
                case measure => omega
            · have E1 : decide (R.a ≤ now) = false := decide_eq_false g1
              by_cases g2 : R.a < 9223372036854775808
              · have E2 : decide (R.a < 9223372036854775808) = true := decide_eq_true g2
                have DN2 : decide (R.a < N) = false := decide_eq_false (by omega)
                clear hnj
                clear g1 g2
                go_wp2_with (first | go_guarded | (go_at_call 37; (with_reducible refine (KRJ.out _ (HS.out.step HBY.out)).mono ?_); rintro _ wq ⟨rfl, hbq⟩; have HBQ := Lib.hid (HBY.out.trans (hbq.mono hszy)); clear hbq) | (go_at_call 41; (with_reducible refine (KN.out _ (HS.out.step HBQ.out)).mono ?_); rintro _ wq ⟨rfl, hbq⟩; have HBQ := Lib.hid (HBQ.out.trans (hbq.mono HBQ.out.size)); clear hbq))
                go_roundg (M - (j + 1))
                case rel => exact ⟨j + 1, by first | rfl | go_num | (congr 1; omega), by omega, Nat.le_refl _, HBQ.out⟩
                case measure => omega
              · have E2 : decide (R.a < 9223372036854775808) = false := decide_eq_false g2
                have DN2 : decide (R.a < N) = false := decide_eq_false (by omega)
                clear hnj
                clear g1 g2
                go_wp2_with (first | go_guarded | (go_at_call 37; (with_reducible refine (KRJ.out _ (HS.out.step HBY.out)).mono ?_); rintro _ wq ⟨rfl, hbq⟩; have HBQ := Lib.hid (HBY.out.trans (hbq.mono hszy)); clear hbq) | (go_at_call 41; (with_reducible refine (KN.out _ (HS.out.step HBQ.out)).mono ?_); rintro _ wq ⟨rfl, hbq⟩; have HBQ := Lib.hid (HBQ.out.trans (hbq.mono HBQ.out.size)); clear hbq))
                go_roundg (M - (j + 1))
                case rel => exact ⟨j + 1, by first | rfl | go_num | (congr 1; omega), by omega, Nat.le_refl _, HBQ.out⟩
                case measure => omega
          · have hje : j = M := by omega
            subst hje
            go_wp2_with (first | go_guarded | (go_at_call 30; (with_reducible refine (e_two_c _).mono ?_); rintro _ wz ⟨rfl, hbel⟩))
            go_ret
            have hb := HS.out.hb
            exact ⟨rfl, hb.trans ((HBY.out.trans (hbel.mono HBY.out.size)).mono hb.size)⟩
      | some m =>
        obtain ⟨r0, hr0, hm0, hq1, hq2, hq3⟩ := e_pickS HS.out.tbl.tm HS.out.tbl.tr.ss ho
        subst hm0
        have kp : ∀ z, OT w z tb mb a t L → Calls Try.prog 39 #[.pointer (some ⟨tb, 0, none⟩), .int .u64 now] z fun e w' => e = .returned (.tuple #[.int .i64 r0.id, .bool true]) ∧ Below z.heap.size z w' := fun z h => by
          have h1 := e_pick_c tb mb a t L now z h.tbl
          rw [ho] at h1
          exact h1
        have kg : ∀ z, OT w z tb mb a t L → Calls Try.prog 37 #[.pointer (some ⟨tb, 0, none⟩), .int .i64 r0.id] z fun e w' => e = .returned (.tuple #[.int .u64 r0.a, .int .u64 r0.b, .int .i64 0]) ∧ Below z.heap.size z w' := fun z h => e_getr tb mb a t L r0 z h.tbl (hok r0 hr0).1 hr0
        have kn := fun z (h : OT w z tb mb a t L) => e_nextN tb mb a t L z h.tbl
        obtain ⟨hnx1, hnx2⟩ := nxt_le HS.out.tbl.tm HS.out.tbl.tr.ss
        obtain ⟨N, hN⟩ : ∃ N, nxt t = N := ⟨_, rfl⟩
        simp only [hN] at kn hnx2
        clear hnx1
        have hkr : ∀ j, j < L.length → ∀ z, OT w z tb mb a t L → Calls Try.prog 37 #[.pointer (some ⟨tb, 0, none⟩), .int .i64 (nthR L j).id] z fun e w' => e = .returned (.tuple #[.int .u64 (nthR L j).a, .int .u64 (nthR L j).b, .int .i64 0]) ∧ Below z.heap.size z w' := fun j hj z h => e_getr tb mb a t L (nthR L j) z h.tbl (hok _ (nthR_mem hj)).1 (nthR_mem hj)
        have ki := fun z (h : OT w z tb mb a t L) => e_ids_c tb mb a t L z h.tbl (by omega)
        have hcd : ∀ j, j < L.length → (nthR L j).a ≤ now → (nthR L j).a < 9223372036854775808 → ¬ (nthR L j).b < r0.b ∧ ((nthR L j).b = r0.b → ¬ (nthR L j).id < r0.id) := fun j hj => hq3 _ (nthR_mem hj)
        have hnn : ∀ j, j < L.length → N ≤ (nthR L j).a := fun j hj => hnx2 _ (nthR_mem hj)
        obtain ⟨M, hM⟩ : ∃ M, L.length = M := ⟨_, rfl⟩
        simp only [hM] at ki hkr hcd hnn
        have hM8 : M ≤ 80 := by omega
        have HML := Lib.hid hM
        have HNN := Lib.hid hnn
        clear hnn hnx2
        have KP := Lib.hid kp
        have KG := Lib.hid kg
        have KN := Lib.hid kn
        have KR := Lib.hid hkr
        have KI := Lib.hid ki
        have HCD := Lib.hid hcd
        have HOK := Lib.hid hok
        obtain ⟨ia, hia⟩ : ∃ x, r0.id = x := ⟨_, rfl⟩
        obtain ⟨aa, haa⟩ : ∃ x, r0.a = x := ⟨_, rfl⟩
        obtain ⟨bb0, hbb⟩ : ∃ x, r0.b = x := ⟨_, rfl⟩
        simp only [hia] at KP KG HCD
        simp only [haa] at KG hq1 hq2
        simp only [hbb] at KG HCD
        have DA1 : decide (now < aa) = false := decide_eq_false (by omega)
        have DA2 : decide (aa < 9223372036854775808) = true := decide_eq_true (by omega)
        have DA3 : decide (9223372036854775808 ≤ aa) = false := decide_eq_false (by omega)
        clear kp kg kn ki hkr hcd hok  ho hM hN hq3 hq1 hq2 hr0 hia haa hbb
        go_wp2_with (first | go_guarded | (go_at_call 39; (with_reducible refine (KP.out _ (HS.out.step (by (repeat' (first | assumption | exact Below.refl _ _ | refine Below.setCell ?_ (by first | (simp; done) | omega | (simp; omega)) _ | refine Below.alloc ?_ (by first | (simp; done) | omega | (simp; omega)) _ | refine Below.drew ?_ | refine below_drewN ?_ _))))).mono ?_); rintro _ wk ⟨rfl, hbel⟩; have HS := Lib.hid ((HS.out.step (by (repeat' (first | assumption | exact Below.refl _ _ | refine Below.setCell ?_ (by first | (simp; done) | omega | (simp; omega)) _ | refine Below.alloc ?_ (by first | (simp; done) | omega | (simp; omega)) _ | refine Below.drew ?_ | refine below_drewN ?_ _)))).step hbel); clear hbel) | (go_at_call 37; (with_reducible refine (KG.out _ (HS.out.step (by (repeat' (first | assumption | exact Below.refl _ _ | refine Below.setCell ?_ (by first | (simp; done) | omega | (simp; omega)) _ | refine Below.alloc ?_ (by first | (simp; done) | omega | (simp; omega)) _ | refine Below.drew ?_ | refine below_drewN ?_ _))))).mono ?_); rintro _ wk ⟨rfl, hbel⟩; have HS := Lib.hid ((HS.out.step (by (repeat' (first | assumption | exact Below.refl _ _ | refine Below.setCell ?_ (by first | (simp; done) | omega | (simp; omega)) _ | refine Below.alloc ?_ (by first | (simp; done) | omega | (simp; omega)) _ | refine Below.drew ?_ | refine below_drewN ?_ _)))).step hbel); clear hbel) | (go_at_call 41; (with_reducible refine (KN.out _ (HS.out.step (by (repeat' (first | assumption | exact Below.refl _ _ | refine Below.setCell ?_ (by first | (simp; done) | omega | (simp; omega)) _ | refine Below.alloc ?_ (by first | (simp; done) | omega | (simp; omega)) _ | refine Below.drew ?_ | refine below_drewN ?_ _))))).mono ?_); rintro _ wk ⟨rfl, hbel⟩; have HS := Lib.hid ((HS.out.step (by (repeat' (first | assumption | exact Below.refl _ _ | refine Below.setCell ?_ (by first | (simp; done) | omega | (simp; omega)) _ | refine Below.alloc ?_ (by first | (simp; done) | omega | (simp; omega)) _ | refine Below.drew ?_ | refine below_drewN ?_ _)))).step hbel); clear hbel) | (go_at_call 40; (with_reducible refine (KI.out _ (HS.out.step (by (repeat' (first | assumption | exact Below.refl _ _ | refine Below.setCell ?_ (by first | (simp; done) | omega | (simp; omega)) _ | refine Below.alloc ?_ (by first | (simp; done) | omega | (simp; omega)) _ | refine Below.drew ?_ | refine below_drewN ?_ _))))).mono ?_); rintro _ w9 ⟨⟨ai, ci, rfl, hri⟩, hbel⟩; have HRI := Lib.hid hri; clear hri; have HS := Lib.hid ((HS.out.step (by (repeat' (first | assumption | exact Below.refl _ _ | refine Below.setCell ?_ (by first | (simp; done) | omega | (simp; omega)) _ | refine Below.alloc ?_ (by first | (simp; done) | omega | (simp; omega)) _ | refine Below.drew ?_ | refine below_drewN ?_ _)))).step hbel); clear hbel))
        go_loopg [75] M (fun k9 s9 wy => ∃ (j : Nat), s9 = .int .i64 j ∧ j ≤ M ∧ M - j ≤ k9 ∧ Below w9.heap.size w9 wy)
        case atStart => exact ⟨0, rfl, by omega, by omega, Below.refl _ _⟩
        case round =>
          rename World => wy
          obtain ⟨j, rfl, hj, hkk, hBy⟩ := hrel
          have HBY := Lib.hid hBy
          have hszy := hBy.size
          by_cases hjm : j < M
          · obtain ⟨qb, qo, had2, hqb, q0⟩ := id_cell (HRI.out.below hBy) (j := j) (by rw [HML.out]; exact hjm)
            subst had2
            have W5 : IntKind.i64.wrap ((j : Int) + 1) = ((j + 1 : Nat) : Int) := by rw [IntKind.wrap_i64]; omega
            have KRJ := Lib.hid (KR.out j hjm)
            have hc := HCD.out j hjm
            have hnj := HNN.out j hjm
            obtain ⟨R, hR⟩ : ∃ R, nthR L j = R := ⟨_, rfl⟩
            simp only [hR] at KRJ hc q0 hnj
            clear hR
            have HC := Lib.hid hc
            clear hc
            by_cases g1 : R.a ≤ now
            · have E1 : decide (R.a ≤ now) = true := decide_eq_true g1
              by_cases g2 : R.a < 9223372036854775808
              · have E2 : decide (R.a < 9223372036854775808) = true := decide_eq_true g2
                have h3 := HC.out g1 g2
                have E3 : decide (R.b < bb0) = false := decide_eq_false (by have := h3.1; omega)
                by_cases g3 : R.b = bb0
                · have E4 : (R.b == bb0) = true := by simpa using g3
                  have E4b : decide (R.b = bb0) = true := decide_eq_true g3
                  have E5 : decide (R.id < ia) = false := decide_eq_false (by have := h3.2 g3; omega)
                  have DN2 : decide (R.a < N) = false := decide_eq_false (by omega)
                  clear hnj
                  clear g1 g2 g3 h3
                  go_wp2_with (first | go_guarded | (go_at_call 37; (with_reducible refine (KRJ.out _ (HS.out.step HBY.out)).mono ?_); rintro _ wq ⟨rfl, hbq⟩; have HBQ := Lib.hid (HBY.out.trans (hbq.mono hszy)); clear hbq) | (go_at_call 41; (with_reducible refine (KN.out _ (HS.out.step HBQ.out)).mono ?_); rintro _ wq ⟨rfl, hbq⟩; have HBQ := Lib.hid (HBQ.out.trans (hbq.mono HBQ.out.size)); clear hbq))
                  go_roundg (M - (j + 1))
                  case rel => exact ⟨j + 1, by first | rfl | go_num | (congr 1; omega), by omega, Nat.le_refl _, HBQ.out⟩
                  case measure => omega
                · have E4 : (R.b == bb0) = false := by simpa using g3
                  have E4b : decide (R.b = bb0) = false := decide_eq_false g3
                  have DN2 : decide (R.a < N) = false := decide_eq_false (by omega)
                  clear hnj
                  clear g1 g2 g3 h3
                  go_wp2_with (first | go_guarded | (go_at_call 37; (with_reducible refine (KRJ.out _ (HS.out.step HBY.out)).mono ?_); rintro _ wq ⟨rfl, hbq⟩; have HBQ := Lib.hid (HBY.out.trans (hbq.mono hszy)); clear hbq) | (go_at_call 41; (with_reducible refine (KN.out _ (HS.out.step HBQ.out)).mono ?_); rintro _ wq ⟨rfl, hbq⟩; have HBQ := Lib.hid (HBQ.out.trans (hbq.mono HBQ.out.size)); clear hbq))
                  go_roundg (M - (j + 1))
                  case rel => exact ⟨j + 1, by first | rfl | go_num | (congr 1; omega), by omega, Nat.le_refl _, HBQ.out⟩
                  case measure => omega
              · have E2 : decide (R.a < 9223372036854775808) = false := decide_eq_false g2
                have DN2 : decide (R.a < N) = false := decide_eq_false (by omega)
                clear hnj
                clear g1 g2
                go_wp2_with (first | go_guarded | (go_at_call 37; (with_reducible refine (KRJ.out _ (HS.out.step HBY.out)).mono ?_); rintro _ wq ⟨rfl, hbq⟩; have HBQ := Lib.hid (HBY.out.trans (hbq.mono hszy)); clear hbq) | (go_at_call 41; (with_reducible refine (KN.out _ (HS.out.step HBQ.out)).mono ?_); rintro _ wq ⟨rfl, hbq⟩; have HBQ := Lib.hid (HBQ.out.trans (hbq.mono HBQ.out.size)); clear hbq))
                go_roundg (M - (j + 1))
                case rel => exact ⟨j + 1, by first | rfl | go_num | (congr 1; omega), by omega, Nat.le_refl _, HBQ.out⟩
                case measure => omega
            · have E1 : decide (R.a ≤ now) = false := decide_eq_false g1
              by_cases g2 : R.a < 9223372036854775808
              · have E2 : decide (R.a < 9223372036854775808) = true := decide_eq_true g2
                have DN2 : decide (R.a < N) = false := decide_eq_false (by omega)
                clear hnj
                clear g1 g2
                go_wp2_with (first | go_guarded | (go_at_call 37; (with_reducible refine (KRJ.out _ (HS.out.step HBY.out)).mono ?_); rintro _ wq ⟨rfl, hbq⟩; have HBQ := Lib.hid (HBY.out.trans (hbq.mono hszy)); clear hbq) | (go_at_call 41; (with_reducible refine (KN.out _ (HS.out.step HBQ.out)).mono ?_); rintro _ wq ⟨rfl, hbq⟩; have HBQ := Lib.hid (HBQ.out.trans (hbq.mono HBQ.out.size)); clear hbq))
                go_roundg (M - (j + 1))
                case rel => exact ⟨j + 1, by first | rfl | go_num | (congr 1; omega), by omega, Nat.le_refl _, HBQ.out⟩
                case measure => omega
              · have E2 : decide (R.a < 9223372036854775808) = false := decide_eq_false g2
                have DN2 : decide (R.a < N) = false := decide_eq_false (by omega)
                clear hnj
                clear g1 g2
                go_wp2_with (first | go_guarded | (go_at_call 37; (with_reducible refine (KRJ.out _ (HS.out.step HBY.out)).mono ?_); rintro _ wq ⟨rfl, hbq⟩; have HBQ := Lib.hid (HBY.out.trans (hbq.mono hszy)); clear hbq) | (go_at_call 41; (with_reducible refine (KN.out _ (HS.out.step HBQ.out)).mono ?_); rintro _ wq ⟨rfl, hbq⟩; have HBQ := Lib.hid (HBQ.out.trans (hbq.mono HBQ.out.size)); clear hbq))
                go_roundg (M - (j + 1))
                case rel => exact ⟨j + 1, by first | rfl | go_num | (congr 1; omega), by omega, Nat.le_refl _, HBQ.out⟩
                case measure => omega
          · have hje : j = M := by omega
            subst hje
            go_wp2_with (first | go_guarded | (go_at_call 30; (with_reducible refine (e_two_c _).mono ?_); rintro _ wz ⟨rfl, hbel⟩))
            go_ret
            have hb := HS.out.hb
            exact ⟨rfl, hb.trans ((HBY.out.trans (hbel.mono HBY.out.size)).mono hb.size)⟩
theorem eltreePicks_law (v : Value) (now : Int) {w : World} (hs : Op.FlatSlice w 5 [.int .i64, .int .i64, .int .u64, .int .u64, .int .u64] v) (wt : (Lit.int .u64 now).wf = true) :
    Calls Try.prog 7 #[v, .int .u64 now] w fun ee w' => ee = .returned (.bool true) ∧ Below w.heap.size w w' := by
  obtain ⟨ad, l, cap, rfl, hR, hok⟩ := bcs_of hs
  by_cases hn : l.length ≤ 80
  · exact e_picks_c l l.length rfl ad cap now w hR hok hn
  · obtain ⟨n, hln⟩ : ∃ n, l.length = n := ⟨_, rfl⟩
    rw [hln] at hn ⊢
    have D1 : decide (80 < (n : Int)) = true := decide_eq_true (by omega)
    have K := Lib.hid (e_two_c w)
    clear hs hR hln hn wt hok
    go_enter Try.func7, Try.ntmps7
    go_wp2_with (go_at_call 30; (with_reducible refine K.out.mono ?_); rintro _ w1 ⟨rfl, hbel⟩)
    go_ret
    exact ⟨rfl, by with_reducible assumption⟩
end Go.Proofs.Ytikmdkmejbcmmaa
