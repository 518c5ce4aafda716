/- Joined texts. -/
import Derived.Test.YtffaahipgabkhaaGreatJn0
import Derived.Test.YtffaahipgabkhaaGreatJn47
set_option linter.unusedVariables false
set_option linter.unusedSimpArgs false
set_option maxRecDepth 100000
set_option maxHeartbeats 16000000
section
namespace Go.Proofs.YtffaahipgabkhaaGreat
open Go.RowKit Fg Reg Go.Maps Go.Shelf
attribute [local irreducible] Reg.wE VR
def sm (f g : Int → Option Cls) (x : Int) : Bool := match f x, g x with | none, none => true | some c, some d => clEq c d | _, _ => false
theorem sm_iff (f g : Int → Option Cls) (x : Int) : sm f g x = true ↔ f x = g x := by
 unfold sm
 cases f x with
 | none => cases g x <;> simp
 | some c =>
  cases g x with
  | none => simp
  | some d => simp [clEq_iff]
theorem rsame_c {f g : Int → Option Cls} {L M : List Int} (I : TI f L) (J : TI g M) (n m : Nat) (hn : L.length = n) (hm : M.length = m) (x : Int) (ao bo : Option Addr) (ac bc : Nat) (w : World) (hA : RwV crow 14 w ao (rowsX f L)) (hB : RwV crow 14 w bo (rowsX g M)) :
  Calls Tryz.prog 37 #[.slice ao n ac, .slice bo m bc, .int .i64 x] w fun ee w' => ee = .returned (.bool (sm f g x)) ∧ Below w.heap.size w w' := by
 have n64 : n ≤ 64 := by rw [← hn]; exact I.len
 have m64 : m ≤ 64 := by rw [← hm]; exact J.len
 have KA := Lib.hid (fun z (hz : RwV crow 14 z ao (rowsX f L)) => rfind_c (rowsX f L) n (by rw [rowsX_len]; exact hn) (by omega) x ao ac z hz)
 have KB := Lib.hid (fun z (hz : RwV crow 14 z bo (rowsX g M)) => rfind_c (rowsX g M) m (by rw [rowsX_len]; exact hm) (by omega) x bo bc z hz)
 have HA := Lib.hid hA
 have HB := Lib.hid hB
 cases hc : f x with
 | none =>
  rw [fidx_none I hc] at KA
  cases hd : g x with
  | none =>
   rw [fidx_none J hd] at KB
   have e1 : sm f g x = true := by unfold sm; rw [hc, hd]
   rw [e1]
   clear e1 hc hd I J hA hB hn hm
   go_enter Tryz.func37, Tryz.ntmps37
   go_wp2_with (first | go_guarded | (go_at_call 67; (with_reducible refine (KB.out _ HBB1.out).mono ?_); rintro _ w2 ⟨rfl, hbel⟩; have HB2 := Lib.hid (HB1.out.trans (hbel.mono HB1.out.size)); have gb := hbel; clear hbel) | (go_at_call 67; (with_reducible refine (KA.out _ HA.out).mono ?_); rintro _ w1 ⟨rfl, hbel⟩; have HB1 := Lib.hid hbel; have HBB1 := Lib.hid (HB.out.below hbel); clear hbel))
   go_ret
   exact ⟨rfl, HB2.out⟩
  | some d =>
   obtain ⟨j, hj, hfj, hcj⟩ := fidx_some J hd
   rw [hfj] at KB
   have q2 : decide ((j : Int) < 0) = false := decide_eq_false (by omega)
   clear hfj hcj hj
   have e1 : sm f g x = false := by unfold sm; rw [hc, hd]
   rw [e1]
   clear e1 hc hd I J hA hB hn hm
   go_enter Tryz.func37, Tryz.ntmps37
   go_wp2_with (first | go_guarded | (go_at_call 67; (with_reducible refine (KB.out _ HBB1.out).mono ?_); rintro _ w2 ⟨rfl, hbel⟩; have HB2 := Lib.hid (HB1.out.trans (hbel.mono HB1.out.size)); have gb := hbel; clear hbel) | (go_at_call 67; (with_reducible refine (KA.out _ HA.out).mono ?_); rintro _ w1 ⟨rfl, hbel⟩; have HB1 := Lib.hid hbel; have HBB1 := Lib.hid (HB.out.below hbel); clear hbel))
   go_ret
   exact ⟨rfl, HB2.out⟩
 | some c =>
  obtain ⟨i, hi, hfi, hci⟩ := fidx_some I hc
  rw [hfi] at KA
  have q1 : decide ((i : Int) < 0) = false := decide_eq_false (by omega)
  cases hd : g x with
  | none =>
   rw [fidx_none J hd] at KB
   clear hfi hci hi
   have e1 : sm f g x = false := by unfold sm; rw [hc, hd]
   rw [e1]
   clear e1 hc hd I J hA hB hn hm
   go_enter Tryz.func37, Tryz.ntmps37
   go_wp2_with (first | go_guarded | (go_at_call 67; (with_reducible refine (KB.out _ HBB1.out).mono ?_); rintro _ w2 ⟨rfl, hbel⟩; have HB2 := Lib.hid (HB1.out.trans (hbel.mono HB1.out.size)); have gb := hbel; clear hbel) | (go_at_call 67; (with_reducible refine (KA.out _ HA.out).mono ?_); rintro _ w1 ⟨rfl, hbel⟩; have HB1 := Lib.hid hbel; have HBB1 := Lib.hid (HB.out.below hbel); clear hbel))
   go_ret
   exact ⟨rfl, HB2.out⟩
  | some d =>
   obtain ⟨j, hj, hfj, hcj⟩ := fidx_some J hd
   rw [hfj] at KB
   have q2 : decide ((j : Int) < 0) = false := decide_eq_false (by omega)
   have e1 : sm f g x = clEq c d := by unfold sm; rw [hc, hd]
   have EQ := eqClD c d
   obtain ⟨q, hq⟩ : ∃ q, clEq c d = q := ⟨_, rfl⟩
   rw [hq] at EQ
   rw [e1, hq]
   obtain ⟨b1, o1, rfl, hb1, hr1⟩ := hA i hi
   obtain ⟨b2, o2, rfl, hb2, hr2⟩ := hB j hj
   rw [hci] at hr1
   rw [hcj] at hr2
   have HR1 := Lib.hid hr1
   have HR2 := Lib.hid hr2
   have HL1 := Lib.hid hb1
   have HL2 := Lib.hid hb2
   have hin : i < n := by rw [rowsX_len] at hi; omega
   have hjm : j < m := by rw [rowsX_len] at hj; omega
   clear e1 hq hc hd I J hA hB hn hm hfi hci hi hfj hcj hj hr1 hr2 hb1 hb2
   go_enter Tryz.func37, Tryz.ntmps37
   go_wp2_with (first | go_guarded | (go_at_call 67; (with_reducible refine (KB.out _ HBB1.out).mono ?_); rintro _ w2 ⟨rfl, hbel⟩; have HB2 := Lib.hid (HB1.out.trans (hbel.mono HB1.out.size)); have gb := hbel; clear hbel) | (go_at_call 67; (with_reducible refine (KA.out _ HA.out).mono ?_); rintro _ w1 ⟨rfl, hbel⟩; have HB1 := Lib.hid hbel; have HBB1 := Lib.hid (HB.out.below hbel); clear hbel))
   have hb12 := HB2.out
   have l1 := Nat.lt_of_lt_of_le HL1.out hb12.size
   have l2 := Nat.lt_of_lt_of_le HL2.out hb12.size
   have c0 := (hb12.cell (p := ⟨b1, o1 + i * 14 + 0, none⟩) HL1.out).trans (HR1.out 0 _ rfl); have d0 := (hb12.cell (p := ⟨b2, o2 + j * 14 + 0, none⟩) HL2.out).trans (HR2.out 0 _ rfl); have c1 := (hb12.cell (p := ⟨b1, o1 + i * 14 + 1, none⟩) HL1.out).trans (HR1.out 1 _ rfl); have d1 := (hb12.cell (p := ⟨b2, o2 + j * 14 + 1, none⟩) HL2.out).trans (HR2.out 1 _ rfl); have c2 := (hb12.cell (p := ⟨b1, o1 + i * 14 + 2, none⟩) HL1.out).trans (HR1.out 2 _ rfl); have d2 := (hb12.cell (p := ⟨b2, o2 + j * 14 + 2, none⟩) HL2.out).trans (HR2.out 2 _ rfl); have c3 := (hb12.cell (p := ⟨b1, o1 + i * 14 + 3, none⟩) HL1.out).trans (HR1.out 3 _ rfl); have d3 := (hb12.cell (p := ⟨b2, o2 + j * 14 + 3, none⟩) HL2.out).trans (HR2.out 3 _ rfl); have c4 := (hb12.cell (p := ⟨b1, o1 + i * 14 + 4, none⟩) HL1.out).trans (HR1.out 4 _ rfl); have d4 := (hb12.cell (p := ⟨b2, o2 + j * 14 + 4, none⟩) HL2.out).trans (HR2.out 4 _ rfl); have c5 := (hb12.cell (p := ⟨b1, o1 + i * 14 + 5, none⟩) HL1.out).trans (HR1.out 5 _ rfl); have d5 := (hb12.cell (p := ⟨b2, o2 + j * 14 + 5, none⟩) HL2.out).trans (HR2.out 5 _ rfl); have c6 := (hb12.cell (p := ⟨b1, o1 + i * 14 + 6, none⟩) HL1.out).trans (HR1.out 6 _ rfl); have d6 := (hb12.cell (p := ⟨b2, o2 + j * 14 + 6, none⟩) HL2.out).trans (HR2.out 6 _ rfl); have c7 := (hb12.cell (p := ⟨b1, o1 + i * 14 + 7, none⟩) HL1.out).trans (HR1.out 7 _ rfl); have d7 := (hb12.cell (p := ⟨b2, o2 + j * 14 + 7, none⟩) HL2.out).trans (HR2.out 7 _ rfl); have c8 := (hb12.cell (p := ⟨b1, o1 + i * 14 + 8, none⟩) HL1.out).trans (HR1.out 8 _ rfl); have d8 := (hb12.cell (p := ⟨b2, o2 + j * 14 + 8, none⟩) HL2.out).trans (HR2.out 8 _ rfl); have c9 := (hb12.cell (p := ⟨b1, o1 + i * 14 + 9, none⟩) HL1.out).trans (HR1.out 9 _ rfl); have d9 := (hb12.cell (p := ⟨b2, o2 + j * 14 + 9, none⟩) HL2.out).trans (HR2.out 9 _ rfl); have c10 := (hb12.cell (p := ⟨b1, o1 + i * 14 + 10, none⟩) HL1.out).trans (HR1.out 10 _ rfl); have d10 := (hb12.cell (p := ⟨b2, o2 + j * 14 + 10, none⟩) HL2.out).trans (HR2.out 10 _ rfl); have c11 := (hb12.cell (p := ⟨b1, o1 + i * 14 + 11, none⟩) HL1.out).trans (HR1.out 11 _ rfl); have d11 := (hb12.cell (p := ⟨b2, o2 + j * 14 + 11, none⟩) HL2.out).trans (HR2.out 11 _ rfl); have c12 := (hb12.cell (p := ⟨b1, o1 + i * 14 + 12, none⟩) HL1.out).trans (HR1.out 12 _ rfl); have d12 := (hb12.cell (p := ⟨b2, o2 + j * 14 + 12, none⟩) HL2.out).trans (HR2.out 12 _ rfl); have c13 := (hb12.cell (p := ⟨b1, o1 + i * 14 + 13, none⟩) HL1.out).trans (HR1.out 13 _ rfl); have d13 := (hb12.cell (p := ⟨b2, o2 + j * 14 + 13, none⟩) HL2.out).trans (HR2.out 13 _ rfl)
   simp only [Nat.add_zero] at c0 d0
   clear hb12 gb
   go_quiet (fail)
   have hbq : Below w2.heap.size w2 (w2.drewN nq) := below_drewN (Below.refl _ _) _
   have HB3 := Lib.hid (HB2.out.trans (hbq.mono HB2.out.size))
   clear hbq
   go_wp2_with (first | go_guarded)
   go_ret
   exact ⟨rfl, HB3.out⟩
theorem rreal_c {f : Int → Option Cls} {L : List Int} (I : TI f L) (n : Nat) (hn : L.length = n) (x : Int) (ao : Option Addr) (cap : Nat) (w : World) (hR : RwV crow 14 w ao (rowsX f L)) :
  Calls Tryz.prog 41 #[.slice ao n cap, .int .i64 x] w fun ee w' => ee = .returned (.bool (rl1 (gcl (f x)))) ∧ Below w.heap.size w w' := by
 have hl : (rowsX f L).length = n := by rw [rowsX_len]; exact hn
 have hn64 : n ≤ 64 := by rw [← hn]; exact I.len
 have KF := Lib.hid (fun z (hz : RwV crow 14 z ao (rowsX f L)) => rfind_c (rowsX f L) n hl (by omega) x ao cap z hz)
 cases hc : f x with
 | none =>
  have e1 : rl1 (gcl none) = false := by decide +kernel
  rw [e1]
  rw [fidx_none I hc] at KF
  have HR := Lib.hid hR
  clear hR hl hn I e1 hc
  go_enter Tryz.func41, Tryz.ntmps41
  go_wp2_with (first | go_guarded | (go_at_call 67; (with_reducible refine (KF.out _ HR.out).mono ?_); rintro _ w1 ⟨rfl, hbel⟩; have HB := Lib.hid hbel; clear hbel))
  go_ret
  exact ⟨rfl, HB.out⟩
 | some c =>
  have e1 : rl1 (gcl (some c)) = rl1 c := rfl
  obtain ⟨i, hi, hfi, hci⟩ := fidx_some I hc
  rw [hfi] at KF
  have hin := (I.cls x c hc).2.1
  have KR := Lib.hid (fun z => rof_c hin.ra hin.rb hin.rc (r := rl1 c) rfl z)
  obtain ⟨b, o, rfl, hb, hra⟩ := hR i hi
  rw [hci] at hra
  have HRA := Lib.hid hra
  have HR := Lib.hid hR
  have hin2 : i < n := by omega
  have HBL := Lib.hid hb
  obtain ⟨r, hr⟩ : ∃ r, rl1 c = r := ⟨_, rfl⟩
  rw [e1, hr]
  rw [hr] at KR
  clear hR hl hn I e1 hc hfi hci hi hra hin hr hb
  go_enter Tryz.func41, Tryz.ntmps41
  go_wp2_with (first
   | go_guarded
   | (go_at_call 63; (with_reducible refine (KR.out _).mono ?_); rintro _ w2 ⟨k, rfl, hk, hbel⟩; have HB2 := Lib.hid (HB.out.trans (hbel.mono HB.out.size)); clear hbel)
   | (go_at_call 67; (with_reducible refine (KF.out _ HR.out).mono ?_); rintro _ w1 ⟨rfl, hbel⟩; have g3 := (hbel.cell (p := ⟨b, o + i * 14 + 3, none⟩) HBL.out).trans (HRA.out 3 _ rfl); have g4 := (hbel.cell (p := ⟨b, o + i * 14 + 4, none⟩) HBL.out).trans (HRA.out 4 _ rfl); have g5 := (hbel.cell (p := ⟨b, o + i * 14 + 5, none⟩) HBL.out).trans (HRA.out 5 _ rfl); have gl := Nat.lt_of_lt_of_le HBL.out hbel.size; have HB := Lib.hid hbel; clear hbel))
  go_ret
  exact ⟨rfl, HB2.out⟩
structure MI (f g : Int → Option Cls) (L M : List Int) (i k : Nat) (U : List Int) : Prop where
 srt : U.Pairwise (· < ·)
 mem : ∀ x, x ∈ U ↔ f x ≠ g x ∧ (x ∈ L.take i ∨ x ∈ M.take k)
 bnd : ∀ x, (x ∈ L.take i ∨ x ∈ M.take k) → ∀ y, (y ∈ L.drop i ∨ y ∈ M.drop k) → x < y
theorem MI.zero (f g : Int → Option Cls) (L M : List Int) : MI f g L M 0 0 [] := ⟨List.Pairwise.nil, fun x => by simp, fun x h => by simp at h⟩
theorem adv {L : List Int} (hs : L.Pairwise (· < ·)) {i : Nat} {x : Int} (hmin : ∀ y ∈ L.drop i, x ≤ y) {i' : Nat} (h : (∃ hi : i < L.length, L[i] = x ∧ i' = i + 1) ∨ ((∀ hi : i < L.length, L[i] ≠ x) ∧ i' = i)) :
  (∀ z, z ∈ L.take i' ↔ z ∈ L.take i ∨ (z = x ∧ x ∈ L.drop i)) ∧ ∀ y ∈ L.drop i', y ∈ L.drop i ∧ x < y := by
 rcases h with ⟨hi, hx, rfl⟩ | ⟨hno, rfl⟩
 ·have hd : L.drop i = x :: L.drop (i + 1) := by rw [List.drop_eq_getElem_cons hi, hx]
  have hp : (L.drop i).Pairwise (· < ·) := hs.drop
  rw [hd] at hp
  refine ⟨fun z => ?_, fun y hy => ⟨by rw [hd]; exact List.mem_cons_of_mem _ hy, (List.pairwise_cons.1 hp).1 y hy⟩⟩
  rw [take_snoc'' L i hi, List.mem_append, List.mem_singleton, hx, hd]
  constructor
  ·rintro (h | h)
   ·exact .inl h
   ·exact .inr ⟨h, List.mem_cons_self⟩
  ·rintro (h | ⟨h, -⟩)
   ·exact .inl h
   ·exact .inr h
 ·have hnx : x ∉ L.drop i' := fun hm => by
   have hi : i' < L.length := by
    rcases Nat.lt_or_ge i' L.length with h | h
    ·exact h
    ·rw [List.drop_eq_nil_of_le h] at hm; cases hm
   have hd : L.drop i' = L[i'] :: L.drop (i' + 1) := List.drop_eq_getElem_cons hi
   have hp : (L.drop i').Pairwise (· < ·) := hs.drop
   rw [hd] at hm hp
   rcases List.mem_cons.1 hm with h | h
   ·exact hno hi h.symm
   ·have h1 := (List.pairwise_cons.1 hp).1 x h
    have h2 := hmin L[i'] (by rw [hd]; exact List.mem_cons_self)
    omega
  refine ⟨fun z => ⟨.inl, ?_⟩, fun y hy => ⟨hy, ?_⟩⟩
  ·rintro (h | ⟨-, h⟩)
   ·exact h
   ·exact absurd h hnx
  ·have h1 := hmin y hy
   have h2 : y ≠ x := fun e => hnx (e ▸ hy)
   omega
theorem MI.step {f g : Int → Option Cls} {L M : List Int} (hL : L.Pairwise (· < ·)) (hM : M.Pairwise (· < ·)) {i k : Nat} {U : List Int} (h : MI f g L M i k U) {x : Int} (hx : x ∈ L.drop i ∨ x ∈ M.drop k) (hmin : ∀ y, (y ∈ L.drop i ∨ y ∈ M.drop k) → x ≤ y)
  {i' k' : Nat} (h1 : (∃ hi : i < L.length, L[i] = x ∧ i' = i + 1) ∨ ((∀ hi : i < L.length, L[i] ≠ x) ∧ i' = i)) (h2 : (∃ hk : k < M.length, M[k] = x ∧ k' = k + 1) ∨ ((∀ hk : k < M.length, M[k] ≠ x) ∧ k' = k)) :
  MI f g L M i' k' (if sm f g x = true then U else U ++ [x]) := by
 obtain ⟨t1, d1⟩ := adv hL (fun y hy => hmin y (.inl hy)) h1
 obtain ⟨t2, d2⟩ := adv hM (fun y hy => hmin y (.inr hy)) h2
 have T : ∀ z, (z ∈ L.take i' ∨ z ∈ M.take k') ↔ ((z ∈ L.take i ∨ z ∈ M.take k) ∨ z = x) := fun z => by
  rw [t1 z, t2 z]
  constructor
  ·rintro ((h | ⟨h, -⟩) | (h | ⟨h, -⟩))
   ·exact .inl (.inl h)
   ·exact .inr h
   ·exact .inl (.inr h)
   ·exact .inr h
  ·rintro ((h | h) | h)
   ·exact .inl (.inl h)
   ·exact .inr (.inl h)
   ·rcases hx with hx | hx
    ·exact .inl (.inr ⟨h, hx⟩)
    ·exact .inr (.inr ⟨h, hx⟩)
 have D : ∀ y, (y ∈ L.drop i' ∨ y ∈ M.drop k') → (y ∈ L.drop i ∨ y ∈ M.drop k) ∧ x < y := fun y hy => by
  rcases hy with hy | hy
  ·exact ⟨.inl (d1 y hy).1, (d1 y hy).2⟩
  ·exact ⟨.inr (d2 y hy).1, (d2 y hy).2⟩
 have B : ∀ z, (z ∈ L.take i' ∨ z ∈ M.take k') → ∀ y, (y ∈ L.drop i' ∨ y ∈ M.drop k') → z < y := fun z hz y hy => by
  rcases (T z).1 hz with h3 | rfl
  ·exact h.bnd z h3 y (D y hy).1
  ·exact (D y hy).2
 by_cases hq : sm f g x = true
 ·rw [if_pos hq]
  refine ⟨h.srt, fun z => (h.mem z).trans ⟨fun ⟨a, b⟩ => ⟨a, (T z).2 (.inl b)⟩, fun ⟨a, b⟩ => ⟨a, ?_⟩⟩, B⟩
  rcases (T z).1 b with h3 | rfl
  ·exact h3
  ·exact absurd ((sm_iff f g z).1 hq) a
 ·rw [if_neg hq]
  have hne : f x ≠ g x := fun e => hq ((sm_iff f g x).2 e)
  refine ⟨List.pairwise_append.2 ⟨h.srt, List.pairwise_singleton _ _, fun a ha b hb => ?_⟩, fun z => ?_, B⟩
  ·rw [List.mem_singleton] at hb
   subst hb
   exact h.bnd a ((h.mem a).1 ha).2 b hx
  ·rw [List.mem_append, List.mem_singleton, T z, h.mem z]
   constructor
   ·rintro (⟨a, b⟩ | rfl)
    ·exact ⟨a, .inl b⟩
    ·exact ⟨hne, .inr rfl⟩
   ·rintro ⟨a, b | b⟩
    ·exact .inl ⟨a, b⟩
    ·exact .inr b
theorem MI.tch {f g : Int → Option Cls} {L M : List Int} (I : TI f L) (J : TI g M) {U : List Int} (h : MI f g L M L.length M.length U) : Tch f g U := ⟨h.srt, fun x => (h.mem x).trans ⟨fun a => a.1, fun a => ⟨a, by
 rw [List.take_length, List.take_length]
 rcases Classical.em ((f x).isSome = true) with h1 | h1
 ·exact .inl ((I.mem x).1 h1)
 ·rcases Classical.em ((g x).isSome = true) with h2 | h2
  ·exact .inr ((J.mem x).1 h2)
  ·have e1 : f x = none := by simpa using h1
   have e2 : g x = none := by simpa using h2
   exact absurd (e1.trans e2.symm) a⟩⟩⟩
end Go.Proofs.YtffaahipgabkhaaGreat
end
