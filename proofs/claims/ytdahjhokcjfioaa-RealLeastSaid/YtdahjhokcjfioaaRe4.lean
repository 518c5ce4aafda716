/- What story knows behind k calls, and how each call keeps it (mathematics). -/
import Derived.Test.YtdahjhokcjfioaaRe3
namespace Go.Proofs.Ytdahjhokcjfioaa
set_option linter.unusedVariables false
set_option linter.unusedSimpArgs false
set_option maxRecDepth 100000
open Fg

/-- Behind k calls: the leaf's numbers, the tick and the wakes; hd is the last call's head. -/
structure St (c1 cd c2 : Int) (k : Nat) (hd : Int) (h : Bool) (D R : Rn) (p e d now : Int) (ws : List (Int × Int)) : Prop where
  dk : D.ok
  rk : R.ok
  p0 : 0 ≤ p
  p1 : p ≤ k * 16384
  n0 : 0 ≤ now
  n1 : now ≤ k * 1099511627776
  wl : ws.length ≤ k
  on : 0 < k → h = true ∧ EI c1 cd c2 p D R ∧ LI c1 cd c2 now p D ws ∧ e = tE R p hd ∧ d = tD D p hd
  off : k = 0 → h = false ∧ ws = []
theorem st_zero (c1 cd c2 hd : Int) : St c1 cd c2 0 hd false ⟨false, 0, 0, 0, 0, 0, 0⟩ ⟨false, 0, 0, 0, 0, 0, 0⟩ 0 0 0 0 [] := by
  have z : Rn.ok ⟨false, 0, 0, 0, 0, 0, 0⟩ := by constructor <;> (dsimp only; first | (unfold In; omega) | (unfold Wd; omega))
  exact ⟨z, z, Int.le_refl _, by omega, Int.le_refl _, by omega, Nat.le_refl _, fun h => absurd h (Nat.lt_irrefl _), fun _ => ⟨rfl, rfl⟩⟩
theorem st_wake {c1 cd c2 : Int} {k : Nat} {hd hd' : Int} {h : Bool} {D R : Rn} {p e d now A : Int} {ws : List (Int × Int)} (h1 : In c1) (h2 : In cd) (h3 : In c2) (hk : ¬ kind c1 cd c2 = 0) (hK : k ≤ 1000) (hA : 0 ≤ A) (hA1 : A < 1099511627776) (s : St c1 cd c2 k hd h D R p e d now ws) :
    St c1 cd c2 (k + 1) hd' true (wkl h D (srun true c1 cd c2 (now + A) (p * 65536))) (wkl h R (srun false c1 cd c2 (now + A) (p * 65536))) p
      (tE (wkl h R (srun false c1 cd c2 (now + A) (p * 65536))) p hd') (tD (wkl h D (srun true c1 cd c2 (now + A) (p * 65536))) p hd') (now + A) (ws ++ [(now + A, p)]) := by
  obtain ⟨dk, rk, p0, p1, n0, n1, wl, on, off⟩ := s
  have so1 := (srun_sm (late := true) (X := now + A) (Y := p * 65536) h1 h2 h3 (by omega) (by omega) (by omega) (by omega)).ok
  have so2 := (srun_sm (late := false) (X := now + A) (Y := p * 65536) h1 h2 h3 (by omega) (by omega) (by omega) (by omega)).ok
  refine ⟨wkl_ok dk so1, wkl_ok rk so2, p0, by omega, by omega, by omega, by simp; omega, fun _ => ⟨rfl, ?_, ?_, rfl, rfl⟩, fun x => by omega⟩
  · by_cases z : k = 0
    · obtain ⟨rfl, rfl⟩ := off z
      exact ei_first h1 h2 h3 (by omega) (by omega) p0 (by omega)
    · obtain ⟨rfl, E, _⟩ := on (by omega)
      exact ei_wake h1 h2 h3 (by omega) (by omega) p0 (by omega) E
  · by_cases z : k = 0
    · obtain ⟨rfl, rfl⟩ := off z
      exact li_first h1 h2 h3 hk (by omega) (by omega) p0 (by omega)
    · obtain ⟨rfl, _, L, _⟩ := on (by omega)
      exact li_wake h1 h2 h3 hk (by omega) (by omega) p0 (by omega) (li_on L (show now ≤ now + A by omega) (Int.le_refl _))
theorem tP_eq {p s : Int} (p0 : 0 ≤ p) (p1 : p ≤ 9223372036854775807) (s0 : 0 ≤ s) (s1 : s ≤ 16384) : tP p s = p + s := by
  unfold tP uw
  rw [if_neg (by omega)]
  omega
theorem st_took {c1 cd c2 : Int} {k : Nat} {hd hd' : Int} {h : Bool} {D R : Rn} {p e d now A sn : Int} {ws : List (Int × Int)} (hK : k ≤ 1000) (hk0 : 0 < k) (hA : 0 ≤ A) (hA1 : A < 1099511627776) (s0 : 1 ≤ sn) (s1 : sn ≤ 16384) (s : St c1 cd c2 k hd h D R p e d now ws) :
    St c1 cd c2 (k + 1) hd' h D R (tP p sn) (tE R (tP p sn) hd') (tD D (tP p sn) hd') (now + A) ws := by
  obtain ⟨dk, rk, p0, p1, n0, n1, wl, on, off⟩ := s
  rw [tP_eq p0 (by omega) (by omega) s1]
  refine ⟨dk, rk, by omega, by omega, by omega, by omega, by omega, fun _ => ?_, fun x => by omega⟩
  obtain ⟨a, E, L, _⟩ := on hk0
  exact ⟨a, ei_on E (by omega), li_on L (by omega) (by omega), rfl, rfl⟩
theorem st_pass {c1 cd c2 : Int} {k : Nat} {hd hd' : Int} {h : Bool} {D R : Rn} {p e d now A : Int} {ws : List (Int × Int)} (hK : k ≤ 1000) (hk0 : 0 < k) (hA : 0 ≤ A) (hA1 : A < 1099511627776) (s : St c1 cd c2 k hd h D R p e d now ws) :
    St c1 cd c2 (k + 1) hd' h D R p (tE R p hd') (tD D p hd') (now + A) ws := by
  obtain ⟨dk, rk, p0, p1, n0, n1, wl, on, off⟩ := s
  refine ⟨dk, rk, by omega, by omega, by omega, by omega, by omega, fun _ => ?_, fun x => by omega⟩
  obtain ⟨a, E, L, _⟩ := on hk0
  exact ⟨a, E, li_on L (by omega) (Int.le_refl _), rfl, rfl⟩
/-- The bytes that story takes for a call's Sent: from 1 to 16384, none of them wrapped. -/
def snt (x : Int) : Int := (x.tmod 16384 + 16384).tmod 16384 + 1
theorem snt_in (x : Int) : -16384 < x.tmod 16384 ∧ x.tmod 16384 < 16384 ∧ 0 ≤ (x.tmod 16384 + 16384).tmod 16384 ∧ (x.tmod 16384 + 16384).tmod 16384 < 16384 ∧ 1 ≤ snt x ∧ snt x ≤ 16384 := by
  have a : -16384 < x.tmod 16384 ∧ x.tmod 16384 < 16384 := by
    rcases Int.lt_or_le x 0 with h | h
    · have e : x.tmod 16384 = -((-x).tmod 16384) := by rw [Int.neg_tmod]; omega
      have f : (-x).tmod 16384 = (-x) % 16384 := Int.tmod_eq_emod_of_nonneg (by omega)
      omega
    · have f : x.tmod 16384 = x % 16384 := Int.tmod_eq_emod_of_nonneg h
      omega
  have f : (x.tmod 16384 + 16384).tmod 16384 = (x.tmod 16384 + 16384) % 16384 := Int.tmod_eq_emod_of_nonneg (by omega)
  unfold snt
  omega
end Go.Proofs.Ytdahjhokcjfioaa
