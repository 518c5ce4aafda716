import Derived.Test.YtfplniooncdjdaaBaseA
namespace Go.Proofs.Ytfplniooncdjdaa
set_option linter.unusedVariables false
set_option linter.unusedSimpArgs false
set_option maxRecDepth 100000
open Go.RowKit Fg Reg

/-- A number that is not above a bound, and why it is not. -/
def bv (s m : Int) : Int := if s ≤ m then s else 0
def be (s m : Int) : Int := if s ≤ m then 0 else 20
theorem bv_ok {s m : Int} (h : s ≤ m) : bv s m = s := if_pos h
theorem be_ok {s m : Int} (h : s ≤ m) : be s m = 0 := if_pos h
theorem bv_no {s m : Int} (h : m < s) : bv s m = 0 := if_neg (by omega)
theorem be_no {s m : Int} (h : m < s) : be s m = 20 := if_neg (by omega)

theorem mul_gt {a b m : Int} (h0 : 0 < a) : m < a * b ↔ m / a < b := by
  rw [Int.mul_comm, Int.ediv_lt_iff_lt_mul h0]

theorem min_if (l z : Int) : (if z < l then z else l) = min l z := by rw [Int.min_def]; split <;> split <;> omega
/-- The least of numbers, and Never. -/
def lst (zs : List Int) : Int := zs.foldl min 9223372036854775808
theorem lst_snoc (zs : List Int) (x : Int) : lst (zs ++ [x]) = min (lst zs) x := by simp [lst]
theorem take_snoc' {α : Type} (l : List α) (k : Nat) (h : k < l.length) : l.take (k + 1) = l.take k ++ [l[k]] := by
  rw [List.take_succ_eq_append_getElem h]
end Go.Proofs.Ytfplniooncdjdaa
