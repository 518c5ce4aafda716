/- Bytes of a text as numbers, words of two bytes added, and what goes beyond 16 bits carried around: the plain mathematics. -/
import Derived.Test.YtnfhiagbbmaobaaMathA
import Derived.Test.YtnfhiagbbmaobaaBaseA
namespace Go.Proofs.Ytnfhiagbbmaobaa
set_option linter.unusedVariables false
set_option linter.unusedSimpArgs false
set_option maxRecDepth 100000
open Go.RowKit Fg Reg
attribute [local irreducible] Reg.wE

/-- The byte at a place; 0 behind the end. -/
def byt (S : ByteArray) (j : Nat) : Int := ((S.data[j]?.getD 0).toNat : Int)
theorem byt_bd (S : ByteArray) (j : Nat) : 0 ≤ byt S j ∧ byt S j ≤ 255 := by
  unfold byt
  have := (S.data[j]?.getD 0).toNat_lt
  omega
theorem byt_out (S : ByteArray) (j : Nat) (h : S.size ≤ j) : byt S j = 0 := by
  unfold byt
  rw [Array.getElem?_eq_none (show S.data.size ≤ j from h)]
  rfl
theorem byt_app (A B : ByteArray) (j : Nat) : byt (A ++ B) j = if j < A.size then byt A j else byt B (j - A.size) := by
  unfold byt
  rw [ByteArray.data_append, Array.getElem?_append]
  by_cases h : j < A.size
  · rw [if_pos (show j < A.data.size from h), if_pos h]
  · rw [if_neg (show ¬ j < A.data.size from h), if_neg h]; rfl
theorem byt_ext (S : ByteArray) (o e j : Nat) (h : e ≤ S.size) (hj : o + j < e) : byt (S.extract o e) j = byt S (o + j) := by
  unfold byt
  rw [ByteArray.data_extract, Array.getElem?_extract]
  have h' : e ≤ S.data.size := h
  rw [if_pos (by omega)]
theorem ext_size (S : ByteArray) (o e : Nat) (h : e ≤ S.size) : (S.extract o e).size = e - o := by
  rw [ByteArray.size_extract]; omega
theorem app_size (A B : ByteArray) : (A ++ B).size = A.size + B.size := by
  show (A ++ B).data.size = _
  rw [ByteArray.data_append, Array.size_append]; rfl
theorem byt_strOf (ns : List Int) (j : Nat) (h : ∀ x ∈ ns, 0 ≤ x ∧ x ≤ 255) : byt (strOf ns) j = ns.getD j 0 := by
  unfold byt
  rw [strOf_eq]
  simp only [List.getElem?_toArray, List.getElem?_map, List.getD]
  cases hj : ns[j]? with
  | none => rfl
  | some x =>
    have := h x (List.mem_of_getElem? hj)
    show (((UInt8.ofNat x.toNat).toNat : Nat) : Int) = x
    rw [UInt8.toNat_ofNat']
    omega
theorem bytes_same (A B : ByteArray) (hs : A.size = B.size) (h : ∀ j, j < A.size → byt A j = byt B j) : A = B := by
  apply ByteArray.ext
  apply Array.ext
  · exact hs
  · intro i h1 h2
    have := h i h1
    unfold byt at this
    rw [Array.getElem?_eq_getElem h1, Array.getElem?_eq_getElem h2] at this
    simp only [Option.getD_some] at this
    exact UInt8.toNat_inj.1 (by omega)

/-- Words of two bytes, added. -/
def wsf (f : Nat → Int) : Nat → Int
  | 0 => 0
  | k + 1 => wsf f k + f (2 * k) * 256 + f (2 * k + 1)
theorem wsf_congr {f g : Nat → Int} (k : Nat) (h : ∀ j, j < 2 * k → f j = g j) : wsf f k = wsf g k := by
  induction k with
  | zero => rfl
  | succ k ih => unfold wsf; rw [ih (fun j hj => h j (by omega)), h (2 * k) (by omega), h (2 * k + 1) (by omega)]
theorem wsf_add (f : Nat → Int) (a k : Nat) : wsf f (a + k) = wsf f a + wsf (fun j => f (2 * a + j)) k := by
  induction k with
  | zero => simp [wsf]
  | succ k ih =>
    rw [← Nat.add_assoc]
    rw [show wsf f (a + k + 1) = wsf f (a + k) + f (2 * (a + k)) * 256 + f (2 * (a + k) + 1) from rfl, ih, show 2 * (a + k) = 2 * a + 2 * k by omega, Nat.add_assoc (2 * a) (2 * k) 1]
    rw [show wsf (fun j => f (2 * a + j)) (k + 1) = wsf (fun j => f (2 * a + j)) k + f (2 * a + 2 * k) * 256 + f (2 * a + (2 * k + 1)) from rfl]
    omega
theorem wsf_bd {f : Nat → Int} (hf : ∀ j, 0 ≤ f j ∧ f j ≤ 255) (k : Nat) : 0 ≤ wsf f k ∧ wsf f k ≤ 65535 * (k : Int) := by
  induction k with
  | zero => simp [wsf]
  | succ k ih =>
    have h1 := hf (2 * k)
    have h2 := hf (2 * k + 1)
    unfold wsf
    omega
theorem wsf_pos {f : Nat → Int} (hf : ∀ j, 0 ≤ f j ∧ f j ≤ 255) (k : Nat) (h0 : 1 ≤ f 0) : 0 < wsf f (k + 1) := by
  induction k with
  | zero => have := hf 1; simp [wsf]; omega
  | succ k ih =>
    have h1 := hf (2 * (k + 1))
    have h2 := hf (2 * (k + 1) + 1)
    unfold wsf
    omega
/-- What goes beyond 16 bits, added at the lower end, as often as there is something. -/
def fl (n : Int) : Int := if n = 0 then 0 else (n - 1) % 65535 + 1
theorem fl_small {n : Int} (h : 0 ≤ n ∧ n ≤ 65535) : fl n = n := by
  unfold fl; split <;> omega
theorem fl_step {n : Int} (h : 65536 ≤ n) : fl (n % 65536 + n / 65536) = fl n := by
  unfold fl; rw [if_neg (by omega), if_neg (by omega)]; omega
theorem fl_bd {n : Int} (h : 0 ≤ n) : 0 ≤ fl n ∧ fl n ≤ 65535 := by
  unfold fl; split <;> omega
theorem fl_add {a b : Int} (ha : 0 ≤ a) (hb : 0 ≤ b) : fl (a + b) = fl (fl a + fl b) := by
  unfold fl
  by_cases h1 : a = 0 <;> by_cases h2 : b = 0
  · subst h1 h2; rfl
  · subst h1; rw [if_pos rfl, if_neg h2, if_neg (by omega), if_neg (by omega)]; omega
  · subst h2; rw [if_neg h1, if_pos rfl, if_neg (by omega), if_neg (by omega)]; omega
  · rw [if_neg h1, if_neg h2, if_neg (by omega), if_neg (by omega)]; omega
theorem fl_ne {a b : Int} (ha : 0 < a) (hb : 0 < b) (h : a ≠ b) (h1 : a - b < 65535) (h2 : b - a < 65535) : fl a ≠ fl b := by
  unfold fl; rw [if_neg (by omega), if_neg (by omega)]; omega
theorem fl_less {n : Int} (h : 65536 ≤ n) : 0 ≤ n % 65536 + n / 65536 ∧ n % 65536 + n / 65536 < n := by omega
/-- The reference's sum, byte by byte. -/
def rsf (f : Nat → Int) : Nat → Int
  | 0 => 0
  | i + 1 => rsf f i + (if i % 2 = 0 then 256 else 1) * f i
theorem rsf_even (f : Nat → Int) (k : Nat) : rsf f (2 * k) = wsf f k := by
  induction k with
  | zero => rfl
  | succ k ih =>
    rw [show 2 * (k + 1) = 2 * k + 1 + 1 by omega]
    unfold rsf
    unfold rsf
    rw [ih, if_pos (by omega), if_neg (by omega)]
    rw [show wsf f (k + 1) = wsf f k + f (2 * k) * 256 + f (2 * k + 1) from rfl]
    omega
theorem rsf_all (f : Nat → Int) (n : Nat) (h : ∀ j, n ≤ j → f j = 0) : rsf f n = wsf f ((n + 1) / 2) := by
  rcases Nat.mod_two_eq_zero_or_one n with h0 | h0
  · rw [show (n + 1) / 2 = n / 2 by omega, ← rsf_even, show 2 * (n / 2) = n by omega]
  · rw [← rsf_even, show 2 * ((n + 1) / 2) = n + 1 by omega]
    have := h n (Nat.le_refl _)
    show _ = rsf f n + _ * f n
    rw [this]; omega
theorem rsf_bd {f : Nat → Int} (hf : ∀ j, 0 ≤ f j ∧ f j ≤ 255) (k : Nat) : 0 ≤ rsf f k ∧ rsf f k ≤ 65280 * (k : Int) := by
  induction k with
  | zero => simp [rsf]
  | succ k ih =>
    have h1 := hf k
    unfold rsf
    split <;> omega
/-- The sum of a text's bytes. -/
def sumb (S : ByteArray) : Int := fl (wsf (byt S) ((S.size + 1) / 2))
theorem sumb_bd (S : ByteArray) : 0 ≤ sumb S ∧ sumb S ≤ 65535 := fl_bd (wsf_bd (byt_bd S) _).1
/-- How far a number may be behind so many rounds of carrying. -/
def far (k : Nat) : Int := if k = 0 then 13107200000 else if k = 1 then 265535 else if k = 2 then 65539 else 65535
theorem far_step {n : Int} {k : Nat} (h : n ≤ far k) (h1 : 65536 ≤ n) : n % 65536 + n / 65536 ≤ far (k + 1) := by
  unfold far at *
  rcases k with _ | _ | _ | k <;> simp at h ⊢ <;> omega
theorem sumb_app (A B : ByteArray) (h : A.size % 2 = 0) : sumb (A ++ B) = fl (sumb A + sumb B) := by
  unfold sumb
  rw [← fl_add (wsf_bd (byt_bd A) _).1 (wsf_bd (byt_bd B) _).1, app_size]
  congr 1
  rw [show (A.size + B.size + 1) / 2 = (A.size + 1) / 2 + (B.size + 1) / 2 by omega, wsf_add]
  congr 1
  · exact wsf_congr _ fun j hj => by rw [byt_app, if_pos (by omega)]
  · exact wsf_congr _ fun j hj => by rw [byt_app, if_neg (by omega)]; congr 1; omega
theorem sumb_two (n m : Int) (hn : 0 ≤ n ∧ n ≤ 65535) (hm : 0 ≤ m ∧ m ≤ 65535) : sumb (strOf [n / 256, n % 256, m / 256, m % 256]) = fl (n + m) := by
  unfold sumb
  have hb : ∀ x ∈ [n / 256, n % 256, m / 256, m % 256], 0 ≤ x ∧ x ≤ 255 := fun x hx => by
    simp at hx
    rcases hx with rfl | rfl | rfl | rfl <;> omega
  rw [strOf_size, show ([n / 256, n % 256, m / 256, m % 256].length + 1) / 2 = 2 by simp]
  congr 1
  unfold wsf
  unfold wsf
  unfold wsf
  rw [byt_strOf _ _ hb, byt_strOf _ _ hb, byt_strOf _ _ hb, byt_strOf _ _ hb]
  simp
  omega
end Go.Proofs.Ytnfhiagbbmaobaa
