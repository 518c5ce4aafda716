import Derived.Test.YtjicnbdlffpbbaaMeet2
import Derived.Test.YtjicnbdlffpbbaaMeet3
import Derived.Test.YtjicnbdlffpbbaaLines1
namespace Go.Proofs.Ytjicnbdlffpbbaa
set_option linter.unusedVariables false
set_option linter.unusedSimpArgs false
set_option maxRecDepth 100000
open Go.RowKit Fg Reg

/-- Is the first of two lines the lower one, where both have begun? -/
def lw (Xa Ya Ma Xb Yb Mb : Int) : Bool := decide (lat Xa Ya Ma (if Xa < Xb then Xb else Xa) ≤ lat Xb Yb Mb (if Xa < Xb then Xb else Xa))
def sel (c : Bool) (x y : Int) : Int := if c = true then x else y
theorem llo_s (Xa Ya Ma Xb Yb Mb : Int) (ha : In Xa) (hya : Wd Ya) (hma : In Ma) (hb : In Xb) (hyb : Wd Yb) (hmb : In Mb) (c : Bool) (hc : lw Xa Ya Ma Xb Yb Mb = c) (w : World) :
    Calls Try.prog 74 #[.agg #[.int .u64 (Xa), .int .u64 (hi Ya), .int .u64 (lo Ya), .int .u64 (Ma)], .agg #[.int .u64 (Xb), .int .u64 (hi Yb), .int .u64 (lo Yb), .int .u64 (Mb)]] w fun ee w' => ee = .returned (.agg #[.int .u64 ((sel c Xa Xb)), .int .u64 (hi (sel c Ya Yb)), .int .u64 (lo (sel c Ya Yb)), .int .u64 ((sel c Ma Mb))]) ∧ Below w.heap.size w w' := by
  unfold lw at hc
  cases c
  · exact llo_r Xa Ya Ma Xb Yb Mb ha hya hma hb hyb hmb (by simpa using hc) w
  · exact llo_l Xa Ya Ma Xb Yb Mb ha hya hma hb hyb hmb (by simpa using hc) w
/-- The meeting of two runs, of whichever kind. -/
theorem mee_c (b b' : Bool) (X1 Y1 M1 X2 Y2 M2 U1 V1 N1 U2 V2 N2 : Int) (i1 : In X1) (j1 : Wd Y1) (l1 : In M1) (i2 : In X2) (j2 : Wd Y2) (l2 : In M2) (p1 : In U1) (q1 : Wd V1) (r1 : In N1) (p2 : In U2) (q2 : Wd V2) (r2 : In N2) (c1 c2 : Bool) (h1 : lw X1 Y1 M1 U1 V1 N1 = c1) (h2 : lw X2 Y2 M2 U2 V2 N2 = c2) (w : World) :
    Calls Try.prog 21 #[.agg #[.int .u64 (X1), .int .u64 (hi Y1), .int .u64 (lo Y1), .int .u64 (M1), .int .u64 (X2), .int .u64 (hi Y2), .int .u64 (lo Y2), .int .u64 (M2), .bool b], .agg #[.int .u64 (U1), .int .u64 (hi V1), .int .u64 (lo V1), .int .u64 (N1), .int .u64 (U2), .int .u64 (hi V2), .int .u64 (lo V2), .int .u64 (N2), .bool b']] w fun ee w' => ee = .returned (.agg #[.int .u64 (sel b (sel c1 X1 U1) 0), .int .u64 (sel b (hi (sel c1 Y1 V1)) 0), .int .u64 (sel b (lo (sel c1 Y1 V1)) 0), .int .u64 (sel b (sel c1 M1 N1) 0), .int .u64 (sel c2 X2 U2), .int .u64 (hi (sel c2 Y2 V2)), .int .u64 (lo (sel c2 Y2 V2)), .int .u64 (sel c2 M2 N2), .bool b]) ∧ Below w.heap.size w w' := by
  have k4 := llo_s X2 Y2 M2 U2 V2 N2 i2 j2 l2 p2 q2 r2 c2 h2
  have k5 := llo_s X1 Y1 M1 U1 V1 N1 i1 j1 l1 p1 q1 r1 c1 h1
  cases b
  · exact meet_one _ _ _ _ _ _ _ _ _ _ _ _ _ _ _ _ false b' _ _ _ _ _ _ _ _ rfl (both_c _ _ _ _ _ _ _ _ _) (both_c _ _ _ _ _ _ _ _ _) (cnt_1 _ _ _ _ _ _ _ _) k4 k5 w
  · exact meet_two _ _ _ _ _ _ _ _ _ _ _ _ _ _ _ _ true b' _ _ _ _ _ _ _ _ rfl (both_c _ _ _ _ _ _ _ _ _) (both_c _ _ _ _ _ _ _ _ _) (cnt_2 _ _ _ _ _ _ _ _) k4 k5 w
end Go.Proofs.Ytjicnbdlffpbbaa
