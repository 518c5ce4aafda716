import Derived.Test.YtldkgnfplldnaaaRef2
namespace Go.Proofs.Ytldkgnfplldnaaa
set_option linter.unusedVariables false
set_option linter.unusedSimpArgs false
open Go.RowKit Fg Reg

theorem refplus_d (x y : Int) (hx : Wd x) (hy : Wd y) (w : World) : Calls Try.prog 28 #[.agg #[.int .u64 (d0 x), .int .u64 (d1 x), .int .u64 (d2 x), .int .u64 (d3 x)], .agg #[.int .u64 (d0 y), .int .u64 (d1 y), .int .u64 (d2 y), .int .u64 (d3 y)]] w fun e w' => e = .returned (.agg #[.int .u64 (d0 (x + y)), .int .u64 (d1 (x + y)), .int .u64 (d2 (x + y)), .int .u64 (d3 (x + y))]) ∧ Below w.heap.size w w' := by
  have h := refplus_c (d0 x) (d1 x) (d2 x) (d3 x) (d0 y) (d1 y) (d2 y) (d3 y) (d0_in x) (d1_in x) (d2_in x) (d3_in x) (d0_in y) (d1_in y) (d2_in y) (d3_in y) w
  rwa [num4_wd hx, num4_wd hy] at h
theorem refless_d (x y : Int) (hx : Wd x) (hy : Wd y) (w : World) : Calls Try.prog 26 #[.agg #[.int .u64 (d0 x), .int .u64 (d1 x), .int .u64 (d2 x), .int .u64 (d3 x)], .agg #[.int .u64 (d0 y), .int .u64 (d1 y), .int .u64 (d2 y), .int .u64 (d3 y)]] w fun e w' => e = .returned (.bool (decide (x < y))) ∧ Below w.heap.size w w' := by
  have h := refless_c (d0 x) (d1 x) (d2 x) (d3 x) (d0 y) (d1 y) (d2 y) (d3 y) (d0_in x) (d1_in x) (d2_in x) (d3_in x) (d0_in y) (d1_in y) (d2_in y) (d3_in y) w
  rwa [num4_wd hx, num4_wd hy] at h
theorem refadd_d (x y : Int) (hx : Wd x) (hy : Wd y) (w : World) : Calls Try.prog 10 #[.agg #[.int .u64 (d0 x), .int .u64 (d1 x), .int .u64 (d2 x), .int .u64 (d3 x)], .agg #[.int .u64 (d0 y), .int .u64 (d1 y), .int .u64 (d2 y), .int .u64 (d3 y)]] w fun e w' => e = .returned (.tuple #[.agg #[.int .u64 (d0 (x + y)), .int .u64 (d1 (x + y)), .int .u64 (d2 (x + y)), .int .u64 (d3 (x + y))], .int .u64 ((x + y) / 340282366920938463463374607431768211456)]) ∧ Below w.heap.size w w' := by
  have h := refadd_c (d0 x) (d1 x) (d2 x) (d3 x) (d0 y) (d1 y) (d2 y) (d3 y) (d0_in x) (d1_in x) (d2_in x) (d3_in x) (d0_in y) (d1_in y) (d2_in y) (d3_in y) w
  rwa [num4_wd hx, num4_wd hy] at h

end Go.Proofs.Ytldkgnfplldnaaa
