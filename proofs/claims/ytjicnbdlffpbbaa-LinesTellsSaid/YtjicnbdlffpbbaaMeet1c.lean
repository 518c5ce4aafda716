import Derived.Test.YtjicnbdlffpbbaaMeet1b
namespace Go.Proofs.Ytjicnbdlffpbbaa
set_option linter.unusedVariables false
set_option linter.unusedSimpArgs false
set_option maxRecDepth 100000
open Go.RowKit Fg Reg

set_option maxHeartbeats 1000000 in
theorem store8_run (ev : Operand → Value) (o : Oper) (p q : Operand) (x : Nat) (n : World) (z0 z1 z2 z3 z4 z5 z6 z7 a b c d e f g h : Int) (ho : o.op = .store 123 p q) (hp : ev p = .pointer (some ⟨x, 0, none⟩)) (hq : ev q = .agg #[.int .u64 a, .int .u64 b, .int .u64 c, .int .u64 d, .int .u64 e, .int .u64 f, .int .u64 g, .int .u64 h])
    (hz : (n.cell? ⟨x, 0, none⟩ = some (.int .u64 (z0)) ∧ n.cell? ⟨x, 1, none⟩ = some (.int .u64 (z1)) ∧ n.cell? ⟨x, 2, none⟩ = some (.int .u64 (z2)) ∧ n.cell? ⟨x, 3, none⟩ = some (.int .u64 (z3)) ∧ n.cell? ⟨x, 4, none⟩ = some (.int .u64 (z4)) ∧ n.cell? ⟨x, 5, none⟩ = some (.int .u64 (z5)) ∧ n.cell? ⟨x, 6, none⟩ = some (.int .u64 (z6)) ∧ n.cell? ⟨x, 7, none⟩ = some (.int .u64 (z7)) ∧ x < n.heap.size) ∧ (n.frozen? ⟨x, 0, none⟩ = false ∧ n.frozen? ⟨x, 1, none⟩ = false ∧ n.frozen? ⟨x, 2, none⟩ = false ∧ n.frozen? ⟨x, 3, none⟩ = false ∧ n.frozen? ⟨x, 4, none⟩ = false ∧ n.frozen? ⟨x, 5, none⟩ = false ∧ n.frozen? ⟨x, 6, none⟩ = false ∧ n.frozen? ⟨x, 7, none⟩ = false)) : (execOp ev o).run Try.prog n = .ok .skip ((((((((n.setCell ⟨x, 0, none⟩ (.int .u64 a)).setCell ⟨x, 1, none⟩ (.int .u64 b)).setCell ⟨x, 2, none⟩ (.int .u64 c)).setCell ⟨x, 3, none⟩ (.int .u64 d)).setCell ⟨x, 4, none⟩ (.int .u64 e)).setCell ⟨x, 5, none⟩ (.int .u64 f)).setCell ⟨x, 6, none⟩ (.int .u64 g)).setCell ⟨x, 7, none⟩ (.int .u64 h)) := by
  go_split_ands
  unfold execOp
  simp only [ho, hp, hq]
  simp [go_sem, *]
end Go.Proofs.Ytjicnbdlffpbbaa
