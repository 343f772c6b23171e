/- Contracts of package worlds: may a config be? -/
import Derived.Test.YtmdofhdjikapgaaChecked
import Derived.Test.YtmdofhdjikapgaaLib
import Derived.LoopN
import Derived.LoopTactic
namespace Go.Proofs.Ytmdofhdjikapgaa
open Go.RowKit
set_option linter.unusedVariables false

theorem bpush {w a : World} (h : Below w.heap.size w a) (o : Obj) : Below w.heap.size w (a.alloc o) := h.alloc h.size o
def mayc (b u t q y : Int) : Bool := decide (1 ≤ b ∧ b ≤ 12 ∧ 1 ≤ u ∧ u ≤ 65536 ∧ 0 ≤ t ∧ t ≤ 16 ∧ 1 ≤ q ∧ q ≤ 8 ∧ 2 ≤ y ∧ y ≤ 256)
theorem cidx_0 (b u t q y : Int) (w : World) : (Instr.index 119 (.agg #[.int .i64 b, .int .i64 1, .int .i64 12, .int .i64 u, .int .i64 1, .int .i64 65536, .int .i64 t, .int .i64 0, .int .i64 16, .int .i64 q, .int .i64 1, .int .i64 8, .int .i64 y, .int .i64 2, .int .i64 256]) (.int .i64 0)).run Try.prog w = .ok (.agg #[.int .i64 b, .int .i64 1, .int .i64 12]) w := by kernel_rfl
theorem cidx_1 (b u t q y : Int) (w : World) : (Instr.index 119 (.agg #[.int .i64 b, .int .i64 1, .int .i64 12, .int .i64 u, .int .i64 1, .int .i64 65536, .int .i64 t, .int .i64 0, .int .i64 16, .int .i64 q, .int .i64 1, .int .i64 8, .int .i64 y, .int .i64 2, .int .i64 256]) (.int .i64 1)).run Try.prog w = .ok (.agg #[.int .i64 u, .int .i64 1, .int .i64 65536]) w := by kernel_rfl
theorem cidx_2 (b u t q y : Int) (w : World) : (Instr.index 119 (.agg #[.int .i64 b, .int .i64 1, .int .i64 12, .int .i64 u, .int .i64 1, .int .i64 65536, .int .i64 t, .int .i64 0, .int .i64 16, .int .i64 q, .int .i64 1, .int .i64 8, .int .i64 y, .int .i64 2, .int .i64 256]) (.int .i64 2)).run Try.prog w = .ok (.agg #[.int .i64 t, .int .i64 0, .int .i64 16]) w := by kernel_rfl
theorem cidx_3 (b u t q y : Int) (w : World) : (Instr.index 119 (.agg #[.int .i64 b, .int .i64 1, .int .i64 12, .int .i64 u, .int .i64 1, .int .i64 65536, .int .i64 t, .int .i64 0, .int .i64 16, .int .i64 q, .int .i64 1, .int .i64 8, .int .i64 y, .int .i64 2, .int .i64 256]) (.int .i64 3)).run Try.prog w = .ok (.agg #[.int .i64 q, .int .i64 1, .int .i64 8]) w := by kernel_rfl
theorem cidx_4 (b u t q y : Int) (w : World) : (Instr.index 119 (.agg #[.int .i64 b, .int .i64 1, .int .i64 12, .int .i64 u, .int .i64 1, .int .i64 65536, .int .i64 t, .int .i64 0, .int .i64 16, .int .i64 q, .int .i64 1, .int .i64 8, .int .i64 y, .int .i64 2, .int .i64 256]) (.int .i64 4)).run Try.prog w = .ok (.agg #[.int .i64 y, .int .i64 2, .int .i64 256]) w := by kernel_rfl
end Go.Proofs.Ytmdofhdjikapgaa
