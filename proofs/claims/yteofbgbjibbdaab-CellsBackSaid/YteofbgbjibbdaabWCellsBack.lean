/- The law CellsBack. -/
import Derived.Test.YteofbgbjibbdaabClBack
import Derived.Test.YteofbgbjibbdaabClSort
namespace Go.Proofs.Yteofbgbjibbdaab
open Go.RowKit
set_option linter.unusedVariables false
theorem walk_CellsBack (a0 : Int) (a1_0 : Int) (a1_1 : Int) (a1_2 : Int) (w : World) (w0 : (Lit.int .u64 a0).wf = true) (w1_0 : (Lit.int .u64 a1_0).wf = true) (w1_1 : (Lit.int .u64 a1_1).wf = true) (w1_2 : (Lit.int .u64 a1_2).wf = true) :
    Calls Try.prog 5 #[.int .u64 a0, .agg #[.int .u64 a1_0, .int .u64 a1_1, .int .u64 a1_2]] w fun e w' => e = .returned (.bool true) ∧ Below w.heap.size w w' :=
  back_CellsBack sort_none a0 a1_0 a1_1 a1_2 w w0 w1_0 w1_1 w1_2
end Go.Proofs.Yteofbgbjibbdaab
