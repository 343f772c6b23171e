/- Contracts of package worlds: may a config be? -/
import Derived.Test.YtmdofhdjikapgaaWoMb
import Derived.Test.YtmdofhdjikapgaaWoMc
import Derived.Test.YtmdofhdjikapgaaWoMd
import Derived.Test.YtmdofhdjikapgaaWoMe
namespace Go.Proofs.Ytmdofhdjikapgaa
open Go.RowKit
set_option linter.unusedVariables false

theorem wmay (b u t q y : Int) (w : World) : Calls Try.prog 15 #[.agg #[.int .i64 b, .int .i64 u, .int .i64 t, .int .i64 q, .int .i64 y]] w fun e w' => e = .returned (.bool (mayc b u t q y)) ∧ Below w.heap.size w w' := by
  have no : ¬ (1 ≤ b ∧ b ≤ 12 ∧ 1 ≤ u ∧ u ≤ 65536 ∧ 0 ≤ t ∧ t ≤ 16 ∧ 1 ≤ q ∧ q ≤ 8 ∧ 2 ≤ y ∧ y ≤ 256) → mayc b u t q y = false := fun h => decide_eq_false h
  by_cases c0 : b < 1
  · rw [no (by omega)]; exact wmay_0lo b u t q y w  c0
  by_cases d0 : 12 < b
  · rw [no (by omega)]; exact wmay_0hi b u t q y w  (by omega) d0
  by_cases c1 : u < 1
  · rw [no (by omega)]; exact wmay_1lo b u t q y w (by omega) (by omega) c1
  by_cases d1 : 65536 < u
  · rw [no (by omega)]; exact wmay_1hi b u t q y w (by omega) (by omega) (by omega) d1
  by_cases c2 : t < 0
  · rw [no (by omega)]; exact wmay_2lo b u t q y w (by omega) (by omega) (by omega) (by omega) c2
  by_cases d2 : 16 < t
  · rw [no (by omega)]; exact wmay_2hi b u t q y w (by omega) (by omega) (by omega) (by omega) (by omega) d2
  by_cases c3 : q < 1
  · rw [no (by omega)]; exact wmay_3lo b u t q y w (by omega) (by omega) (by omega) (by omega) (by omega) (by omega) c3
  by_cases d3 : 8 < q
  · rw [no (by omega)]; exact wmay_3hi b u t q y w (by omega) (by omega) (by omega) (by omega) (by omega) (by omega) (by omega) d3
  by_cases c4 : y < 2
  · rw [no (by omega)]; exact wmay_4lo b u t q y w (by omega) (by omega) (by omega) (by omega) (by omega) (by omega) (by omega) (by omega) c4
  by_cases d4 : 256 < y
  · rw [no (by omega)]; exact wmay_4hi b u t q y w (by omega) (by omega) (by omega) (by omega) (by omega) (by omega) (by omega) (by omega) (by omega) d4
  have yes : mayc b u t q y = true := decide_eq_true (by omega)
  rw [yes]
  exact wmay_ok b u t q y w (by omega) (by omega) (by omega) (by omega) (by omega) (by omega) (by omega) (by omega) (by omega) (by omega)
end Go.Proofs.Ytmdofhdjikapgaa
