/- Contracts of package worlds: may a config be? -/
import Derived.Test.YtmdofhdjikapgaaWoMa
namespace Go.Proofs.Ytmdofhdjikapgaa
open Go.RowKit
set_option linter.unusedVariables false

theorem wmay_ok (b u t q y : Int) (w : World) (l0 : 1 ≤ b) (h0 : b ≤ 12) (l1 : 1 ≤ u) (h1 : u ≤ 65536) (l2 : 0 ≤ t) (h2 : t ≤ 16) (l3 : 1 ≤ q) (h3 : q ≤ 8) (l4 : 2 ≤ y) (h4 : y ≤ 256) : Calls Try.prog 15 #[.agg #[.int .i64 b, .int .i64 u, .int .i64 t, .int .i64 q, .int .i64 y]] w fun e w' => e = .returned (.bool true) ∧ Below w.heap.size w w' := by
  have i0 := cidx_0 b u t q y
  have i1 := cidx_1 b u t q y
  have i2 := cidx_2 b u t q y
  have i3 := cidx_3 b u t q y
  have i4 := cidx_4 b u t q y
  have a0 : decide (b < 1) = false := decide_eq_false (by omega)
  have c0 : decide (12 < b) = false := decide_eq_false (by omega)
  have a1 : decide (u < 1) = false := decide_eq_false (by omega)
  have c1 : decide (65536 < u) = false := decide_eq_false (by omega)
  have a2 : decide (t < 0) = false := decide_eq_false (by omega)
  have c2 : decide (16 < t) = false := decide_eq_false (by omega)
  have a3 : decide (q < 1) = false := decide_eq_false (by omega)
  have c3 : decide (8 < q) = false := decide_eq_false (by omega)
  have a4 : decide (y < 2) = false := decide_eq_false (by omega)
  have c4 : decide (256 < y) = false := decide_eq_false (by omega)
  go_enter Try.func15, Try.ntmps15
  go_wp2_with fail
  refine wp_loop_rounds 6 ?_
  rw [rounds_succ]
  go_wp2_with fail
  rw [rounds_succ]
  go_wp2_with fail
  rw [rounds_succ]
  go_wp2_with fail
  rw [rounds_succ]
  go_wp2_with fail
  rw [rounds_succ]
  go_wp2_with fail
  rw [rounds_succ]
  go_wp2_with fail
  go_ret
  exact ⟨rfl, (bpush (bpush (bpush (bpush (bpush (bpush (Below.refl _ _) _) _) _) _) _) _)⟩
end Go.Proofs.Ytmdofhdjikapgaa
