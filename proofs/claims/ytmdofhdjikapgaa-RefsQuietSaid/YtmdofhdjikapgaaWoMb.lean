/- Contracts of package worlds: may a config be? -/
import Derived.Test.YtmdofhdjikapgaaWoMa
namespace Go.Proofs.Ytmdofhdjikapgaa
open Go.RowKit
set_option linter.unusedVariables false

theorem wmay_0lo (b u t q y : Int) (w : World) (f : b < 1) : Calls Try.prog 15 #[.agg #[.int .i64 b, .int .i64 u, .int .i64 t, .int .i64 q, .int .i64 y]] w fun e w' => e = .returned (.bool false) ∧ Below w.heap.size w w' := by
  have i0 := cidx_0 b u t q y
  have a0 : decide (b < 1) = true := decide_eq_true f
  go_enter Try.func15, Try.ntmps15
  go_wp2_with fail
  refine wp_loop_rounds 6 ?_
  rw [rounds_succ]
  go_wp2_with fail
  go_ret
  exact ⟨rfl, (bpush (bpush (Below.refl _ _) _) _)⟩
theorem wmay_0hi (b u t q y : Int) (w : World) (f0 : 1 ≤ b) (f : 12 < b) : Calls Try.prog 15 #[.agg #[.int .i64 b, .int .i64 u, .int .i64 t, .int .i64 q, .int .i64 y]] w fun e w' => e = .returned (.bool false) ∧ Below w.heap.size w w' := by
  have i0 := cidx_0 b u t q y
  have a0 : decide (b < 1) = false := decide_eq_false (by omega)
  have c0 : decide (12 < b) = true := decide_eq_true f
  go_enter Try.func15, Try.ntmps15
  go_wp2_with fail
  refine wp_loop_rounds 6 ?_
  rw [rounds_succ]
  go_wp2_with fail
  go_ret
  exact ⟨rfl, (bpush (bpush (Below.refl _ _) _) _)⟩
theorem wmay_1lo (b u t q y : Int) (w : World) (l0 : 1 ≤ b) (h0 : b ≤ 12) (f : u < 1) : Calls Try.prog 15 #[.agg #[.int .i64 b, .int .i64 u, .int .i64 t, .int .i64 q, .int .i64 y]] w fun e w' => e = .returned (.bool false) ∧ Below w.heap.size w w' := by
  have i0 := cidx_0 b u t q y
  have i1 := cidx_1 b u t q y
  have a0 : decide (b < 1) = false := decide_eq_false (by omega)
  have c0 : decide (12 < b) = false := decide_eq_false (by omega)
  have a1 : decide (u < 1) = true := decide_eq_true f
  go_enter Try.func15, Try.ntmps15
  go_wp2_with fail
  refine wp_loop_rounds 6 ?_
  rw [rounds_succ]
  go_wp2_with fail
  rw [rounds_succ]
  go_wp2_with fail
  go_ret
  exact ⟨rfl, (bpush (bpush (bpush (Below.refl _ _) _) _) _)⟩
theorem wmay_1hi (b u t q y : Int) (w : World) (l0 : 1 ≤ b) (h0 : b ≤ 12) (f0 : 1 ≤ u) (f : 65536 < u) : Calls Try.prog 15 #[.agg #[.int .i64 b, .int .i64 u, .int .i64 t, .int .i64 q, .int .i64 y]] w fun e w' => e = .returned (.bool false) ∧ Below w.heap.size w w' := by
  have i0 := cidx_0 b u t q y
  have i1 := cidx_1 b u t q y
  have a0 : decide (b < 1) = false := decide_eq_false (by omega)
  have c0 : decide (12 < b) = false := decide_eq_false (by omega)
  have a1 : decide (u < 1) = false := decide_eq_false (by omega)
  have c1 : decide (65536 < u) = true := decide_eq_true f
  go_enter Try.func15, Try.ntmps15
  go_wp2_with fail
  refine wp_loop_rounds 6 ?_
  rw [rounds_succ]
  go_wp2_with fail
  rw [rounds_succ]
  go_wp2_with fail
  go_ret
  exact ⟨rfl, (bpush (bpush (bpush (Below.refl _ _) _) _) _)⟩
theorem wmay_2lo (b u t q y : Int) (w : World) (l0 : 1 ≤ b) (h0 : b ≤ 12) (l1 : 1 ≤ u) (h1 : u ≤ 65536) (f : t < 0) : Calls Try.prog 15 #[.agg #[.int .i64 b, .int .i64 u, .int .i64 t, .int .i64 q, .int .i64 y]] w fun e w' => e = .returned (.bool false) ∧ Below w.heap.size w w' := by
  have i0 := cidx_0 b u t q y
  have i1 := cidx_1 b u t q y
  have i2 := cidx_2 b u t q y
  have a0 : decide (b < 1) = false := decide_eq_false (by omega)
  have c0 : decide (12 < b) = false := decide_eq_false (by omega)
  have a1 : decide (u < 1) = false := decide_eq_false (by omega)
  have c1 : decide (65536 < u) = false := decide_eq_false (by omega)
  have a2 : decide (t < 0) = true := decide_eq_true f
  go_enter Try.func15, Try.ntmps15
  go_wp2_with fail
  refine wp_loop_rounds 6 ?_
  rw [rounds_succ]
  go_wp2_with fail
  rw [rounds_succ]
  go_wp2_with fail
  rw [rounds_succ]
  go_wp2_with fail
  go_ret
  exact ⟨rfl, (bpush (bpush (bpush (bpush (Below.refl _ _) _) _) _) _)⟩
theorem wmay_2hi (b u t q y : Int) (w : World) (l0 : 1 ≤ b) (h0 : b ≤ 12) (l1 : 1 ≤ u) (h1 : u ≤ 65536) (f0 : 0 ≤ t) (f : 16 < t) : Calls Try.prog 15 #[.agg #[.int .i64 b, .int .i64 u, .int .i64 t, .int .i64 q, .int .i64 y]] w fun e w' => e = .returned (.bool false) ∧ Below w.heap.size w w' := by
  have i0 := cidx_0 b u t q y
  have i1 := cidx_1 b u t q y
  have i2 := cidx_2 b u t q y
  have a0 : decide (b < 1) = false := decide_eq_false (by omega)
  have c0 : decide (12 < b) = false := decide_eq_false (by omega)
  have a1 : decide (u < 1) = false := decide_eq_false (by omega)
  have c1 : decide (65536 < u) = false := decide_eq_false (by omega)
  have a2 : decide (t < 0) = false := decide_eq_false (by omega)
  have c2 : decide (16 < t) = true := decide_eq_true f
  go_enter Try.func15, Try.ntmps15
  go_wp2_with fail
  refine wp_loop_rounds 6 ?_
  rw [rounds_succ]
  go_wp2_with fail
  rw [rounds_succ]
  go_wp2_with fail
  rw [rounds_succ]
  go_wp2_with fail
  go_ret
  exact ⟨rfl, (bpush (bpush (bpush (bpush (Below.refl _ _) _) _) _) _)⟩
end Go.Proofs.Ytmdofhdjikapgaa
