/- Contracts of package worlds: may a config be? -/
import Derived.Test.YteoeelhljimibaaChecked
import Derived.Test.YteoeelhljimibaaLib
import Derived.LoopN
import Derived.LoopTactic
namespace Go.Proofs.Yteoeelhljimibaa
open Go.RowKit
set_option linter.unusedVariables false

theorem bpush {w a : World} (h : Below w.heap.size w a) (o : Obj) : Below w.heap.size w (a.alloc o) := h.alloc h.size o
def mayc (b u t q y : Int) : Bool := decide (1 ≤ b ∧ b ≤ 12 ∧ 1 ≤ u ∧ u ≤ 65536 ∧ 0 ≤ t ∧ t ≤ 16 ∧ 1 ≤ q ∧ q ≤ 8 ∧ 2 ≤ y ∧ y ≤ 256)
theorem cidx_0 (b u t q y : Int) (w : World) : (Instr.index 69 (.agg #[.int .i64 b, .int .i64 1, .int .i64 12, .int .i64 u, .int .i64 1, .int .i64 65536, .int .i64 t, .int .i64 0, .int .i64 16, .int .i64 q, .int .i64 1, .int .i64 8, .int .i64 y, .int .i64 2, .int .i64 256]) (.int .i64 0)).run Try.prog w = .ok (.agg #[.int .i64 b, .int .i64 1, .int .i64 12]) w := by kernel_rfl
theorem cidx_1 (b u t q y : Int) (w : World) : (Instr.index 69 (.agg #[.int .i64 b, .int .i64 1, .int .i64 12, .int .i64 u, .int .i64 1, .int .i64 65536, .int .i64 t, .int .i64 0, .int .i64 16, .int .i64 q, .int .i64 1, .int .i64 8, .int .i64 y, .int .i64 2, .int .i64 256]) (.int .i64 1)).run Try.prog w = .ok (.agg #[.int .i64 u, .int .i64 1, .int .i64 65536]) w := by kernel_rfl
theorem cidx_2 (b u t q y : Int) (w : World) : (Instr.index 69 (.agg #[.int .i64 b, .int .i64 1, .int .i64 12, .int .i64 u, .int .i64 1, .int .i64 65536, .int .i64 t, .int .i64 0, .int .i64 16, .int .i64 q, .int .i64 1, .int .i64 8, .int .i64 y, .int .i64 2, .int .i64 256]) (.int .i64 2)).run Try.prog w = .ok (.agg #[.int .i64 t, .int .i64 0, .int .i64 16]) w := by kernel_rfl
theorem cidx_3 (b u t q y : Int) (w : World) : (Instr.index 69 (.agg #[.int .i64 b, .int .i64 1, .int .i64 12, .int .i64 u, .int .i64 1, .int .i64 65536, .int .i64 t, .int .i64 0, .int .i64 16, .int .i64 q, .int .i64 1, .int .i64 8, .int .i64 y, .int .i64 2, .int .i64 256]) (.int .i64 3)).run Try.prog w = .ok (.agg #[.int .i64 q, .int .i64 1, .int .i64 8]) w := by kernel_rfl
theorem cidx_4 (b u t q y : Int) (w : World) : (Instr.index 69 (.agg #[.int .i64 b, .int .i64 1, .int .i64 12, .int .i64 u, .int .i64 1, .int .i64 65536, .int .i64 t, .int .i64 0, .int .i64 16, .int .i64 q, .int .i64 1, .int .i64 8, .int .i64 y, .int .i64 2, .int .i64 256]) (.int .i64 4)).run Try.prog w = .ok (.agg #[.int .i64 y, .int .i64 2, .int .i64 256]) w := by kernel_rfl
end Go.Proofs.Yteoeelhljimibaa
/- Next: Contracts of package worlds: may a config be? -/
namespace Go.Proofs.Yteoeelhljimibaa
open Go.RowKit
set_option linter.unusedVariables false

theorem wmay_0lo (b u t q y : Int) (w : World) (f : b < 1) : Calls Try.prog 21 #[.agg #[.int .i64 b, .int .i64 u, .int .i64 t, .int .i64 q, .int .i64 y]] w fun e w' => e = .returned (.bool false) ∧ Below w.heap.size w w' := by
  have i0 := cidx_0 b u t q y
  have a0 : decide (b < 1) = true := decide_eq_true f
  go_enter Try.func21, Try.ntmps21
  go_wp2_with fail
  refine wp_loop_rounds 6 ?_
  rw [rounds_succ]
  go_wp2_with fail
  go_ret
  exact ⟨rfl, (bpush (bpush (Below.refl _ _) _) _)⟩
theorem wmay_0hi (b u t q y : Int) (w : World) (f0 : 1 ≤ b) (f : 12 < b) : Calls Try.prog 21 #[.agg #[.int .i64 b, .int .i64 u, .int .i64 t, .int .i64 q, .int .i64 y]] w fun e w' => e = .returned (.bool false) ∧ Below w.heap.size w w' := by
  have i0 := cidx_0 b u t q y
  have a0 : decide (b < 1) = false := decide_eq_false (by omega)
  have c0 : decide (12 < b) = true := decide_eq_true f
  go_enter Try.func21, Try.ntmps21
  go_wp2_with fail
  refine wp_loop_rounds 6 ?_
  rw [rounds_succ]
  go_wp2_with fail
  go_ret
  exact ⟨rfl, (bpush (bpush (Below.refl _ _) _) _)⟩
theorem wmay_1lo (b u t q y : Int) (w : World) (l0 : 1 ≤ b) (h0 : b ≤ 12) (f : u < 1) : Calls Try.prog 21 #[.agg #[.int .i64 b, .int .i64 u, .int .i64 t, .int .i64 q, .int .i64 y]] w fun e w' => e = .returned (.bool false) ∧ Below w.heap.size w w' := by
  have i0 := cidx_0 b u t q y
  have i1 := cidx_1 b u t q y
  have a0 : decide (b < 1) = false := decide_eq_false (by omega)
  have c0 : decide (12 < b) = false := decide_eq_false (by omega)
  have a1 : decide (u < 1) = true := decide_eq_true f
  go_enter Try.func21, Try.ntmps21
  go_wp2_with fail
  refine wp_loop_rounds 6 ?_
  rw [rounds_succ]
  go_wp2_with fail
  rw [rounds_succ]
  go_wp2_with fail
  go_ret
  exact ⟨rfl, (bpush (bpush (bpush (Below.refl _ _) _) _) _)⟩
theorem wmay_1hi (b u t q y : Int) (w : World) (l0 : 1 ≤ b) (h0 : b ≤ 12) (f0 : 1 ≤ u) (f : 65536 < u) : Calls Try.prog 21 #[.agg #[.int .i64 b, .int .i64 u, .int .i64 t, .int .i64 q, .int .i64 y]] w fun e w' => e = .returned (.bool false) ∧ Below w.heap.size w w' := by
  have i0 := cidx_0 b u t q y
  have i1 := cidx_1 b u t q y
  have a0 : decide (b < 1) = false := decide_eq_false (by omega)
  have c0 : decide (12 < b) = false := decide_eq_false (by omega)
  have a1 : decide (u < 1) = false := decide_eq_false (by omega)
  have c1 : decide (65536 < u) = true := decide_eq_true f
  go_enter Try.func21, Try.ntmps21
  go_wp2_with fail
  refine wp_loop_rounds 6 ?_
  rw [rounds_succ]
  go_wp2_with fail
  rw [rounds_succ]
  go_wp2_with fail
  go_ret
  exact ⟨rfl, (bpush (bpush (bpush (Below.refl _ _) _) _) _)⟩
theorem wmay_2lo (b u t q y : Int) (w : World) (l0 : 1 ≤ b) (h0 : b ≤ 12) (l1 : 1 ≤ u) (h1 : u ≤ 65536) (f : t < 0) : Calls Try.prog 21 #[.agg #[.int .i64 b, .int .i64 u, .int .i64 t, .int .i64 q, .int .i64 y]] w fun e w' => e = .returned (.bool false) ∧ Below w.heap.size w w' := by
  have i0 := cidx_0 b u t q y
  have i1 := cidx_1 b u t q y
  have i2 := cidx_2 b u t q y
  have a0 : decide (b < 1) = false := decide_eq_false (by omega)
  have c0 : decide (12 < b) = false := decide_eq_false (by omega)
  have a1 : decide (u < 1) = false := decide_eq_false (by omega)
  have c1 : decide (65536 < u) = false := decide_eq_false (by omega)
  have a2 : decide (t < 0) = true := decide_eq_true f
  go_enter Try.func21, Try.ntmps21
  go_wp2_with fail
  refine wp_loop_rounds 6 ?_
  rw [rounds_succ]
  go_wp2_with fail
  rw [rounds_succ]
  go_wp2_with fail
  rw [rounds_succ]
  go_wp2_with fail
  go_ret
  exact ⟨rfl, (bpush (bpush (bpush (bpush (Below.refl _ _) _) _) _) _)⟩
theorem wmay_2hi (b u t q y : Int) (w : World) (l0 : 1 ≤ b) (h0 : b ≤ 12) (l1 : 1 ≤ u) (h1 : u ≤ 65536) (f0 : 0 ≤ t) (f : 16 < t) : Calls Try.prog 21 #[.agg #[.int .i64 b, .int .i64 u, .int .i64 t, .int .i64 q, .int .i64 y]] w fun e w' => e = .returned (.bool false) ∧ Below w.heap.size w w' := by
  have i0 := cidx_0 b u t q y
  have i1 := cidx_1 b u t q y
  have i2 := cidx_2 b u t q y
  have a0 : decide (b < 1) = false := decide_eq_false (by omega)
  have c0 : decide (12 < b) = false := decide_eq_false (by omega)
  have a1 : decide (u < 1) = false := decide_eq_false (by omega)
  have c1 : decide (65536 < u) = false := decide_eq_false (by omega)
  have a2 : decide (t < 0) = false := decide_eq_false (by omega)
  have c2 : decide (16 < t) = true := decide_eq_true f
  go_enter Try.func21, Try.ntmps21
  go_wp2_with fail
  refine wp_loop_rounds 6 ?_
  rw [rounds_succ]
  go_wp2_with fail
  rw [rounds_succ]
  go_wp2_with fail
  rw [rounds_succ]
  go_wp2_with fail
  go_ret
  exact ⟨rfl, (bpush (bpush (bpush (bpush (Below.refl _ _) _) _) _) _)⟩
end Go.Proofs.Yteoeelhljimibaa
/- Next: Contracts of package worlds: may a config be? -/
namespace Go.Proofs.Yteoeelhljimibaa
open Go.RowKit
set_option linter.unusedVariables false

theorem wmay_3lo (b u t q y : Int) (w : World) (l0 : 1 ≤ b) (h0 : b ≤ 12) (l1 : 1 ≤ u) (h1 : u ≤ 65536) (l2 : 0 ≤ t) (h2 : t ≤ 16) (f : q < 1) : Calls Try.prog 21 #[.agg #[.int .i64 b, .int .i64 u, .int .i64 t, .int .i64 q, .int .i64 y]] w fun e w' => e = .returned (.bool false) ∧ Below w.heap.size w w' := by
  have i0 := cidx_0 b u t q y
  have i1 := cidx_1 b u t q y
  have i2 := cidx_2 b u t q y
  have i3 := cidx_3 b u t q y
  have a0 : decide (b < 1) = false := decide_eq_false (by omega)
  have c0 : decide (12 < b) = false := decide_eq_false (by omega)
  have a1 : decide (u < 1) = false := decide_eq_false (by omega)
  have c1 : decide (65536 < u) = false := decide_eq_false (by omega)
  have a2 : decide (t < 0) = false := decide_eq_false (by omega)
  have c2 : decide (16 < t) = false := decide_eq_false (by omega)
  have a3 : decide (q < 1) = true := decide_eq_true f
  go_enter Try.func21, Try.ntmps21
  go_wp2_with fail
  refine wp_loop_rounds 6 ?_
  rw [rounds_succ]
  go_wp2_with fail
  rw [rounds_succ]
  go_wp2_with fail
  rw [rounds_succ]
  go_wp2_with fail
  rw [rounds_succ]
  go_wp2_with fail
  go_ret
  exact ⟨rfl, (bpush (bpush (bpush (bpush (bpush (Below.refl _ _) _) _) _) _) _)⟩
theorem wmay_3hi (b u t q y : Int) (w : World) (l0 : 1 ≤ b) (h0 : b ≤ 12) (l1 : 1 ≤ u) (h1 : u ≤ 65536) (l2 : 0 ≤ t) (h2 : t ≤ 16) (f0 : 1 ≤ q) (f : 8 < q) : Calls Try.prog 21 #[.agg #[.int .i64 b, .int .i64 u, .int .i64 t, .int .i64 q, .int .i64 y]] w fun e w' => e = .returned (.bool false) ∧ Below w.heap.size w w' := by
  have i0 := cidx_0 b u t q y
  have i1 := cidx_1 b u t q y
  have i2 := cidx_2 b u t q y
  have i3 := cidx_3 b u t q y
  have a0 : decide (b < 1) = false := decide_eq_false (by omega)
  have c0 : decide (12 < b) = false := decide_eq_false (by omega)
  have a1 : decide (u < 1) = false := decide_eq_false (by omega)
  have c1 : decide (65536 < u) = false := decide_eq_false (by omega)
  have a2 : decide (t < 0) = false := decide_eq_false (by omega)
  have c2 : decide (16 < t) = false := decide_eq_false (by omega)
  have a3 : decide (q < 1) = false := decide_eq_false (by omega)
  have c3 : decide (8 < q) = true := decide_eq_true f
  go_enter Try.func21, Try.ntmps21
  go_wp2_with fail
  refine wp_loop_rounds 6 ?_
  rw [rounds_succ]
  go_wp2_with fail
  rw [rounds_succ]
  go_wp2_with fail
  rw [rounds_succ]
  go_wp2_with fail
  rw [rounds_succ]
  go_wp2_with fail
  go_ret
  exact ⟨rfl, (bpush (bpush (bpush (bpush (bpush (Below.refl _ _) _) _) _) _) _)⟩
end Go.Proofs.Yteoeelhljimibaa
/- Next: Contracts of package worlds: may a config be? -/
namespace Go.Proofs.Yteoeelhljimibaa
open Go.RowKit
set_option linter.unusedVariables false

theorem wmay_4lo (b u t q y : Int) (w : World) (l0 : 1 ≤ b) (h0 : b ≤ 12) (l1 : 1 ≤ u) (h1 : u ≤ 65536) (l2 : 0 ≤ t) (h2 : t ≤ 16) (l3 : 1 ≤ q) (h3 : q ≤ 8) (f : y < 2) : Calls Try.prog 21 #[.agg #[.int .i64 b, .int .i64 u, .int .i64 t, .int .i64 q, .int .i64 y]] w fun e w' => e = .returned (.bool false) ∧ Below w.heap.size w w' := by
  have i0 := cidx_0 b u t q y
  have i1 := cidx_1 b u t q y
  have i2 := cidx_2 b u t q y
  have i3 := cidx_3 b u t q y
  have i4 := cidx_4 b u t q y
  have a0 : decide (b < 1) = false := decide_eq_false (by omega)
  have c0 : decide (12 < b) = false := decide_eq_false (by omega)
  have a1 : decide (u < 1) = false := decide_eq_false (by omega)
  have c1 : decide (65536 < u) = false := decide_eq_false (by omega)
  have a2 : decide (t < 0) = false := decide_eq_false (by omega)
  have c2 : decide (16 < t) = false := decide_eq_false (by omega)
  have a3 : decide (q < 1) = false := decide_eq_false (by omega)
  have c3 : decide (8 < q) = false := decide_eq_false (by omega)
  have a4 : decide (y < 2) = true := decide_eq_true f
  go_enter Try.func21, Try.ntmps21
  go_wp2_with fail
  refine wp_loop_rounds 6 ?_
  rw [rounds_succ]
  go_wp2_with fail
  rw [rounds_succ]
  go_wp2_with fail
  rw [rounds_succ]
  go_wp2_with fail
  rw [rounds_succ]
  go_wp2_with fail
  rw [rounds_succ]
  go_wp2_with fail
  go_ret
  exact ⟨rfl, (bpush (bpush (bpush (bpush (bpush (bpush (Below.refl _ _) _) _) _) _) _) _)⟩
theorem wmay_4hi (b u t q y : Int) (w : World) (l0 : 1 ≤ b) (h0 : b ≤ 12) (l1 : 1 ≤ u) (h1 : u ≤ 65536) (l2 : 0 ≤ t) (h2 : t ≤ 16) (l3 : 1 ≤ q) (h3 : q ≤ 8) (f0 : 2 ≤ y) (f : 256 < y) : Calls Try.prog 21 #[.agg #[.int .i64 b, .int .i64 u, .int .i64 t, .int .i64 q, .int .i64 y]] w fun e w' => e = .returned (.bool false) ∧ Below w.heap.size w w' := by
  have i0 := cidx_0 b u t q y
  have i1 := cidx_1 b u t q y
  have i2 := cidx_2 b u t q y
  have i3 := cidx_3 b u t q y
  have i4 := cidx_4 b u t q y
  have a0 : decide (b < 1) = false := decide_eq_false (by omega)
  have c0 : decide (12 < b) = false := decide_eq_false (by omega)
  have a1 : decide (u < 1) = false := decide_eq_false (by omega)
  have c1 : decide (65536 < u) = false := decide_eq_false (by omega)
  have a2 : decide (t < 0) = false := decide_eq_false (by omega)
  have c2 : decide (16 < t) = false := decide_eq_false (by omega)
  have a3 : decide (q < 1) = false := decide_eq_false (by omega)
  have c3 : decide (8 < q) = false := decide_eq_false (by omega)
  have a4 : decide (y < 2) = false := decide_eq_false (by omega)
  have c4 : decide (256 < y) = true := decide_eq_true f
  go_enter Try.func21, Try.ntmps21
  go_wp2_with fail
  refine wp_loop_rounds 6 ?_
  rw [rounds_succ]
  go_wp2_with fail
  rw [rounds_succ]
  go_wp2_with fail
  rw [rounds_succ]
  go_wp2_with fail
  rw [rounds_succ]
  go_wp2_with fail
  rw [rounds_succ]
  go_wp2_with fail
  go_ret
  exact ⟨rfl, (bpush (bpush (bpush (bpush (bpush (bpush (Below.refl _ _) _) _) _) _) _) _)⟩
end Go.Proofs.Yteoeelhljimibaa
/- Next: Contracts of package worlds: may a config be? -/
namespace Go.Proofs.Yteoeelhljimibaa
open Go.RowKit
set_option linter.unusedVariables false

theorem wmay_ok (b u t q y : Int) (w : World) (l0 : 1 ≤ b) (h0 : b ≤ 12) (l1 : 1 ≤ u) (h1 : u ≤ 65536) (l2 : 0 ≤ t) (h2 : t ≤ 16) (l3 : 1 ≤ q) (h3 : q ≤ 8) (l4 : 2 ≤ y) (h4 : y ≤ 256) : Calls Try.prog 21 #[.agg #[.int .i64 b, .int .i64 u, .int .i64 t, .int .i64 q, .int .i64 y]] w fun e w' => e = .returned (.bool true) ∧ Below w.heap.size w w' := by
  have i0 := cidx_0 b u t q y
  have i1 := cidx_1 b u t q y
  have i2 := cidx_2 b u t q y
  have i3 := cidx_3 b u t q y
  have i4 := cidx_4 b u t q y
  have a0 : decide (b < 1) = false := decide_eq_false (by omega)
  have c0 : decide (12 < b) = false := decide_eq_false (by omega)
  have a1 : decide (u < 1) = false := decide_eq_false (by omega)
  have c1 : decide (65536 < u) = false := decide_eq_false (by omega)
  have a2 : decide (t < 0) = false := decide_eq_false (by omega)
  have c2 : decide (16 < t) = false := decide_eq_false (by omega)
  have a3 : decide (q < 1) = false := decide_eq_false (by omega)
  have c3 : decide (8 < q) = false := decide_eq_false (by omega)
  have a4 : decide (y < 2) = false := decide_eq_false (by omega)
  have c4 : decide (256 < y) = false := decide_eq_false (by omega)
  go_enter Try.func21, Try.ntmps21
  go_wp2_with fail
  refine wp_loop_rounds 6 ?_
  rw [rounds_succ]
  go_wp2_with fail
  rw [rounds_succ]
  go_wp2_with fail
  rw [rounds_succ]
  go_wp2_with fail
  rw [rounds_succ]
  go_wp2_with fail
  rw [rounds_succ]
  go_wp2_with fail
  rw [rounds_succ]
  go_wp2_with fail
  go_ret
  exact ⟨rfl, (bpush (bpush (bpush (bpush (bpush (bpush (Below.refl _ _) _) _) _) _) _) _)⟩
end Go.Proofs.Yteoeelhljimibaa
/- Next: Contracts of package worlds: may a config be? -/
namespace Go.Proofs.Yteoeelhljimibaa
open Go.RowKit
set_option linter.unusedVariables false

theorem wmay (b u t q y : Int) (w : World) : Calls Try.prog 21 #[.agg #[.int .i64 b, .int .i64 u, .int .i64 t, .int .i64 q, .int .i64 y]] w fun e w' => e = .returned (.bool (mayc b u t q y)) ∧ Below w.heap.size w w' := by
  have no : ¬ (1 ≤ b ∧ b ≤ 12 ∧ 1 ≤ u ∧ u ≤ 65536 ∧ 0 ≤ t ∧ t ≤ 16 ∧ 1 ≤ q ∧ q ≤ 8 ∧ 2 ≤ y ∧ y ≤ 256) → mayc b u t q y = false := fun h => decide_eq_false h
  by_cases c0 : b < 1
  · rw [no (by omega)]; exact wmay_0lo b u t q y w  c0
  by_cases d0 : 12 < b
  · rw [no (by omega)]; exact wmay_0hi b u t q y w  (by omega) d0
  by_cases c1 : u < 1
  · rw [no (by omega)]; exact wmay_1lo b u t q y w (by omega) (by omega) c1
  by_cases d1 : 65536 < u
  · rw [no (by omega)]; exact wmay_1hi b u t q y w (by omega) (by omega) (by omega) d1
  by_cases c2 : t < 0
  · rw [no (by omega)]; exact wmay_2lo b u t q y w (by omega) (by omega) (by omega) (by omega) c2
  by_cases d2 : 16 < t
  · rw [no (by omega)]; exact wmay_2hi b u t q y w (by omega) (by omega) (by omega) (by omega) (by omega) d2
  by_cases c3 : q < 1
  · rw [no (by omega)]; exact wmay_3lo b u t q y w (by omega) (by omega) (by omega) (by omega) (by omega) (by omega) c3
  by_cases d3 : 8 < q
  · rw [no (by omega)]; exact wmay_3hi b u t q y w (by omega) (by omega) (by omega) (by omega) (by omega) (by omega) (by omega) d3
  by_cases c4 : y < 2
  · rw [no (by omega)]; exact wmay_4lo b u t q y w (by omega) (by omega) (by omega) (by omega) (by omega) (by omega) (by omega) (by omega) c4
  by_cases d4 : 256 < y
  · rw [no (by omega)]; exact wmay_4hi b u t q y w (by omega) (by omega) (by omega) (by omega) (by omega) (by omega) (by omega) (by omega) (by omega) d4
  have yes : mayc b u t q y = true := decide_eq_true (by omega)
  rw [yes]
  exact wmay_ok b u t q y w (by omega) (by omega) (by omega) (by omega) (by omega) (by omega) (by omega) (by omega) (by omega) (by omega)
end Go.Proofs.Yteoeelhljimibaa
