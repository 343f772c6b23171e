/- Contracts of package tagwords and of its chapter's answers: tags. -/
import Derived.Test.YtbfokakglanbdaaChecked
import Derived.Test.YtbfokakglanbdaaBits
import Derived.LoopN
namespace Go.Proofs.Ytbfokakglanbdaa
open Go.RowKit
set_option linter.unusedVariables false

def tg0 (x : Int) : Int := x % 256
def tg1 (x : Int) : Int := x / 256 % 256
def tg2 (x : Int) : Int := x / 65536 % 256
def tg3 (x : Int) : Int := x / 16777216 % 256
/-- A slot's tag. -/
def tagf (x s : Int) : Int := if s = 0 then tg0 x else if s = 1 then tg1 x else if s = 2 then tg2 x else if s = 3 then tg3 x else 0
def unit (s : Int) : Int := if s = 0 then 1 else if s = 1 then 256 else if s = 2 then 65536 else if s = 3 then 16777216 else 0
def withf (x s t : Int) : Int := if t < 0 ∨ 255 < t then x else x - tagf x s * unit s + t * (if s < 0 ∨ 3 < s then 0 else unit s)
theorem ands (x : Int) (h1 : 0 ≤ x) (h2 : x < 18446744073709551616) : bits .and .u64 x 255 = tg0 x ∧ bits .and .u64 (x / 256) 255 = tg1 x ∧ bits .and .u64 (x / 65536) 255 = tg2 x ∧ bits .and .u64 (x / 16777216) 255 = tg3 x :=
  ⟨and255 _ h1 h2, and255 _ (by omega) (by omega), and255 _ (by omega) (by omega), and255 _ (by omega) (by omega)⟩
theorem tg_range (x : Int) : (0 ≤ tg0 x ∧ tg0 x ≤ 255) ∧ (0 ≤ tg1 x ∧ tg1 x ≤ 255) ∧ (0 ≤ tg2 x ∧ tg2 x ≤ 255) ∧ (0 ≤ tg3 x ∧ tg3 x ≤ 255) := by
  unfold tg0 tg1 tg2 tg3; omega
theorem parts (x : Int) (w : World) (h1 : 0 ≤ x) (h2 : x < 18446744073709551616) :
    Calls Try.prog 41 #[.int .u64 x] w fun e w' => e = .returned (.agg #[.int .i64 (tg0 x), .int .i64 (tg1 x), .int .i64 (tg2 x), .int .i64 (tg3 x)]) ∧ Below w.heap.size w w' := by
  obtain ⟨e0, e1, e2, e3⟩ := ands x h1 h2
  obtain ⟨⟨a0, b0⟩, ⟨a1, b1⟩, ⟨a2, b2⟩, ⟨a3, b3⟩⟩ := tg_range x
  go_enter Try.func41, Try.ntmps41
  go_wp2_with fail
  refine wp_loop_rounds 5 ?_
  rw [rounds_succ]
  go_wp2
  rw [rounds_succ]
  go_wp2
  rw [rounds_succ]
  go_wp2
  rw [rounds_succ]
  go_wp2
  rw [rounds_succ]
  go_wp2
  refine bodyPost_ret (v := .agg #[.int .i64 (tg0 x), .int .i64 (tg1 x), .int .i64 (tg2 x), .int .i64 (tg3 x)]) (by simp [results, Try.results41, go_sem]) rfl ⟨rfl, ?_⟩
  exact ((Below.refl _ _).alloc (Nat.le_refl _) _).alloc (by simp) _
/-- An array's element. -/
theorem idx4 (a b c d : Value) (w : World) : (Instr.index 47 (.agg #[a, b, c, d]) (.int .i64 0)).run Try.prog w = .ok a w ∧ (Instr.index 47 (.agg #[a, b, c, d]) (.int .i64 1)).run Try.prog w = .ok b w ∧
    (Instr.index 47 (.agg #[a, b, c, d]) (.int .i64 2)).run Try.prog w = .ok c w ∧ (Instr.index 47 (.agg #[a, b, c, d]) (.int .i64 3)).run Try.prog w = .ok d w :=
  ⟨by kernel_rfl, by kernel_rfl, by kernel_rfl, by kernel_rfl⟩
theorem reftag_0 (x : Int) (w : World) (h1 : 0 ≤ x) (h2 : x < 18446744073709551616) :
    Calls Try.prog 28 #[.int .u64 x, .int .i64 0] w fun e w' => e = .returned (.int .i64 (tg0 x)) ∧ w = w' := by
  go_enter Try.func28, Try.ntmps28
  go_wp2
  refine wp_loop_rounds 1 ?_
  rw [rounds_succ]
  go_wp2
  go_ret
  exact ⟨ret_int (by unfold tg0; omega), rfl⟩
theorem reftag_1 (x : Int) (w : World) (h1 : 0 ≤ x) (h2 : x < 18446744073709551616) :
    Calls Try.prog 28 #[.int .u64 x, .int .i64 1] w fun e w' => e = .returned (.int .i64 (tg1 x)) ∧ w = w' := by
  go_enter Try.func28, Try.ntmps28
  go_wp2
  refine wp_loop_rounds 2 ?_
  rw [rounds_succ]
  go_wp2
  rw [rounds_succ]
  go_wp2
  go_ret
  exact ⟨ret_int (by unfold tg1; omega), rfl⟩
theorem reftag_2 (x : Int) (w : World) (h1 : 0 ≤ x) (h2 : x < 18446744073709551616) :
    Calls Try.prog 28 #[.int .u64 x, .int .i64 2] w fun e w' => e = .returned (.int .i64 (tg2 x)) ∧ w = w' := by
  go_enter Try.func28, Try.ntmps28
  go_wp2
  refine wp_loop_rounds 3 ?_
  rw [rounds_succ]
  go_wp2
  rw [rounds_succ]
  go_wp2
  rw [rounds_succ]
  go_wp2
  go_ret
  exact ⟨ret_int (by unfold tg2; omega), rfl⟩
theorem reftag_3 (x : Int) (w : World) (h1 : 0 ≤ x) (h2 : x < 18446744073709551616) :
    Calls Try.prog 28 #[.int .u64 x, .int .i64 3] w fun e w' => e = .returned (.int .i64 (tg3 x)) ∧ w = w' := by
  go_enter Try.func28, Try.ntmps28
  go_wp2
  refine wp_loop_rounds 4 ?_
  rw [rounds_succ]
  go_wp2
  rw [rounds_succ]
  go_wp2
  rw [rounds_succ]
  go_wp2
  rw [rounds_succ]
  go_wp2
  go_ret
  exact ⟨ret_int (by unfold tg3; omega), rfl⟩
theorem reftag_out (x s : Int) (w : World) (h : s < 0 ∨ 3 < s) :
    Calls Try.prog 28 #[.int .u64 x, .int .i64 s] w fun e w' => e = .returned (.int .i64 0) ∧ w = w' := by
  by_cases h0 : s < 0
  all_goals
    go_enter Try.func28, Try.ntmps28
    go_wp2
    go_ret
    exact ⟨rfl, rfl⟩
theorem reftagw (x s : Int) (w : World) (h1 : 0 ≤ x) (h2 : x < 18446744073709551616) :
    Calls Try.prog 28 #[.int .u64 x, .int .i64 s] w fun e w' => e = .returned (.int .i64 (tagf x s)) ∧ w = w' := by
  unfold tagf
  split
  · next h => subst h; exact reftag_0 x w h1 h2
  split
  · next h => subst h; exact reftag_1 x w h1 h2
  split
  · next h => subst h; exact reftag_2 x w h1 h2
  split
  · next h => subst h; exact reftag_3 x w h1 h2
  · exact reftag_out x s w (by omega)
theorem tagw (x s : Int) (w : World) (h1 : 0 ≤ x) (h2 : x < 18446744073709551616) :
    Calls Try.prog 27 #[.int .u64 x, .int .i64 s] w fun e w' => e = .returned (.int .i64 (tagf x s)) ∧ Below w.heap.size w w' := by
  by_cases s0 : s = 0
  case' neg => by_cases s1 : s = 1
  case' neg => by_cases s2 : s = 2
  case' neg => by_cases s3 : s = 3
  case neg =>
    have : tagf x s = 0 := by simp [tagf, s0, s1, s2, s3]
    rw [this]
    clear this
    by_cases hn : s < 0
    · clear s0 s1 s2 s3
      go_enter Try.func27, Try.ntmps27
      go_wp2
      go_ret
      exact ⟨rfl, Below.refl _ _⟩
    · have hp : decide (s < 4) = false := by simp; omega
      clear s0 s1 s2 s3
      go_enter Try.func27, Try.ntmps27
      go_wp2
      go_ret
      exact ⟨rfl, Below.refl _ _⟩
  all_goals
    subst_vars
    have ix := fun w => (idx4 (.int .i64 (tg0 x)) (.int .i64 (tg1 x)) (.int .i64 (tg2 x)) (.int .i64 (tg3 x)) w)
    obtain ⟨i0, i1, i2, i3⟩ : (∀ w, _) ∧ (∀ w, _) ∧ (∀ w, _) ∧ (∀ w, _) := ⟨fun w => (ix w).1, fun w => (ix w).2.1, fun w => (ix w).2.2.1, fun w => (ix w).2.2.2⟩
    clear ix
    go_enter Try.func27, Try.ntmps27
    go_wp2_with (first | (go_at_call 41; refine (parts _ _ h1 h2).mono ?_; rintro e w' ⟨rfl, hb⟩) | (go_at_call 40; go_in))
    go_ret
    exact ⟨rfl, hb⟩
end Go.Proofs.Ytbfokakglanbdaa
