/- The chapter's list: a note that may not be; two lists without a note. -/
import Derived.Test.YteofbgbjibbdaacNr
import Derived.Test.YteofbgbjibbdaacNlE
namespace Go.Proofs.Yteofbgbjibbdaac
open Go.RowKit
set_option linter.unusedVariables false

theorem radd_bad (w : World) (p : Nat) (s th k r b c d v : Int) (h : k < 1 ∨ 9 < k) :
    Calls Try.prog 55 #[.pointer (some ⟨p, 0, none⟩), .agg #[.int .i64 s, .int .i64 th, .int .i64 k, .int .i64 r, .int .i64 b, .int .i64 c, .int .i64 d, .int .i64 v]] w fun e w' => e = .returned (.int .i64 1) ∧ Below w.heap.size w w' := by
  by_cases h1 : k < 1
  case' neg => have h9 : 9 < k := by omega
  all_goals
    clear h
    go_enter Try.func55, Try.ntmps55
    go_wp2
    go_ret
    exact ⟨rfl, (Below.refl _ _).alloc (Nat.le_refl _) _⟩
theorem same_none (w : World) (a b : Option Addr) (ca cb : Nat) :
    Calls Try.prog 61 #[.slice a 0 ca, .slice b 0 cb] w fun e w' => e = .returned (.bool true) ∧ w = w' := by
  go_enter Try.func61, Try.ntmps61
  go_wp2_with fail
  refine wp_loop_rounds 1 ?_
  rw [rounds_succ]
  go_wp2_with fail
  go_ret
  exact ⟨rfl, rfl⟩
end Go.Proofs.Yteofbgbjibbdaac
