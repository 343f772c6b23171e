/- The law EpochsBack. -/
import Derived.Test.YteofbgbjibbdaabEpLives
namespace Go.Proofs.Yteofbgbjibbdaab
open Go.RowKit
set_option linter.unusedVariables false
theorem walk_EpochsBack (a0 : Int) (w : World) (w0 : (Lit.int .u64 a0).wf = true) :
    Calls Try.prog 13 #[.int .u64 a0] w fun e w' => e = .returned (.bool true) ∧ Below w.heap.size w w' := by
  obtain ⟨l0, u0⟩ := bounds_u64 w0
  clear w0
  have hB : Below w.heap.size w w := Below.refl _ _
  have hN : w.heap.size ≤ w.heap.size := Nat.le_refl _
  have ps := put_self a0 l0 (by omega)
  obtain ⟨⟨a1, a2⟩, ⟨a3, a4⟩, ⟨a5, a6⟩⟩ := ep_range a0
  go_enter Try.func13, Try.ntmps13
  go_wp2_with (first
    | (go_at_call 38; refine (noww _ _ l0 (by omega)).mono ?_; rintro e w' ⟨rfl, hk⟩; have hq := box_then (by assumption) hN hk; clear hk)
    | (go_at_call 40; refine (atw _ _ l0 (by omega)).mono ?_; rintro e w' ⟨rfl, hk⟩; have hq := box_then (by assumption) hN hk; clear hk)
    | (go_at_call 42; refine (genw _ _ l0 (by omega)).mono ?_; rintro e w' ⟨rfl, hk⟩; have hq := box_then (by assumption) hN hk; clear hk)
    | (go_at_call 44; refine (putw _ _ _ _).mono ?_; rintro e w' ⟨rfl, rfl⟩)
    | (go_at_call 48; refine (lives07 _).mono ?_; rintro e w' ⟨rfl, hk⟩; have hq := box_then (by assumption) hN hk; clear hk))
  go_ret
  exact ⟨rfl, by assumption⟩
end Go.Proofs.Yteofbgbjibbdaab
