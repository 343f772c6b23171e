/- The law TagwordsSlot. -/
import Derived.Test.YtbfokakglanbdaaTagSame
namespace Go.Proofs.Ytbfokakglanbdaa
open Go.RowKit
set_option linter.unusedVariables false

theorem walk_TagwordsSlot (a0 : Int) (a1 : Int) (a2 : Int) (w : World) (w0 : (Lit.int .u64 a0).wf = true) (w1 : (Lit.int .i64 a1).wf = true) (w2 : (Lit.int .i64 a2).wf = true) :
    Calls Try.prog 9 #[.int .u64 a0, .int .i64 a1, .int .i64 a2] w fun e w' => e = .returned (.bool true) ∧ Below w.heap.size w w' := by
  obtain ⟨l0, u0⟩ := bounds_u64 w0
  have hB : Below w.heap.size w w := Below.refl _ _
  have hN : w.heap.size ≤ w.heap.size := Nat.le_refl _
  clear w0 w1 w2
  go_enter Try.func9, Try.ntmps9
  go_wp2_with (first
      | (go_at_call 27; refine (tagw _ _ _ l0 (by omega)).mono ?_; rintro e w' ⟨rfl, hk⟩; have hq := box_then (by assumption) hN hk; clear hk)
      | (go_at_call 28; refine (reftagw _ _ _ l0 (by omega)).mono ?_; rintro e w' ⟨rfl, rfl⟩)
      | (go_at_call 29; refine (withw _ _ _ _ l0 (by omega)).mono ?_; rintro e w' ⟨rfl, hk⟩; have hq := box_then (by assumption) hN hk; clear hk)
      | (go_at_call 30; refine (refwithw _ _ _ _ l0 (by omega)).mono ?_; rintro e w' ⟨rfl, hk⟩; have hq := box_then (by assumption) hN hk; clear hk)
      | (go_at_call 31; refine (lives02 _).mono ?_; rintro e w' ⟨rfl, hk⟩; have hq := box_then (by assumption) hN hk; clear hk))
  go_ret
  exact ⟨rfl, by assumption⟩
end Go.Proofs.Ytbfokakglanbdaa
