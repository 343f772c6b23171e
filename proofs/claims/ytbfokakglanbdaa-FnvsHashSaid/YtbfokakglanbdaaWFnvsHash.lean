/- The law FnvsHash. -/
import Derived.Test.YtbfokakglanbdaaLives01
namespace Go.Proofs.Ytbfokakglanbdaa
open Go.RowKit
set_option linter.unusedVariables false

theorem walk_FnvsHash (a0 : ByteArray) (a1 : Int) (w : World) (w0 : a0.size ≤ maxLen) (w1 : (Lit.int .u64 a1).wf = true) :
    Calls Try.prog 3 #[.string a0, .int .u64 a1] w fun e w' => e = .returned (.bool true) ∧ Below w.heap.size w w' := by
  obtain ⟨l0, u0⟩ := bounds_u64 w1
  clear w1
  obtain ⟨x, hx⟩ : ∃ x, hsl a0.data.toList = x := ⟨_, rfl⟩
  have hr := hsl_range a0.data.toList
  rw [hx] at hr
  obtain ⟨x1, x2⟩ := hr
  go_enter Try.func3, Try.ntmps3
  by_cases hl : 5000 < a0.size
  · go_wp2_with fail
    refine (lives01 _).mono ?_
    rintro e w1 ⟨rfl, hb⟩
    go_wp2_with fail
    go_ret
    exact ⟨rfl, hb⟩
  · go_wp2_with fail
    refine (hash _ _ w0).mono ?_
    rintro e w1 ⟨rfl, hb1⟩
    go_wp2_with fail
    refine (refhash _ _ w0).mono ?_
    rintro e w2 ⟨rfl, rfl⟩
    go_wp2_with fail
    refine (tag _ _ x1 x2).mono ?_
    rintro e w2 ⟨rfl, rfl⟩
    go_wp2_with fail
    refine (reftag _ _ x1 x2).mono ?_
    rintro e w2 ⟨rfl, rfl⟩
    go_wp2_with fail
    refine (tag _ _ l0 (by omega)).mono ?_
    rintro e w2 ⟨rfl, rfl⟩
    go_wp2_with fail
    refine (reftag _ _ l0 (by omega)).mono ?_
    rintro e w2 ⟨rfl, rfl⟩
    go_wp2_with fail
    refine (lives01 _).mono ?_
    rintro e w1 ⟨rfl, hb⟩
    go_wp2_with fail
    go_ret
    exact ⟨rfl, below_then hb1 hb⟩
end Go.Proofs.Ytbfokakglanbdaa
