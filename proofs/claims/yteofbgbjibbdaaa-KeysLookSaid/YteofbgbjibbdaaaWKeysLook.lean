/- The law KeysLook. -/
import Derived.Test.YteofbgbjibbdaaaKySame
namespace Go.Proofs.Yteofbgbjibbdaaa
open Go.RowKit
set_option linter.unusedVariables false

set_option maxHeartbeats 1000000 in
set_option maxRecDepth 100000 in
theorem walk_KeysLook (a0 : ByteArray) (a1 : Int) (w : World) (w0 : a0.size ≤ maxLen) (w1 : (Lit.int .i64 a1).wf = true) :
    Calls Try.prog 3 #[.string a0, .int .i64 a1] w fun e w' => e = .returned (.bool true) ∧ Below w.heap.size w w' := by
  clear w1
  obtain ⟨r1, r2, r3, r4⟩ := lookF_range a0.data.toList
  obtain ⟨f, hf⟩ : ∃ f, f = lookF a0.data.toList := ⟨_, rfl⟩
  rw [← hf] at r1 r2 r3 r4
  have HF := Lib.hid hf
  have HB := Lib.hid (Below.refl w.heap.size w)
  clear hf
  go_enter Try.func3, Try.ntmps3
  go_wp2_with (first
    | (go_at_call 10; refine (look _ _ w0).mono ?_; rintro e w' ⟨rfl, rfl⟩; rw [← HF.out])
    | (go_at_call 11; refine (reflook _ _ w0).mono ?_; rintro e w' ⟨rfl, rfl⟩; rw [← HF.out])
    | (go_at_call 12; refine (okw _ _ w0).mono ?_; rintro e w' ⟨rfl, rfl⟩; rw [← HF.out])
    | (go_at_call 13; refine (valuew _ _ w0).mono ?_; rintro e w' ⟨rfl, rfl⟩)
    | (go_at_call 14; refine (refvalue _ _ w0).mono ?_; rintro e w' ⟨rfl, rfl⟩)
    | (go_at_call 15; refine (roomw _ _).mono ?_; rintro e w' ⟨rfl, rfl⟩)
    | (go_at_call 16; refine (refroom _ _).mono ?_; rintro e w' ⟨rfl, rfl⟩)
    | (go_at_call 17; refine (lives03 _).mono ?_; rintro e w' ⟨rfl, hk⟩))
  go_ret
  exact ⟨rfl, hk⟩
end Go.Proofs.Yteofbgbjibbdaaa
