/- The law NumsParse. -/
import Derived.Test.YteofbgbjibbdaaaNm3
namespace Go.Proofs.Yteofbgbjibbdaaa
open Go.RowKit
set_option linter.unusedVariables false

set_option maxHeartbeats 1000000 in
set_option maxRecDepth 100000 in
theorem walk_NumsParse (a0 : ByteArray) (w : World) (w0 : a0.size ≤ maxLen) :
    Calls Try.prog 7 #[.string a0] w fun e w' => e = .returned (.bool true) ∧ Below w.heap.size w w' := by
  obtain ⟨p, hp⟩ : ∃ p, p = parseF a0.data.toList := ⟨_, rfl⟩
  obtain ⟨q, hq⟩ : ∃ q, q = signedF a0.data.toList := ⟨_, rfl⟩
  obtain ⟨r, hr⟩ : ∃ r, r = p32F a0.data.toList := ⟨_, rfl⟩
  obtain ⟨p1, p2⟩ := p
  obtain ⟨q1, q2⟩ := q
  obtain ⟨r1, r2⟩ := r
  have HP := Lib.hid hp
  have HQ := Lib.hid hq
  have HR := Lib.hid hr
  clear hp hq hr
  go_enter Try.func7, Try.ntmps7
  go_wp2_with fail
  refine (parsew _ _ w0).mono ?_
  rintro e w1 ⟨rfl, hb1⟩
  rw [← HP.out]
  go_wp2_with fail
  refine (refparse _ _ w0).mono ?_
  rintro e w2 ⟨rfl, hb2⟩
  rw [← HP.out]
  have k2 := below_then hb1 hb2
  clear hb1 hb2
  go_wp2_with fail
  refine (signedw _ _ w0).mono ?_
  rintro e w3 ⟨rfl, hb3⟩
  rw [← HQ.out]
  have k3 := below_then k2 hb3
  clear k2 hb3
  go_wp2_with fail
  refine (refsigned _ _ w0).mono ?_
  rintro e w4 ⟨rfl, hb4⟩
  rw [← HQ.out]
  have k4 := below_then k3 hb4
  clear k3 hb4
  go_wp2_with fail
  refine (p32w _ _ w0).mono ?_
  rintro e w5 ⟨rfl, hb5⟩
  rw [← HR.out]
  have k5 := below_then k4 hb5
  clear k4 hb5
  go_wp2_with fail
  refine (refp32 _ _ w0).mono ?_
  rintro e w6 ⟨rfl, hb6⟩
  rw [← HR.out]
  have k6 := below_then k5 hb6
  clear k5 hb6
  go_wp2_with fail
  refine (lives04 _).mono ?_
  rintro e w7 ⟨rfl, hb7⟩
  have k7 := below_then k6 hb7
  clear k6 hb7
  go_wp2_with fail
  go_ret
  exact ⟨rfl, k7⟩
end Go.Proofs.Yteofbgbjibbdaaa
