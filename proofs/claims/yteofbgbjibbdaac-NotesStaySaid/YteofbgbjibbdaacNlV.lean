/- Lists of notes: a new one; the chapter's examples. -/
import Derived.Test.YteofbgbjibbdaacNlO
namespace Go.Proofs.Yteofbgbjibbdaac
open Go.RowKit
set_option linter.unusedVariables false

theorem newl (w : World) : Calls Try.prog 53 #[] w fun e w' => e = .returned (.pointer (some ⟨w.heap.size, 0, none⟩)) ∧ IsL w' w.heap.size [] ∧ Below w.heap.size w w' := by
  go_enter Try.func53, Try.ntmps53
  go_wp2_with fail
  go_ret
  exact ⟨rfl, ⟨.slice none 0 0, by simp, by simp, World.ownsRow_nil _ _ _ _, fun _ => rfl⟩, (Below.refl _ _).alloc (Nat.le_refl _) _⟩
abbrev nt (s k r : Int) : Nv := (s, 0, k, r, 0, 0, 0, 0)
theorem ex09 : addF [] (nt 4 1 9) = 0 ∧ addL [] (nt 4 1 9) = [nt 4 1 9] ∧ addF [nt 4 1 9] (nt 3 9 0) = 1 ∧ addL [nt 4 1 9] (nt 3 9 0) = [nt 4 1 9] ∧ addF [nt 4 1 9] (nt 4 10 0) = 1 ∧ addL [nt 4 1 9] (nt 4 10 0) = [nt 4 1 9] ∧ addF [nt 4 1 9] (nt 4 9 0) = 0 ∧ addL [nt 4 1 9] (nt 4 9 0) = [nt 4 1 9, nt 4 9 0] := ⟨by decide, by rfl, by decide, by rfl, by decide, by rfl, by decide, by rfl⟩
theorem ex09b : [nt 4 1 9, nt 4 9 0].filter (soK 9) = [nt 4 9 0] ∧ dropF [nt 4 1 9, nt 4 9 0] 9 = (0, true) ∧ dropF [nt 4 1 9, nt 4 9 0] 4 = (0, false) := ⟨by rfl, by rfl, by rfl⟩
set_option maxHeartbeats 8000000 in
set_option maxRecDepth 100000 in
theorem lives09 (w : World) : Calls Try.prog 52 #[] w fun e w' => e = .returned (.bool true) ∧ Below w.heap.size w w' := by
  obtain ⟨a1, a2, a3, a4, a5, a6, a7, a8⟩ := ex09
  obtain ⟨b1, b2, b3⟩ := ex09b
  have A1 := Lib.hid a1
  have A2 := Lib.hid a2
  have A3 := Lib.hid a3
  have A4 := Lib.hid a4
  have A5 := Lib.hid a5
  have A6 := Lib.hid a6
  have A7 := Lib.hid a7
  have A8 := Lib.hid a8
  have B1 := Lib.hid b1
  have B2 := Lib.hid b2
  have B3 := Lib.hid b3
  clear a1 a2 a3 a4 a5 a6 a7 a8 b1 b2 b3
  obtain ⟨P, hP⟩ : ∃ P, P = w.heap.size := ⟨_, rfl⟩
  have HP := Lib.hid hP
  clear hP
  go_enter Try.func52, Try.ntmps52
  go_wp2_with fail
  refine (newl _).mono ?_
  rintro e w1 ⟨rfl, hL1, k1⟩
  rw [← HP.out] at hL1 k1 ⊢
  go_wp2_with fail
  refine (addl (nt 4 1 9) _ _ [] hL1 (by decide)).mono ?_
  rintro e w2 ⟨rfl, hL2, k2⟩
  rw [A1.out]
  rw [A2.out] at hL2
  have j2 := k1.trans k2
  clear k1 k2 hL1
  go_wp2_with fail
  refine (addl (nt 3 9 0) _ _ [nt 4 1 9] hL2 (by decide)).mono ?_
  rintro e w3 ⟨rfl, hL3, k3⟩
  rw [A3.out]
  rw [A4.out] at hL3
  have j3 := j2.trans k3
  clear j2 k3 hL2
  go_wp2_with fail
  refine (addl (nt 4 10 0) _ _ [nt 4 1 9] hL3 (by decide)).mono ?_
  rintro e w4 ⟨rfl, hL4, k4⟩
  rw [A5.out]
  rw [A6.out] at hL4
  have j4 := j3.trans k4
  clear j3 k4 hL3
  go_wp2_with fail
  refine (addl (nt 4 9 0) _ _ [nt 4 1 9] hL4 (by decide)).mono ?_
  rintro e w5 ⟨rfl, hL5, k5⟩
  rw [A7.out]
  rw [A8.out] at hL5
  have j5 := j4.trans k5
  clear j4 k5 hL4
  go_wp2_with fail
  refine (ofw _ _ [nt 4 1 9, nt 4 9 0] 9 hL5 (by decide)).mono ?_
  rintro e w6 ⟨u, rfl, hT, k6⟩
  rw [B1.out] at hT
  have hL6 := nl_below hL5 k6
  have j6 := j5.trans (k6.mono (by rw [HP.out]; exact j5.size))
  clear k6 hL5
  go_wp2_with fail
  refine (droppedw _ _ [nt 4 1 9, nt 4 9 0] 9 hL6 (by decide)).mono ?_
  rintro e w7 ⟨rfl, k7⟩
  rw [B2.out]
  have hL7 := nl_below hL6 k7
  have hT7 := hT.below k7 (Nat.le_refl _)
  have j7 := j6.trans (k7.mono (by rw [HP.out]; exact j6.size))
  clear k7 hL6 hT
  go_wp2_with fail
  refine (droppedw _ _ [nt 4 1 9, nt 4 9 0] 4 hL7 (by decide)).mono ?_
  rintro e w8 ⟨rfl, k8⟩
  rw [B3.out]
  have hL8 := nl_below hL7 k8
  have hT8 := hT7.below k8 (Nat.le_refl _)
  have j8 := j7.trans (k8.mono (by rw [HP.out]; exact j7.size))
  clear k8 hL7 hT7
  obtain ⟨_, ⟨_, h0⟩ | ⟨g, cap, rfl, hgB, hg, hn, hc, hx⟩⟩ := hT8
  · simp at h0
  have e0 := (hx 0 (.int .i64 4) rfl).1
  have e1 := (hx 1 (.int .i64 0) rfl).1
  have e2 := (hx 2 (.int .u8 9) rfl).1
  have e3 := (hx 3 (.int .i64 0) rfl).1
  have e4 := (hx 4 (.int .i64 0) rfl).1
  have e5 := (hx 5 (.int .i64 0) rfl).1
  have e6 := (hx 6 (.int .i64 0) rfl).1
  have e7 := (hx 7 (.int .i64 0) rfl).1
  clear hx
  unfold maxLen at hc
  simp only [List.length_cons, List.length_nil] at hn
  go_wp2_with fail
  refine (countl _ _ _ _ hL8 (by decide)).mono ?_
  rintro e w9 ⟨rfl, rfl⟩
  clear hL8
  go_wp2_with fail
  refine (namew_5 _).mono ?_
  rintro e w9 ⟨rfl, k9⟩
  have j9 := j8.trans (k9.mono (by rw [HP.out]; exact j8.size))
  clear k9
  go_wp2_with fail
  refine (namew_out 10 _ (by decide)).mono ?_
  rintro e wa ⟨rfl, ka⟩
  have ja := j9.trans (ka.mono (by rw [HP.out]; exact j9.size))
  clear ka
  go_wp2_with fail
  go_ret
  exact ⟨rfl, HP.out ▸ ja⟩
end Go.Proofs.Yteofbgbjibbdaac
