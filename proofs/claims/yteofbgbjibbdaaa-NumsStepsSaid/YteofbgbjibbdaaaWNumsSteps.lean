/- The law NumsSteps. -/
import Derived.Test.YteofbgbjibbdaaaNm3
import Derived.Test.YteofbgbjibbdaaaBits
namespace Go.Proofs.Yteofbgbjibbdaaa
open Go.RowKit
set_option linter.unusedVariables false

theorem up_back {n b : Int} (n0 : 0 ≤ n) (b0 : 0 ≤ b) (h : n + b ≤ 18446744073709551615) : n ≤ incrF n b ∧ decrF (incrF n b) b = n := by
  unfold incrF decrF
  have e : (n + b) % 18446744073709551616 = n + b := by omega
  rw [e]
  exact ⟨by omega, by rw [if_neg (by omega)]; omega⟩
theorem up_round {n b : Int} (n1 : n ≤ 18446744073709551615) (b1 : b ≤ 18446744073709551615) (h : ¬ n + b ≤ 18446744073709551615) : incrF n b < n := by
  unfold incrF
  omega
theorem up_twice {n b m : Int} : incrF (incrF n b) m = incrF n (incrF b m) := by unfold incrF; omega
theorem down_up {n b : Int} (n0 : 0 ≤ n) (n1 : n ≤ 18446744073709551615) (b0 : 0 ≤ b) (b1 : b ≤ 18446744073709551615) : decrF n b ≤ n ∧ (decrF n b = 0 ↔ n ≤ b) ∧ min n b ≤ incrF (decrF n b) b := by
  unfold incrF decrF
  split <;> omega
set_option maxHeartbeats 4000000 in
set_option maxRecDepth 100000 in
theorem walk_NumsSteps (a0 : Int) (a1 : Int) (a2 : Int) (w : World) (w0 : (Lit.int .u64 a0).wf = true) (w1 : (Lit.int .u64 a1).wf = true) (w2 : (Lit.int .u64 a2).wf = true) :
    Calls Try.prog 8 #[.int .u64 a0, .int .u64 a1, .int .u64 a2] w fun e w' => e = .returned (.bool true) ∧ Below w.heap.size w w' := by
  obtain ⟨l0, u0⟩ := bounds_u64 w0
  obtain ⟨l1, u1⟩ := bounds_u64 w1
  obtain ⟨l2, u2⟩ := bounds_u64 w2
  clear w0 w1 w2
  have u0' : a0 ≤ 18446744073709551615 := by omega
  have u1' : a1 ≤ 18446744073709551615 := by omega
  have u2' : a2 ≤ 18446744073709551615 := by omega
  clear u0 u1 u2
  obtain ⟨d1, d2, d3⟩ := down_up l0 u0' l1 u1'
  have hr := incrF_range a0 a1
  have hs := decrF_range l0 u0' l1
  have h2 := @up_twice a0 a1 a2
  have ht := incrF_range (incrF a0 a1) a2
  have hv := incrF_range (decrF a0 a1) a1
  have hm := incrF_range a1 a2
  have hM : incrF a1 a2 = IntKind.u64.wrap (a1 + a2) := by unfold incrF; simp [IntKind.wrap, IntKind.bits, IntKind.signed]
  obtain ⟨U, hU⟩ : ∃ U, U = incrF a0 a1 := ⟨_, rfl⟩
  obtain ⟨D, hD⟩ : ∃ D, D = decrF a0 a1 := ⟨_, rfl⟩
  have hA : a0 ≤ U ∧ decrF U a1 = a0 ∨ U < a0 := by
    rw [hU]
    by_cases h : a0 + a1 ≤ 18446744073709551615
    · exact .inl (up_back l0 l1 h)
    · exact .inr (up_round u0' u1' h)
  rw [← hU] at hr h2 ht
  rw [← hD] at hs d1 d2 d3 hv
  obtain ⟨r0, r1⟩ := hr
  obtain ⟨s0, s1⟩ := hs
  obtain ⟨m0, m1⟩ := hm
  obtain ⟨x, hx1, hx2⟩ : ∃ x : Bool, (D == 0) = x ∧ decide (a0 ≤ a1) = x := by
    by_cases h : a0 ≤ a1
    · exact ⟨true, by simpa using d2.mpr h, by simpa using h⟩
    · exact ⟨false, by rw [beq_eq_false_iff_ne]; exact fun e => h (d2.mp e), by simpa using h⟩
  have HU := Lib.hid hU
  have HD := Lib.hid hD
  have H2 := Lib.hid h2
  have HM := Lib.hid hM
  clear hU hD h2 hM d2
  go_enter Try.func8, Try.ntmps8
  go_wp2_with fail
  refine (incrw _ _ _ (by omega) (by omega) (by omega) (by omega)).mono ?_
  rintro e w1 ⟨rfl, rfl⟩
  rw [← HU.out]
  go_wp2_with fail
  refine (decrw _ _ _ (by omega) (by omega) (by omega) (by omega)).mono ?_
  rintro e w1 ⟨rfl, rfl⟩
  rw [← HD.out]
  rcases hA with ⟨hA1, hA2⟩ | hA
  · have HA := Lib.hid hA2
    clear hA2
    go_wp2_with fail
    refine (decrw _ _ _ (by omega) (by omega) (by omega) (by omega)).mono ?_
    rintro e w1 ⟨rfl, rfl⟩
    rw [HA.out]
    go_wp2_with fail
    refine (incrw _ _ _ (by omega) (by omega) (by omega) (by omega)).mono ?_
    rintro e w1 ⟨rfl, rfl⟩
    go_wp2_with fail
    rw [← HM.out]
    refine (incrw _ _ _ (by omega) (by omega) (by omega) (by omega)).mono ?_
    rintro e w1 ⟨rfl, rfl⟩
    rw [← H2.out]
    go_wp2_with fail
    refine (incrw _ _ _ (by omega) (by omega) (by omega) (by omega)).mono ?_
    rintro e w1 ⟨rfl, rfl⟩
    go_wp2_with fail
    refine (lives04 _).mono ?_
    rintro e w2 ⟨rfl, hb⟩
    go_wp2_with fail
    go_ret
    exact ⟨rfl, hb⟩
  · have hA' : decide (a0 ≤ U) = false := decide_eq_false (by omega)
    go_wp2_with fail
    refine (incrw _ _ _ (by omega) (by omega) (by omega) (by omega)).mono ?_
    rintro e w1 ⟨rfl, rfl⟩
    go_wp2_with fail
    rw [← HM.out]
    refine (incrw _ _ _ (by omega) (by omega) (by omega) (by omega)).mono ?_
    rintro e w1 ⟨rfl, rfl⟩
    rw [← H2.out]
    go_wp2_with fail
    refine (incrw _ _ _ (by omega) (by omega) (by omega) (by omega)).mono ?_
    rintro e w1 ⟨rfl, rfl⟩
    go_wp2_with fail
    refine (lives04 _).mono ?_
    rintro e w2 ⟨rfl, hb⟩
    go_wp2_with fail
    go_ret
    exact ⟨rfl, hb⟩
end Go.Proofs.Yteofbgbjibbdaaa
