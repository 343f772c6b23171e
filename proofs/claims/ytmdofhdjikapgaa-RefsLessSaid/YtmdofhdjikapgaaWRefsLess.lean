/- The law RefsLess. -/
import Derived.Test.YtmdofhdjikapgaaTo4
import Derived.Test.YtmdofhdjikapgaaOpen
namespace Go.Proofs.Ytmdofhdjikapgaa
open Go.RowKit Go.Maps
set_option linter.unusedVariables false
set_option maxHeartbeats 1000000 in
set_option maxRecDepth 100000 in
theorem walk_RefsLess (a0 : Int) (w : World) (w0 : (Lit.int .u64 a0).wf = true) :
    Calls Try.prog 10 #[.int .u64 a0] w fun e w' => e = .returned (.bool true) ∧ Below w.heap.size w w' := by
  obtain ⟨u1, u2⟩ := bounds_u64 w0
  clear w0
  have c1 := fun W => markedw a0 W u1 (by omega)
  have c3 := fun W => lessw a0 W u1 (by omega)
  by_cases hv : a0 % 2 = 1
  · rw [show (a0 % 2 == 1) = true by simpa using hv] at c1
    by_cases hmax : a0 = 18446744073709551615
    · rw [show lessF a0 = 0 by rw [hmax]; rfl] at c3
      obtain ⟨M, hM⟩ : ∃ M : Int, M = 18446744073709551615 := ⟨_, rfl⟩
      have hb : (a0 == 18446744073709551615) = true := by simpa using hmax
      have C1 := Lib.hid c1
      have C3 := Lib.hid c3
      clear c1 c3 hv hmax hM
      go_enter Try.func10, Try.ntmps10
      go_wp2_with fail
      refine (C3.out _).mono ?_
      rintro e w1 ⟨rfl, rfl⟩
      go_wp2_with fail
      refine (C1.out _).mono ?_
      rintro e w1 ⟨rfl, rfl⟩
      go_wp2_with fail
      refine (lives22 _).mono ?_
      rintro e w2 ⟨rfl, K⟩
      go_wp2_with fail
      go_ret
      exact ⟨rfl, K⟩
    · have hb : (a0 == 18446744073709551615) = false := by simpa using hmax
      obtain ⟨x, hx⟩ : ∃ x, x = a0 + 1 := ⟨_, rfl⟩
      have hlt : a0 + 1 < 18446744073709551616 := by omega
      rw [show lessF a0 = x by unfold lessF; rw [if_pos hv, IntKind.wrap_u64, hx]; omega] at c3
      have c4 := fun W => markedw x W (by omega) (by omega)
      rw [show (x % 2 == 1) = false by simp; omega] at c4
      have y0 : IntKind.u64.wrap (x + 1) = (x + 1) % 18446744073709551616 := IntKind.wrap_u64 _
      obtain ⟨y, hy⟩ : ∃ y, y = IntKind.u64.wrap (x + 1) := ⟨_, rfl⟩
      have c5 := fun W => markedw y W (by rw [hy, y0]; omega) (by rw [hy, y0]; omega)
      rw [show (y % 2 == 1) = true by rw [hy, y0]; simp; omega] at c5
      have z1 : decide (a0 < x) = true := decide_eq_true (by omega)
      have z2 : (x / 2 == a0 / 2 + 1) = true := by simp; omega
      have z3 : IntKind.u64.wrap (a0 / 2 + 1) = a0 / 2 + 1 := by rw [IntKind.wrap_u64]; omega
      have C1 := Lib.hid c1
      have C3 := Lib.hid c3
      have C4 := Lib.hid c4
      have C5 := Lib.hid c5
      have HY := Lib.hid hy
      have x0 : 0 ≤ x := by omega
      have x1 : x ≤ 18446744073709551615 := by omega
      clear c1 c3 c4 c5 hv hmax hx hy y0 hlt
      go_enter Try.func10, Try.ntmps10
      go_wp2_with fail
      refine (C3.out _).mono ?_
      rintro e w1 ⟨rfl, rfl⟩
      go_wp2_with fail
      refine (C1.out _).mono ?_
      rintro e w1 ⟨rfl, rfl⟩
      go_wp2_with fail
      refine (C4.out _).mono ?_
      rintro e w1 ⟨rfl, rfl⟩
      go_wp2_with fail
      rw [← HY.out]
      refine (C5.out _).mono ?_
      rintro e w1 ⟨rfl, rfl⟩
      go_wp2_with fail
      refine (lives22 _).mono ?_
      rintro e w2 ⟨rfl, K⟩
      go_wp2_with fail
      go_ret
      exact ⟨rfl, K⟩
  · rw [show (a0 % 2 == 1) = false by simpa using hv] at c1
    rw [show lessF a0 = a0 by unfold lessF; rw [if_neg hv]] at c3
    have C1 := Lib.hid c1
    have C3 := Lib.hid c3
    have y1 : (a0 == a0) = true := by simp
    clear c1 c3 hv
    go_enter Try.func10, Try.ntmps10
    go_wp2_with fail
    refine (C3.out _).mono ?_
    rintro e w1 ⟨rfl, rfl⟩
    go_wp2_with fail
    refine (C1.out _).mono ?_
    rintro e w1 ⟨rfl, rfl⟩
    go_wp2_with fail
    refine (lives22 _).mono ?_
    rintro e w2 ⟨rfl, K⟩
    go_wp2_with fail
    go_ret
    exact ⟨rfl, K⟩
end Go.Proofs.Ytmdofhdjikapgaa
