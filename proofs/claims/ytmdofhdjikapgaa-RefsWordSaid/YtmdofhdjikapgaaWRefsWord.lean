/- The law RefsWord. -/
import Derived.Test.YtmdofhdjikapgaaTo4
import Derived.Test.YtmdofhdjikapgaaOpen
namespace Go.Proofs.Ytmdofhdjikapgaa
open Go.RowKit Go.Maps
set_option linter.unusedVariables false
theorem rmarked22 (v : Int) (w : World) (h1 : 0 ≤ v) : Calls Try.prog 39 #[.int .u64 v] w fun e w' => e = .returned (.bool (v % 2 == 1)) ∧ w = w' := by
  go_enter Try.func39, Try.ntmps39
  go_wp2
  go_ret
  exact ⟨rfl, rfl⟩
theorem rless22 (v : Int) (w : World) (h1 : 0 ≤ v) : Calls Try.prog 41 #[.int .u64 v] w fun e w' => e = .returned (.int .u64 (lessF v)) ∧ w = w' := by
  by_cases hv : v % 2 = 1
  · have hb : (v % 2 == 1) = true := by simpa using hv
    have e : lessF v = IntKind.u64.wrap (v + 1) := by unfold lessF; rw [if_pos hv]
    rw [e]
    clear e hv
    go_enter Try.func41, Try.ntmps41
    go_wp2
    go_ret
    exact ⟨rfl, rfl⟩
  · have hb : (v % 2 == 1) = false := by simpa using hv
    have e : lessF v = v := by unfold lessF; rw [if_neg hv]
    rw [e]
    clear e hv
    go_enter Try.func41, Try.ntmps41
    go_wp2
    go_ret
    exact ⟨rfl, rfl⟩
set_option maxHeartbeats 1000000 in
theorem walk_RefsWord (a0 : Int) (w : World) (w0 : (Lit.int .u64 a0).wf = true) :
    Calls Try.prog 8 #[.int .u64 a0] w fun e w' => e = .returned (.bool true) ∧ Below w.heap.size w w' := by
  obtain ⟨u1, u2⟩ := bounds_u64 w0
  clear w0
  have C1 := Lib.hid (fun W => markedw a0 W u1 (by omega))
  have C2 := Lib.hid (fun W => rmarked22 a0 W u1)
  have C3 := Lib.hid (fun W => lessw a0 W u1 (by omega))
  have C4 := Lib.hid (fun W => rless22 a0 W u1)
  generalize (a0 % 2 == 1) = b at *
  generalize lessF a0 = l at *
  have y1 : (b == b) = true := by simp
  have y2 : (l == l) = true := by simp
  go_enter Try.func8, Try.ntmps8
  go_wp2_with fail
  refine (C1.out _).mono ?_
  rintro e w1 ⟨rfl, rfl⟩
  go_wp2_with fail
  refine (C2.out _).mono ?_
  rintro e w1 ⟨rfl, rfl⟩
  go_wp2_with fail
  refine (C3.out _).mono ?_
  rintro e w1 ⟨rfl, rfl⟩
  go_wp2_with fail
  refine (C4.out _).mono ?_
  rintro e w1 ⟨rfl, rfl⟩
  go_wp2_with fail
  refine (lives22 _).mono ?_
  rintro e w2 ⟨rfl, K⟩
  go_wp2_with fail
  go_ret
  exact ⟨rfl, K⟩
end Go.Proofs.Ytmdofhdjikapgaa
