/- The law NumsCount. -/
import Derived.Test.YteofbgbjibbdaaaDoorTxRef
import Derived.Test.YteofbgbjibbdaaaDoorBits
namespace Go.Proofs.YteofbgbjibbdaaaDoor
open Go.RowKit
set_option linter.unusedVariables false

set_option maxHeartbeats 1000000 in
set_option maxRecDepth 100000 in
theorem walk_NumsCount (a0 : Int) (a1 : Int) (w : World) (w0 : (Lit.int .u64 a0).wf = true) (w1 : (Lit.int .u64 a1).wf = true) (htab : Lib.TabIs Tryd.prog w "internal/strconv.uint64pow10" .u64 Lib.pow10Tab) :
    Calls Tryd.prog 4 #[.int .u64 a0, .int .u64 a1] w fun e w' => e = .returned (.bool true) ∧ Below w.heap.size w w' := by
  obtain ⟨l0, u0⟩ := bounds_u64 w0
  obtain ⟨l1, u1⟩ := bounds_u64 w1
  obtain ⟨n, rfl⟩ : ∃ n : Nat, a0 = n := ⟨a0.toNat, by omega⟩
  clear w0 w1
  have u0' : (n : Int) ≤ 18446744073709551615 := by omega
  have u1' : a1 ≤ 18446744073709551615 := by omega
  have un : n < 18446744073709551616 := by omega
  clear u0 u1
  go_enter Tryd.func4, Tryd.ntmps4
  go_wp2_with fail
  refine (textw n un _ htab).mono ?_
  rintro e w1 ⟨rfl, hb1⟩
  go_wp2_with fail
  refine (reftext n un _).mono ?_
  rintro e w2 ⟨rfl, rfl⟩
  go_wp2_with fail
  refine (incrw _ _ _ l0 u0' l1 u1').mono ?_
  rintro e w2 ⟨rfl, rfl⟩
  go_wp2_with fail
  refine (refincr _ _ _ l0 u0' l1 u1').mono ?_
  rintro e w2 ⟨rfl, rfl⟩
  go_wp2_with fail
  refine (decrw _ _ _ l0 u0' l1 u1').mono ?_
  rintro e w2 ⟨rfl, rfl⟩
  go_wp2_with fail
  refine (refdecr _ _ _ l0 u0' l1 u1').mono ?_
  rintro e w2 ⟨rfl, rfl⟩
  go_wp2_with fail
  refine (lives04 _).mono ?_
  rintro e w2 ⟨rfl, hb2⟩
  have hb := below_then hb1 hb2
  clear hb1 hb2
  go_wp2_with fail
  go_ret
  exact ⟨rfl, hb⟩
end Go.Proofs.YteofbgbjibbdaaaDoor
