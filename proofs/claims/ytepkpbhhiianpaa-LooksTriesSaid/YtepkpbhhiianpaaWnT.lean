/- A world of first bits. -/
import Derived.Test.YtepkpbhhiianpaaWd2
namespace Go.Proofs.Ytepkpbhhiianpaa
open Go.RowKit Go.Maps
set_option linter.unusedVariables false
def IsWnT (w : World) (b : Int) (e : Ending) (w' : World) : Prop := ∃ A, e = .returned (.pointer (some ⟨A.p, 0, none⟩)) ∧ WdB w' A (V0 ⟨b, 8, 3, 1, 16⟩) w.heap.size ∧ Below w.heap.size w w'
theorem worldNT (b : Int) (hb : 1 ≤ b ∧ b ≤ 12) (w : World) : Calls Try.prog 7 #[.int .i64 b] w (IsWnT w b) := by
  have C := Lib.hid (newW b 8 3 1 16 w (by unfold mayc; simp; omega))
  clear hb
  go_enter Try.func7, Try.ntmps7
  go_wp2_with fail
  refine C.out.mono ?_
  rintro e w1 ⟨A, rfl, hW, K⟩
  have HW := Lib.hid hW
  have HK := Lib.hid K
  clear hW K C
  go_wp2_with fail
  go_ret
  exact ⟨A, rfl, HW.out, HK.out⟩
end Go.Proofs.Ytepkpbhhiianpaa
