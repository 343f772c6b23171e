/- Feeds: a new one; how much is left. -/
import Derived.Test.YteoeelhljimibaaFu
namespace Go.Proofs.Yteoeelhljimibaa
open Go.RowKit Go.Maps
set_option linter.unusedVariables false

theorem fd_mk {w W : World} {q : Nat} (h : Cb W q (fdC Fst.new (.slice none 0 0) (.slice none 0 0))) : FdAt W q (fun k => k = q) Fst.new (.slice none 0 0) (.slice none 0 0) :=
  fd_at h rfl (fun k e => by subst e; exact h.lt)
theorem newFd (w : World) : Calls Try.prog 25 #[] w fun e w' => e = .returned (.pointer (some ⟨w.heap.size, 0, none⟩)) ∧ FdAt w' w.heap.size (fun k => k = w.heap.size) Fst.new (.slice none 0 0) (.slice none 0 0) ∧ Below w.heap.size w w' := by
  go_enter Try.func25, Try.ntmps25
  go_wp2_with fail
  go_ret
  exact ⟨rfl, fd_mk (w := w) (cb_new rfl), (Below.refl _ _).alloc (Nat.le_refl _) _⟩
end Go.Proofs.Yteoeelhljimibaa
