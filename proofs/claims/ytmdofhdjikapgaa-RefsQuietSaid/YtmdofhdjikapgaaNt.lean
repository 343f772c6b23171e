/- Contracts of package notes: names, whether a kind is one. -/
import Derived.Test.YtmdofhdjikapgaaChecked
import Derived.Test.YtmdofhdjikapgaaLib
namespace Go.Proofs.Ytmdofhdjikapgaa
open Go.RowKit
set_option linter.unusedVariables false

def iskf (k : Int) : Bool := decide (1 ≤ k) && decide (k ≤ 9)
theorem iskw (k : Int) (w : World) : Calls Try.prog 93 #[.int .u8 k] w fun e w' => e = .returned (.bool (iskf k)) ∧ w = w' := by
  have h : (k < 1 ∧ iskf k = false) ∨ (1 ≤ k ∧ k ≤ 9 ∧ iskf k = true) ∨ (1 ≤ k ∧ 9 < k ∧ iskf k = false) := by unfold iskf; simp; omega
  obtain ⟨r, hr⟩ : ∃ r, iskf k = r := ⟨_, rfl⟩
  rw [hr] at h ⊢
  clear hr
  rcases h with ⟨h1, rfl⟩ | ⟨h1, h2, rfl⟩ | ⟨h1, h2, rfl⟩
  all_goals
    go_enter Try.func93, Try.ntmps93
    go_wp2_with fail
    go_ret
    exact ⟨ret_bool (by simp <;> omega), rfl⟩
end Go.Proofs.Ytmdofhdjikapgaa
