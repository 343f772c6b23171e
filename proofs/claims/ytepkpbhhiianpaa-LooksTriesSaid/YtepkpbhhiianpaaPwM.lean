/- A pair of worlds as at first. -/
import Derived.Test.YtepkpbhhiianpaaGPx
import Derived.Test.YtepkpbhhiianpaaWd4
namespace Go.Proofs.Ytepkpbhhiianpaa
open Go.RowKit Go.Maps
set_option linter.unusedVariables false
theorem isLs_list (M : List (Int × Int)) (hU : ∀ x ∈ M, isU x.1 ∧ isU x.2) : IsLs (listL M) (wordsF M) := by
  have key : ∀ (M L : List (Int × Int)) (f : Int → Int), (∀ x ∈ M, isU x.1 ∧ isU x.2) → IsLs L f → IsLs (M.foldl (fun L x => putL L x.1 x.2) L) (M.foldl (fun f x => upd f x.1 x.2) f) := by
    intro M
    induction M with
    | nil => intro L f _ h; exact h
    | cons x r ih =>
      intro L f hu h
      exact ih _ _ (fun y hy => hu y (by simp [hy])) (h.put (hu x (by simp)).1 (hu x (by simp)).2)
  exact key M [] (fun _ => 0) hU IsLs.nil
theorem isU_first {b : Int} (hb : 1 ≤ b ∧ b ≤ 12) : ∀ x ∈ [((2 : Int), b)], isU x.1 ∧ isU x.2 := fun x hx => by
  simp at hx
  subst hx
  exact ⟨⟨by show (0 : Int) ≤ 2; decide, by show (2 : Int) < 18446744073709551616; decide⟩, ⟨by show 0 ≤ b; omega, by show b < 18446744073709551616; omega⟩⟩
end Go.Proofs.Ytepkpbhhiianpaa
