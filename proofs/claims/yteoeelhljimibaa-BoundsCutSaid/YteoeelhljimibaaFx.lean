/- Feeds: like, of two events that are the same. -/
import Derived.Test.YteoeelhljimibaaFw
import Derived.BigRegion
import Derived.Deep.RegionHeld
import Derived.IntWalk
namespace Go.Proofs.Yteoeelhljimibaa
open Go.RowKit Go.Maps
set_option linter.unusedVariables false

/-- Keys that can be read. -/
structure KyR (W : World) (kv : Value) (l : List (List UInt8)) : Prop where
  form : ∃ A c, kv = .slice A l.length c ∧ l.length ≤ c ∧ c ≤ maxLen ∧ ∀ k x, l[k]? = some x → ∃ g, A = some ⟨g, 0, none⟩ ∧ g < W.heap.size ∧ W.cell? ⟨g, k, none⟩ = some (.string ⟨x.toArray⟩)
theorem KyS.rd {W : World} {U : Nat → Prop} {kv : Value} {l : List (List UInt8)} (h : KyS W U kv l) : KyR W kv l := by
  rcases h with ⟨rfl, rfl⟩ | ⟨g, c, rfl, h1, h2, h3, h4, h5⟩
  · exact ⟨none, 0, rfl, by simp, by simp [maxLen], fun k x h => by simp at h⟩
  · exact ⟨_, c, rfl, h1, h2, fun k x hk => ⟨g, rfl, h4, by have := h5 k x hk; rwa [Nat.zero_add] at this⟩⟩
theorem belowNf {B : Nat} {a w : World} (h : Below B a w) (n : Nat) : Below B a (w.drewN n) := by
  induction n with
  | zero => exact h
  | succ n ih => exact ih.drew
end Go.Proofs.Yteoeelhljimibaa
