/- What a tag that is put changes, as numbers. -/
import Derived.Test.YtbfokakglanbdaaTagWith
namespace Go.Proofs.Ytbfokakglanbdaa
set_option linter.unusedVariables false
theorem put_tag (x s t : Int) (h1 : 0 ≤ x) (h2 : x < 18446744073709551616) (t1 : 0 ≤ t) (t2 : t ≤ 255) (i : Int) (hs : s = 0 ∨ s = 1 ∨ s = 2 ∨ s = 3) (hi : i = 0 ∨ i = 1 ∨ i = 2 ∨ i = 3) :
    tagf (withf x s t) i = if i = s then t else tagf x i := by
  have n : ¬ (t < 0 ∨ 255 < t) := by omega
  rcases hs with rfl | rfl | rfl | rfl <;> rcases hi with rfl | rfl | rfl | rfl <;> simp [withf, n, tagf, unit, tg0, tg1, tg2, tg3] <;> omega
theorem put_high (x s t : Int) (h1 : 0 ≤ x) (h2 : x < 18446744073709551616) (t1 : 0 ≤ t) (t2 : t ≤ 255) (hs : s = 0 ∨ s = 1 ∨ s = 2 ∨ s = 3) : withf x s t / 4294967296 = x / 4294967296 := by
  have n : ¬ (t < 0 ∨ 255 < t) := by omega
  rcases hs with rfl | rfl | rfl | rfl <;> simp [withf, n, tagf, unit, tg0, tg1, tg2, tg3] <;> omega
theorem put_back (x s t : Int) (h1 : 0 ≤ x) (h2 : x < 18446744073709551616) (t1 : 0 ≤ t) (t2 : t ≤ 255) (hs : s = 0 ∨ s = 1 ∨ s = 2 ∨ s = 3) : withf (withf x s t) s (tagf x s) = x := by
  have hp := put_tag x s t h1 h2 t1 t2 s hs hs
  simp at hp
  have n : ¬ (t < 0 ∨ 255 < t) := by omega
  have m : ¬ (tagf x s < 0 ∨ 255 < tagf x s) := by
    have := tg_range x
    rcases hs with rfl | rfl | rfl | rfl <;> simp [tagf] <;> omega
  have u : ¬ (s < 0 ∨ 3 < s) := by omega
  rw [show withf (withf x s t) s (tagf x s) = withf x s t - tagf (withf x s t) s * unit s + tagf x s * unit s by simp [withf, m, u]]
  rw [hp, show withf x s t = x - tagf x s * unit s + t * unit s by simp [withf, n, u]]
  omega
end Go.Proofs.Ytbfokakglanbdaa
