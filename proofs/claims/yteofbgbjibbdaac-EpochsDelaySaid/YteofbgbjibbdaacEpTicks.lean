/- What some ticks come to. -/
import Derived.Test.YteofbgbjibbdaacEpMath
namespace Go.Proofs.Yteofbgbjibbdaac
open Go.RowKit
set_option linter.unusedVariables false

theorem put_parts (n a g : Int) (n1 : 0 ≤ n) (n2 : n ≤ 16777215) (a1 : 0 ≤ a) (a2 : a ≤ 16777215) (g1 : 0 ≤ g) (g2 : g ≤ 65535) : nowf (putf n a g) = n ∧ atf (putf n a g) = a ∧ genf (putf n a g) = g := by
  rw [now_put, at_put, gen_put]; omega
/-- One tick, where no flush is set. -/
theorem tick_free (n g : Int) (n1 : 0 ≤ n) (n2 : n < 16777215) (g1 : 0 ≤ g) (g2 : g ≤ 65535) : tickf (putf n 0 g) = putf (n + 1) 0 g := by
  obtain ⟨p1, p2, p3⟩ := put_parts n 0 g n1 (by omega) (by omega) (by omega) g1 g2
  unfold tickf
  rw [p1, p2, p3]
  first | rfl | (simp; omega) | (repeat' split) <;> first | rfl | omega
/-- One tick, where the flush is not yet due. -/
theorem tick_wait (n a g : Int) (n1 : 0 ≤ n) (n2 : n + 1 < a) (a2 : a ≤ 16777215) (g1 : 0 ≤ g) (g2 : g ≤ 65535) : tickf (putf n a g) = putf (n + 1) a g := by
  obtain ⟨p1, p2, p3⟩ := put_parts n a g n1 (by omega) (by omega) (by omega) g1 g2
  unfold tickf
  rw [p1, p2, p3]
  (repeat' split) <;> first | rfl | omega
/-- The tick at which the flush is due. -/
theorem tick_due (n a g : Int) (n1 : 0 ≤ n) (n2 : n + 1 = a) (a2 : a ≤ 16777215) (g1 : 0 ≤ g) (g2 : g < 65535) : tickf (putf n a g) = putf (n + 1) 0 (g + 1) := by
  obtain ⟨p1, p2, p3⟩ := put_parts n a g n1 (by omega) (by omega) (by omega) g1 (by omega)
  unfold tickf
  rw [p1, p2, p3]
  (repeat' split) <;> first | rfl | omega
theorem ticks_free (n g : Int) (n1 : 0 ≤ n) (g1 : 0 ≤ g) (g2 : g ≤ 65535) : ∀ p : Nat, n + p ≤ 16777215 → ticks (putf n 0 g) p = putf (n + p) 0 g
  | 0, _ => by simp [ticks]
  | p + 1, h => by
    rw [ticks, ticks_free n g n1 g1 g2 p (by omega), tick_free (n + p) g (by omega) (by omega) g1 g2]
    congr 1; omega
theorem ticks_wait (n a g : Int) (n1 : 0 ≤ n) (a2 : a ≤ 16777215) (g1 : 0 ≤ g) (g2 : g ≤ 65535) : ∀ p : Nat, n + p < a → ticks (putf n a g) p = putf (n + p) a g
  | 0, _ => by simp [ticks]
  | p + 1, h => by
    rw [ticks, ticks_wait n a g n1 a2 g1 g2 p (by omega), tick_wait (n + p) a g (by omega) (by omega) a2 g1 g2]
    congr 1; omega
theorem ticks_past (n a g : Int) (n1 : 0 ≤ n) (na : n < a) (g1 : 0 ≤ g) (g2 : g < 65535) : ∀ p : Nat, a ≤ n + p → n + p ≤ 16777215 → ticks (putf n a g) p = putf (n + p) 0 (g + 1)
  | 0, h, _ => by omega
  | p + 1, h, hl => by
    rw [ticks]
    by_cases c : a ≤ n + p
    · rw [ticks_past n a g n1 na g1 g2 p c (by omega), tick_free (n + p) (g + 1) (by omega) (by omega) (by omega) (by omega)]
      congr 1; omega
    · rw [ticks_wait n a g n1 (by omega) g1 (by omega) p (by omega), tick_due (n + p) a g (by omega) (by omega) (by omega) g1 g2]
      congr 1; omega
end Go.Proofs.Yteofbgbjibbdaac
