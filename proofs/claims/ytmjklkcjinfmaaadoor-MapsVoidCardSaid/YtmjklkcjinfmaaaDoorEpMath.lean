/- Epochs as numbers: what a word says, put together; ticks; flushes. -/
import Derived.Test.YtmjklkcjinfmaaaDoorGEp
namespace Go.Proofs.YtmjklkcjinfmaaaDoor
set_option linter.unusedVariables false

theorem putf_range (n a g : Int) : 0 ≤ putf n a g ∧ putf n a g < 18446744073709551616 := by unfold putf; omega
theorem now_put (n a g : Int) : nowf (putf n a g) = n % 16777216 := by unfold nowf putf; omega
theorem at_put (n a g : Int) : atf (putf n a g) = a % 16777216 := by unfold atf putf; omega
theorem gen_put (n a g : Int) : genf (putf n a g) = g % 65536 := by unfold genf putf; omega
theorem put_self (x : Int) (h1 : 0 ≤ x) (h2 : x < 18446744073709551616) : putf (nowf x) (atf x) (genf x) = x := by unfold putf nowf atf genf; omega
theorem tickf_range (x : Int) : 0 ≤ tickf x ∧ tickf x < 18446744073709551616 := by
  unfold tickf
  repeat' split
  all_goals exact putf_range _ _ _
theorem flushf_range (x d : Int) (h1 : 0 ≤ x) (h2 : x < 18446744073709551616) : 0 ≤ flushf x d ∧ flushf x d < 18446744073709551616 := by
  unfold flushf
  split
  · split <;> exact putf_range _ _ _
  · omega
theorem tick_now (x : Int) : nowf (tickf x) = if nowf x < 16777215 then nowf x + 1 else 16777215 := by
  obtain ⟨⟨a1, a2⟩, ⟨a3, a4⟩, ⟨a5, a6⟩⟩ := ep_range x
  unfold tickf
  split
  · split <;> rw [now_put] <;> omega
  · split <;> rw [now_put] <;> omega
theorem tick_gen (x : Int) : genf (tickf x) = genf x ∨ genf (tickf x) = genf x + 1 := by
  obtain ⟨⟨a1, a2⟩, ⟨a3, a4⟩, ⟨a5, a6⟩⟩ := ep_range x
  unfold tickf
  repeat' split
  all_goals rw [gen_put]; omega
theorem flush_nowf (x d : Int) : nowf (flushf x d) = nowf x := by
  obtain ⟨⟨a1, a2⟩, ⟨a3, a4⟩, ⟨a5, a6⟩⟩ := ep_range x
  unfold flushf
  split
  · split <;> rw [now_put] <;> omega
  · rfl
theorem flush_gen (x d : Int) : genf (flushf x d) = if genf x < 65535 ∧ d < 1 then genf x + 1 else genf x := by
  obtain ⟨⟨a1, a2⟩, ⟨a3, a4⟩, ⟨a5, a6⟩⟩ := ep_range x
  unfold flushf
  by_cases c : genf x < 65535
  · rw [if_pos c]
    by_cases d1 : d < 1
    · rw [if_pos d1, if_pos ⟨c, d1⟩, gen_put]; omega
    · rw [if_neg d1, gen_put, if_neg (show ¬ (genf x < 65535 ∧ d < 1) by omega)]; omega
  · rw [if_neg c, if_neg (by omega)]
/-- What is not alive, and not of a later flush, is not alive a tick later, nor behind a flush. -/
theorem dead_tick (g d x : Int) (hg : g ≤ genf x) (h : alivef g d x = false) : alivef g d (tickf x) = false := by
  have t := tick_now x
  have u := tick_gen x
  obtain ⟨⟨a1, a2⟩, _⟩ := ep_range x
  unfold alivef at *
  simp only [Bool.and_eq_false_iff, beq_eq_false_iff_ne, Bool.not_eq_false', Bool.and_eq_true, bne_iff_ne, decide_eq_true_eq] at *
  split at t <;> omega
theorem dead_flush (g d x e : Int) (hg : g ≤ genf x) (h : alivef g d x = false) : alivef g d (flushf x e) = false := by
  have t := flush_nowf x e
  have u := flush_gen x e
  unfold alivef at *
  simp only [Bool.and_eq_false_iff, beq_eq_false_iff_ne, Bool.not_eq_false', Bool.and_eq_true, bne_iff_ne, decide_eq_true_eq] at *
  split at u <;> omega
theorem dead_now (g d x e : Int) (hg : g ≤ genf x) (hf : flushes x = true) (he : e < 1) : alivef g d (flushf x e) = false := by
  have u := flush_gen x e
  unfold flushes at hf
  simp only [decide_eq_true_eq] at hf
  rw [if_pos ⟨hf, he⟩] at u
  unfold alivef at *
  simp only [Bool.and_eq_false_iff, beq_eq_false_iff_ne]
  omega
/-- Ticks. -/
def ticks (x : Int) : Nat → Int
  | 0 => x
  | n + 1 => tickf (ticks x n)
theorem ticks_range (x : Int) (h1 : 0 ≤ x) (h2 : x < 18446744073709551616) : ∀ n, 0 ≤ ticks x n ∧ ticks x n < 18446744073709551616
  | 0 => ⟨h1, h2⟩
  | n + 1 => tickf_range _
end Go.Proofs.YtmjklkcjinfmaaaDoor
