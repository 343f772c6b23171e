/- Contracts of package tagwords and of its chapter's answers: the lowest free slot, and how many are not free. -/
import Derived.Test.YtodppilfpemepaaGreatTagHas
namespace Go.Proofs.YtodppilfpemepaaGreat
open Go.RowKit
set_option linter.unusedVariables false

def fr4 (x : Int) : Int := if tagf x 0 = 0 then 0 else if tagf x 1 = 0 then 1 else if tagf x 2 = 0 then 2 else if tagf x 3 = 0 then 3 else -1
def cntk (x : Int) : Nat → Int
  | 0 => 0
  | k + 1 => cntk x k + if tagf x k = 0 then 0 else 1
theorem cntk_range (x : Int) : ∀ k, 0 ≤ cntk x k ∧ cntk x k ≤ k
  | 0 => by simp [cntk]
  | k + 1 => by have := cntk_range x k; unfold cntk; split <;> omega
def NoFree (x : Int) (k : Nat) : Prop := ∀ j : Nat, j < k → tagf x j ≠ 0
theorem fr4_hit (x : Int) (k : Nat) (hk : k < 4) (h : NoFree x k) (h0 : tagf x k = 0) : fr4 x = k := by
  have g0 := h 0
  have g1 := h 1
  have g2 := h 2
  simp at g0 g1 g2
  have hc : k = 0 ∨ k = 1 ∨ k = 2 ∨ k = 3 := by omega
  unfold fr4
  rcases hc with rfl | rfl | rfl | rfl <;> simp_all
theorem fr4_none (x : Int) (h : NoFree x 4) : fr4 x = -1 := by
  have g0 := h 0
  have g1 := h 1
  have g2 := h 2
  have g3 := h 3
  simp at g0 g1 g2 g3
  unfold fr4
  simp_all
theorem noFree_succ (x : Int) (k : Nat) (h : NoFree x k) (h0 : ¬ tagf x k = 0) : NoFree x (k + 1) := by
  intro j hj
  by_cases e : j = k
  · subst e; exact h0
  · exact h j (by omega)
theorem tagf_range (x s : Int) : 0 ≤ tagf x s ∧ tagf x s ≤ 255 := by
  have := tg_range x
  unfold tagf
  repeat' split
  all_goals omega
theorem freew (x : Int) (w : World) (h1 : 0 ≤ x) (h2 : x < 18446744073709551616) :
    Calls Tryz.prog 110 #[.int .u64 x] w fun e w' => e = .returned (.int .i64 (fr4 x)) ∧ Below w.heap.size w w' := by
  go_enter Tryz.func110, Tryz.ntmps110
  go_wp2_with fail
  refine (parts _ _ h1 h2).mono ?_
  rintro e w1 ⟨rfl, hb1⟩
  go_wp2_with fail
  go_loop [7] (fun i => ∃ k : Nat, k ≤ 4 ∧ i = .int .i64 k ∧ NoFree x k) (fun i => 4 - (intOf i).toNat)
  case atStart => exact ⟨0, by omega, rfl, fun j hj => by omega⟩
  case round =>
    obtain ⟨k, hk, rfl, hn⟩ := hrel
    have hN := Lib.hid hn
    clear hn
    by_cases hlt : k < 4
    · have ix := idx4_at x k hlt
      by_cases hit : tagf x k = 0
      · have hb : (tagf x k == 0) = true := by simpa using hit
        have HH := Lib.hid (fr4_hit x k hlt hN.out hit)
        clear hit
        go_wp2
        go_ret
        exact ⟨ret_int HH.out.symm, hb1⟩
      · have hb : (tagf x k == 0) = false := by simpa using hit
        have HH := Lib.hid (noFree_succ x k hN.out hit)
        clear hit
        go_wp2
        go_round
        case rel => exact ⟨k + 1, by omega, by go_num, HH.out⟩
        case measure => simp [intOf]; omega
    · obtain rfl : k = 4 := by omega
      have HH := Lib.hid (fr4_none x hN.out)
      go_wp2
      go_ret
      exact ⟨ret_int HH.out.symm, hb1⟩
end Go.Proofs.YtodppilfpemepaaGreat
