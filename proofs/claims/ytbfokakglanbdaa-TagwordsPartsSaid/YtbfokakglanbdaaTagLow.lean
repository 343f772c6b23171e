/- Words with the same lower bits, as numbers; lists of slots, whatever the tag. -/
import Derived.Test.YtbfokakglanbdaaTagCount
namespace Go.Proofs.Ytbfokakglanbdaa
open Go.RowKit
set_option linter.unusedVariables false
/-- The slots of a tag, whatever it is. -/
def hasA (x t : Int) : List Int := if t < 1 then [] else hasl x t 4
theorem hasl_neg (x t : Int) (ht : t < 0) : ∀ k, hasl x t k = []
  | 0 => rfl
  | k + 1 => by
    have := tagf_range x k
    rw [hasl_miss x t k (by omega), hasl_neg x t ht k]
theorem hasA_any (x t : Int) (w : World) (h1 : 0 ≤ x) (h2 : x < 18446744073709551616) :
    Calls Try.prog 33 #[.int .u64 x, .int .i64 t] w (IsLst w 1 (hasA x t).length (ints (hasA x t))) := by
  by_cases ht : t < 1
  · rw [show hasA x t = [] from if_pos ht]; exact hasw0 x t w ht h1 h2
  · rw [show hasA x t = hasl x t 4 from if_neg ht]; exact hasw x t w (by omega) h1 h2
theorem refhas_any (x t : Int) (w : World) (h1 : 0 ≤ x) (h2 : x < 18446744073709551616) :
    Calls Try.prog 32 #[.int .u64 x, .int .i64 t] w (IsLst w 1 (hasA x t).length (ints (hasA x t))) := by
  by_cases h0 : t = 0
  · subst h0; exact refhas0 x w h1 h2
  · by_cases ht : t < 1
    · have := refhas x t w h0 h1 h2
      rw [hasl_neg x t (by omega)] at this
      rw [show hasA x t = [] from if_pos ht]; exact this
    · rw [show hasA x t = hasl x t 4 from if_neg ht]; exact refhas x t w h0 h1 h2
theorem hasl_congr (a c t : Int) : ∀ k : Nat, (∀ j : Nat, j < k → tagf a j = tagf c j) → hasl a t k = hasl c t k
  | 0, _ => rfl
  | k + 1, h => by unfold hasl; rw [hasl_congr a c t k (fun j hj => h j (by omega)), h k (by omega)]
theorem cntk_congr (a c : Int) : ∀ k : Nat, (∀ j : Nat, j < k → tagf a j = tagf c j) → cntk a k = cntk c k
  | 0, _ => rfl
  | k + 1, h => by unfold cntk; rw [cntk_congr a c k (fun j hj => h j (by omega)), h k (by omega)]
theorem low_tags (a c : Int) (h : a % 4294967296 = c % 4294967296) (j : Nat) : tagf a j = tagf c j := by
  unfold tagf tg0 tg1 tg2 tg3
  repeat' split
  all_goals omega
theorem low_of_tags (a c : Int) (ha : 0 ≤ a) (hc : 0 ≤ c) (h : ∀ j : Nat, j < 4 → tagf a j = tagf c j) : a % 4294967296 = c % 4294967296 := by
  have h0 := h 0 (by omega)
  have h1 := h 1 (by omega)
  have h2 := h 2 (by omega)
  have h3 := h 3 (by omega)
  simp [tagf, tg0, tg1, tg2, tg3] at h0 h1 h2 h3
  omega
theorem low_all (a c t : Int) (h : a % 4294967296 = c % 4294967296) : hasA a t = hasA c t ∧ fr4 a = fr4 c ∧ cntk a 4 = cntk c 4 := by
  have e := low_tags a c h
  refine ⟨?_, ?_, cntk_congr a c 4 fun j _ => e j⟩
  · unfold hasA; rw [hasl_congr a c t 4 fun j _ => e j]
  · have e0 := e 0
    have e1 := e 1
    have e2 := e 2
    have e3 := e 3
    simp at e0 e1 e2 e3
    unfold fr4; rw [e0, e1, e2, e3]
end Go.Proofs.Ytbfokakglanbdaa
