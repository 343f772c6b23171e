/- Lines: Parse of whatever line. -/
import Derived.Test.YtifbcejekdhnlaaDoorLn8
namespace Go.Proofs.YtifbcejekdhnlaaDoor
open Go.RowKit Go.Maps
set_option linter.unusedVariables false

theorem wordsG_len : ∀ (t cur : List UInt8), ∀ x ∈ wordsG cur t, x.length ≤ cur.length + t.length
  | [], cur, x, hx => by
    unfold wordsG at hx
    split at hx
    · simp at hx
    · simp at hx; subst hx; simp
  | c :: t, cur, x, hx => by
    unfold wordsG at hx
    split at hx
    · split at hx
      · have := wordsG_len t [] x hx; simp at this ⊢; omega
      · rcases List.mem_cons.mp hx with rfl | hx
        · simp
        · have := wordsG_len t [] x hx; simp at this ⊢; omega
    · have := wordsG_len t _ x hx; simp at this ⊢; omega
theorem parsel (s : ByteArray) (w : World) (hs : s.size ≤ maxLen) : Calls Tryd.prog 10 #[.string s] w (IsPar w (parseC s.data.toList)) := by
  have hl : s.data.toList.length = s.size := by simp
  by_cases h : 2048 < s.size
  · have e : parseC s.data.toList = (Cmd.none, 3) := by unfold parseC; rw [if_pos (by rw [hl]; exact h)]
    rw [e]
    exact parse_long s w h hs
  have e : parseC s.data.toList = parseN (wordsF s.data.toList) := by unfold parseC; rw [if_neg (by rw [hl]; exact h)]
  rw [e]
  have hc := wordsG_count s.data.toList []
  have hw := wordsG_len s.data.toList []
  cases hws : wordsF s.data.toList with
  | nil => exact parse_blank s w (by omega) hws
  | cons n ws =>
    have hc' : (n :: ws).length ≤ 2048 := by rw [← hws]; unfold wordsF; simp at hc ⊢; omega
    have hw' : ∀ x ∈ n :: ws, x.length ≤ 1048576 := fun x hx => by
      rw [← hws] at hx
      have := hw x hx
      simp at this
      omega
    cases hf : formOf n with
    | none =>
      have e2 : parseN (n :: ws) = (Cmd.none, 1) := by simp [parseN, hf]
      rw [e2]
      exact parse_noverb s w n ws (by omega) hws hf (hw' n (by simp))
    | some f =>
      have e2 : parseN (n :: ws) = parseW f ws := by simp [parseN, hf]
      rw [e2]
      exact parse_verb s w n ws f (by omega) hws hf hw' (by omega)
end Go.Proofs.YtifbcejekdhnlaaDoor
