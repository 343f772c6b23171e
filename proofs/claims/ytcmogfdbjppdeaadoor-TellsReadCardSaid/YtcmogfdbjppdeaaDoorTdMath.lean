/- Tells: the words of a line that is told. -/
import Derived.Test.YtcmogfdbjppdeaaDoorKyMath
import Derived.Test.YtcmogfdbjppdeaaDoorTxMath
namespace Go.Proofs.YtcmogfdbjppdeaaDoor
set_option linter.unusedVariables false

theorem wordsG_run : ∀ (x cur t : List UInt8), (∀ c ∈ x, c ≠ 32) → wordsG cur (x ++ t) = wordsG (cur ++ x) t
  | [], cur, t, _ => by simp
  | c :: x, cur, t, h => by
    rw [List.cons_append, wordsG_go (h c (by simp)), wordsG_run x (cur ++ [c]) t (fun d hd => h d (by simp [hd]))]
    simp
theorem words_cons {x t : List UInt8} (h : ∀ c ∈ x, c ≠ 32) (hn : x ≠ []) : wordsG [] (x ++ 32 :: t) = x :: wordsG [] t := by
  rw [wordsG_run x [] (32 :: t) h, List.nil_append, wordsG_end hn]
theorem words_last {x : List UInt8} (h : ∀ c ∈ x, c ≠ 32) (hn : x ≠ []) : wordsG [] x = [x] := by
  have := wordsG_run x [] [] h
  rw [List.append_nil, List.nil_append] at this
  rw [this]
  simp [wordsG, hn]
/-- The four words of a value's line, and the five. -/
theorem words_four {v k a b : List UInt8} (hv : ∀ c ∈ v, c ≠ 32) (hk : ∀ c ∈ k, c ≠ 32) (ha : ∀ c ∈ a, c ≠ 32) (hb : ∀ c ∈ b, c ≠ 32) (nv : v ≠ []) (nk : k ≠ []) (na : a ≠ []) (nb : b ≠ []) :
    wordsF (v ++ 32 :: (k ++ 32 :: (a ++ 32 :: b))) = [v, k, a, b] := by
  unfold wordsF
  rw [words_cons hv nv, words_cons hk nk, words_cons ha na, words_last hb nb]
theorem words_five {v k a b d : List UInt8} (hv : ∀ c ∈ v, c ≠ 32) (hk : ∀ c ∈ k, c ≠ 32) (ha : ∀ c ∈ a, c ≠ 32) (hb : ∀ c ∈ b, c ≠ 32) (hd : ∀ c ∈ d, c ≠ 32) (nv : v ≠ []) (nk : k ≠ []) (na : a ≠ []) (nb : b ≠ []) (nd : d ≠ []) :
    wordsF (v ++ 32 :: (k ++ 32 :: (a ++ 32 :: (b ++ 32 :: d)))) = [v, k, a, b, d] := by
  unfold wordsF
  rw [words_cons hv nv, words_cons hk nk, words_cons ha na, words_cons hb nb, words_last hd nd]
/-- A key that may be has no blank, and no end of a line. -/
theorem key_plain {s : List UInt8} (h : (lookF s).1 = 0) : s ≠ [] ∧ ∀ c ∈ s, c ≠ 32 ∧ c ≠ 13 ∧ c ≠ 10 := by
  unfold lookF at h
  split at h
  · simp at h
  · next h0 =>
    split at h
    · simp at h
    · split at h
      · simp at h
      · next hf =>
        refine ⟨by rintro rfl; simp at h0, fun c hc => ?_⟩
        have hm : mayB c = true := by
          have e : s.findIdx (fun c => !mayB c) = s.length := by
            have := List.findIdx_le_length (p := fun c => !mayB c) (xs := s)
            omega
          rw [List.findIdx_eq_length] at e
          simpa using e c hc
        refine ⟨?_, ?_, ?_⟩ <;> rintro rfl <;> simp [mayB] at hm
/-- Digits are no blanks, and no end of a line. -/
theorem dec_words (n : Nat) : Lib.decDigits n ≠ [] ∧ ∀ c ∈ Lib.decDigits n, c ≠ 32 ∧ c ≠ 13 ∧ c ≠ 10 := by
  have hb : ∀ k, k < 10 → UInt8.ofNat (48 + k) ≠ 32 ∧ UInt8.ofNat (48 + k) ≠ 13 ∧ UInt8.ofNat (48 + k) ≠ 10 := by decide
  induction n using Nat.strongRecOn with
  | _ n ih =>
    by_cases h : n < 10
    · rw [dec_small h]
      refine ⟨by simp, fun c hc => ?_⟩
      rw [List.mem_singleton.mp hc]
      exact hb n h
    · rw [dec_big h]
      refine ⟨by simp, fun c hc => ?_⟩
      rcases List.mem_append.mp hc with h1 | h1
      · exact (ih (n / 10) (by omega)).2 c h1
      · rw [List.mem_singleton.mp h1]
        exact hb _ (Nat.mod_lt _ (by decide))
end Go.Proofs.YtcmogfdbjppdeaaDoor
