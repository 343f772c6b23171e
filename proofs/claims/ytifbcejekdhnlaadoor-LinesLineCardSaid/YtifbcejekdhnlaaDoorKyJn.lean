/- The words of words that were put together; what is left of a text without its blanks. -/
import Derived.Test.YtifbcejekdhnlaaDoorKyMath
import Derived.Lib.Replace
import Derived.Lib.CountLaws
import Derived.Lib.Join
import Derived.Laws.Concat
namespace Go.Proofs.YtifbcejekdhnlaaDoor
set_option linter.unusedVariables false

/-- Where a one-byte text is found, or not. -/
theorem index_one (s : List UInt8) (c : UInt8) : (Lib.index s [c] = -1 ∧ ∀ x ∈ s, x ≠ c) ∨ ∃ i : Nat, Lib.index s [c] = i ∧ i < s.length ∧ (∀ x ∈ s.take i, x ≠ c) := by
  induction s with
  | nil => left; simp [Lib.index]
  | cons b l ih =>
    unfold Lib.index
    by_cases hb : c = b
    · right
      refine ⟨0, ?_, by simp, by simp⟩
      rw [if_pos (by simp [List.isPrefixOf, hb])]; rfl
    · rw [if_neg (by simp [List.isPrefixOf, hb])]
      rcases ih with ⟨h, hx⟩ | ⟨i, h, hi, hx⟩
      · left
        rw [if_pos (by simp [h])]
        refine ⟨rfl, fun x hx' => ?_⟩
        rcases List.mem_cons.mp hx' with rfl | hx'
        · exact fun e => hb e.symm
        · exact hx x hx'
      · right
        refine ⟨i + 1, ?_, by simp; omega, ?_⟩
        · rw [if_neg (by simp [h]), h]; simp
        · intro x hx'
          rw [List.take_succ_cons] at hx'
          rcases List.mem_cons.mp hx' with rfl | hx'
          · exact fun e => hb e.symm
          · exact hx x hx'
theorem replK_no (c : UInt8) : ∀ (n : Nat) (s : List UInt8), s.length ≤ n → (∀ x ∈ Lib.replaceK [c] [] (Lib.count s [c]) s, x ≠ c) ∧ (Lib.replaceK [c] [] (Lib.count s [c]) s).length ≤ s.length := by
  intro n
  induction n with
  | zero =>
    intro s hs
    obtain rfl : s = [] := List.eq_nil_of_length_eq_zero (by omega)
    have : Lib.count [] [c] = 0 := Lib.count_miss (by simp [Lib.index])
    rw [this]; simp [Lib.replaceK]
  | succ n ih =>
    intro s hs
    rcases index_one s c with ⟨h, hx⟩ | ⟨i, h, hi, hx⟩
    · rw [Lib.count_miss h]
      simp only [Lib.replaceK]
      exact ⟨hx, Nat.le_refl _⟩
    · rw [Lib.count_hit (by simp) h, Nat.add_comm, Lib.replaceK_hit _ _ _ _ _ h]
      obtain ⟨h1, h2⟩ := ih (s.drop (i + [c].length)) (by simp; omega)
      refine ⟨fun x hx' => ?_, ?_⟩
      · simp only [List.append_nil] at hx'
        rcases List.mem_append.mp hx' with hx' | hx'
        · exact hx x hx'
        · exact h1 x hx'
      · simp only [List.append_nil, List.length_append, List.length_take]
        simp only [List.length_drop, List.length_cons, List.length_nil] at h2
        simp only [List.length_cons, List.length_nil]
        omega
/-- A text without its blanks. -/
theorem repl_no (s : List UInt8) : (∀ x ∈ Lib.replaceAll s [32] [], x ≠ 32) ∧ (Lib.replaceAll s [32] []).length ≤ s.length := by
  have e : Lib.replaceAll s [32] [] = Lib.replaceK [32] [] (Lib.count s [32]) s := by
    unfold Lib.replaceAll Lib.replace Lib.replaceNum
    rw [if_neg (by decide), if_pos (by simp)]
  rw [e]
  exact replK_no 32 _ s (Nat.le_refl _)
/-- Blanks behind a line change no word. -/
theorem wordsG_behind : ∀ (s cur : List UInt8) (n : Nat), wordsG cur (s ++ List.replicate n 32) = wordsG cur s
  | [], cur, n => by
    rw [List.nil_append]
    by_cases h : cur = []
    · subst h
      have := wordsG_blanks n []
      rw [List.append_nil] at this
      exact this
    · rw [wordsG_tail n h]; simp [wordsG, h]
  | c :: s, cur, n => by
    rw [List.cons_append]
    unfold wordsG
    rw [wordsG_behind s [] n, wordsG_behind s (cur ++ [c]) n]
/-- What a text that is under way is to the words that it has till now. -/
structure Txt (T : List UInt8) (ws : List (List UInt8)) : Prop where
  on : ∀ t, wordsG [] (T ++ 32 :: t) = ws ++ wordsG [] t
  none : ws = [] → ∃ k, T = List.replicate k 32
theorem Txt.words {T : List UInt8} {ws : List (List UInt8)} (h : Txt T ws) : wordsF T = ws := by
  have := h.on []
  rw [show (32 :: ([] : List UInt8)) = List.replicate 1 32 from rfl, wordsG_behind] at this
  unfold wordsF
  rw [this]; simp [wordsG]
theorem Txt.words_behind {T : List UInt8} {ws : List (List UInt8)} (h : Txt T ws) (n : Nat) : wordsF (T ++ List.replicate n 32) = ws := by
  unfold wordsF
  rw [wordsG_behind]
  exact h.words
theorem Txt.nil : Txt [] [] := ⟨fun t => by rw [List.nil_append, wordsG_gap rfl, List.nil_append], fun _ => ⟨0, rfl⟩⟩
theorem Txt.gap {T : List UInt8} {ws : List (List UInt8)} (h : Txt T ws) (n : Nat) : Txt (T ++ List.replicate n 32) ws := by
  refine ⟨fun t => ?_, fun e => ?_⟩
  · cases n with
    | zero => simpa using h.on t
    | succ n =>
      rw [List.replicate_succ, List.append_assoc, List.cons_append, h.on, wordsG_blanks, wordsG_gap rfl]
  · obtain ⟨k, hk⟩ := h.none e
    exact ⟨k + n, by rw [hk, List.replicate_append_replicate]⟩
theorem word_on {x : List UInt8} (h0 : x ≠ []) (h : ∀ c ∈ x, c ≠ 32) (t : List UInt8) : wordsG [] (x ++ 32 :: t) = x :: wordsG [] t := by
  rw [wordsG_word _ _ _ h, List.nil_append, wordsG_end h0]
theorem Txt.word {T x : List UInt8} {ws : List (List UInt8)} (h : Txt T ws) (n : Nat) (hn : ws ≠ [] → 0 < n) (h0 : x ≠ []) (hx : ∀ c ∈ x, c ≠ 32) : Txt (T ++ List.replicate n 32 ++ x) (ws ++ [x]) := by
  refine ⟨fun t => ?_, fun e => by simp at e⟩
  by_cases e : ws = []
  · obtain ⟨k, rfl⟩ := h.none e
    subst e
    rw [List.append_assoc, List.append_assoc, wordsG_blanks, wordsG_blanks, word_on h0 hx]; simp
  · obtain ⟨m, rfl⟩ : ∃ m, n = m + 1 := ⟨n - 1, by have := hn e; omega⟩
    rw [List.replicate_succ, List.append_assoc, List.append_assoc, List.cons_append, h.on, wordsG_blanks, word_on h0 hx]; simp
/-- Words with a blank between have these words. -/
theorem words_join : ∀ (ws : List (List UInt8)), (∀ x ∈ ws, x ≠ [] ∧ ∀ c ∈ x, c ≠ 32) → wordsF (Lib.join ws [32]) = ws
  | [], _ => by simp [Lib.join, wordsF, wordsG, List.intercalate]
  | x :: r, h => by
    have key : ∀ (r : List (List UInt8)) (x : List UInt8), (∀ y ∈ x :: r, y ≠ [] ∧ ∀ c ∈ y, c ≠ 32) → wordsG [] (x ++ Lib.joinTail [32] r) = x :: r := by
      intro r
      induction r with
      | nil =>
        intro x h
        obtain ⟨h0, h1⟩ := h x (by simp)
        unfold Lib.joinTail
        simp only [List.map_nil, List.flatten_nil, List.append_nil]
        have := wordsG_word x [] [] h1
        rw [List.append_nil, List.nil_append] at this
        rw [this]; simp [wordsG, h0]
      | cons y r ih =>
        intro x h
        obtain ⟨h0, h1⟩ := h x (by simp)
        have e : Lib.joinTail [32] (y :: r) = 32 :: (y ++ Lib.joinTail [32] r) := by simp [Lib.joinTail]
        rw [e, word_on h0 h1, ih y (fun z hz => h z (List.mem_cons_of_mem _ hz))]
    rw [Lib.join_cons]
    exact key r x h
/-- A line's words with a blank between are no longer than the line. -/
theorem words_fit : ∀ (t cur : List UInt8), (Lib.join (wordsG cur t) [32]).length ≤ cur.length + t.length
  | [], cur => by
    unfold wordsG
    split <;> simp [Lib.join, List.intercalate]
  | c :: t, cur => by
    unfold wordsG
    have h1 := words_fit t []
    have h2 := words_fit t (cur ++ [c])
    simp at h1 h2
    split
    · split
      · simp; omega
      · generalize wordsG [] t = l at h1
        cases l with
        | nil => simp [Lib.join, List.intercalate]
        | cons y r =>
          rw [Lib.join_cons] at h1 ⊢
          have e : Lib.joinTail [32] (y :: r) = 32 :: (y ++ Lib.joinTail [32] r) := by simp [Lib.joinTail]
          rw [e]; simp at h1 ⊢; omega
    · simp; omega
/-- No blank is found where there is none. -/
theorem idx_none {s : List UInt8} {c : UInt8} (h : ∀ x ∈ s, x ≠ c) : Lib.indexByte s c = -1 := by
  induction s with
  | nil => rfl
  | cons b l ih =>
    unfold Lib.indexByte
    rw [if_neg (by simpa using h b (by simp)), ih (fun x hx => h x (by simp [hx]))]; simp
end Go.Proofs.YtifbcejekdhnlaaDoor
