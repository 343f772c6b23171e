/- Which bytes a key may have; where the first one is that it may not; the words of a line. -/
import Derived.Test.YtmjklkcjinfmaaaDoorLib
namespace Go.Proofs.YtmjklkcjinfmaaaDoor
set_option linter.unusedVariables false

/-- May a byte be in a key? -/
def mayB (c : UInt8) : Bool := decide (32 < (c.toNat : Int)) && !(decide ((c.toNat : Int) = 127))
theorem mayB_mk {c : UInt8} (h1 : 32 < (c.toNat : Int)) (h2 : ¬ (c.toNat : Int) = 127) : mayB c = true := by simp [mayB]; omega
theorem mayB_lo {c : UInt8} (h1 : ¬ 32 < (c.toNat : Int)) : mayB c = false := by simp [mayB]; omega
theorem mayB_del {c : UInt8} (h1 : (c.toNat : Int) = 127) : mayB c = false := by simp [mayB]; omega
/-- What is wrong with a key, and where: 0 nothing, 1 empty, 2 long, 3 a byte. -/
def lookF (s : List UInt8) : Int × Int :=
  if s.length = 0 then (1, 0) else if 250 < s.length then (2, 0) else if s.findIdx (fun c => !mayB c) < s.length then (3, s.findIdx (fun c => !mayB c)) else (0, 0)
theorem lookF_range (s : List UInt8) : 0 ≤ (lookF s).1 ∧ (lookF s).1 ≤ 3 ∧ 0 ≤ (lookF s).2 ∧ (lookF s).2 ≤ 250 := by
  unfold lookF
  repeat' split
  all_goals simp
  all_goals omega
theorem lookF_empty {s : List UInt8} (h : s.length = 0) : lookF s = (1, 0) := by simp [lookF, h]
theorem lookF_long {s : List UInt8} (h : 250 < s.length) : lookF s = (2, 0) := by
  unfold lookF
  rw [if_neg (by omega), if_pos h]
theorem findIdx_at {p : UInt8 → Bool} {s : List UInt8} {k : Nat} (hk : k < s.length) (h : ∀ j (hj : j < k), p (s[j]'(by omega)) = false) (hp : p s[k] = true) : s.findIdx p = k := by
  rw [List.findIdx_eq hk]
  exact ⟨hp, fun j hj => by simpa using h j hj⟩
theorem findIdx_out {p : UInt8 → Bool} {s : List UInt8} (h : ∀ j (hj : j < s.length), p s[j] = false) : s.findIdx p = s.length := by
  rw [List.findIdx_eq_length]
  intro x hx
  obtain ⟨i, hi, rfl⟩ := List.getElem_of_mem hx
  exact h i hi
/-- All bytes ahead of a place may be. -/
def MayTo (s : List UInt8) (k : Nat) : Prop := ∀ j (hj : j < s.length), j < k → mayB s[j] = true
theorem MayTo.zero (s : List UInt8) : MayTo s 0 := fun j hj h => absurd h (by omega)
theorem MayTo.succ {s : List UInt8} {k : Nat} (h : MayTo s k) (hk : k < s.length) (hm : mayB s[k] = true) : MayTo s (k + 1) := by
  intro j hj hjk
  by_cases e : j = k
  · subst e; exact hm
  · exact h j hj (by omega)
theorem lookF_byte {s : List UInt8} {k : Nat} (hk : k < s.length) (hl : s.length ≤ 250) (h : MayTo s k) (hm : mayB s[k] = false) : lookF s = ((3 : Int), (k : Int)) := by
  unfold lookF
  have e : s.findIdx (fun c => !mayB c) = k := findIdx_at hk (fun j hj => by simp [h j (by omega) hj]) (by simp [hm])
  rw [if_neg (by omega), if_neg (by omega), e, if_pos hk]
theorem lookF_none {s : List UInt8} (h0 : 0 < s.length) (hl : s.length ≤ 250) (h : MayTo s s.length) : lookF s = (0, 0) := by
  unfold lookF
  have e : s.findIdx (fun c => !mayB c) = s.length := findIdx_out (fun j hj => by simp [h j hj hj])
  rw [if_neg (by omega), if_neg (by omega), e, if_neg (by omega)]

/-- The words of what is left, with the bytes of a word that is begun. -/
def wordsG : List UInt8 → List UInt8 → List (List UInt8)
  | cur, [] => if cur = [] then [] else [cur]
  | cur, c :: t => if c = 32 then (if cur = [] then wordsG [] t else cur :: wordsG [] t) else wordsG (cur ++ [c]) t
def wordsF (s : List UInt8) : List (List UInt8) := wordsG [] s
theorem wordsG_gap {cur t : List UInt8} (h : cur = []) : wordsG cur (32 :: t) = wordsG [] t := by simp [wordsG, h]
theorem wordsG_end {cur t : List UInt8} (h : cur ≠ []) : wordsG cur (32 :: t) = cur :: wordsG [] t := by simp [wordsG, h]
theorem wordsG_go {cur t : List UInt8} {c : UInt8} (h : c ≠ 32) : wordsG cur (c :: t) = wordsG (cur ++ [c]) t := by simp [wordsG, h]
theorem wordsG_count : ∀ (t cur : List UInt8), (wordsG cur t).length ≤ cur.length + t.length
  | [], cur => by unfold wordsG; split <;> simp; cases cur <;> simp_all
  | c :: t, cur => by
    unfold wordsG
    have h1 := wordsG_count t []
    have h2 := wordsG_count t (cur ++ [c])
    simp at h1 h2
    split
    · split
      · simp; omega
      · have : cur.length ≠ 0 := by simpa using ‹_›
        simp; omega
    · simp; omega
theorem wordsG_blanks : ∀ (n : Nat) (t : List UInt8), wordsG [] (List.replicate n 32 ++ t) = wordsG [] t
  | 0, t => by simp
  | n + 1, t => by rw [List.replicate_succ, List.cons_append, wordsG_gap rfl, wordsG_blanks n t]
theorem wordsG_word : ∀ (x cur t : List UInt8), (∀ c ∈ x, c ≠ 32) → wordsG cur (x ++ t) = wordsG (cur ++ x) t
  | [], cur, t, _ => by simp
  | c :: x, cur, t, h => by
    rw [List.cons_append, wordsG_go (h c (by simp)), wordsG_word x _ t (fun d hd => h d (by simp [hd]))]
    simp
theorem wordsG_tail {cur : List UInt8} (n : Nat) (h : cur ≠ []) : wordsG cur (List.replicate n 32) = [cur] := by
  cases n with
  | zero => simp [wordsG, h]
  | succ n =>
    rw [List.replicate_succ, wordsG_end h]
    have := wordsG_blanks n []
    simp at this
    rw [this]; simp [wordsG]
/-- A word with blanks round it. -/
theorem words_one {x : List UInt8} (n m : Nat) (h0 : x ≠ []) (h : ∀ c ∈ x, c ≠ 32) : wordsF (List.replicate n 32 ++ (x ++ List.replicate m 32)) = [x] := by
  unfold wordsF
  rw [wordsG_blanks, wordsG_word _ _ _ h, List.nil_append, wordsG_tail m h0]
/-- No word is empty, none has a blank. -/
theorem wordsG_each : ∀ (t cur : List UInt8), (∀ c ∈ cur, c ≠ 32) → ∀ x ∈ wordsG cur t, x ≠ [] ∧ ∀ c ∈ x, c ≠ 32
  | [], cur, h, x, hx => by
    unfold wordsG at hx
    split at hx
    · simp at hx
    · simp at hx; subst hx; exact ⟨‹_›, h⟩
  | c :: t, cur, h, x, hx => by
    unfold wordsG at hx
    split at hx
    · split at hx
      · exact wordsG_each t [] (by simp) x hx
      · rcases List.mem_cons.mp hx with rfl | hx
        · exact ⟨‹_›, h⟩
        · exact wordsG_each t [] (by simp) x hx
    · exact wordsG_each t _ (by intro d hd; rcases List.mem_append.mp hd with h1 | h1; exact h d h1; simp at h1; subst h1; assumption) x hx
theorem words_each {s x : List UInt8} (h : x ∈ wordsF s) : x ≠ [] ∧ ∀ c ∈ x, c ≠ 32 := wordsG_each s [] (by simp) x h
end Go.Proofs.YtmjklkcjinfmaaaDoor
