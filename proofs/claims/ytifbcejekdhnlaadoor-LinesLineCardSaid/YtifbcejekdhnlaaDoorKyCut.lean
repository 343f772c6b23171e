/- Texts as lists of bytes: pieces of a text; lists of texts. -/
import Derived.Test.YtifbcejekdhnlaaDoorKyMath
import Derived.Test.YtifbcejekdhnlaaDoorLst
namespace Go.Proofs.YtifbcejekdhnlaaDoor
set_option linter.unusedVariables false

def strs (l : List (List UInt8)) : List Value := l.map fun x => Value.string ⟨x.toArray⟩
theorem strs_length (l : List (List UInt8)) : (strs l).length = l.length := by simp [strs]
theorem strs_snoc (l : List (List UInt8)) (x : List UInt8) : strs (l ++ [x]) = strs l ++ [.string ⟨x.toArray⟩] := by simp [strs]
/-- A piece of a text. -/
def cut (s : ByteArray) (f k : Nat) : List UInt8 := (s.extract f k).data.toList
theorem cut_mk (s : ByteArray) (f k : Nat) : (⟨(cut s f k).toArray⟩ : ByteArray) = s.extract f k := by unfold cut; rfl
theorem cut_eq (s : ByteArray) (f k : Nat) : cut s f k = (s.data.toList.take k).drop f := by
  simp [cut, ByteArray.data_extract, List.drop_take]
theorem cut_nil (s : ByteArray) (k : Nat) : cut s k k = [] := by rw [cut_eq]; simp
theorem cut_ne {s : ByteArray} {f k : Nat} (h : f < k) (hk : k ≤ s.size) : cut s f k ≠ [] := by
  intro e
  have := congrArg List.length e
  rw [cut_eq] at this
  simp at this
  omega
theorem cut_snoc {s : ByteArray} {f k : Nat} (h : f ≤ k) (hk : k < s.size) : cut s f (k + 1) = cut s f k ++ [s[k]] := by
  rw [cut_eq, cut_eq, List.take_succ_eq_append_getElem (by simpa using hk), List.drop_append_of_le_length (by simp; omega)]
  rfl
theorem drop_at {s : ByteArray} {k : Nat} (hk : k < s.size) : s.data.toList.drop k = s[k] :: s.data.toList.drop (k + 1) := by
  rw [List.drop_eq_getElem_cons (by simpa using hk)]
  rfl
theorem W_step {s : ByteArray} {f k : Nat} (h : f ≤ k) (hk : k < s.size) (hc : s[k] ≠ 32) : wordsG (cut s f k) (s.data.toList.drop k) = wordsG (cut s f (k + 1)) (s.data.toList.drop (k + 1)) := by
  rw [drop_at hk, wordsG_go hc, cut_snoc h hk]
theorem W_close {s : ByteArray} {f k : Nat} (h : f < k) (hk : k < s.size) (hc : s[k] = 32) : wordsG (cut s f k) (s.data.toList.drop k) = cut s f k :: wordsG [] (s.data.toList.drop (k + 1)) := by
  rw [drop_at hk, hc, wordsG_end (cut_ne h (by omega))]
theorem W_last {s : ByteArray} {f : Nat} (h : f < s.size) : wordsG (cut s f s.size) (s.data.toList.drop s.size) = cut s f s.size :: wordsG [] (s.data.toList.drop (s.size + 1)) := by
  rw [List.drop_eq_nil_of_le (by simp), List.drop_eq_nil_of_le (by simp)]
  simp [wordsG, cut_ne h (Nat.le_refl _)]
theorem W_skip {s : ByteArray} {k : Nat} (hk : k < s.size) (hc : s[k] = 32) : wordsG (cut s k k) (s.data.toList.drop k) = wordsG [] (s.data.toList.drop (k + 1)) := by
  rw [cut_nil, drop_at hk, hc, wordsG_gap rfl]
theorem W_none {s : ByteArray} {k : Nat} (hk : s.size ≤ k) : wordsG [] (s.data.toList.drop k) = [] := by
  rw [List.drop_eq_nil_of_le (by simpa using hk)]
  simp [wordsG]
end Go.Proofs.YtifbcejekdhnlaaDoor
