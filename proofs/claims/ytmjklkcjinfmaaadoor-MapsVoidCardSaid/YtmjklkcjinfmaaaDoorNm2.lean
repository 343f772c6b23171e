/- Contracts of package nums and of its chapter's answers: signed numbers, and those of 32 bits. -/
import Derived.Test.YtmjklkcjinfmaaaDoorNm
namespace Go.Proofs.YtmjklkcjinfmaaaDoor
open Go.RowKit
set_option linter.unusedVariables false

theorem tail_eq (s : ByteArray) : (s.extract 1 s.size).data.toList = s.data.toList.tail := by
  simp [ByteArray.data_extract, List.drop_one]
  exact List.take_of_length_le (by simp)
theorem head_at {s : ByteArray} (h : 0 < s.size) : s.data.toList.head? = some s[0] := by
  rw [List.head?_eq_getElem?, List.getElem?_eq_getElem (by simpa using h)]
  rfl
theorem signedF_neg {s : ByteArray} (h : 0 < s.size) (h2 : s[0] = 45) : signedF s.data.toList = signedOf true (parseF (s.extract 1 s.size).data.toList) := by
  rw [tail_eq]; unfold signedF; rw [head_at h, h2, if_pos rfl]
theorem signedF_pos {s : ByteArray} (h : 0 < s.size) (h2 : s[0] ≠ 45) : signedF s.data.toList = signedOf false (parseF s.data.toList) := by
  unfold signedF; rw [head_at h, if_neg (by simpa using h2)]
theorem signedF_nil {s : ByteArray} (h : s.size = 0) : signedF s.data.toList = signedOf false (parseF s.data.toList) := by
  have e : s.data.toList = [] := List.eq_nil_of_length_eq_zero (by simpa using h)
  rw [e]; rfl
theorem sg_none {b : Bool} {p : Int × Bool} (h : p.2 = false) : signedOf b p = (0, false) := by unfold signedOf; rw [if_pos h]
theorem sg_neg {p : Int × Bool} (h : p.2 = true) (h2 : p.1 ≤ 9223372036854775808) : signedOf true p = (-p.1, true) := by unfold signedOf; rw [if_neg (by simp [h]), if_pos ⟨rfl, h2⟩]
theorem sg_low {p : Int × Bool} (h : p.2 = true) (h2 : ¬ p.1 ≤ 9223372036854775808) : signedOf true p = (0, false) := by unfold signedOf; rw [if_neg (by simp [h]), if_neg (by simp; omega), if_neg (by simp)]
theorem sg_pos {p : Int × Bool} (h : p.2 = true) (h2 : p.1 < 9223372036854775808) : signedOf false p = (p.1, true) := by unfold signedOf; rw [if_neg (by simp [h]), if_neg (by simp), if_pos ⟨rfl, h2⟩]
theorem sg_high {p : Int × Bool} (h : p.2 = true) (h2 : ¬ p.1 < 9223372036854775808) : signedOf false p = (0, false) := by unfold signedOf; rw [if_neg (by simp [h]), if_neg (by simp), if_neg (by simp; omega)]
theorem ne45 {c : UInt8} (h : c ≠ 45) : ((c.toNat : Int) == 45) = false := by
  rw [beq_eq_false_iff_ne]
  intro e
  exact h (UInt8.toNat_inj.mp (by show c.toNat = 45; omega))
theorem extract_maxLen {s : ByteArray} {f k : Nat} (h : s.size ≤ maxLen) : (s.extract f k).size ≤ maxLen := by simp [ByteArray.size_extract]; omega
end Go.Proofs.YtmjklkcjinfmaaaDoor
