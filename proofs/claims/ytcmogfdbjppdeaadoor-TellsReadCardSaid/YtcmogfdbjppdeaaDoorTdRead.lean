/- Tells: a value that is told, read back: where its first line ends, its words, what is behind. -/
import Derived.Test.YtcmogfdbjppdeaaDoorTdMath
import Derived.Test.YtcmogfdbjppdeaaDoorTv
import Derived.Lib.IndexLaws
namespace Go.Proofs.YtcmogfdbjppdeaaDoor
open Go.RowKit
set_option linter.unusedVariables false

theorem index_line : ∀ {l r : List UInt8}, (∀ c ∈ l, c ≠ 13) → Lib.index (l ++ 13 :: 10 :: r) [13, 10] = l.length
  | [], r, _ => by simp [Lib.index]
  | b :: l, r, h => by
    have hb : b ≠ 13 := h b (by simp)
    have ht := index_line (l := l) (r := r) (fun c hc => h c (by simp [hc]))
    rw [List.cons_append, Lib.index, ht]
    have hp : List.isPrefixOf [13, 10] (b :: (l ++ 13 :: 10 :: r)) = false := by
      simp [List.isPrefixOf, Ne.symm hb]
    rw [hp]
    simp
/-- The first line of a value that is told. -/
def headL (K told : List UInt8) : List UInt8 := [86, 65, 76, 85, 69] ++ 32 :: (K ++ 32 :: told)
theorem told_two (a b : Nat) : (toldB [a, b]).data.toList = Lib.decDigits a ++ 32 :: Lib.decDigits b := by simp [toldB, Lib.join]
theorem told_three (a b d : Nat) : (toldB [a, b, d]).data.toList = Lib.decDigits a ++ 32 :: (Lib.decDigits b ++ 32 :: Lib.decDigits d) := by simp [toldB, Lib.join]
theorem value_list (K told V : ByteArray) : (valueB K told V).data.toList = headL K.data.toList told.data.toList ++ 13 :: 10 :: (V.data.toList ++ [13, 10]) := by
  simp [valueB, headL, ByteArray.data_append]
theorem headL_plain {K told : List UInt8} (hK : ∀ c ∈ K, c ≠ 13) (ht : ∀ c ∈ told, c ≠ 13) : ∀ c ∈ headL K told, c ≠ 13 := by
  intro c hc
  simp only [headL, List.mem_append, List.mem_cons, List.not_mem_nil, or_false] at hc
  rcases hc with (rfl | rfl | rfl | rfl | rfl) | rfl | hc | rfl | hc
  · decide
  · decide
  · decide
  · decide
  · decide
  · decide
  · exact hK c hc
  · decide
  · exact ht c hc
theorem read_at {K told V : ByteArray} (hK : ∀ c ∈ K.data.toList, c ≠ 13) (ht : ∀ c ∈ told.data.toList, c ≠ 13) :
    Lib.index (valueB K told V).data.toList [13, 10] = ((headL K.data.toList told.data.toList).length : Int) ∧
    ((valueB K told V).extract 0 (headL K.data.toList told.data.toList).length).data.toList = headL K.data.toList told.data.toList ∧
    (valueB K told V).extract ((headL K.data.toList told.data.toList).length + 2) (valueB K told V).size = V ++ ⟨#[13, 10]⟩ := by
  have hl := value_list K told V
  refine ⟨by rw [hl]; exact index_line (headL_plain hK ht), ?_, ?_⟩
  · rw [ByteArray.data_extract, Array.toList_extract, List.extract, hl]
    simp
  · apply ByteArray.ext
    apply Array.toList_inj.mp
    have hs : (valueB K told V).size = (valueB K told V).data.toList.length := by rw [Array.length_toList]; rfl
    rw [ByteArray.data_extract, Array.toList_extract, List.extract, hs, hl]
    simp [List.drop_append, ByteArray.data_append]
    rw [List.drop_eq_nil_of_le (by omega), List.nil_append]
    apply List.take_of_length_le
    have hv : V.data.size = V.size := rfl
    simp
    omega
theorem read_four {K : ByteArray} {a b : Nat} (hK : (lookF K.data.toList).1 = 0) : wordsF (headL K.data.toList (toldB [a, b]).data.toList) = [[86, 65, 76, 85, 69], K.data.toList, Lib.decDigits a, Lib.decDigits b] := by
  obtain ⟨k0, k1⟩ := key_plain hK
  obtain ⟨a0, a1⟩ := dec_words a
  obtain ⟨b0, b1⟩ := dec_words b
  rw [told_two]
  exact words_four (by decide) (fun c hc => (k1 c hc).1) (fun c hc => (a1 c hc).1) (fun c hc => (b1 c hc).1) (by simp) k0 a0 b0
theorem read_five {K : ByteArray} {a b d : Nat} (hK : (lookF K.data.toList).1 = 0) : wordsF (headL K.data.toList (toldB [a, b, d]).data.toList) = [[86, 65, 76, 85, 69], K.data.toList, Lib.decDigits a, Lib.decDigits b, Lib.decDigits d] := by
  obtain ⟨k0, k1⟩ := key_plain hK
  obtain ⟨a0, a1⟩ := dec_words a
  obtain ⟨b0, b1⟩ := dec_words b
  obtain ⟨d0, d1⟩ := dec_words d
  rw [told_three]
  exact words_five (by decide) (fun c hc => (k1 c hc).1) (fun c hc => (a1 c hc).1) (fun c hc => (b1 c hc).1) (fun c hc => (d1 c hc).1) (by simp) k0 a0 b0 d0
theorem told_two_plain (a b : Nat) : ∀ c ∈ (toldB [a, b]).data.toList, c ≠ 13 := by
  rw [told_two]
  intro c hc
  simp only [List.mem_append, List.mem_cons] at hc
  rcases hc with hc | rfl | hc
  · exact ((dec_words a).2 c hc).2.1
  · decide
  · exact ((dec_words b).2 c hc).2.1
theorem told_three_plain (a b d : Nat) : ∀ c ∈ (toldB [a, b, d]).data.toList, c ≠ 13 := by
  rw [told_three]
  intro c hc
  simp only [List.mem_append, List.mem_cons] at hc
  rcases hc with hc | rfl | hc | rfl | hc
  · exact ((dec_words a).2 c hc).2.1
  · decide
  · exact ((dec_words b).2 c hc).2.1
  · decide
  · exact ((dec_words d).2 c hc).2.1
theorem head_size (K told : ByteArray) : (headL K.data.toList told.data.toList).length = 7 + K.size + told.size := by
  have h1 : K.data.toList.length = K.size := by rw [Array.length_toList]; rfl
  have h2 : told.data.toList.length = told.size := by rw [Array.length_toList]; rfl
  simp only [headL, List.length_append, List.length_cons, List.length_nil, h1, h2]
  omega
theorem value_size (K told V : ByteArray) : (valueB K told V).size = 7 + K.size + told.size + 2 + V.size + 2 := by
  have h0 : (valueB K told V).data.toList.length = (valueB K told V).size := by rw [Array.length_toList]; rfl
  have h3 : V.data.toList.length = V.size := by rw [Array.length_toList]; rfl
  rw [← h0, value_list]
  simp only [List.length_append, List.length_cons, List.length_nil, head_size, h3]
  omega
end Go.Proofs.YtcmogfdbjppdeaaDoor
