/- Lines: texts with blanks between; helpers of a law. -/
import Derived.Test.YtifbcejekdhnlaaDoorKyJn
import Derived.Test.YtifbcejekdhnlaaDoorLi8
import Derived.Test.YtifbcejekdhnlaaDoorShelf
import Derived.Test.YtifbcejekdhnlaaDoorBits
import Derived.Test.YtifbcejekdhnlaaDoorOpen
namespace Go.Proofs.YtifbcejekdhnlaaDoor
open Go.RowKit Go.Maps
set_option linter.unusedVariables false

theorem kj_bytes {P : Program} {w : World} {t e : TypeId} {a : Option Addr} {len cap : Nat} (ht : P.underlying t = some (.slice e)) (hk : leaves P 9 e = some [.inl .u8]) (hc : P.cellsOf e = 1) (h : Reads P w t (.slice a len cap)) :
    len ≤ maxLen ∧ ∃ b off, (0 < len → len ≤ cap ∧ a = some ⟨b, off, none⟩) ∧ ∀ i, i < len → ∃ n : Int, 0 ≤ n ∧ n ≤ 255 ∧ w.cell? ⟨b, off + i, none⟩ = some (.int .u8 n) := by
  rcases Reads.slice ht hk h with ⟨_, rfl, _⟩ | ⟨b, off, sp, rfl, h1, h2, h3, h4⟩
  · exact ⟨by simp [maxLen], 0, 0, fun h => by omega, fun i hi => by omega⟩
  · refine ⟨by omega, b, off, fun h => ⟨h1, by rw [h3 (by omega) (by omega)]⟩, fun i hi => ?_⟩
    obtain ⟨l, hl, hll, hx⟩ := h4 i (by omega)
    obtain ⟨c, l', rfl, ⟨n, rfl, hw⟩, h0⟩ := all2_cons hl
    have hsp := h3 (by omega) (by omega)
    have := hx 0 (.int .u8 n) rfl
    rw [hc] at this
    obtain ⟨q0, q1⟩ := bounds_u8 hw
    exact ⟨n, q0, by omega, by simpa [hsp] using this⟩
theorem kj_on {w wr : World} {a : Addr} {v : Value} (h : w.cell? a = some v) (hb : Below w.heap.size w wr) : wr.cell? a = some v := by
  rw [hb.cell (World.block_lt_of_cell? _ _ h)]; exact h
theorem rep32 (n : Nat) : (⟨(Lib.repeatL [32] n).toArray⟩ : ByteArray).data.toList = List.replicate n 32 := by
  have h : Lib.repeatL [32] n = List.replicate n 32 := by
    have := Lib.repeatL_replicate 32 1 n
    simpa using this
  rw [h]
theorem rep32_size (n : Nat) : (⟨(Lib.repeatL [32] n).toArray⟩ : ByteArray).size = n := by
  show (Lib.repeatL [32] n).toArray.size = n
  rw [List.size_toArray, Lib.repeatL_length]; simp
theorem kj_gap {T : ByteArray} {ws : List (List UInt8)} (h : Txt T.data.toList ws) (n : Nat) : Txt (T ++ (⟨(Lib.repeatL [32] n).toArray⟩ : ByteArray)).data.toList ws := by
  have e : (T ++ (⟨(Lib.repeatL [32] n).toArray⟩ : ByteArray)).data.toList = T.data.toList ++ List.replicate n 32 := by
    rw [← rep32 n]; simp
  rw [e]; exact h.gap n
theorem kj_word {T R : ByteArray} {ws : List (List UInt8)} (h : Txt T.data.toList ws) (n : Nat) (hn : ws ≠ [] → 0 < n) (h0 : R.data.toList ≠ []) (hx : ∀ c ∈ R.data.toList, c ≠ 32) : Txt ((T ++ (⟨(Lib.repeatL [32] n).toArray⟩ : ByteArray)) ++ R).data.toList (ws ++ [R.data.toList]) := by
  have e : ((T ++ (⟨(Lib.repeatL [32] n).toArray⟩ : ByteArray)) ++ R).data.toList = T.data.toList ++ List.replicate n 32 ++ R.data.toList := by
    rw [← rep32 n]; simp
  rw [e]; exact h.word n hn h0 hx
theorem readFs_ne (fs : List Nat) (xs : List (List UInt8)) (c : Cmd) : (readFs fs xs c).2 ≠ 3 := by
  intro h
  by_cases h0 : (readFs fs xs c).2 = 0 ∨ (readFs fs xs c).2 = 5
  · omega
  · have := (readFs_fault fs xs c h0).2
    omega
theorem parseN_told (l : List (List UInt8)) : (parseN l).2 ≠ 3 := by
  unfold parseN
  split
  · decide
  · split
    · decide
    · next f _ =>
      unfold parseW keyedW
      split
      · show (1 : Nat) ≠ 3; decide
      · split
        · exact readFs_ne _ _ _
        · show (2 : Nat) ≠ 3; decide
theorem parseC_long {s : ByteArray} (h : 2048 < s.size) : parseC s.data.toList = (Cmd.none, 3) := by
  unfold parseC
  rw [if_pos (by have : s.data.toList.length = s.size := by simp
                 omega)]
theorem parseC_short {s : ByteArray} (h : ¬ 2048 < s.size) : parseC s.data.toList = parseN (wordsF s.data.toList) := by
  unfold parseC
  rw [if_neg (by have : s.data.toList.length = s.size := by simp
                 omega)]
end Go.Proofs.YtifbcejekdhnlaaDoor
