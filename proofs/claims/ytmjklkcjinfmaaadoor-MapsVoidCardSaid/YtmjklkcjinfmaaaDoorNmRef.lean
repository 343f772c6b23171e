/- Contracts of the chapter's answers on numbers: numbers out of texts. -/
import Derived.Test.YtmjklkcjinfmaaaDoorNm
namespace Go.Proofs.YtmjklkcjinfmaaaDoor
open Go.RowKit
set_option linter.unusedVariables false

set_option maxHeartbeats 1000000 in
set_option maxRecDepth 100000 in
theorem refparse (s : ByteArray) (w : World) (hs : s.size ≤ maxLen) :
    Calls Tryd.prog 79 #[.string s] w fun e w' => e = .returned (.tuple #[.int .u64 (parseF s.data.toList).1, .bool (parseF s.data.toList).2]) ∧ Below w.heap.size w w' := by
  unfold maxLen at hs
  by_cases h0 : s.size < 1
  · have e := parseF_len (s := s.data.toList) (.inl (by simpa using h0))
    rw [e]
    go_enter Tryd.func79, Tryd.ntmps79
    go_wp2
    go_ret2
    exact ⟨rfl, Below.refl _ _⟩
  by_cases h1 : 20 < s.size
  · have e := parseF_len (s := s.data.toList) (.inr (by simpa using h1))
    rw [e]
    have b0 : decide ((s.size : Int) < 1) = false := decide_eq_false (by omega)
    clear h0
    go_enter Tryd.func79, Tryd.ntmps79
    go_wp2
    go_ret2
    exact ⟨rfl, Below.refl _ _⟩
  have b0 : decide ((s.size : Int) < 1) = false := decide_eq_false (by omega)
  have b1 : decide (20 < (s.size : Int)) = false := decide_eq_false (by omega)
  have hP : Hid (parseF s.data.toList = digsF 0 s.data.toList) := by
    show _ = _
    unfold parseF
    rw [if_neg (by rw [Array.length_toList]; show ¬ (s.size < 1 ∨ 20 < s.size); omega)]
  clear h0 h1
  go_enter Tryd.func79, Tryd.ntmps79
  go_wp2
  go_loop [4, 5] (fun v i => ∃ (pos : Nat) (n : Int), i = .int .i64 pos ∧ v = .int .u64 n ∧ pos ≤ s.size ∧ 0 ≤ n ∧ n ≤ 18446744073709551615 ∧ Hid (digsF n (s.data.toList.drop pos) = digsF 0 s.data.toList)) (fun _ i => s.size - (intOf i).toNat)
  case atStart => exact ⟨0, 0, rfl, rfl, by omega, by omega, by omega, rfl⟩
  case round =>
    obtain ⟨pos, n, rfl, rfl, hp0, n0, n1, hD⟩ := hrel
    by_cases hp : pos < s.size
    · have hE : Hid (digsF 0 s.data.toList = digsF n (s[pos] :: s.data.toList.drop (pos + 1))) := by
        show _ = _
        rw [← hD.out, drop_byte hp]
      clear hD
      by_cases h48 : (s[pos].toNat : Int) < 48
      · have hR : Hid (parseF s.data.toList = (0, false)) := by
          show _ = _
          rw [hP.out, hE.out, digsF_bad (.inl h48)]
        clear hE
        go_wp2
        go_ret2
        rw [hR.out]
        exact ⟨rfl, Below.refl _ _⟩
      by_cases h57 : 57 < (s[pos].toNat : Int)
      · have hR : Hid (parseF s.data.toList = (0, false)) := by
          show _ = _
          rw [hP.out, hE.out, digsF_bad (.inr h57)]
        have b2 : decide ((s[pos].toNat : Int) < 48) = false := decide_eq_false h48
        clear hE h48
        go_wp2
        go_ret2
        rw [hR.out]
        exact ⟨rfl, Below.refl _ _⟩
      have b2 : decide ((s[pos].toNat : Int) < 48) = false := decide_eq_false h48
      have b3 : decide (57 < (s[pos].toNat : Int)) = false := decide_eq_false h57
      have c2 : 48 ≤ (s[pos].toNat : Int) := by omega
      have c3 : (s[pos].toNat : Int) ≤ 57 := by omega
      have hn : ¬ ((s[pos].toNat : Int) < 48 ∨ 57 < (s[pos].toNat : Int)) := by omega
      have HN := Lib.hid hn
      clear h48 h57 hn
      by_cases hq : (18446744073709551615 - ((s[pos].toNat : Int) - 48)) / 10 < n
      · have hR : Hid (parseF s.data.toList = (0, false)) := by
          show _ = _
          rw [hP.out, hE.out]
          exact digsF_big HN.out hq
        clear hE
        go_wp2
        go_ret2
        rw [hR.out]
        exact ⟨rfl, Below.refl _ _⟩
      · have hG : Hid (digsF (10 * n + ((s[pos].toNat : Int) - 48)) (s.data.toList.drop (pos + 1)) = digsF 0 s.data.toList) := by
          show _ = _
          rw [hE.out, digsF_go HN.out hq]
        have n2 : n * 10 + ((s[pos].toNat : Int) - 48) ≤ 18446744073709551615 := by omega
        have n3 : n * 10 ≤ 18446744073709551615 := by omega
        have n4 : 0 ≤ n * 10 := by omega
        have n5 : 10 * n + ((s[pos].toNat : Int) - 48) ≤ 18446744073709551615 := by omega
        have b4 : decide ((18446744073709551615 - ((s[pos].toNat : Int) - 48)) / 10 < n) = false := decide_eq_false hq
        clear hq hE
        go_wp2
        go_round
        case rel => exact ⟨pos + 1, 10 * n + ((s[pos].toNat : Int) - 48), by go_num, by first | go_num | (congr 1; omega), by omega, by omega, n5, hG⟩
        case measure => simp [intOf]; omega
    · have hR : Hid (parseF s.data.toList = (n, true)) := by
        show _ = _
        rw [hP.out, ← hD.out, List.drop_eq_nil_of_le (by simp; omega)]
        rfl
      clear hD
      go_wp2
      go_ret2
      rw [hR.out]
      exact ⟨rfl, Below.refl _ _⟩
end Go.Proofs.YtmjklkcjinfmaaaDoor
