/- Contracts of package nums and of its chapter's answers: numbers out of texts. -/
import Derived.Test.YtmjklkcjinfmaaaDoorChecked
import Derived.Test.YtmjklkcjinfmaaaDoorNmMath
import Derived.Laws.RangeString
import Derived.Laws.RangeAny
namespace Go.Proofs.YtmjklkcjinfmaaaDoor
open Go.RowKit
set_option linter.unusedVariables false

theorem drop_byte {s : ByteArray} {k : Nat} (hk : k < s.size) : s.data.toList.drop k = s[k] :: s.data.toList.drop (k + 1) := by
  rw [List.drop_eq_getElem_cons (by simpa using hk)]
  rfl
theorem ret_nb {k : IntKind} {a c : Int} {b d : Bool} (h : (a, b) = (c, d)) : Ending.returned (.tuple #[.int k a, .bool b]) = .returned (.tuple #[.int k c, .bool d]) := by
  injection h with h1 h2; rw [h1, h2]
theorem iter_below (w : World) (s : ByteArray) (pos : Nat) : Below w.heap.size w (w.iter s pos) := (Below.refl _ _).alloc (Nat.le_refl _) _
set_option maxHeartbeats 1000000 in
set_option maxRecDepth 100000 in
theorem parsew (s : ByteArray) (w : World) (hs : s.size ≤ maxLen) :
    Calls Tryd.prog 34 #[.string s] w fun e w' => e = .returned (.tuple #[.int .u64 (parseF s.data.toList).1, .bool (parseF s.data.toList).2]) ∧ Below w.heap.size w w' := by
  unfold maxLen at hs
  by_cases h0 : s.size < 1
  · have e := parseF_len (s := s.data.toList) (.inl (by simpa using h0))
    rw [e]
    go_enter Tryd.func34, Tryd.ntmps34
    go_wp2
    go_ret2
    exact ⟨rfl, Below.refl _ _⟩
  by_cases h1 : 20 < s.size
  · have e := parseF_len (s := s.data.toList) (.inr (by simpa using h1))
    rw [e]
    have b0 : decide ((s.size : Int) < 1) = false := decide_eq_false (by omega)
    clear h0
    go_enter Tryd.func34, Tryd.ntmps34
    go_wp2
    go_ret2
    exact ⟨rfl, Below.refl _ _⟩
  have b0 : decide ((s.size : Int) < 1) = false := decide_eq_false (by omega)
  have b1 : decide (20 < (s.size : Int)) = false := decide_eq_false (by omega)
  have hP : Hid (parseF s.data.toList = digsF 0 s.data.toList) := by
    show _ = _
    unfold parseF
    rw [if_neg (by rw [Array.length_toList]; show ¬ (s.size < 1 ∨ 20 < s.size); omega)]
  clear h0 h1
  go_enter Tryd.func34, Tryd.ntmps34
  go_wp2
  go_loopw [2] (fun v wr => ∃ (pos : Nat) (n : Int), wr = w.iter s pos ∧ v = .int .u64 n ∧ pos ≤ s.size ∧ 0 ≤ n ∧ n ≤ 18446744073709551615 ∧ Hid (digsF n (s.data.toList.drop pos) = digsF 0 s.data.toList)) (fun _ wr => s.size - wr.iterPos w.heap.size)
  case atStart => exact ⟨0, 0, rfl, rfl, by omega, by omega, by omega, rfl⟩
  case round =>
    obtain ⟨pos, n, rfl, rfl, hp0, n0, n1, hD⟩ := hrel
    by_cases hp : pos < s.size
    · by_cases ha : (s[pos]'hp).toNat < 128
      · obtain ⟨c, hc⟩ : ∃ c : Int, c = ((s[pos]'hp).toNat : Int) := ⟨_, rfl⟩
        have hnx : ∀ ty, (Instr.next (.pointer (some ⟨w.heap.size, 0, none⟩)) true ty).run Tryd.prog (w.iter s pos) = .ok (.tuple #[.bool true, .int .i64 pos, .int .i32 c]) (w.iter s (pos + 1)) := fun ty => by rw [run_next_ascii w s pos ty hp ha, hc]
        have c0 : 0 ≤ c := by omega
        have c1 : c < 128 := by omega
        have HC := Lib.hid hc
        have hE : Hid (digsF 0 s.data.toList = digsF n (s[pos] :: s.data.toList.drop (pos + 1))) := by
          show _ = _
          rw [← hD.out, drop_byte hp]
        clear hc ha hD
        by_cases h48 : c < 48
        · have hR : Hid (parseF s.data.toList = (0, false)) := by
            show _ = _
            rw [hP.out, hE.out, digsF_bad (.inl (by rw [← HC.out]; exact h48))]
          clear hE
          go_wp2
          go_ret2
          rw [hR.out]
          exact ⟨rfl, iter_below _ _ _⟩
        by_cases h57 : 57 < c
        · have hR : Hid (parseF s.data.toList = (0, false)) := by
            show _ = _
            rw [hP.out, hE.out, digsF_bad (.inr (by rw [← HC.out]; exact h57))]
          have b2 : decide (c < 48) = false := decide_eq_false h48
          clear hE h48
          go_wp2
          go_ret2
          rw [hR.out]
          exact ⟨rfl, iter_below _ _ _⟩
        have b2 : decide (c < 48) = false := decide_eq_false h48
        have b3 : decide (57 < c) = false := decide_eq_false h57
        have c2 : 48 ≤ c := by omega
        have c3 : c ≤ 57 := by omega
        have hn : ¬ (c < 48 ∨ 57 < c) := by omega
        have HN := Lib.hid hn
        clear h48 h57 hn
        by_cases hq : (18446744073709551615 - (c - 48)) / 10 < n
        · have hR : Hid (parseF s.data.toList = (0, false)) := by
            show _ = _
            rw [hP.out, hE.out]
            exact digsF_big (by rw [← HC.out]; exact HN.out) (by rw [← HC.out]; exact hq)
          clear hE
          go_wp2
          go_ret2
          rw [hR.out]
          exact ⟨rfl, iter_below _ _ _⟩
        · have hG : Hid (digsF (10 * n + (c - 48)) (s.data.toList.drop (pos + 1)) = digsF 0 s.data.toList) := by
            show _ = _
            rw [hE.out, digsF_go (by rw [← HC.out]; exact HN.out) (by rw [← HC.out]; exact hq), ← HC.out]
          have n2 : 10 * n + (c - 48) ≤ 18446744073709551615 := by omega
          have n3 : 10 * n ≤ 18446744073709551615 := by omega
          have n4 : 0 ≤ 10 * n := by omega
          have b4 : decide ((18446744073709551615 - (c - 48)) / 10 < n) = false := decide_eq_false hq
          clear hq hE
          go_wp2
          go_roundw
          case rel => exact ⟨pos + 1, 10 * n + (c - 48), rfl, by go_num, by omega, by omega, n2, hG⟩
          case measure => simp; omega
      · have hnx : ∀ ty, (Instr.next (.pointer (some ⟨w.heap.size, 0, none⟩)) true ty).run Tryd.prog (w.iter s pos) = _ := fun ty => run_next_any w s pos ty hp
        have hd := (decode_high s pos hp (by omega)).1
        have hR : Hid (parseF s.data.toList = (0, false)) := by
          show _ = _
          rw [hP.out, ← hD.out, drop_byte hp, digsF_bad (.inr (by omega))]
        generalize (Utf8.decode s pos).1 = r at hnx hd
        have b2 : decide ((r : Int) < 48) = false := decide_eq_false (by omega)
        have b3 : decide (57 < (r : Int)) = true := decide_eq_true (by omega)
        clear hd ha hD
        go_wp2
        go_ret2
        rw [hR.out]
        exact ⟨rfl, iter_below _ _ _⟩
    · have hnx : ∀ ty, (Instr.next (.pointer (some ⟨w.heap.size, 0, none⟩)) true ty).run Tryd.prog (w.iter s pos) = _ := fun ty => run_next_end w s pos ty hp
      have hR : Hid (parseF s.data.toList = (n, true)) := by
        show _ = _
        rw [hP.out, ← hD.out, List.drop_eq_nil_of_le (by simp; omega)]
        rfl
      clear hD
      go_wp2
      go_ret2
      rw [hR.out]
      exact ⟨rfl, iter_below _ _ _⟩
end Go.Proofs.YtmjklkcjinfmaaaDoor
