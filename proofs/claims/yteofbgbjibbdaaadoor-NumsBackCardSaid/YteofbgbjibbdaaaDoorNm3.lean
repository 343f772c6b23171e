/- The examples of chapter 4; counting up and down. -/
import Derived.Test.YteofbgbjibbdaaaDoorNm2
import Derived.Test.YteofbgbjibbdaaaDoorShelf
namespace Go.Proofs.YteofbgbjibbdaaaDoor
open Go.RowKit
set_option linter.unusedVariables false

theorem ret_u (a b : Int) (h : a = b) : Ending.returned (.int .u64 a) = .returned (.int .u64 b) := by rw [h]
theorem incrw (n b : Int) (w : World) (n0 : 0 ≤ n) (n1 : n ≤ 18446744073709551615) (b0 : 0 ≤ b) (b1 : b ≤ 18446744073709551615) :
    Calls Tryd.prog 17 #[.int .u64 n, .int .u64 b] w fun e w' => e = .returned (.int .u64 (incrF n b)) ∧ w = w' := by
  go_enter Tryd.func17, Tryd.ntmps17
  go_wp2
  go_ret
  exact ⟨ret_u _ _ (by unfold incrF; simp [IntKind.wrap, IntKind.bits, IntKind.signed]), rfl⟩
theorem decrw (n b : Int) (w : World) (n0 : 0 ≤ n) (n1 : n ≤ 18446744073709551615) (b0 : 0 ≤ b) (b1 : b ≤ 18446744073709551615) :
    Calls Tryd.prog 19 #[.int .u64 n, .int .u64 b] w fun e w' => e = .returned (.int .u64 (decrF n b)) ∧ w = w' := by
  by_cases h : n < b
  · rw [show decrF n b = 0 by unfold decrF; rw [if_pos h]]
    go_enter Tryd.func19, Tryd.ntmps19
    go_wp2
    go_ret
    exact ⟨rfl, rfl⟩
  · rw [show decrF n b = n - b by unfold decrF; rw [if_neg h]]
    have q : decide (n < b) = false := decide_eq_false h
    have q0 : 0 ≤ n - b := by omega
    have q1 : n - b ≤ 18446744073709551615 := by omega
    clear h
    go_enter Tryd.func19, Tryd.ntmps19
    go_wp2
    go_ret
    exact ⟨rfl, rfl⟩
/-- Is a text no number's? -/
def noneF (s : List UInt8) : Bool := !(parseF s).2 && !(p32F s).2 && ((parseF s).1 == 0) && ((p32F s).1 == 0)
set_option maxHeartbeats 1000000 in
theorem nonew (s : ByteArray) (w : World) (hs : s.size ≤ maxLen) (h : parseF s.data.toList = (0, false)) :
    Calls Tryd.prog 25 #[.string s] w fun e w' => e = .returned (.bool true) ∧ Below w.heap.size w w' := by
  have h2 := p32F_none h
  have H := Lib.hid h
  have H2 := Lib.hid h2
  clear h h2
  go_enter Tryd.func25, Tryd.ntmps25
  go_wp2_with fail
  refine (parsew _ _ hs).mono ?_
  rintro e w1 ⟨rfl, hb1⟩
  rw [H.out]
  go_wp2_with fail
  refine (p32w _ _ hs).mono ?_
  rintro e w2 ⟨rfl, hb2⟩
  rw [H2.out]
  go_wp2_with fail
  go_ret
  exact ⟨rfl, below_then hb1 hb2⟩
theorem ex04i : incrF 18446744073709551615 2 = 1 ∧ decrF 3 5 = 0 := by decide
theorem ex04l : parseF (Lib.repeatL [48] 21) = (0, false) := parseF_len (.inr (by rw [Lib.repeatL_length]; decide))
set_option maxHeartbeats 4000000 in
set_option maxRecDepth 100000 in
theorem lives04 (w : World) : Calls Tryd.prog 21 #[] w fun e w' => e = .returned (.bool true) ∧ Below w.heap.size w w' := by
  obtain ⟨e1, e2, e3, e4, e5⟩ := ex04
  obtain ⟨f1, f2, f3⟩ := ex04n
  obtain ⟨i1, i2⟩ := ex04i
  have f4 := ex04l
  have E1 := Lib.hid e1
  have E2 := Lib.hid e2
  have E3 := Lib.hid e3
  have E4 := Lib.hid e4
  have E5 := Lib.hid e5
  have F1 := Lib.hid f1
  have F2 := Lib.hid f2
  have F3 := Lib.hid f3
  have F4 := Lib.hid f4
  have I1 := Lib.hid i1
  have I2 := Lib.hid i2
  clear e1 e2 e3 e4 e5 f1 f2 f3 f4 i1 i2
  go_enter Tryd.func21, Tryd.ntmps21
  go_wp2_with fail
  refine (parsew _ _ (by decide)).mono ?_
  rintro e w1 ⟨rfl, hb1⟩
  rw [show parseF (({ data := #[48, 48, 52, 50] } : ByteArray).data.toList) = _ from E1.out]
  go_wp2_with fail
  refine (parsew _ _ (by decide)).mono ?_
  rintro e w2 ⟨rfl, hb2⟩
  rw [show parseF (({ data := #[49, 56, 52, 52, 54, 55, 52, 52, 48, 55, 51, 55, 48, 57, 53, 53, 49, 54, 49, 53] } : ByteArray).data.toList) = _ from E2.out]
  have k2 := below_then hb1 hb2
  clear hb1 hb2
  go_wp2_with fail
  refine (signedw _ _ (by decide)).mono ?_
  rintro e w3 ⟨rfl, hb3⟩
  rw [show signedF (({ data := #[45, 57, 50, 50, 51, 51, 55, 50, 48, 51, 54, 56, 53, 52, 55, 55, 53, 56, 48, 56] } : ByteArray).data.toList) = _ from E3.out]
  have k3 := below_then k2 hb3
  clear k2 hb3
  go_wp2_with fail
  refine (signedw _ _ (by decide)).mono ?_
  rintro e w4 ⟨rfl, hb4⟩
  rw [show signedF (({ data := #[45] } : ByteArray).data.toList) = _ from E4.out]
  have k4 := below_then k3 hb4
  clear k3 hb4
  go_wp2_with fail
  refine (p32w _ _ (by decide)).mono ?_
  rintro e w5 ⟨rfl, hb5⟩
  rw [show p32F (({ data := #[52, 50, 57, 52, 57, 54, 55, 50, 57, 54] } : ByteArray).data.toList) = _ from E5.out]
  have k5 := below_then k4 hb5
  clear k4 hb5
  go_wp2_with fail
  refine (nonew _ _ (by decide) F1.out).mono ?_
  rintro e w6 ⟨rfl, hb6⟩
  have k6 := below_then k5 hb6
  clear k5 hb6
  go_wp2_with fail
  refine (nonew _ _ (by decide) F2.out).mono ?_
  rintro e w7 ⟨rfl, hb7⟩
  have k7 := below_then k6 hb7
  clear k6 hb7
  go_wp2_with fail
  refine (nonew _ _ (by decide) F3.out).mono ?_
  rintro e w8 ⟨rfl, hb8⟩
  have k8 := below_then k7 hb8
  clear k7 hb8
  go_wp2_with fail
  refine (Tryd.strings_Repeat _ 21 _ (by omega) (by decide)).mono ?_
  rintro e w9 ⟨rfl, hb9⟩
  have k9 := below_then k8 hb9
  clear k8 hb9
  go_wp2_with fail
  refine (nonew _ _ (by decide) F4.out).mono ?_
  rintro e wa ⟨rfl, hba⟩
  have ka := below_then k9 hba
  clear k9 hba
  go_wp2_with fail
  refine (incrw _ _ _ (by omega) (by omega) (by omega) (by omega)).mono ?_
  rintro e wb ⟨rfl, rfl⟩
  rw [I1.out]
  go_wp2_with fail
  refine (decrw _ _ _ (by omega) (by omega) (by omega) (by omega)).mono ?_
  rintro e wb ⟨rfl, rfl⟩
  rw [I2.out]
  go_wp2_with fail
  go_ret
  exact ⟨rfl, ka⟩
end Go.Proofs.YteofbgbjibbdaaaDoor
