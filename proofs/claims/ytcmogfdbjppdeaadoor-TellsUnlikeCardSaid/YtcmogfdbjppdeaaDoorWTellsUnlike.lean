/- TellsUnlike: no two lines are alike. -/
import Derived.Test.YtcmogfdbjppdeaaDoorTu
namespace Go.Proofs.YtcmogfdbjppdeaaDoor
open Go.RowKit
set_option linter.unusedVariables false

theorem lines_apart {n m : Nat} (hn : n < 22) (hm : m < 22) (hne : n ≠ m) (h : lineB n ≠ []) : ((lineS n).toList == (lineS m).toList) = false := by
  refine beq_eq_false_iff_ne.mpr fun e => ?_
  rw [some_of n h] at e
  by_cases hz : lineB m = []
  · rw [none_of m hz] at e
    rw [ByteArray.toList_eq, ByteArray.toList_eq] at e
    simp at e
  · rw [some_of m hz] at e
    rw [ByteArray.toList_eq, ByteArray.toList_eq] at e
    have e2 : lineB n ++ [13, 10] = lineB m ++ [13, 10] := e
    exact lineB_unlike ⟨n, hn⟩ ⟨m, hm⟩ (fun h => hne (by simpa using h)) h (List.append_cancel_right e2)
set_option maxHeartbeats 8000000 in
set_option maxRecDepth 100000 in
theorem walk_TellsUnlike (a0 : Int) (a1 : Int) (a2 : Int) (w : World) (w0 : (Lit.int .u8 a0).wf = true) (w1 : (Lit.int .u8 a1).wf = true) (w2 : (Lit.int .u8 a2).wf = true) (htab : Lib.TabIs Tryd.prog w "internal/strconv.uint64pow10" .u64 Lib.pow10Tab) :
    Calls Tryd.prog 5 #[.int .u8 a0, .int .u8 a1, .int .u8 a2] w fun e w' => e = .returned (.bool true) ∧ Below w.heap.size w w' := by
  obtain ⟨p0, p1⟩ := bounds_u8 w0
  obtain ⟨r0, r1⟩ := bounds_u8 w1
  obtain ⟨s0, s1⟩ := bounds_u8 w2
  have HT := Lib.hid htab
  obtain ⟨n, hn⟩ : ∃ n : Nat, a0 % 22 = (n : Int) := ⟨(a0 % 22).toNat, by omega⟩
  obtain ⟨m, hm⟩ : ∃ m : Nat, a1 % 22 = (m : Int) := ⟨(a1 % 22).toNat, by omega⟩
  obtain ⟨q, hq⟩ : ∃ q : Nat, a2 % 240 = (q : Int) := ⟨(a2 % 240).toNat, by omega⟩
  have hn22 : n < 22 := by omega
  have hm22 : m < 22 := by omega
  have hq240 : q < 240 := by omega
  have QA := Lib.hid (quiet_ans (13 + (q : Int)) (by omega))
  have QO := Lib.hid (quiet_of (7 + (q : Int)) (by omega))
  have y1 : IntKind.u8.wrap (13 + (q : Int)) = 13 + (q : Int) := by unfold IntKind.wrap; simp [IntKind.bits, IntKind.signed]; omega
  have y2 : IntKind.u8.wrap (7 + (q : Int)) = 7 + (q : Int) := by unfold IntKind.wrap; simp [IntKind.bits, IntKind.signed]; omega
  clear w0 w1 w2 htab
  go_enter Tryd.func5, Tryd.ntmps5
  go_wp2_with fail
  refine (linew n hn22 _ HT.out).mono ?_
  rintro e w1 ⟨rfl, hnx1⟩
  go_wp2_with fail
  refine (linew m hm22 _ (tabIs_below HT.out hnx1)).mono ?_
  rintro e w2 ⟨rfl, hb2⟩
  have hnx2 := hnx1.trans (hb2.mono hnx1.size)
  clear hb2 hnx1
  obtain ⟨S, hS⟩ : ∃ S, S = lineS n := ⟨_, rfl⟩
  obtain ⟨T, hTS⟩ : ∃ T, T = lineS m := ⟨_, rfl⟩
  by_cases hz : lineB n = []
  · have hS0 : S = ⟨#[]⟩ := by rw [hS, none_of n hz]
    have hi : S.toList.isEmpty = true := by rw [hS0, ByteArray.toList_eq]; rfl
    have hnn : n = 0 ∨ n = 7 ∨ n = 18 ∨ n = 19 := (lineB_none ⟨n, hn22⟩).mp hz
    rw [← hS, ← hTS]
    have hnx3 := hnx2
    clear hS hTS hS0 hz hnx2
    rcases hnn with rfl | rfl | rfl | rfl
    · by_cases hnm : (0 : Int) = (m : Int)
      · have hnm' : ((0 : Int) != (m : Int)) = false := by simp; omega
        clear hnm
        go_wp2_with fail
        refine (answer_quiet 0 (.slice none 0 0) 0 ⟨#[]⟩ ⟨#[]⟩ 0 0 0 0 0 a2 0 ⟨#[]⟩ ⟨#[]⟩ 0 0 0 0 _).mono ?_
        rintro e w4 ⟨rfl, hb4⟩
        have hnx4 := (hnx3.alloc hnx3.size _).trans (hb4.mono (by have := hnx3.size; simp; omega))
        clear hb4 hnx3
        go_wp2_with fail
        refine (answer_kind 0 (.slice none 0 0) 0 ⟨#[]⟩ ⟨#[]⟩ 0 0 0 0 0 (13 + (q : Int)) 0 ⟨#[]⟩ ⟨#[]⟩ 0 0 0 0 _ (by omega) (by omega) (by omega)).mono ?_
        rintro e w5 ⟨rfl, hb5⟩
        rw [QA.out]
        have hnx5 := hnx4.trans (hb5.mono hnx4.size)
        clear hb5 hnx4
        go_wp2_with fail
        refine (ofw (7 + (q : Int)) (by omega) (by omega) _).mono ?_
        rintro e w6 ⟨rfl, hb6⟩
        rw [QO.out]
        have hnx6 := hnx5.trans (hb6.mono hnx5.size)
        clear hb6 hnx5
        go_wp2_with fail
        refine (lives31 _ (tabIs_below HT.out hnx6)).mono ?_
        rintro e w7 ⟨rfl, hb7⟩
        go_wp2_with fail
        go_ret
        exact ⟨rfl, hnx6.trans (hb7.mono hnx6.size)⟩
      · have hnm' : ((0 : Int) != (m : Int)) = true := by simp; omega
        clear hnm
        go_wp2_with fail
        refine (answer_quiet 0 (.slice none 0 0) 0 ⟨#[]⟩ ⟨#[]⟩ 0 0 0 0 0 a2 0 ⟨#[]⟩ ⟨#[]⟩ 0 0 0 0 _).mono ?_
        rintro e w4 ⟨rfl, hb4⟩
        have hnx4 := (hnx3.alloc hnx3.size _).trans (hb4.mono (by have := hnx3.size; simp; omega))
        clear hb4 hnx3
        go_wp2_with fail
        refine (answer_kind 0 (.slice none 0 0) 0 ⟨#[]⟩ ⟨#[]⟩ 0 0 0 0 0 (13 + (q : Int)) 0 ⟨#[]⟩ ⟨#[]⟩ 0 0 0 0 _ (by omega) (by omega) (by omega)).mono ?_
        rintro e w5 ⟨rfl, hb5⟩
        rw [QA.out]
        have hnx5 := hnx4.trans (hb5.mono hnx4.size)
        clear hb5 hnx4
        go_wp2_with fail
        refine (ofw (7 + (q : Int)) (by omega) (by omega) _).mono ?_
        rintro e w6 ⟨rfl, hb6⟩
        rw [QO.out]
        have hnx6 := hnx5.trans (hb6.mono hnx5.size)
        clear hb6 hnx5
        go_wp2_with fail
        refine (lives31 _ (tabIs_below HT.out hnx6)).mono ?_
        rintro e w7 ⟨rfl, hb7⟩
        go_wp2_with fail
        go_ret
        exact ⟨rfl, hnx6.trans (hb7.mono hnx6.size)⟩
    · by_cases hnm : (7 : Int) = (m : Int)
      · have hnm' : ((7 : Int) != (m : Int)) = false := by simp; omega
        clear hnm
        go_wp2_with fail
        refine (answer_quiet 0 (.slice none 0 0) 0 ⟨#[]⟩ ⟨#[]⟩ 0 0 0 0 0 a2 0 ⟨#[]⟩ ⟨#[]⟩ 0 0 0 0 _).mono ?_
        rintro e w4 ⟨rfl, hb4⟩
        have hnx4 := (hnx3.alloc hnx3.size _).trans (hb4.mono (by have := hnx3.size; simp; omega))
        clear hb4 hnx3
        go_wp2_with fail
        refine (answer_kind 0 (.slice none 0 0) 0 ⟨#[]⟩ ⟨#[]⟩ 0 0 0 0 0 (13 + (q : Int)) 0 ⟨#[]⟩ ⟨#[]⟩ 0 0 0 0 _ (by omega) (by omega) (by omega)).mono ?_
        rintro e w5 ⟨rfl, hb5⟩
        rw [QA.out]
        have hnx5 := hnx4.trans (hb5.mono hnx4.size)
        clear hb5 hnx4
        go_wp2_with fail
        refine (ofw (7 + (q : Int)) (by omega) (by omega) _).mono ?_
        rintro e w6 ⟨rfl, hb6⟩
        rw [QO.out]
        have hnx6 := hnx5.trans (hb6.mono hnx5.size)
        clear hb6 hnx5
        go_wp2_with fail
        refine (lives31 _ (tabIs_below HT.out hnx6)).mono ?_
        rintro e w7 ⟨rfl, hb7⟩
        go_wp2_with fail
        go_ret
        exact ⟨rfl, hnx6.trans (hb7.mono hnx6.size)⟩
      · have hnm' : ((7 : Int) != (m : Int)) = true := by simp; omega
        clear hnm
        go_wp2_with fail
        refine (answer_quiet 0 (.slice none 0 0) 0 ⟨#[]⟩ ⟨#[]⟩ 0 0 0 0 0 a2 0 ⟨#[]⟩ ⟨#[]⟩ 0 0 0 0 _).mono ?_
        rintro e w4 ⟨rfl, hb4⟩
        have hnx4 := (hnx3.alloc hnx3.size _).trans (hb4.mono (by have := hnx3.size; simp; omega))
        clear hb4 hnx3
        go_wp2_with fail
        refine (answer_kind 0 (.slice none 0 0) 0 ⟨#[]⟩ ⟨#[]⟩ 0 0 0 0 0 (13 + (q : Int)) 0 ⟨#[]⟩ ⟨#[]⟩ 0 0 0 0 _ (by omega) (by omega) (by omega)).mono ?_
        rintro e w5 ⟨rfl, hb5⟩
        rw [QA.out]
        have hnx5 := hnx4.trans (hb5.mono hnx4.size)
        clear hb5 hnx4
        go_wp2_with fail
        refine (ofw (7 + (q : Int)) (by omega) (by omega) _).mono ?_
        rintro e w6 ⟨rfl, hb6⟩
        rw [QO.out]
        have hnx6 := hnx5.trans (hb6.mono hnx5.size)
        clear hb6 hnx5
        go_wp2_with fail
        refine (lives31 _ (tabIs_below HT.out hnx6)).mono ?_
        rintro e w7 ⟨rfl, hb7⟩
        go_wp2_with fail
        go_ret
        exact ⟨rfl, hnx6.trans (hb7.mono hnx6.size)⟩
    · by_cases hnm : (18 : Int) = (m : Int)
      · have hnm' : ((18 : Int) != (m : Int)) = false := by simp; omega
        clear hnm
        go_wp2_with fail
        refine (answer_quiet 0 (.slice none 0 0) 0 ⟨#[]⟩ ⟨#[]⟩ 0 0 0 0 0 a2 0 ⟨#[]⟩ ⟨#[]⟩ 0 0 0 0 _).mono ?_
        rintro e w4 ⟨rfl, hb4⟩
        have hnx4 := (hnx3.alloc hnx3.size _).trans (hb4.mono (by have := hnx3.size; simp; omega))
        clear hb4 hnx3
        go_wp2_with fail
        refine (answer_kind 0 (.slice none 0 0) 0 ⟨#[]⟩ ⟨#[]⟩ 0 0 0 0 0 (13 + (q : Int)) 0 ⟨#[]⟩ ⟨#[]⟩ 0 0 0 0 _ (by omega) (by omega) (by omega)).mono ?_
        rintro e w5 ⟨rfl, hb5⟩
        rw [QA.out]
        have hnx5 := hnx4.trans (hb5.mono hnx4.size)
        clear hb5 hnx4
        go_wp2_with fail
        refine (ofw (7 + (q : Int)) (by omega) (by omega) _).mono ?_
        rintro e w6 ⟨rfl, hb6⟩
        rw [QO.out]
        have hnx6 := hnx5.trans (hb6.mono hnx5.size)
        clear hb6 hnx5
        go_wp2_with fail
        refine (lives31 _ (tabIs_below HT.out hnx6)).mono ?_
        rintro e w7 ⟨rfl, hb7⟩
        go_wp2_with fail
        go_ret
        exact ⟨rfl, hnx6.trans (hb7.mono hnx6.size)⟩
      · have hnm' : ((18 : Int) != (m : Int)) = true := by simp; omega
        clear hnm
        go_wp2_with fail
        refine (answer_quiet 0 (.slice none 0 0) 0 ⟨#[]⟩ ⟨#[]⟩ 0 0 0 0 0 a2 0 ⟨#[]⟩ ⟨#[]⟩ 0 0 0 0 _).mono ?_
        rintro e w4 ⟨rfl, hb4⟩
        have hnx4 := (hnx3.alloc hnx3.size _).trans (hb4.mono (by have := hnx3.size; simp; omega))
        clear hb4 hnx3
        go_wp2_with fail
        refine (answer_kind 0 (.slice none 0 0) 0 ⟨#[]⟩ ⟨#[]⟩ 0 0 0 0 0 (13 + (q : Int)) 0 ⟨#[]⟩ ⟨#[]⟩ 0 0 0 0 _ (by omega) (by omega) (by omega)).mono ?_
        rintro e w5 ⟨rfl, hb5⟩
        rw [QA.out]
        have hnx5 := hnx4.trans (hb5.mono hnx4.size)
        clear hb5 hnx4
        go_wp2_with fail
        refine (ofw (7 + (q : Int)) (by omega) (by omega) _).mono ?_
        rintro e w6 ⟨rfl, hb6⟩
        rw [QO.out]
        have hnx6 := hnx5.trans (hb6.mono hnx5.size)
        clear hb6 hnx5
        go_wp2_with fail
        refine (lives31 _ (tabIs_below HT.out hnx6)).mono ?_
        rintro e w7 ⟨rfl, hb7⟩
        go_wp2_with fail
        go_ret
        exact ⟨rfl, hnx6.trans (hb7.mono hnx6.size)⟩
    · by_cases hnm : (19 : Int) = (m : Int)
      · have hnm' : ((19 : Int) != (m : Int)) = false := by simp; omega
        clear hnm
        go_wp2_with fail
        refine (answer_quiet 0 (.slice none 0 0) 0 ⟨#[]⟩ ⟨#[]⟩ 0 0 0 0 0 a2 0 ⟨#[]⟩ ⟨#[]⟩ 0 0 0 0 _).mono ?_
        rintro e w4 ⟨rfl, hb4⟩
        have hnx4 := (hnx3.alloc hnx3.size _).trans (hb4.mono (by have := hnx3.size; simp; omega))
        clear hb4 hnx3
        go_wp2_with fail
        refine (answer_kind 0 (.slice none 0 0) 0 ⟨#[]⟩ ⟨#[]⟩ 0 0 0 0 0 (13 + (q : Int)) 0 ⟨#[]⟩ ⟨#[]⟩ 0 0 0 0 _ (by omega) (by omega) (by omega)).mono ?_
        rintro e w5 ⟨rfl, hb5⟩
        rw [QA.out]
        have hnx5 := hnx4.trans (hb5.mono hnx4.size)
        clear hb5 hnx4
        go_wp2_with fail
        refine (ofw (7 + (q : Int)) (by omega) (by omega) _).mono ?_
        rintro e w6 ⟨rfl, hb6⟩
        rw [QO.out]
        have hnx6 := hnx5.trans (hb6.mono hnx5.size)
        clear hb6 hnx5
        go_wp2_with fail
        refine (lives31 _ (tabIs_below HT.out hnx6)).mono ?_
        rintro e w7 ⟨rfl, hb7⟩
        go_wp2_with fail
        go_ret
        exact ⟨rfl, hnx6.trans (hb7.mono hnx6.size)⟩
      · have hnm' : ((19 : Int) != (m : Int)) = true := by simp; omega
        clear hnm
        go_wp2_with fail
        refine (answer_quiet 0 (.slice none 0 0) 0 ⟨#[]⟩ ⟨#[]⟩ 0 0 0 0 0 a2 0 ⟨#[]⟩ ⟨#[]⟩ 0 0 0 0 _).mono ?_
        rintro e w4 ⟨rfl, hb4⟩
        have hnx4 := (hnx3.alloc hnx3.size _).trans (hb4.mono (by have := hnx3.size; simp; omega))
        clear hb4 hnx3
        go_wp2_with fail
        refine (answer_kind 0 (.slice none 0 0) 0 ⟨#[]⟩ ⟨#[]⟩ 0 0 0 0 0 (13 + (q : Int)) 0 ⟨#[]⟩ ⟨#[]⟩ 0 0 0 0 _ (by omega) (by omega) (by omega)).mono ?_
        rintro e w5 ⟨rfl, hb5⟩
        rw [QA.out]
        have hnx5 := hnx4.trans (hb5.mono hnx4.size)
        clear hb5 hnx4
        go_wp2_with fail
        refine (ofw (7 + (q : Int)) (by omega) (by omega) _).mono ?_
        rintro e w6 ⟨rfl, hb6⟩
        rw [QO.out]
        have hnx6 := hnx5.trans (hb6.mono hnx5.size)
        clear hb6 hnx5
        go_wp2_with fail
        refine (lives31 _ (tabIs_below HT.out hnx6)).mono ?_
        rintro e w7 ⟨rfl, hb7⟩
        go_wp2_with fail
        go_ret
        exact ⟨rfl, hnx6.trans (hb7.mono hnx6.size)⟩
  · have hi : S.toList.isEmpty = false := by
      rw [hS, some_of n hz, ByteArray.toList_eq]
      cases hb : lineB n <;> simp
    have hnn : ¬ (n = 0 ∨ n = 7 ∨ n = 18 ∨ n = 19) := fun h => hz ((lineB_none ⟨n, hn22⟩).mpr h)
    have t0 : ((n : Int) == 0) = false := beq_eq_false_iff_ne.mpr (by omega)
    have t7 : ((n : Int) == 7) = false := beq_eq_false_iff_ne.mpr (by omega)
    have t18 : ((n : Int) == 18) = false := beq_eq_false_iff_ne.mpr (by omega)
    have t19 : ((n : Int) == 19) = false := beq_eq_false_iff_ne.mpr (by omega)
    have hpl := lineT_plain _ (lineB_mem n hn22)
    have hend := endedw (lineB n) (by rcases Nat.eq_zero_or_pos (lineB n).length with h | h; exact absurd (List.eq_nil_of_length_eq_zero h) hz; exact h) (by omega) hpl.2
    rw [← some_of n hz, ← hS] at hend
    have HE := Lib.hid hend
    by_cases hnm : n = m
    · have hnm' : ((n : Int) != (m : Int)) = false := by simp; omega
      rw [← hS, ← hTS]
      clear hS hTS hz hnn hpl hend hnm
      go_wp2_with fail
      refine (HE.out _).mono ?_
      rintro e w3 ⟨rfl, hb3⟩
      have hnx3 := hnx2.trans (hb3.mono hnx2.size)
      clear hb3 hnx2
      go_wp2_with fail
      refine (answer_quiet 0 (.slice none 0 0) 0 ⟨#[]⟩ ⟨#[]⟩ 0 0 0 0 0 a2 0 ⟨#[]⟩ ⟨#[]⟩ 0 0 0 0 _).mono ?_
      rintro e w4 ⟨rfl, hb4⟩
      have hnx4 := (hnx3.alloc hnx3.size _).trans (hb4.mono (by have := hnx3.size; simp; omega))
      clear hb4 hnx3
      go_wp2_with fail
      refine (answer_kind 0 (.slice none 0 0) 0 ⟨#[]⟩ ⟨#[]⟩ 0 0 0 0 0 (13 + (q : Int)) 0 ⟨#[]⟩ ⟨#[]⟩ 0 0 0 0 _ (by omega) (by omega) (by omega)).mono ?_
      rintro e w5 ⟨rfl, hb5⟩
      rw [QA.out]
      have hnx5 := hnx4.trans (hb5.mono hnx4.size)
      clear hb5 hnx4
      go_wp2_with fail
      refine (ofw (7 + (q : Int)) (by omega) (by omega) _).mono ?_
      rintro e w6 ⟨rfl, hb6⟩
      rw [QO.out]
      have hnx6 := hnx5.trans (hb6.mono hnx5.size)
      clear hb6 hnx5
      go_wp2_with fail
      refine (lives31 _ (tabIs_below HT.out hnx6)).mono ?_
      rintro e w7 ⟨rfl, hb7⟩
      go_wp2_with fail
      go_ret
      exact ⟨rfl, hnx6.trans (hb7.mono hnx6.size)⟩
    · have hnm' : ((n : Int) != (m : Int)) = true := by simp; omega
      have hap := lines_apart hn22 hm22 hnm hz
      rw [← hS, ← hTS] at hap
      rw [← hS, ← hTS]
      clear hS hTS hz hnn hpl hend hnm
      go_wp2_with fail
      refine (HE.out _).mono ?_
      rintro e w3 ⟨rfl, hb3⟩
      have hnx3 := hnx2.trans (hb3.mono hnx2.size)
      clear hb3 hnx2
      go_wp2_with fail
      refine (answer_quiet 0 (.slice none 0 0) 0 ⟨#[]⟩ ⟨#[]⟩ 0 0 0 0 0 a2 0 ⟨#[]⟩ ⟨#[]⟩ 0 0 0 0 _).mono ?_
      rintro e w4 ⟨rfl, hb4⟩
      have hnx4 := (hnx3.alloc hnx3.size _).trans (hb4.mono (by have := hnx3.size; simp; omega))
      clear hb4 hnx3
      go_wp2_with fail
      refine (answer_kind 0 (.slice none 0 0) 0 ⟨#[]⟩ ⟨#[]⟩ 0 0 0 0 0 (13 + (q : Int)) 0 ⟨#[]⟩ ⟨#[]⟩ 0 0 0 0 _ (by omega) (by omega) (by omega)).mono ?_
      rintro e w5 ⟨rfl, hb5⟩
      rw [QA.out]
      have hnx5 := hnx4.trans (hb5.mono hnx4.size)
      clear hb5 hnx4
      go_wp2_with fail
      refine (ofw (7 + (q : Int)) (by omega) (by omega) _).mono ?_
      rintro e w6 ⟨rfl, hb6⟩
      rw [QO.out]
      have hnx6 := hnx5.trans (hb6.mono hnx5.size)
      clear hb6 hnx5
      go_wp2_with fail
      refine (lives31 _ (tabIs_below HT.out hnx6)).mono ?_
      rintro e w7 ⟨rfl, hb7⟩
      go_wp2_with fail
      go_ret
      exact ⟨rfl, hnx6.trans (hb7.mono hnx6.size)⟩
end Go.Proofs.YtcmogfdbjppdeaaDoor
