/- The law NotesKinds. -/
import Derived.Test.YteofbgbjibbdaadNlV
import Derived.Test.YteofbgbjibbdaadBits
namespace Go.Proofs.Yteofbgbjibbdaad
open Go.RowKit
set_option linter.unusedVariables false

/-- The kinds' names. -/
def nameL (k : Int) : List UInt8 :=
  if k = 1 then [101, 118, 105, 99, 116] else if k = 2 then [102, 97, 105, 108] else if k = 3 then [102, 117, 108, 108] else if k = 4 then [103, 114, 111, 119] else if k = 5 then [115, 119, 97, 112] else if k = 6 then [114, 101, 116, 114, 121] else if k = 7 then [108, 111, 99, 107, 101, 100] else if k = 8 then [104, 97, 110, 100] else if k = 9 then [116, 105, 99, 107] else [63]
theorem namew (k : Int) (w : World) (h0 : 0 ≤ k) : Calls Try.prog 11 #[.int .u8 k] w fun e w' => e = .returned (.string ⟨(nameL k).toArray⟩) ∧ Below w.heap.size w w' := by
  by_cases h : 9 < k
  · have e : nameL k = [63] := by unfold nameL; repeat rw [if_neg (by omega)]
    rw [e]; exact namew_out k w h
  have hc : k = 0 ∨ k = 1 ∨ k = 2 ∨ k = 3 ∨ k = 4 ∨ k = 5 ∨ k = 6 ∨ k = 7 ∨ k = 8 ∨ k = 9 := by omega
  rcases hc with rfl | rfl | rfl | rfl | rfl | rfl | rfl | rfl | rfl | rfl
  · exact namew_0 w
  · exact namew_1 w
  · exact namew_2 w
  · exact namew_3 w
  · exact namew_4 w
  · exact namew_5 w
  · exact namew_6 w
  · exact namew_7 w
  · exact namew_8 w
  · exact namew_9 w
theorem nameL_out {k : Int} (h : k < 1 ∨ 9 < k) : nameL k = [63] := by unfold nameL; repeat rw [if_neg (by omega)]
theorem nameL_in {k : Int} (h1 : 1 ≤ k) (h2 : k ≤ 9) : nameL k ≠ [63] ∧ nameL k ≠ [] := by
  have hc : k = 1 ∨ k = 2 ∨ k = 3 ∨ k = 4 ∨ k = 5 ∨ k = 6 ∨ k = 7 ∨ k = 8 ∨ k = 9 := by omega
  rcases hc with rfl | rfl | rfl | rfl | rfl | rfl | rfl | rfl | rfl <;> decide
theorem nameL_apart {a b : Int} (h : a ≠ b) (h1 : 1 ≤ a) (h2 : a ≤ 9) : nameL a ≠ nameL b := by
  by_cases hb : b < 1 ∨ 9 < b
  · rw [nameL_out hb]; exact (nameL_in h1 h2).1
  · have hc : a = 1 ∨ a = 2 ∨ a = 3 ∨ a = 4 ∨ a = 5 ∨ a = 6 ∨ a = 7 ∨ a = 8 ∨ a = 9 := by omega
    have hd : b = 1 ∨ b = 2 ∨ b = 3 ∨ b = 4 ∨ b = 5 ∨ b = 6 ∨ b = 7 ∨ b = 8 ∨ b = 9 := by omega
    rcases hc with rfl | rfl | rfl | rfl | rfl | rfl | rfl | rfl | rfl <;> rcases hd with rfl | rfl | rfl | rfl | rfl | rfl | rfl | rfl | rfl <;> first | exact absurd rfl h | decide
theorem addF_new {x : Nv} (h : iskf x.k = true) : addF [] x = 0 := by
  unfold addF
  rw [if_neg, if_neg (by simp)]
  intro e
  rcases e with e | e
  · exact absurd (h.symm.trans e) (by decide)
  · exact absurd e (by simp [lowN])
theorem addF_kind {L : List Nv} {x : Nv} (h : iskf x.k = false) : addF L x = 1 := by
  unfold addF
  rw [if_pos (.inl h)]
set_option maxHeartbeats 4000000 in
set_option maxRecDepth 100000 in
theorem walk_NotesKinds (a0 : Int) (a1 : Int) (w : World) (w0 : (Lit.int .u8 a0).wf = true) (w1 : (Lit.int .u8 a1).wf = true) :
    Calls Try.prog 4 #[.int .u8 a0, .int .u8 a1] w fun e w' => e = .returned (.bool true) ∧ Below w.heap.size w w' := by
  obtain ⟨l0, u0⟩ := bounds_u8 w0
  obtain ⟨l1, u1⟩ := bounds_u8 w1
  clear w0 w1
  obtain ⟨P, hP⟩ : ∃ P, P = w.heap.size := ⟨_, rfl⟩
  have HP := Lib.hid hP
  obtain ⟨X, hX⟩ : ∃ X : ByteArray, X = ⟨(nameL a0).toArray⟩ := ⟨_, rfl⟩
  obtain ⟨Y, hY⟩ : ∃ Y : ByteArray, Y = ⟨(nameL a1).toArray⟩ := ⟨_, rfl⟩
  have xl : X.toList = nameL a0 := by rw [hX, ByteArray.toList_eq]
  have yl : Y.toList = nameL a1 := by rw [hY, ByteArray.toList_eq]
  have HX := Lib.hid hX
  have HY := Lib.hid hY
  have hk : (1 ≤ a0 ∧ a0 ≤ 9 ∧ iskf a0 = true ∧ (X.toList == [63]) = false ∧ X.toList.isEmpty = false ∧ (a0 = a1 ∨ (a0 == a1) = false ∧ (X.toList == Y.toList) = false)) ∨ ((decide (1 ≤ a0) = false ∨ decide (1 ≤ a0) = true ∧ decide (a0 ≤ 9) = false) ∧ iskf a0 = false ∧ (X.toList == [63]) = true ∧ X.toList.isEmpty = false ∧ ((X.toList == Y.toList) = false ∨ (X.toList == Y.toList) = true ∧ (Y.toList == [63]) = true)) := by
    rw [xl, yl]
    by_cases h : 1 ≤ a0 ∧ a0 ≤ 9
    · obtain ⟨h1, h2⟩ := h
      refine .inl ⟨h1, h2, by simp [iskf, h1, h2], beq_eq_false_iff_ne.mpr (nameL_in h1 h2).1, by simpa using (nameL_in h1 h2).2, ?_⟩
      by_cases e : a0 = a1
      · exact .inl e
      · exact .inr ⟨beq_eq_false_iff_ne.mpr e, beq_eq_false_iff_ne.mpr (nameL_apart e h1 h2)⟩
    · refine .inr ⟨?_, by simp [iskf]; omega, by rw [nameL_out (by omega)]; rfl, by rw [nameL_out (by omega)]; rfl, ?_⟩
      by_cases h1 : 1 ≤ a0
      · exact .inr ⟨decide_eq_true h1, decide_eq_false (by omega)⟩
      · exact .inl (decide_eq_false h1)
      by_cases e : nameL a0 = nameL a1
      · exact .inr ⟨beq_iff_eq.mpr e, by rw [← e, nameL_out (by omega)]; rfl⟩
      · exact .inl (beq_eq_false_iff_ne.mpr e)
  clear hP hX hY xl yl
  go_enter Try.func4, Try.ntmps4
  go_wp2_with fail
  refine (namew _ _ l0).mono ?_
  rintro e w1 ⟨rfl, k1⟩
  rw [← HX.out]
  go_wp2_with fail
  refine (namew _ _ l1).mono ?_
  rintro e w2 ⟨rfl, k2⟩
  rw [← HY.out]
  have j2 := below_then k1 k2
  clear k1 k2
  rcases hk with ⟨q1, q2, q3, q4, q5, q6⟩ | ⟨q1, q3, q4, q5, q6⟩
  · have HZ := Lib.hid (addF_new (x := (0, 0, a0, 0, 0, 0, 0, 0)) q3)
    clear q3
    rcases q6 with rfl | ⟨q6, q7⟩
    all_goals
      go_wp2_with fail
      refine (newl _).mono ?_
      rintro e w3 ⟨rfl, hL3, k3⟩
      have j3 := below_then j2 k3
      go_wp2_with fail
      refine (addl (0, 0, a0, 0, 0, 0, 0, 0) _ _ [] hL3 (by decide)).mono ?_
      rintro e w4 ⟨rfl, _, k4⟩
      have j4 := j3.trans (k4.mono j2.size)
      rw [HZ.out]
      clear hL3 k3 j2 j3 k4
      go_wp2_with (go_at_call 6; refine (lives09 _).mono ?_; rintro e w5 ⟨rfl, k5⟩; have j5 := below_then j4 k5; clear k5)
      all_goals
        go_ret
        exact ⟨rfl, j5⟩
  · have HZ := Lib.hid (addF_kind (L := []) (x := (0, 0, a0, 0, 0, 0, 0, 0)) q3)
    clear q3
    rcases q1 with q1 | ⟨q1, q2⟩ <;> rcases q6 with q6 | ⟨q6, q7⟩
    all_goals
      go_wp2_with fail
      refine (newl _).mono ?_
      rintro e w3 ⟨rfl, hL3, k3⟩
      have j3 := below_then j2 k3
      go_wp2_with fail
      refine (addl (0, 0, a0, 0, 0, 0, 0, 0) _ _ [] hL3 (by decide)).mono ?_
      rintro e w4 ⟨rfl, _, k4⟩
      have j4 := j3.trans (k4.mono j2.size)
      rw [HZ.out]
      clear hL3 k3 j2 j3 k4
      go_wp2_with (go_at_call 6; refine (lives09 _).mono ?_; rintro e w5 ⟨rfl, k5⟩; have j5 := below_then j4 k5; clear k5)
      all_goals
        go_ret
        exact ⟨rfl, j5⟩
end Go.Proofs.Yteofbgbjibbdaad
