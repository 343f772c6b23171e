/- TellsUnlike: all lines that there are are unlike. -/
import Derived.Test.YtcmogfdbjppdeaaDoorTe
import Derived.Test.YtcmogfdbjppdeaaDoorTk
namespace Go.Proofs.YtcmogfdbjppdeaaDoor
open Go.RowKit
set_option linter.unusedVariables false

/-- All lines that there are, without their ends. -/
def lineT : List (List UInt8) := [[], [69, 82, 82, 79, 82], [67, 76, 73, 69, 78, 84, 95, 69, 82, 82, 79, 82, 32, 98, 97, 100, 32, 99, 111, 109, 109, 97, 110, 100, 32, 108, 105, 110, 101, 32, 102, 111, 114, 109, 97, 116], [67, 76, 73, 69, 78, 84, 95, 69, 82, 82, 79, 82, 32, 108, 105, 110, 101, 32, 116, 111, 111, 32, 108, 111, 110, 103], [67, 76, 73, 69, 78, 84, 95, 69, 82, 82, 79, 82, 32, 105, 110, 118, 97, 108, 105, 100, 32, 110, 117, 109, 101, 114, 105, 99, 32, 100, 101, 108, 116, 97, 32, 97, 114, 103, 117, 109, 101, 110, 116], [83, 69, 82, 86, 69, 82, 95, 69, 82, 82, 79, 82, 32, 111, 98, 106, 101, 99, 116, 32, 116, 111, 111, 32, 108, 97, 114, 103, 101, 32, 102, 111, 114, 32, 99, 97, 99, 104, 101], [67, 76, 73, 69, 78, 84, 95, 69, 82, 82, 79, 82, 32, 98, 97, 100, 32, 100, 97, 116, 97, 32, 99, 104, 117, 110, 107], [], [83, 84, 79, 82, 69, 68], [78, 79, 84, 95, 83, 84, 79, 82, 69, 68], [69, 88, 73, 83, 84, 83], [78, 79, 84, 95, 70, 79, 85, 78, 68], [83, 69, 82, 86, 69, 82, 95, 69, 82, 82, 79, 82, 32, 111, 117, 116, 32, 111, 102, 32, 109, 101, 109, 111, 114, 121, 32, 115, 116, 111, 114, 105, 110, 103, 32, 111, 98, 106, 101, 99, 116], [68, 69, 76, 69, 84, 69, 68], [84, 79, 85, 67, 72, 69, 68], [53], [67, 76, 73, 69, 78, 84, 95, 69, 82, 82, 79, 82, 32, 99, 97, 110, 110, 111, 116, 32, 105, 110, 99, 114, 101, 109, 101, 110, 116, 32, 111, 114, 32, 100, 101, 99, 114, 101, 109, 101, 110, 116, 32, 110, 111, 110, 45, 110, 117, 109, 101, 114, 105, 99, 32, 118, 97, 108, 117, 101], [79, 75], [], [], [69, 78, 68], [86, 69, 82, 83, 73, 79, 78, 32, 110, 101, 115, 116, 98, 111, 120, 32, 49]]
def lineB (n : Nat) : List UInt8 := lineT.getD n []
def lineL (n : Nat) : List UInt8 := if (lineB n).isEmpty then [] else lineB n ++ [13, 10]
def lineS (n : Nat) : ByteArray := ⟨(lineL n).toArray⟩
theorem lineS_of (n : Nat) (hn : n < 7) : lineOf linesT n = lineS n := by
  match n, hn with
  | 0, _ => rfl
  | 1, _ => rfl
  | 2, _ => rfl
  | 3, _ => rfl
  | 4, _ => rfl
  | 5, _ => rfl
  | 6, _ => rfl
theorem lineS_ans (n : Nat) (h7 : 7 ≤ n) (hn : n < 20) (h15 : n ≠ 15) : lineOf answersT ((n : Int) - 7) = lineS n := by
  obtain ⟨k, rfl⟩ : ∃ k, n = k + 7 := ⟨n - 7, by omega⟩
  have hk : k < 13 := by omega
  match k, hk with
  | 0, _ => rfl
  | 1, _ => rfl
  | 2, _ => rfl
  | 3, _ => rfl
  | 4, _ => rfl
  | 5, _ => rfl
  | 6, _ => rfl
  | 7, _ => rfl
  | 8, _ => exact absurd rfl h15
  | 9, _ => rfl
  | 10, _ => rfl
  | 11, _ => rfl
  | 12, _ => rfl
theorem none_of (n : Nat) (h : lineB n = []) : lineS n = ⟨#[]⟩ := by
  unfold lineS lineL
  rw [h]; rfl
theorem some_of (n : Nat) (h : lineB n ≠ []) : lineS n = ⟨(lineB n ++ [13, 10]).toArray⟩ := by
  unfold lineS lineL
  cases hb : lineB n with
  | nil => exact absurd hb h
  | cons c l => rfl
theorem lineT_plain : ∀ l ∈ lineT, l.length ≤ 100 ∧ ∀ c ∈ l, c.toNat < 128 ∧ c ≠ 13 ∧ c ≠ 10 := by decide
theorem lineB_mem (n : Nat) (hn : n < 22) : lineB n ∈ lineT := by
  unfold lineB
  have : n < lineT.length := hn
  rw [List.getD_eq_getElem?_getD, List.getElem?_eq_getElem this]
  exact List.getElem_mem _
theorem lineB_none : ∀ n : Fin 22, (lineB n.val = [] ↔ (n.val = 0 ∨ n.val = 7 ∨ n.val = 18 ∨ n.val = 19)) := by decide
set_option maxRecDepth 100000 in
theorem lineB_unlike : ∀ n : Fin 22, ∀ m : Fin 22, n ≠ m → lineB n.val ≠ [] → lineB n.val ≠ lineB m.val := by decide
theorem quiet_ans (k : Int) (h : 13 ≤ k) : lineOf answersT k = ⟨#[]⟩ := by
  have : textOf answersT k = none := by
    unfold answersT
    simp only [textOf]
    repeat (rw [if_neg (by omega)])
  unfold lineOf
  rw [this]
theorem quiet_of (k : Int) (h : 7 ≤ k) : lineOf linesT k = ⟨#[]⟩ := by
  have : textOf linesT k = none := by
    unfold linesT
    simp only [textOf]
    repeat (rw [if_neg (by omega)])
  unfold lineOf
  rw [this]
theorem endw (w : World) : Calls Tryd.prog 14 #[] w fun e w' => e = .returned (.string (lineS 20)) ∧ w = w' := by
  have h : lineS 20 = ⟨#[69, 78, 68, 13, 10]⟩ := rfl
  rw [h]
  go_enter Tryd.func14, Tryd.ntmps14
  go_wp2
  go_ret
  exact ⟨rfl, rfl⟩
theorem versionw (w : World) : Calls Tryd.prog 16 #[] w fun e w' => e = .returned (.string (lineS 21)) ∧ w = w' := by
  have h : lineS 21 = ⟨#[86, 69, 82, 83, 73, 79, 78, 32, 110, 101, 115, 116, 98, 111, 120, 32, 49, 13, 10]⟩ := rfl
  rw [h]
  go_enter Tryd.func16, Tryd.ntmps16
  go_wp2
  go_ret
  exact ⟨rfl, rfl⟩
set_option maxHeartbeats 4000000 in
set_option maxRecDepth 100000 in
theorem linew (n : Nat) (hn : n < 22) (w : World) (htab : Lib.TabIs Tryd.prog w "internal/strconv.uint64pow10" .u64 Lib.pow10Tab) :
    Calls Tryd.prog 20 #[.int .i64 n] w fun e w' => e = .returned (.string (lineS n)) ∧ Below w.heap.size w w' := by
  have HT := Lib.hid htab
  clear htab
  by_cases h7 : n < 7
  · have hd : decide ((n : Int) < 7) = true := decide_eq_true (by omega)
    have hw : IntKind.u8.wrap (n : Int) = n := by unfold IntKind.wrap; simp [IntKind.bits, IntKind.signed]; omega
    have HO := Lib.hid (lineS_of n h7)
    have hnn : (n : Int) < 7 := by omega
    go_enter Tryd.func20, Tryd.ntmps20
    go_wp2_with fail
    refine (ofw n (by omega) (by omega) _).mono ?_
    rintro e w1 ⟨rfl, hb1⟩
    rw [HO.out]
    go_wp2_with fail
    go_ret
    exact ⟨rfl, hb1⟩
  · have hd : decide ((n : Int) < 7) = false := decide_eq_false (by omega)
    by_cases h20 : n < 20
    · have hd2 : decide ((n : Int) < 20) = true := decide_eq_true (by omega)
      have y1 : IntKind.i64.wrap ((n : Int) - 7) = (n : Int) - 7 := IntWalk.i64_in _ (by omega)
      have hw : IntKind.u8.wrap ((n : Int) - 7) = (n : Int) - 7 := by unfold IntKind.wrap; simp [IntKind.bits, IntKind.signed]; omega
      have b1 : 0 ≤ (n : Int) - 7 := by omega
      have b2 : (n : Int) - 7 < 13 := by omega
      have b3 : (7 : Int) ≤ n := by omega
      by_cases h15 : n = 15
      · subst h15
        clear h7 h20 hn
        go_enter Tryd.func20, Tryd.ntmps20
        go_wp2_with fail
        refine (answer_num 0 (.slice none 0 0) 0 ⟨#[]⟩ ⟨#[]⟩ 0 0 0 0 0 5 ⟨#[]⟩ ⟨#[]⟩ 0 0 0 0 _ (by decide) HT.out).mono ?_
        rintro e w1 ⟨rfl, hb1⟩
        have h5 : (⟨(Lib.decDigits 5 ++ [13, 10]).toArray⟩ : ByteArray) = lineS 15 := by rw [dec_small (by decide)]; rfl
        rw [h5]
        go_wp2_with fail
        go_ret
        exact ⟨rfl, hb1⟩
      · have HO := Lib.hid (lineS_ans n (by omega) h20 h15)
        have h8 : (n : Int) - 7 ≠ 8 := by omega
        have H8 := Lib.hid h8
        clear h8 h15
        go_enter Tryd.func20, Tryd.ntmps20
        go_wp2_with fail
        refine (answer_kind 0 (.slice none 0 0) 0 ⟨#[]⟩ ⟨#[]⟩ 0 0 0 0 0 ((n : Int) - 7) 5 ⟨#[]⟩ ⟨#[]⟩ 0 0 0 0 _ b1 (by omega) H8.out).mono ?_
        rintro e w1 ⟨rfl, hb1⟩
        rw [HO.out]
        go_wp2_with fail
        go_ret
        exact ⟨rfl, hb1⟩
    · have hd2 : decide ((n : Int) < 20) = false := decide_eq_false (by omega)
      rcases (by omega : n = 20 ∨ n = 21) with rfl | rfl
      · clear h7 h20 hn
        go_enter Tryd.func20, Tryd.ntmps20
        go_wp2_with fail
        refine (endw _).mono ?_
        rintro e w1 ⟨rfl, rfl⟩
        go_wp2_with fail
        go_ret
        exact ⟨rfl, Below.refl _ _⟩
      · clear h7 h20 hn
        go_enter Tryd.func20, Tryd.ntmps20
        go_wp2_with fail
        refine (versionw _).mono ?_
        rintro e w1 ⟨rfl, rfl⟩
        go_wp2_with fail
        go_ret
        exact ⟨rfl, Below.refl _ _⟩
end Go.Proofs.YtcmogfdbjppdeaaDoor
