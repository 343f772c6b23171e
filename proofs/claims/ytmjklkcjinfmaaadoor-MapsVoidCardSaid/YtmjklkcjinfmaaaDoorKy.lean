/- Contracts of package keys and of its chapter's answers: what is wrong with a key. -/
import Derived.Test.YtmjklkcjinfmaaaDoorChecked
import Derived.Test.YtmjklkcjinfmaaaDoorKyMath
namespace Go.Proofs.YtmjklkcjinfmaaaDoor
open Go.RowKit
set_option linter.unusedVariables false

theorem mayw (c : UInt8) (w : World) : Calls Tryd.prog 56 #[.int .u8 c.toNat] w fun e w' => e = .returned (.bool (mayB c)) ∧ w = w' := by
  by_cases h1 : 32 < (c.toNat : Int)
  · by_cases h2 : (c.toNat : Int) = 127
    · rw [mayB_del h2]
      have h3 : ((c.toNat : Int) != 127) = false := by simp [h2]
      clear h2
      go_enter Tryd.func56, Tryd.ntmps56
      go_wp2
      go_ret
      exact ⟨rfl, rfl⟩
    · rw [mayB_mk h1 h2]
      have h3 : ((c.toNat : Int) != 127) = true := by simpa using h2
      clear h2
      go_enter Tryd.func56, Tryd.ntmps56
      go_wp2
      go_ret
      exact ⟨rfl, rfl⟩
  · rw [mayB_lo h1]
    have h3 : decide (32 < (c.toNat : Int)) = false := by simpa using h1
    go_enter Tryd.func56, Tryd.ntmps56
    go_wp2
    go_ret
    exact ⟨rfl, rfl⟩
theorem refmay (c : UInt8) (w : World) : Calls Tryd.prog 95 #[.int .u8 c.toNat] w fun e w' => e = .returned (.bool (mayB c)) ∧ w = w' := by
  by_cases h1 : 32 < (c.toNat : Int)
  · by_cases h2 : (c.toNat : Int) = 127
    · rw [mayB_del h2]
      have h3 : ((c.toNat : Int) != 127) = false := by simp [h2]
      clear h2
      go_enter Tryd.func95, Tryd.ntmps95
      go_wp2
      go_ret
      exact ⟨rfl, rfl⟩
    · rw [mayB_mk h1 h2]
      have h3 : ((c.toNat : Int) != 127) = true := by simpa using h2
      clear h2
      go_enter Tryd.func95, Tryd.ntmps95
      go_wp2
      go_ret
      exact ⟨rfl, rfl⟩
  · rw [mayB_lo h1]
    have h3 : decide (32 < (c.toNat : Int)) = false := by simpa using h1
    go_enter Tryd.func95, Tryd.ntmps95
    go_wp2
    go_ret
    exact ⟨rfl, rfl⟩
theorem ret_two {k k' : IntKind} {a b c d : Int} (h : (a, b) = (c, d)) : Ending.returned (.tuple #[.int k a, .int k' b]) = .returned (.tuple #[.int k c, .int k' d]) := by
  injection h with h1 h2; rw [h1, h2]
theorem look (s : ByteArray) (w : World) (hs : s.size ≤ maxLen) :
    Calls Tryd.prog 40 #[.string s] w fun e w' => e = .returned (.tuple #[.int .u8 (lookF s.data.toList).1, .int .i64 (lookF s.data.toList).2]) ∧ w = w' := by
  unfold maxLen at hs
  by_cases h0 : s.size = 0
  · have e := lookF_empty (s := s.data.toList) (by simpa using h0)
    rw [e]
    go_enter Tryd.func40, Tryd.ntmps40
    go_wp2
    go_ret2
    exact ⟨rfl, rfl⟩
  by_cases h1 : 250 < s.size
  · have e := lookF_long (s := s.data.toList) (by simpa using h1)
    rw [e]
    go_enter Tryd.func40, Tryd.ntmps40
    go_wp2
    go_ret2
    exact ⟨rfl, rfl⟩
  have h0' : 0 < s.size := by omega
  have h1' : s.size ≤ 250 := by omega
  have b0 : ((s.size : Int) == 0) = false := beq_eq_false_iff_ne.mpr (by omega)
  have b1 : decide (250 < (s.size : Int)) = false := decide_eq_false (by omega)
  clear h0 h1
  go_enter Tryd.func40, Tryd.ntmps40
  go_wp2
  go_loop [13] (fun i => ∃ k : Nat, k ≤ s.size ∧ i = .int .i64 k ∧ Hid (MayTo s.data.toList k)) (fun i => s.size - (intOf i).toNat)
  case atStart => exact ⟨0, by omega, rfl, MayTo.zero _⟩
  case round =>
    obtain ⟨k, hk, rfl, hm⟩ := hrel
    by_cases hlt : k < s.size
    · have hkl : k < s.data.toList.length := by simpa using hlt
      cases hb : mayB s[k] with
      | true =>
        have HB := Lib.hid hb
        clear hb
        go_wp2_with (go_at_call 56; refine (mayw _ _).mono ?_; rintro e w' ⟨rfl, rfl⟩; rw [HB.out])
        go_round
        case rel => exact ⟨k + 1, by omega, by go_num, hm.out.succ hkl HB.out⟩
        case measure => simp [intOf]; omega
      | false =>
        have HB := Lib.hid hb
        clear hb
        go_wp2_with (go_at_call 56; refine (mayw _ _).mono ?_; rintro e w' ⟨rfl, rfl⟩; rw [HB.out])
        go_ret2
        have e := lookF_byte hkl (by simpa using h1') hm.out HB.out
        rw [e]
        exact ⟨rfl, rfl⟩
    · obtain rfl : k = s.size := by omega
      go_wp2
      go_ret2
      have e := lookF_none (s := s.data.toList) (by simpa using h0') (by simpa using h1') (by simpa using hm.out)
      rw [e]
      exact ⟨rfl, rfl⟩
theorem reflook (s : ByteArray) (w : World) (hs : s.size ≤ maxLen) :
    Calls Tryd.prog 77 #[.string s] w fun e w' => e = .returned (.tuple #[.int .i64 (lookF s.data.toList).1, .int .i64 (lookF s.data.toList).2]) ∧ w = w' := by
  unfold maxLen at hs
  by_cases h0 : s.size = 0
  · have e := lookF_empty (s := s.data.toList) (by simpa using h0)
    rw [e]
    go_enter Tryd.func77, Tryd.ntmps77
    go_wp2
    go_ret2
    exact ⟨rfl, rfl⟩
  by_cases h1 : 250 < s.size
  · have e := lookF_long (s := s.data.toList) (by simpa using h1)
    rw [e]
    go_enter Tryd.func77, Tryd.ntmps77
    go_wp2
    go_ret2
    exact ⟨rfl, rfl⟩
  have h0' : 0 < s.size := by omega
  have h1' : s.size ≤ 250 := by omega
  have b0 : ((s.size : Int) == 0) = false := beq_eq_false_iff_ne.mpr (by omega)
  have b1 : decide (250 < (s.size : Int)) = false := decide_eq_false (by omega)
  clear h0 h1
  go_enter Tryd.func77, Tryd.ntmps77
  go_wp2
  go_loop [4] (fun i => ∃ k : Nat, k ≤ s.size ∧ i = .int .i64 k ∧ Hid (MayTo s.data.toList k)) (fun i => s.size - (intOf i).toNat)
  case atStart => exact ⟨0, by omega, rfl, MayTo.zero _⟩
  case round =>
    obtain ⟨k, hk, rfl, hm⟩ := hrel
    by_cases hlt : k < s.size
    · have hkl : k < s.data.toList.length := by simpa using hlt
      cases hb : mayB s[k] with
      | true =>
        have HB := Lib.hid hb
        clear hb
        go_wp2_with (go_at_call 95; refine (refmay _ _).mono ?_; rintro e w' ⟨rfl, rfl⟩; rw [HB.out])
        go_round
        case rel => exact ⟨k + 1, by omega, by go_num, hm.out.succ hkl HB.out⟩
        case measure => simp [intOf]; omega
      | false =>
        have HB := Lib.hid hb
        clear hb
        go_wp2_with (go_at_call 95; refine (refmay _ _).mono ?_; rintro e w' ⟨rfl, rfl⟩; rw [HB.out])
        go_ret2
        have e := lookF_byte hkl (by simpa using h1') hm.out HB.out
        rw [e]
        exact ⟨rfl, rfl⟩
    · obtain rfl : k = s.size := by omega
      go_wp2
      go_ret2
      have e := lookF_none (s := s.data.toList) (by simpa using h0') (by simpa using h1') (by simpa using hm.out)
      rw [e]
      exact ⟨rfl, rfl⟩
theorem okw (s : ByteArray) (w : World) (hs : s.size ≤ maxLen) : Calls Tryd.prog 27 #[.string s] w fun e w' => e = .returned (.bool ((lookF s.data.toList).1 == 0)) ∧ w = w' := by
  go_enter Tryd.func27, Tryd.ntmps27
  go_wp2_with (go_at_call 40; refine (look _ _ hs).mono ?_; rintro e w' ⟨rfl, rfl⟩)
  go_ret
  exact ⟨rfl, rfl⟩
/-- May a value of so many bytes be? -/
def roomF (n : Int) : Bool := decide (0 ≤ n) && decide (n ≤ 1024)
end Go.Proofs.YtmjklkcjinfmaaaDoor
