/- The law TagwordsLow. -/
import Derived.Test.YtbfokakglanbdaaTagSame
import Derived.Test.YtbfokakglanbdaaTagLow
namespace Go.Proofs.Ytbfokakglanbdaa
open Go.RowKit
set_option linter.unusedVariables false

def Alike (a b : Int) (k : Nat) : Bool := decide (∀ j : Nat, j < k → tagf a j = tagf b j)
theorem alike_yes (a b : Int) (k : Nat) (h : Alike a b k = true) (e : tagf a k = tagf b k) : Alike a b (k + 1) = true := by
  unfold Alike at *
  simp only [decide_eq_true_eq] at *
  intro j hj
  by_cases c : j = k
  · subst c; exact e
  · exact h j (by omega)
theorem alike_no (a b : Int) (k : Nat) (e : ¬ tagf a k = tagf b k) : Alike a b (k + 1) = false := by
  unfold Alike
  simp only [decide_eq_false_iff_not]
  intro h
  exact e (h k (by omega))
theorem alike_was (a b : Int) (k : Nat) (h : Alike a b k = false) : Alike a b (k + 1) = false := by
  unfold Alike at *
  simp only [decide_eq_false_iff_not] at *
  intro h'
  exact h fun j hj => h' j (by omega)
theorem alike_end (a b : Int) (ha : 0 ≤ a) (hb : 0 ≤ b) : Alike a b 4 = (a % 4294967296 == b % 4294967296) := by
  rw [Bool.eq_iff_iff]
  simp only [Alike, decide_eq_true_eq, beq_iff_eq]
  exact ⟨fun h => low_of_tags a b ha hb h, fun h j _ => low_tags a b h j⟩
set_option maxHeartbeats 1000000 in
theorem walk_TagwordsLow (a0 : Int) (a1 : Int) (a2 : Int) (w : World) (w0 : (Lit.int .u64 a0).wf = true) (w1 : (Lit.int .u64 a1).wf = true) (w2 : (Lit.int .i64 a2).wf = true) :
    Calls Try.prog 13 #[.int .u64 a0, .int .u64 a1, .int .i64 a2] w fun e w' => e = .returned (.bool true) ∧ Below w.heap.size w w' := by
  obtain ⟨l0, u0⟩ := bounds_u64 w0
  obtain ⟨l1, u1⟩ := bounds_u64 w1
  have hB : Below w.heap.size w w := Below.refl _ _
  have hN : w.heap.size ≤ w.heap.size := Nat.le_refl _
  clear w0 w1 w2
  go_enter Try.func13, Try.ntmps13
  go_wp2_with fail
  go_loopw [7, 8] (fun v i wr => ∃ (k : Nat) (b : Bool), k ≤ 4 ∧ i = .int .i64 k ∧ v = .bool b ∧ Hid (b = Alike a0 a1 k) ∧ Below w.heap.size w wr) (fun _ i _ => 4 - (intOf i).toNat)
  case atStart => exact ⟨0, true, by omega, rfl, rfl, by simp [Hid, Alike], hB⟩
  case round =>
    obtain ⟨k, b, hk4, rfl, rfl, hbb, hbr⟩ := hrel
    by_cases hlt : k < 4
    · by_cases ht : tagf a0 k = tagf a1 k
      · have he : (tagf a0 k == tagf a1 k) = true := by simpa using ht
        have HH : Hid (b = Alike a0 a1 (k + 1)) := by
          cases b
          · exact (alike_was a0 a1 k hbb.out.symm).symm
          · exact (alike_yes a0 a1 k hbb.out.symm ht).symm
        clear ht
        cases b
        all_goals
          go_wp2_with (go_at_call 27; refine (tagw _ _ _ (by omega) (by omega)).mono ?_; rintro e w' ⟨rfl, hk⟩; have hq := box_then (by assumption) hN hk; clear hk)
          go_roundw
          case rel => exact ⟨k + 1, _, by omega, by go_num, rfl, HH, by assumption⟩
          case measure => simp [intOf]; omega
      · have he : (tagf a0 k == tagf a1 k) = false := by simpa using ht
        have HH : Hid (false = Alike a0 a1 (k + 1)) := (alike_no a0 a1 k ht).symm
        clear ht
        cases b
        all_goals
          go_wp2_with (go_at_call 27; refine (tagw _ _ _ (by omega) (by omega)).mono ?_; rintro e w' ⟨rfl, hk⟩; have hq := box_then (by assumption) hN hk; clear hk)
          go_roundw
          case rel => exact ⟨k + 1, _, by omega, by go_num, rfl, HH, by assumption⟩
          case measure => simp [intOf]; omega
    · obtain rfl : k = 4 := by omega
      have hb2 := hbb.out
      rw [alike_end a0 a1 l0 l1] at hb2
      clear hbb
      have hd : (b == (a0 % 4294967296 == a1 % 4294967296)) = true := by rw [hb2]; simp
      have HB2 := Lib.hid hb2
      clear hb2
      obtain ⟨c, ec⟩ : ∃ c, a0 % 4294967296 + a1 / 4294967296 * 4294967296 = c := ⟨_, rfl⟩
      have c1 : 0 ≤ c := by omega
      have c2 : c < 18446744073709551616 := by omega
      obtain ⟨e1, e2, e3⟩ := low_all c a0 a2 (by omega)
      have E1 := Lib.hid e1
      clear e1
      go_wp2_with fail
      refine (hasA_any _ _ _ l0 (by omega)).mono ?_
      rintro e w1 ⟨v1, rfl, hL1, hb1⟩
      go_wp2_with fail
      refine (hasA_any _ _ _ c1 c2).mono ?_
      rintro e w2 ⟨v2, rfl, hL2, hb2⟩
      rw [E1.out] at hL2
      go_wp2_with fail
      refine (same_yes _ _ _ _ _ _ (hL1.below hb2 (Nat.le_refl _)) hL2).mono ?_
      rintro e w3 ⟨rfl, hb3⟩
      have hq := box_then hbr hN hb1
      have hq2 := box_then hq hN hb2
      have hq3 := box_then hq2 hN hb3
      clear hq hq2 hb1 hb2 hb3 hL1 hL2 hbr
      go_wp2_with (first
        | (go_at_call 35; refine (freew _ _ (by omega) (by omega)).mono ?_; rintro e w' ⟨rfl, hk⟩; have hq := box_then (by assumption) hN hk; clear hk)
        | (go_at_call 37; refine (countw _ _ (by omega) (by omega)).mono ?_; rintro e w' ⟨rfl, hk⟩; have hq := box_then (by assumption) hN hk; clear hk)
        | (go_at_call 31; refine (lives02 _).mono ?_; rintro e w' ⟨rfl, hk⟩; have hq := box_then (by assumption) hN hk; clear hk))
      go_ret
      exact ⟨rfl, by assumption⟩
end Go.Proofs.Ytbfokakglanbdaa
