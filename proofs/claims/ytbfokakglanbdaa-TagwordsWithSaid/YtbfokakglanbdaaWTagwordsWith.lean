/- The law TagwordsWith. -/
import Derived.Test.YtbfokakglanbdaaTagSame
import Derived.Test.YtbfokakglanbdaaTagPut
namespace Go.Proofs.Ytbfokakglanbdaa
open Go.RowKit
set_option linter.unusedVariables false

set_option maxHeartbeats 1000000 in
theorem walk_TagwordsWith (a0 : Int) (a1 : Int) (a2 : Int) (w : World) (w0 : (Lit.int .u64 a0).wf = true) (w1 : (Lit.int .i64 a1).wf = true) (w2 : (Lit.int .i64 a2).wf = true) :
    Calls Try.prog 11 #[.int .u64 a0, .int .i64 a1, .int .i64 a2] w fun e w' => e = .returned (.bool true) ∧ Below w.heap.size w w' := by
  obtain ⟨l0, u0⟩ := bounds_u64 w0
  have hB : Below w.heap.size w w := Below.refl _ _
  have hN : w.heap.size ≤ w.heap.size := Nat.le_refl _
  obtain ⟨y, hy⟩ : ∃ y, withf a0 a1 a2 = y := ⟨_, rfl⟩
  have hyr := withf_range a0 a1 a2 l0 (by omega)
  rw [hy] at hyr
  obtain ⟨y1, y2⟩ := hyr
  clear w0 w1 w2
  by_cases hout : a1 < 0 ∨ 3 < a1 ∨ a2 < 0 ∨ 255 < a2
  · have e : y = a0 := by
      rw [← hy]
      unfold withf
      split
      · rfl
      · have : a1 < 0 ∨ 3 < a1 := by omega
        have a : a1 ≠ 0 := by omega
        have b : a1 ≠ 1 := by omega
        have c : a1 ≠ 2 := by omega
        have d : a1 ≠ 3 := by omega
        simp [tagf, unit, a, b, c, d, this]
    subst e
    by_cases h1 : a1 < 0
    case' neg => by_cases h2 : 3 < a1
    case' neg => by_cases h3 : a2 < 0
    case' neg => have h4 : 255 < a2 := by omega
    all_goals
      clear hout
      go_enter Try.func11, Try.ntmps11
      go_wp2_with (first
        | (go_at_call 29; refine (withw _ _ _ _ l0 (by omega)).mono ?_; rintro e w' ⟨rfl, hk⟩; have hq := box_then (by assumption) hN hk; clear hk)
        | (go_at_call 31; refine (lives02 _).mono ?_; rintro e w' ⟨rfl, hk⟩; have hq := box_then (by assumption) hN hk; clear hk))
      go_ret
      exact ⟨rfl, by assumption⟩
  · have hs : a1 = 0 ∨ a1 = 1 ∨ a1 = 2 ∨ a1 = 3 := by omega
    have t1 : 0 ≤ a2 := by omega
    have t2 : a2 ≤ 255 := by omega
    have s1 : 0 ≤ a1 := by omega
    have s2 : a1 ≤ 3 := by omega
    have hhi := put_high a0 a1 a2 l0 (by omega) t1 t2 hs
    have hbk := put_back a0 a1 a2 l0 (by omega) t1 t2 hs
    have hpt := put_tag a0 a1 a2 l0 (by omega) t1 t2
    rw [hy] at hhi hbk
    have HPT := Lib.hid hpt
    have HY := Lib.hid hy
    have HS := Lib.hid hs
    have hhib : (y / 4294967296 == a0 / 4294967296) = true := by simpa using hhi
    clear hpt hs hout hhi
    go_enter Try.func11, Try.ntmps11
    go_wp2_with fail
    refine (withw _ _ _ _ l0 (by omega)).mono ?_
    rintro e w1 ⟨rfl, hk⟩
    go_wp2_with fail
    go_loopw [8] (fun i wr => ∃ k : Nat, k ≤ 4 ∧ i = .int .i64 k ∧ Below w.heap.size w wr) (fun i _ => 4 - (intOf i).toNat)
    case atStart => exact ⟨0, by omega, rfl, hk⟩
    case round =>
      obtain ⟨k, hk4, rfl, hbr⟩ := hrel
      by_cases hlt : k < 4
      · have hpk := HPT.out k HS.out (by omega)
        rw [HY.out] at hpk
        by_cases hks : (k : Int) = a1
        · have hb : ((k : Int) == a1) = true := by simpa using hks
          have hbn : (tagf y k != a2) = false := by rw [hpk, if_pos hks]; simp
          clear hpk hks
          go_wp2_with (go_at_call 27; refine (tagw _ _ _ (by omega) (by omega)).mono ?_; rintro e w' ⟨rfl, hk⟩; have hq := box_then (by assumption) hN hk; clear hk)
          go_roundw
          case rel => exact ⟨k + 1, by omega, by go_num, by assumption⟩
          case measure => simp [intOf]; omega
        · have hb : ((k : Int) == a1) = false := by simpa using hks
          have hbn : (tagf y k != tagf a0 k) = false := by rw [hpk, if_neg hks]; simp
          clear hpk hks
          go_wp2_with (go_at_call 27; refine (tagw _ _ _ (by omega) (by omega)).mono ?_; rintro e w' ⟨rfl, hk⟩; have hq := box_then (by assumption) hN hk; clear hk)
          go_roundw
          case rel => exact ⟨k + 1, by omega, by go_num, by assumption⟩
          case measure => simp [intOf]; omega
      · go_wp2_with (first
          | (go_at_call 27; refine (tagw _ _ _ (by omega) (by omega)).mono ?_; rintro e w' ⟨rfl, hk⟩; have hq := box_then (by assumption) hN hk; clear hk)
          | (go_at_call 29; refine (withw _ _ _ _ y1 (by omega)).mono ?_; rintro e w' ⟨rfl, hk⟩; have hq := box_then (by assumption) hN hk; clear hk)
          | (go_at_call 31; refine (lives02 _).mono ?_; rintro e w' ⟨rfl, hk⟩; have hq := box_then (by assumption) hN hk; clear hk))
        go_ret
        exact ⟨rfl, by assumption⟩
end Go.Proofs.Ytbfokakglanbdaa
