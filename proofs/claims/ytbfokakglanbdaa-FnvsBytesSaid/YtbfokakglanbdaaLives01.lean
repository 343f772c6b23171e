/- The examples of chapter 1. -/
import Derived.Test.YtbfokakglanbdaaFnvs
namespace Go.Proofs.Ytbfokakglanbdaa
open Go.RowKit

theorem hs1_range (h : Int) (c : UInt8) : 0 ≤ hs1 h c ∧ hs1 h c < 18446744073709551616 := by
  unfold hs1; rw [IntKind.wrap_u64]; omega
theorem hsl_range (l : List UInt8) : 0 ≤ hsl l ∧ hsl l < 18446744073709551616 := by
  rcases List.eq_nil_or_concat l with rfl | ⟨l', c, rfl⟩
  · decide
  · rw [List.concat_eq_append, hsl_snoc]; exact hs1_range _ _
theorem tag_range (h : Int) (h1 : 0 ≤ h) (h2 : h < 18446744073709551616) : 1 ≤ max 1 (h / 72057594037927936) ∧ max 1 (h / 72057594037927936) ≤ 255 := by omega
theorem oth_a : oth 5 203 4 = 2 := by decide +kernel
theorem oth_b : oth 2 203 4 = 5 := by decide +kernel
theorem lives01 (w : World) : Calls Try.prog 14 #[] w fun e w' => e = .returned (.bool true) ∧ Below w.heap.size w w' := by
  have e0 : hsl [] = 14695981039346656037 := rfl
  have e1 := oth_a
  have e2 := oth_b
  go_enter Try.func14, Try.ntmps14
  go_wp2_with fail
  refine (hash _ _ (by decide)).mono ?_
  rintro e w1 ⟨rfl, hb1⟩
  go_wp2_with fail
  refine (tag _ _ (by omega) (by omega)).mono ?_
  rintro e w2 ⟨rfl, rfl⟩
  go_wp2_with fail
  refine (bucket _ _ _ (by omega) (by omega) (by omega) (by omega)).mono ?_
  rintro e w2 ⟨rfl, rfl⟩
  go_wp2_with fail
  refine (other _ _ _ _ (by omega) (by decide) (by omega) (by omega) (by omega) (by omega)).mono ?_
  rintro e w2 ⟨rfl, rfl⟩
  go_wp2_with fail
  refine (other _ _ _ _ (by omega) (by decide) (by omega) (by omega) (by omega) (by omega)).mono ?_
  rintro e w2 ⟨rfl, rfl⟩
  go_wp2_with fail
  refine (stripe _ _ _ (by omega) (by decide) (by omega) (by omega)).mono ?_
  rintro e w2 ⟨rfl, hb2⟩
  go_wp2_with fail
  go_ret
  exact ⟨rfl, hb1.trans (hb2.mono (hb1.size))⟩
end Go.Proofs.Ytbfokakglanbdaa
