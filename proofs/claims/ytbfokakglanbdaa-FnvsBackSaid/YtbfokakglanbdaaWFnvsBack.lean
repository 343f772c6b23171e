/- The law FnvsBack. -/
import Derived.Test.YtbfokakglanbdaaLives01
import Derived.Test.YtbfokakglanbdaaOth
namespace Go.Proofs.Ytbfokakglanbdaa
open Go.RowKit
set_option linter.unusedVariables false
theorem walk_FnvsBack (a0 : ByteArray) (a1 : Int) (a2 : Int) (w : World) (w0 : a0.size ≤ maxLen) (w1 : (Lit.int .u8 a1).wf = true) (w2 : (Lit.int .u8 a2).wf = true) :
    Calls Try.prog 5 #[.string a0, .int .u8 a1, .int .u8 a2] w fun e w' => e = .returned (.bool true) ∧ Below w.heap.size w w' := by
  obtain ⟨l1, u1⟩ := bounds_u8 w1
  obtain ⟨l2, u2⟩ := bounds_u8 w2
  clear w1 w2
  obtain ⟨x, hx⟩ : ∃ x, hsl a0.data.toList = x := ⟨_, rfl⟩
  have hr := hsl_range a0.data.toList
  rw [hx] at hr
  obtain ⟨x1, x2⟩ := hr
  obtain ⟨t1, t2⟩ := tag_range x x1 x2
  obtain ⟨b, eb⟩ : ∃ b, 1 + a2 % 12 = b := ⟨_, rfl⟩
  have b1 : 1 ≤ b := by omega
  have b2 : b ≤ 12 := by omega
  obtain ⟨p1, p2⟩ := pow_le b b1 b2
  obtain ⟨a, ea⟩ : ∃ a, x % 2 ^ b.toNat = a := ⟨_, rfl⟩
  have ha1 : 0 ≤ a := by rw [← ea]; exact Int.emod_nonneg _ (by omega)
  have ha2 : a < 2 ^ b.toNat := by rw [← ea]; exact Int.emod_lt_of_pos _ (by omega)
  by_cases hl : 2000 < a0.size
  · go_enter Try.func5, Try.ntmps5
    go_wp2_with fail
    refine (lives01 _).mono ?_
    rintro e w1 ⟨rfl, hb⟩
    go_wp2_with fail
    go_ret
    exact ⟨rfl, hb⟩
  · obtain ⟨t, et, ht1, ht2⟩ : ∃ t, (if 0 < a1 then a1 else max 1 (x / 72057594037927936)) = t ∧ 1 ≤ t ∧ t ≤ 255 := ⟨_, rfl, by split <;> omega, by split <;> omega⟩
    obtain ⟨o1, o2, o3⟩ := oth_spec a t b ht1 ha1 ha2 b1 b2
    obtain ⟨o, eo⟩ : ∃ o, oth a t b = o := ⟨_, rfl⟩
    rw [eo] at o1 o2 o3
    by_cases h0 : 0 < a1
    all_goals
      simp only [h0, if_true, if_false] at et
      subst et
      go_enter Try.func5, Try.ntmps5
      go_wp2_with fail
      refine (hash _ _ w0).mono ?_
      rintro e w1 ⟨rfl, hb1⟩
      go_wp2_with fail
      refine (tag _ _ x1 x2).mono ?_
      rintro e w2 ⟨rfl, rfl⟩
      go_wp2_with fail
      refine (bucket _ _ _ x1 x2 b1 b2).mono ?_
      rintro e w2 ⟨rfl, rfl⟩
      go_wp2_with fail
      refine (other _ _ _ _ ha1 ha2 ht1 ht2 b1 b2).mono ?_
      rintro e w2 ⟨rfl, rfl⟩
      go_wp2_with fail
      refine (size_in _ _ b1 b2).mono ?_
      rintro e w2 ⟨rfl, rfl⟩
      go_wp2_with fail
      refine (size_in _ _ b1 b2).mono ?_
      rintro e w2 ⟨rfl, rfl⟩
      go_wp2_with fail
      refine (other _ _ _ _ o1 o2 ht1 ht2 b1 b2).mono ?_
      rintro e w2 ⟨rfl, rfl⟩
      go_wp2_with fail
      refine (lives01 _).mono ?_
      rintro e w1 ⟨rfl, hb⟩
      go_wp2_with fail
      go_ret
      exact ⟨rfl, below_then hb1 hb⟩
end Go.Proofs.Ytbfokakglanbdaa
