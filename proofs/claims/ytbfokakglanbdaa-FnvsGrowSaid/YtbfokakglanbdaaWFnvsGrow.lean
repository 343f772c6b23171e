/- The law FnvsGrow. -/
import Derived.Test.YtbfokakglanbdaaLives01
import Derived.Test.YtbfokakglanbdaaOth
namespace Go.Proofs.Ytbfokakglanbdaa
open Go.RowKit
set_option linter.unusedVariables false
theorem walk_FnvsGrow (a0 : ByteArray) (a1 : Int) (w : World) (w0 : a0.size ≤ maxLen) (w1 : (Lit.int .u8 a1).wf = true) :
    Calls Try.prog 6 #[.string a0, .int .u8 a1] w fun e w' => e = .returned (.bool true) ∧ Below w.heap.size w w' := by
  obtain ⟨l1, u1⟩ := bounds_u8 w1
  clear w1
  obtain ⟨x, hx⟩ : ∃ x, hsl a0.data.toList = x := ⟨_, rfl⟩
  have hr := hsl_range a0.data.toList
  rw [hx] at hr
  obtain ⟨x1, x2⟩ := hr
  obtain ⟨t1, t2⟩ := tag_range x x1 x2
  obtain ⟨b, eb⟩ : ∃ b, 1 + a1 % 11 = b := ⟨_, rfl⟩
  have b1 : 1 ≤ b := by omega
  have b2 : b ≤ 11 := by omega
  obtain ⟨p1, p2⟩ := pow_le b b1 (by omega)
  obtain ⟨p3, p4⟩ := pow_le (b + 1) (by omega) (by omega)
  obtain ⟨a, ea⟩ : ∃ a, x % 2 ^ b.toNat = a := ⟨_, rfl⟩
  have ha1 : 0 ≤ a := by rw [← ea]; exact Int.emod_nonneg _ (by omega)
  have ha2 : a < 2 ^ b.toNat := by rw [← ea]; exact Int.emod_lt_of_pos _ (by omega)
  obtain ⟨c, ec⟩ : ∃ c, x % 2 ^ (b + 1).toNat = c := ⟨_, rfl⟩
  have hc1 : 0 ≤ c := by rw [← ec]; exact Int.emod_nonneg _ (by omega)
  have hc2 : c < 2 ^ (b + 1).toNat := by rw [← ec]; exact Int.emod_lt_of_pos _ (by omega)
  obtain ⟨t, et⟩ : ∃ t, max 1 (x / 72057594037927936) = t := ⟨_, rfl⟩
  rw [et] at t1 t2
  have hps : (2 : Int) ^ (b + 1).toNat = 2 * 2 ^ b.toNat := by rw [show (b + 1).toNat = b.toNat + 1 by omega, Int.pow_succ, Int.mul_comm]
  have hg : (c = a ∨ c = a + 2 ^ b.toNat) ∧ (oth c t (b + 1) = oth a t b ∨ oth c t (b + 1) = oth a t b + 2 ^ b.toNat) := by
    subst ea ec
    obtain ⟨x, rfl⟩ := Int.eq_ofNat_of_zero_le x1
    obtain ⟨t, rfl⟩ := Int.eq_ofNat_of_zero_le (show 0 ≤ t by omega)
    obtain ⟨n, hn⟩ := Int.eq_ofNat_of_zero_le (show 0 ≤ b by omega)
    clear eb
    subst hn
    have e1 : ((n : Int) + 1).toNat = n + 1 := by omega
    have e2 : ((x : Int) % 2 ^ (n + 1)) = ((x % 2 ^ (n + 1) : Nat) : Int) := by simp
    have e3 : ((x : Int) % 2 ^ n) = ((x % 2 ^ n : Nat) : Int) := by simp
    have e4 : (2 : Int) ^ n = ((2 ^ n : Nat) : Int) := by simp
    simp only [e1, Int.toNat_natCast]
    rw [e2, e3, e4]
    have g1 := mod_grow x n
    have g2 := oth_grow x t n (by omega)
    exact ⟨by omega, by simpa using g2⟩
  obtain ⟨hg1, hg2⟩ := hg
  obtain ⟨o, eo⟩ : ∃ o, oth a t b = o := ⟨_, rfl⟩
  obtain ⟨q, eq⟩ : ∃ q, oth c t (b + 1) = q := ⟨_, rfl⟩
  rw [eo, eq] at hg2
  obtain ⟨o1, o2, _⟩ := oth_spec a t b t1 ha1 ha2 b1 (by omega)
  rw [eo] at o1 o2
  have HP := Lib.hid hps
  have f3 : ((2 : Int) ^ (b + 1).toNat == 2 * 2 ^ b.toNat) = true := by simpa using hps
  clear hps
  by_cases hl : 2000 < a0.size
  · go_enter Try.func6, Try.ntmps6
    go_wp2_with fail
    refine (lives01 _).mono ?_
    rintro e w1 ⟨rfl, hb⟩
    go_wp2_with fail
    go_ret
    exact ⟨rfl, hb⟩
  · have f1 : ((c == a) = true ∧ (c == a + 2 ^ b.toNat) = false) ∨ ((c == a) = false ∧ (c == a + 2 ^ b.toNat) = true) := by
      rcases hg1 with h | h
      · exact .inl ⟨by simpa using h, by rw [beq_eq_false_iff_ne]; omega⟩
      · exact .inr ⟨by rw [beq_eq_false_iff_ne]; omega, by simpa using h⟩
    have f2 : ((q == o) = true ∧ (q == o + 2 ^ b.toNat) = false) ∨ ((q == o) = false ∧ (q == o + 2 ^ b.toNat) = true) := by
      rcases hg2 with h | h
      · exact .inl ⟨by simpa using h, by rw [beq_eq_false_iff_ne]; omega⟩
      · exact .inr ⟨by rw [beq_eq_false_iff_ne]; omega, by simpa using h⟩
    clear hg1 hg2
    rcases f1 with ⟨f1, f1'⟩ | ⟨f1, f1'⟩ <;> rcases f2 with ⟨f2, f2'⟩ | ⟨f2, f2'⟩
    all_goals
      go_enter Try.func6, Try.ntmps6
      go_wp2_with fail
      refine (hash _ _ w0).mono ?_
      rintro e w1 ⟨rfl, hb1⟩
      go_wp2_with fail
      refine (tag _ _ x1 x2).mono ?_
      rintro e w2 ⟨rfl, rfl⟩
      go_wp2_with fail
      refine (size_in _ _ b1 (by omega)).mono ?_
      rintro e w2 ⟨rfl, rfl⟩
      go_wp2_with fail
      refine (bucket _ _ _ x1 x2 b1 (by omega)).mono ?_
      rintro e w2 ⟨rfl, rfl⟩
      go_wp2_with fail
      refine (bucket _ _ _ x1 x2 (by omega) (by omega)).mono ?_
      rintro e w2 ⟨rfl, rfl⟩
      go_wp2_with fail
      refine (other _ _ _ _ ha1 ha2 t1 t2 b1 (by omega)).mono ?_
      rintro e w2 ⟨rfl, rfl⟩
      go_wp2_with fail
      refine (other _ _ _ _ hc1 hc2 t1 t2 (by omega) (by omega)).mono ?_
      rintro e w2 ⟨rfl, rfl⟩
      go_wp2_with fail
      refine (size_in _ _ (by omega) (by omega)).mono ?_
      rintro e w2 ⟨rfl, rfl⟩
      go_wp2_with fail
      refine (lives01 _).mono ?_
      rintro e w3 ⟨rfl, hb⟩
      go_wp2_with fail
      go_ret
      exact ⟨rfl, below_then hb1 hb⟩
end Go.Proofs.Ytbfokakglanbdaa
