/- Law PlacesMay, walked. -/
import Derived.Test.YteofbgbjibbdaacPlLives
namespace Go.Proofs.Yteofbgbjibbdaac
open Go.RowKit
set_option linter.unusedVariables false

theorem wordf_range (o n : Int) : 0 ≤ wordf o n ∧ wordf o n < 18446744073709551616 := by unfold wordf; omega
theorem word_as (b : Int) (h1 : 1 ≤ b) (h2 : b ≤ 11) : spotsf (wordf b (b + 1)) = 4 * szf b + 4 * szf (b + 1) := by
  have e : wordf b (b + 1) = b + (b + 1) * 256 := by unfold wordf; omega
  rw [e]
  have m1 : (b + (b + 1) * 256) % 256 = b := by omega
  have m2 : (b + (b + 1) * 256) / 256 % 256 = b + 1 := by
    rw [Int.add_mul_ediv_right _ _ (by decide)]; omega
  have a := (as_eq (b + (b + 1) * 256) b (b + 1) m1 m2)
  have a1 : asO (b + (b + 1) * 256) = b := by rw [a.1, if_pos (by omega)]
  have a2 : asN (b + (b + 1) * 256) = b + 1 := by rw [a.2, a1, if_pos (by omega)]
  unfold spotsf; rw [a1, a2]
theorem szf_up (b : Int) (h1 : 1 ≤ b) (h2 : b ≤ 11) : szf (b + 1) = 2 * szf b := by
  have h : b = 1 ∨ b = 2 ∨ b = 3 ∨ b = 4 ∨ b = 5 ∨ b = 6 ∨ b = 7 ∨ b = 8 ∨ b = 9 ∨ b = 10 ∨ b = 11 := by omega
  rcases h with rfl | rfl | rfl | rfl | rfl | rfl | rfl | rfl | rfl | rfl | rfl <;> decide
theorem may_x (a0 a1 a2 : Int) (f b F s : Int) (w : World) (l0 : 0 ≤ a0) (u0 : a0 ≤ 255) (l1 : 0 ≤ a1) (u1 : a1 ≤ 255) (l2 : 0 ≤ a2) (u2 : a2 ≤ 65535) (hf : 1 + a0 % 12 = f) (hb : 1 + a1 % 12 = b) (f1 : 1 ≤ f) (f2 : f ≤ 12) (b1 : 1 ≤ b) (b2 : b ≤ 12) (hF : szf f = F) (hs : spotsf (wordf b (b + 1)) = s) (F1 : 0 ≤ F) (F2 : F ≤ 4096) (s1 : 8 ≤ s) (s2 : s ≤ 32768) (b3 : 12 ≤ b) (B3 : (b == 12) = true) (hm : mayf f a2 b = false) :
    Calls Try.prog 11 #[.int .u8 a0, .int .u8 a1, .int .u16 a2] w fun e w' => e = .returned (.bool true) ∧ Below w.heap.size w w' := by
  obtain ⟨r1, r2⟩ := wordf_range b (b + 1)
  have R := Lib.hid (And.intro r1 r2)
  clear r1 r2
  go_enter Try.func11, Try.ntmps11
  go_wp2_with (first | (go_at_call 42; refine (mayw _ _ _ _).mono ?_; rintro e w9 ⟨rfl, rfl⟩) | (go_at_call 40; refine (wordw8 _ _ _).mono ?_; rintro e w9 ⟨rfl, rfl⟩))
  refine (spotsw _ _ R.out.1 R.out.2).mono ?_
  rintro e w2 ⟨rfl, hk⟩
  go_wp2_with (first | (go_at_call 47; refine (size_any _ _).mono ?_; rintro e w9 ⟨rfl, rfl⟩) | (go_at_call 42; refine (mayw _ _ _ _).mono ?_; rintro e w9 ⟨rfl, rfl⟩) | (go_at_call 31; refine (lives08 _).mono ?_; rintro e w' ⟨rfl, hk'⟩))
  all_goals go_ret
  all_goals exact ⟨rfl, below_then hk hk'⟩
theorem may_non (a0 a1 a2 : Int) (f b F s : Int) (w : World) (l0 : 0 ≤ a0) (u0 : a0 ≤ 255) (l1 : 0 ≤ a1) (u1 : a1 ≤ 255) (l2 : 0 ≤ a2) (u2 : a2 ≤ 65535) (hf : 1 + a0 % 12 = f) (hb : 1 + a1 % 12 = b) (f1 : 1 ≤ f) (f2 : f ≤ 12) (b1 : 1 ≤ b) (b2 : b ≤ 12) (hF : szf f = F) (hs : spotsf (wordf b (b + 1)) = s) (F1 : 0 ≤ F) (F2 : F ≤ 4096) (s1 : 8 ≤ s) (s2 : s ≤ 32768) (b3 : b ≤ 11) (hm : mayf f a2 b = false) (o1 : 4 * F ≤ a2) (c : 8 * a2 < s) :
    Calls Try.prog 11 #[.int .u8 a0, .int .u8 a1, .int .u16 a2] w fun e w' => e = .returned (.bool true) ∧ Below w.heap.size w w' := by
  obtain ⟨r1, r2⟩ := wordf_range b (b + 1)
  have R := Lib.hid (And.intro r1 r2)
  clear r1 r2
  go_enter Try.func11, Try.ntmps11
  go_wp2_with (first | (go_at_call 42; refine (mayw _ _ _ _).mono ?_; rintro e w9 ⟨rfl, rfl⟩) | (go_at_call 40; refine (wordw8 _ _ _).mono ?_; rintro e w9 ⟨rfl, rfl⟩))
  refine (spotsw _ _ R.out.1 R.out.2).mono ?_
  rintro e w2 ⟨rfl, hk⟩
  go_wp2_with (first | (go_at_call 47; refine (size_any _ _).mono ?_; rintro e w9 ⟨rfl, rfl⟩) | (go_at_call 42; refine (mayw _ _ _ _).mono ?_; rintro e w9 ⟨rfl, rfl⟩) | (go_at_call 31; refine (lives08 _).mono ?_; rintro e w' ⟨rfl, hk'⟩))
  go_ret
  exact ⟨rfl, below_then hk hk'⟩
theorem may_lon (a0 a1 a2 : Int) (f b F s : Int) (w : World) (l0 : 0 ≤ a0) (u0 : a0 ≤ 255) (l1 : 0 ≤ a1) (u1 : a1 ≤ 255) (l2 : 0 ≤ a2) (u2 : a2 ≤ 65535) (hf : 1 + a0 % 12 = f) (hb : 1 + a1 % 12 = b) (f1 : 1 ≤ f) (f2 : f ≤ 12) (b1 : 1 ≤ b) (b2 : b ≤ 12) (hF : szf f = F) (hs : spotsf (wordf b (b + 1)) = s) (F1 : 0 ≤ F) (F2 : F ≤ 4096) (s1 : 8 ≤ s) (s2 : s ≤ 32768) (b3 : b ≤ 1) (hm : mayf f a2 b = true) (o1 : 4 * F ≤ a2) (c : s ≤ 8 * a2) :
    Calls Try.prog 11 #[.int .u8 a0, .int .u8 a1, .int .u16 a2] w fun e w' => e = .returned (.bool true) ∧ Below w.heap.size w w' := by
  obtain ⟨r1, r2⟩ := wordf_range b (b + 1)
  have R := Lib.hid (And.intro r1 r2)
  clear r1 r2
  go_enter Try.func11, Try.ntmps11
  go_wp2_with (first | (go_at_call 42; refine (mayw _ _ _ _).mono ?_; rintro e w9 ⟨rfl, rfl⟩) | (go_at_call 40; refine (wordw8 _ _ _).mono ?_; rintro e w9 ⟨rfl, rfl⟩))
  refine (spotsw _ _ R.out.1 R.out.2).mono ?_
  rintro e w2 ⟨rfl, hk⟩
  go_wp2_with (first | (go_at_call 47; refine (size_any _ _).mono ?_; rintro e w9 ⟨rfl, rfl⟩) | (go_at_call 42; refine (mayw _ _ _ _).mono ?_; rintro e w9 ⟨rfl, rfl⟩) | (go_at_call 31; refine (lives08 _).mono ?_; rintro e w' ⟨rfl, hk'⟩))
  go_ret
  exact ⟨rfl, below_then hk hk'⟩
theorem may_hin (a0 a1 a2 : Int) (f b F s : Int) (w : World) (l0 : 0 ≤ a0) (u0 : a0 ≤ 255) (l1 : 0 ≤ a1) (u1 : a1 ≤ 255) (l2 : 0 ≤ a2) (u2 : a2 ≤ 65535) (hf : 1 + a0 % 12 = f) (hb : 1 + a1 % 12 = b) (f1 : 1 ≤ f) (f2 : f ≤ 12) (b1 : 1 ≤ b) (b2 : b ≤ 12) (hF : szf f = F) (hs : spotsf (wordf b (b + 1)) = s) (F1 : 0 ≤ F) (F2 : F ≤ 4096) (s1 : 8 ≤ s) (s2 : s ≤ 32768) (b3 : 1 < b) (b4 : b ≤ 11) (hm : mayf f a2 b = true) (hn : mayf f a2 (b - 1) = true) (o1 : 4 * F ≤ a2) (c : s ≤ 8 * a2) :
    Calls Try.prog 11 #[.int .u8 a0, .int .u8 a1, .int .u16 a2] w fun e w' => e = .returned (.bool true) ∧ Below w.heap.size w w' := by
  obtain ⟨r1, r2⟩ := wordf_range b (b + 1)
  have R := Lib.hid (And.intro r1 r2)
  clear r1 r2
  go_enter Try.func11, Try.ntmps11
  go_wp2_with (first | (go_at_call 42; refine (mayw _ _ _ _).mono ?_; rintro e w9 ⟨rfl, rfl⟩) | (go_at_call 40; refine (wordw8 _ _ _).mono ?_; rintro e w9 ⟨rfl, rfl⟩))
  refine (spotsw _ _ R.out.1 R.out.2).mono ?_
  rintro e w2 ⟨rfl, hk⟩
  go_wp2_with (first | (go_at_call 47; refine (size_any _ _).mono ?_; rintro e w9 ⟨rfl, rfl⟩) | (go_at_call 42; refine (mayw _ _ _ _).mono ?_; rintro e w9 ⟨rfl, rfl⟩) | (go_at_call 31; refine (lives08 _).mono ?_; rintro e w' ⟨rfl, hk'⟩))
  go_ret
  exact ⟨rfl, below_then hk hk'⟩
theorem may_nof (a0 a1 a2 : Int) (f b F s : Int) (w : World) (l0 : 0 ≤ a0) (u0 : a0 ≤ 255) (l1 : 0 ≤ a1) (u1 : a1 ≤ 255) (l2 : 0 ≤ a2) (u2 : a2 ≤ 65535) (hf : 1 + a0 % 12 = f) (hb : 1 + a1 % 12 = b) (f1 : 1 ≤ f) (f2 : f ≤ 12) (b1 : 1 ≤ b) (b2 : b ≤ 12) (hF : szf f = F) (hs : spotsf (wordf b (b + 1)) = s) (F1 : 0 ≤ F) (F2 : F ≤ 4096) (s1 : 8 ≤ s) (s2 : s ≤ 32768) (b3 : b ≤ 11) (hm : mayf f a2 b = false) (o1 : a2 < 4 * F) (c : 8 * (4 * F) < s) :
    Calls Try.prog 11 #[.int .u8 a0, .int .u8 a1, .int .u16 a2] w fun e w' => e = .returned (.bool true) ∧ Below w.heap.size w w' := by
  obtain ⟨r1, r2⟩ := wordf_range b (b + 1)
  have R := Lib.hid (And.intro r1 r2)
  clear r1 r2
  go_enter Try.func11, Try.ntmps11
  go_wp2_with (first | (go_at_call 42; refine (mayw _ _ _ _).mono ?_; rintro e w9 ⟨rfl, rfl⟩) | (go_at_call 40; refine (wordw8 _ _ _).mono ?_; rintro e w9 ⟨rfl, rfl⟩))
  refine (spotsw _ _ R.out.1 R.out.2).mono ?_
  rintro e w2 ⟨rfl, hk⟩
  go_wp2_with (first | (go_at_call 47; refine (size_any _ _).mono ?_; rintro e w9 ⟨rfl, rfl⟩) | (go_at_call 42; refine (mayw _ _ _ _).mono ?_; rintro e w9 ⟨rfl, rfl⟩) | (go_at_call 31; refine (lives08 _).mono ?_; rintro e w' ⟨rfl, hk'⟩))
  go_ret
  exact ⟨rfl, below_then hk hk'⟩
theorem may_lof (a0 a1 a2 : Int) (f b F s : Int) (w : World) (l0 : 0 ≤ a0) (u0 : a0 ≤ 255) (l1 : 0 ≤ a1) (u1 : a1 ≤ 255) (l2 : 0 ≤ a2) (u2 : a2 ≤ 65535) (hf : 1 + a0 % 12 = f) (hb : 1 + a1 % 12 = b) (f1 : 1 ≤ f) (f2 : f ≤ 12) (b1 : 1 ≤ b) (b2 : b ≤ 12) (hF : szf f = F) (hs : spotsf (wordf b (b + 1)) = s) (F1 : 0 ≤ F) (F2 : F ≤ 4096) (s1 : 8 ≤ s) (s2 : s ≤ 32768) (b3 : b ≤ 1) (hm : mayf f a2 b = true) (o1 : a2 < 4 * F) (c : s ≤ 8 * (4 * F)) :
    Calls Try.prog 11 #[.int .u8 a0, .int .u8 a1, .int .u16 a2] w fun e w' => e = .returned (.bool true) ∧ Below w.heap.size w w' := by
  obtain ⟨r1, r2⟩ := wordf_range b (b + 1)
  have R := Lib.hid (And.intro r1 r2)
  clear r1 r2
  go_enter Try.func11, Try.ntmps11
  go_wp2_with (first | (go_at_call 42; refine (mayw _ _ _ _).mono ?_; rintro e w9 ⟨rfl, rfl⟩) | (go_at_call 40; refine (wordw8 _ _ _).mono ?_; rintro e w9 ⟨rfl, rfl⟩))
  refine (spotsw _ _ R.out.1 R.out.2).mono ?_
  rintro e w2 ⟨rfl, hk⟩
  go_wp2_with (first | (go_at_call 47; refine (size_any _ _).mono ?_; rintro e w9 ⟨rfl, rfl⟩) | (go_at_call 42; refine (mayw _ _ _ _).mono ?_; rintro e w9 ⟨rfl, rfl⟩) | (go_at_call 31; refine (lives08 _).mono ?_; rintro e w' ⟨rfl, hk'⟩))
  go_ret
  exact ⟨rfl, below_then hk hk'⟩
theorem may_hif (a0 a1 a2 : Int) (f b F s : Int) (w : World) (l0 : 0 ≤ a0) (u0 : a0 ≤ 255) (l1 : 0 ≤ a1) (u1 : a1 ≤ 255) (l2 : 0 ≤ a2) (u2 : a2 ≤ 65535) (hf : 1 + a0 % 12 = f) (hb : 1 + a1 % 12 = b) (f1 : 1 ≤ f) (f2 : f ≤ 12) (b1 : 1 ≤ b) (b2 : b ≤ 12) (hF : szf f = F) (hs : spotsf (wordf b (b + 1)) = s) (F1 : 0 ≤ F) (F2 : F ≤ 4096) (s1 : 8 ≤ s) (s2 : s ≤ 32768) (b3 : 1 < b) (b4 : b ≤ 11) (hm : mayf f a2 b = true) (hn : mayf f a2 (b - 1) = true) (o1 : a2 < 4 * F) (c : s ≤ 8 * (4 * F)) :
    Calls Try.prog 11 #[.int .u8 a0, .int .u8 a1, .int .u16 a2] w fun e w' => e = .returned (.bool true) ∧ Below w.heap.size w w' := by
  obtain ⟨r1, r2⟩ := wordf_range b (b + 1)
  have R := Lib.hid (And.intro r1 r2)
  clear r1 r2
  go_enter Try.func11, Try.ntmps11
  go_wp2_with (first | (go_at_call 42; refine (mayw _ _ _ _).mono ?_; rintro e w9 ⟨rfl, rfl⟩) | (go_at_call 40; refine (wordw8 _ _ _).mono ?_; rintro e w9 ⟨rfl, rfl⟩))
  refine (spotsw _ _ R.out.1 R.out.2).mono ?_
  rintro e w2 ⟨rfl, hk⟩
  go_wp2_with (first | (go_at_call 47; refine (size_any _ _).mono ?_; rintro e w9 ⟨rfl, rfl⟩) | (go_at_call 42; refine (mayw _ _ _ _).mono ?_; rintro e w9 ⟨rfl, rfl⟩) | (go_at_call 31; refine (lives08 _).mono ?_; rintro e w' ⟨rfl, hk'⟩))
  go_ret
  exact ⟨rfl, below_then hk hk'⟩
theorem walk_PlacesMay (a0 : Int) (a1 : Int) (a2 : Int) (w : World) (w0 : (Lit.int .u8 a0).wf = true) (w1 : (Lit.int .u8 a1).wf = true) (w2 : (Lit.int .u16 a2).wf = true) :
    Calls Try.prog 11 #[.int .u8 a0, .int .u8 a1, .int .u16 a2] w fun e w' => e = .returned (.bool true) ∧ Below w.heap.size w w' := by
  have c0 := bounds_u8 w0
  have c1 := bounds_u8 w1
  have c2 := bounds_u16 w2
  obtain ⟨f, hf⟩ : ∃ f, 1 + a0 % 12 = f := ⟨_, rfl⟩
  obtain ⟨b, hb⟩ : ∃ f, 1 + a1 % 12 = f := ⟨_, rfl⟩
  obtain ⟨F1, F2⟩ := szf_range f
  obtain ⟨s1, s2⟩ := spotsf_range (wordf b (b + 1))
  have f1 : 1 ≤ f ∧ f ≤ 12 := by omega
  have b1 : 1 ≤ b ∧ b ≤ 12 := by omega
  by_cases b12 : b = 12
  · exact may_x a0 a1 a2 f b _ _ w c0.1 c0.2 c1.1 c1.2 c2.1 c2.2 hf hb f1.1 f1.2 b1.1 b1.2 rfl rfl F1 F2 s1 s2 (by omega) (by simp [b12]) (by unfold mayf; rw [decide_eq_false_iff_not]; omega)
  · have hs := word_as b b1.1 (by omega)
    by_cases o : 4 * szf f ≤ a2
    · by_cases m : spotsf (wordf b (b + 1)) ≤ 8 * a2
      · have hm : mayf f a2 b = true := by unfold mayf; rw [decide_eq_true_iff]; omega
        by_cases b0 : b = 1
        · exact may_lon a0 a1 a2 f b _ _ w c0.1 c0.2 c1.1 c1.2 c2.1 c2.2 hf hb f1.1 f1.2 b1.1 b1.2 rfl rfl F1 F2 s1 s2 (by omega) hm o m
        · have g1 := szf_up b b1.1 (by omega)
          have g2 := szf_up (b - 1) (by omega) (by omega)
          rw [show b - 1 + 1 = b by omega] at g2
          have hn : mayf f a2 (b - 1) = true := by unfold mayf; rw [decide_eq_true_iff, show b - 1 + 1 = b by omega]; omega
          exact may_hin a0 a1 a2 f b _ _ w c0.1 c0.2 c1.1 c1.2 c2.1 c2.2 hf hb f1.1 f1.2 b1.1 b1.2 rfl rfl F1 F2 s1 s2 (by omega) (by omega) hm hn o m
      · exact may_non a0 a1 a2 f b _ _ w c0.1 c0.2 c1.1 c1.2 c2.1 c2.2 hf hb f1.1 f1.2 b1.1 b1.2 rfl rfl F1 F2 s1 s2 (by omega) (by unfold mayf; rw [decide_eq_false_iff_not]; omega) o (by omega)
    · by_cases m : spotsf (wordf b (b + 1)) ≤ 8 * (4 * szf f)
      · have hm : mayf f a2 b = true := by unfold mayf; rw [decide_eq_true_iff]; omega
        by_cases b0 : b = 1
        · exact may_lof a0 a1 a2 f b _ _ w c0.1 c0.2 c1.1 c1.2 c2.1 c2.2 hf hb f1.1 f1.2 b1.1 b1.2 rfl rfl F1 F2 s1 s2 (by omega) hm (by omega) m
        · have g1 := szf_up b b1.1 (by omega)
          have g2 := szf_up (b - 1) (by omega) (by omega)
          rw [show b - 1 + 1 = b by omega] at g2
          have hn : mayf f a2 (b - 1) = true := by unfold mayf; rw [decide_eq_true_iff, show b - 1 + 1 = b by omega]; omega
          exact may_hif a0 a1 a2 f b _ _ w c0.1 c0.2 c1.1 c1.2 c2.1 c2.2 hf hb f1.1 f1.2 b1.1 b1.2 rfl rfl F1 F2 s1 s2 (by omega) (by omega) hm hn (by omega) m
      · exact may_nof a0 a1 a2 f b _ _ w c0.1 c0.2 c1.1 c1.2 c2.1 c2.2 hf hb f1.1 f1.2 b1.1 b1.2 rfl rfl F1 F2 s1 s2 (by omega) (by unfold mayf; rw [decide_eq_false_iff_not]; omega) (by omega) (by omega)
end Go.Proofs.Yteofbgbjibbdaac
