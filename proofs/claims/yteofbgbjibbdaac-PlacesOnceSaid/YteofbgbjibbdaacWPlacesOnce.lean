/- Law PlacesOnce, walked. -/
import Derived.Test.YteofbgbjibbdaacPlOnceA
import Derived.Test.YteofbgbjibbdaacPlOnceB
import Derived.Test.YteofbgbjibbdaacPlOnceC
import Derived.Test.YteofbgbjibbdaacPl3
namespace Go.Proofs.Yteofbgbjibbdaac
open Go.RowKit
set_option linter.unusedVariables false
theorem kf_small (x i : Int) (h1 : 0 ≤ i) (h2 : i < spotsf x) : kf x i = i ∧ kf x (i + spotsf x) = i ∧ kf x (i - spotsf x) = i := by
  unfold kf
  refine ⟨Int.emod_eq_of_lt h1 h2, by rw [Int.add_emod_right, Int.emod_eq_of_lt h1 h2], ?_⟩
  rw [← Int.add_emod_right, show i - spotsf x + spotsf x = i by omega, Int.emod_eq_of_lt h1 h2]
theorem spot_lo (x i : Int) (h : kf x i = i) (c : i < 4 * szf (asO x)) : aB x i = asO x ∧ aK x i = i / 4 ∧ aS x i = i % 4 := by
  unfold aB aK aS; rw [h, if_neg (by omega), if_neg (by omega)]; exact ⟨rfl, rfl, rfl⟩
theorem spot_hi (x i : Int) (h : kf x i = i) (c : 4 * szf (asO x) ≤ i) : aB x i = asN x ∧ aK x i = (i - 4 * szf (asO x)) / 4 ∧ aS x i = (i - 4 * szf (asO x)) % 4 := by
  unfold aB aK aS; rw [h, if_pos c, if_pos c]; exact ⟨rfl, rfl, rfl⟩
theorem spot_same (x i j : Int) (h : kf x i = kf x j) : aB x i = aB x j ∧ aK x i = aK x j ∧ aS x i = aS x j := by
  unfold aB aK aS; rw [h]; exact ⟨rfl, rfl, rfl⟩
/-- The contract of a spot's number, with its values named. -/
theorem at_is (x j b k s : Int) (l0 : 0 ≤ x) (u0 : x < 18446744073709551616) (l1 : -9223372036854775808 ≤ j) (u1 : j ≤ 9223372036854775807) (hb : aB x j = b) (hk : aK x j = k) (hs : aS x j = s) (w : World) :
    Calls Try.prog 38 #[.int .u64 x, .int .i64 j] w fun e w' => e = .returned (.agg #[.int .i64 b, .int .i64 k, .int .i64 s]) ∧ Below w.heap.size w w' := by
  subst hb hk hs
  exact atw8 x j w l0 u0 l1 u1
theorem walk_PlacesOnce (x : Int) (m : Int) (n : Int) (w : World) (w0 : (Lit.int .u64 x).wf = true) (w1 : (Lit.int .u16 m).wf = true) (w2 : (Lit.int .u16 n).wf = true) :
    Calls Try.prog 9 #[.int .u64 x, .int .u16 m, .int .u16 n] w fun e w' => e = .returned (.bool true) ∧ Below w.heap.size w w' := by
  obtain ⟨l0, u0'⟩ := bounds_u64 w0
  have u0 : x < 18446744073709551616 := by omega
  obtain ⟨l1, u1⟩ := bounds_u16 w1
  obtain ⟨l2, u2⟩ := bounds_u16 w2
  obtain ⟨s1, s2⟩ := spotsf_range x
  obtain ⟨i, hi⟩ : ∃ i, m % spotsf x = i := ⟨_, rfl⟩
  obtain ⟨k, hk⟩ : ∃ k, n % spotsf x = k := ⟨_, rfl⟩
  have i1 : 0 ≤ i := by rw [← hi]; exact Int.emod_nonneg _ (by omega)
  have i2 : i < spotsf x := by rw [← hi]; exact Int.emod_lt_of_pos _ (by omega)
  have k1 : 0 ≤ k := by rw [← hk]; exact Int.emod_nonneg _ (by omega)
  have k2 : k < spotsf x := by rw [← hk]; exact Int.emod_lt_of_pos _ (by omega)
  obtain ⟨ki0, kp, km⟩ := kf_small x i i1 i2
  obtain ⟨kk0, _, _⟩ := kf_small x k k1 k2
  obtain ⟨o1, o2, hN⟩ := as_range x
  have n1 : 0 ≤ asN x := by omega
  have n2 : asN x ≤ 12 := by omega
  have hsp : spotsf x = 4 * szf (asO x) + 4 * szf (asN x) := rfl
  have hz0 : szf 0 = 0 := by decide
  obtain ⟨z1, z2⟩ := szf_range (asO x)
  have A := Lib.hid (asw x · l0 u0)
  have B := Lib.hid (spotsw x · l0 u0)
  have p7 : wordf (asO x) (asN x) = asO x + 256 * asN x := by unfold wordf; omega
  have v1 : 0 ≤ asO x + 256 * asN x := by omega
  have v2 : asO x + 256 * asN x ≤ 65535 := by omega
  have y1 : IntKind.i64.wrap (i + spotsf x) = i + spotsf x := by rw [IntKind.wrap_i64]; omega
  have y2 : IntKind.i64.wrap (i - spotsf x) = i - spotsf x := by rw [IntKind.wrap_i64]; omega
  have y3 : IntKind.i64.wrap (256 * asN x) = 256 * asN x := by rw [IntKind.wrap_i64]; omega
  have y4 : IntKind.i64.wrap (asO x + 256 * asN x) = asO x + 256 * asN x := by rw [IntKind.wrap_i64]; omega
  have y5 : IntKind.u64.wrap (asO x + 256 * asN x) = asO x + 256 * asN x := by rw [IntKind.wrap_u64]; omega
  have y6 : (asO x + 256 * asN x).tmod 65536 = asO x + 256 * asN x := by rw [Int.tmod_eq_emod_of_nonneg v1]; omega
  obtain ⟨pB, pK, pS⟩ := spot_same x (i + spotsf x) i (by rw [kp, ki0])
  obtain ⟨mB, mK, mS⟩ := spot_same x (i - spotsf x) i (by rw [km, ki0])
  have T1 : decide (aS x i < 0) = false := by rw [decide_eq_false_iff_not]; by_cases c : 4 * szf (asO x) ≤ i; rw [(spot_hi x i ki0 c).2.2]; omega; rw [(spot_lo x i ki0 (by omega)).2.2]; omega
  have T2 : decide (4 ≤ aS x i) = false := by rw [decide_eq_false_iff_not]; by_cases c : 4 * szf (asO x) ≤ i; rw [(spot_hi x i ki0 c).2.2]; omega; rw [(spot_lo x i ki0 (by omega)).2.2]; omega
  have T3 : decide (aK x i < 0) = false := by rw [decide_eq_false_iff_not]; by_cases c : 4 * szf (asO x) ≤ i; rw [(spot_hi x i ki0 c).2.1]; omega; rw [(spot_lo x i ki0 (by omega)).2.1]; omega
  by_cases ci : 4 * szf (asO x) ≤ i
  · have bi := (spot_hi x i ki0 ci).1
    have gi := (spot_hi x i ki0 ci).2
    have hn : asN x = asO x + 1 := by
      rcases hN with h | h
      · rw [h, hz0] at hsp; omega
      · exact h.1
    have T4 : decide (szf (asN x) ≤ aK x i) = false := by rw [decide_eq_false_iff_not, gi.1]; omega
    by_cases ck : 4 * szf (asO x) ≤ k
    · have bk := (spot_hi x k kk0 ck).1
      have gk := (spot_hi x k kk0 ck).2
      by_cases ik : i = k
      · subst ik
        exact once_en x m n (spotsf x) (asO x) (asN x) (asO x + 256 * asN x) (i + spotsf x) (i - spotsf x) i (aK x i) (aS x i) (szf (asN x)) w l0 u0 l1 u1 l2 u2 s1 s2 hi hk i1 i2 k1 k2 T1 T2 T3 T4 rfl (by simp; omega) (by simp; omega) (by simp; omega) (by omega) o1 o2 n1 n2 A B (Lib.hid (at_is x i _ _ _ l0 u0 (by omega) (by omega) bi rfl rfl)) (Lib.hid (at_is x i _ _ _ l0 u0 (by omega) (by omega) bi rfl rfl)) (Lib.hid (fun j w h => by rcases h with rfl | rfl; exact at_is x _ _ _ _ l0 u0 (by omega) (by omega) (pB.trans bi) pK pS w; exact at_is x _ _ _ _ l0 u0 (by omega) (by omega) (mB.trans bi) mK mS w)) p7 v1 v2 y1 y2 y3 y4 y5 y6
      · by_cases e1 : aK x i = aK x k
        · have e2 : ¬ aS x i = aS x k := by rw [gi.2, gk.2]; rw [gi.1, gk.1] at e1; omega
          exact once_sn x m n (spotsf x) (asO x) (asN x) (asO x + 256 * asN x) (i + spotsf x) (i - spotsf x) i k (aK x i) (aS x i) (szf (asN x)) (aS x k) w l0 u0 l1 u1 l2 u2 s1 s2 hi hk i1 i2 k1 k2 T1 T2 T3 T4 rfl (by simpa using ik) (by simpa using ik) (by simp; omega) (by simp; omega) (by simp; omega) (by omega) (by simpa using e2) (by simpa using e2) o1 o2 n1 n2 A B (Lib.hid (at_is x i _ _ _ l0 u0 (by omega) (by omega) bi rfl rfl)) (Lib.hid (at_is x k _ _ _ l0 u0 (by omega) (by omega) bk e1.symm rfl)) (Lib.hid (fun j w h => by rcases h with rfl | rfl; exact at_is x _ _ _ _ l0 u0 (by omega) (by omega) (pB.trans bi) pK pS w; exact at_is x _ _ _ _ l0 u0 (by omega) (by omega) (mB.trans bi) mK mS w)) p7 v1 v2 y1 y2 y3 y4 y5 y6
        · exact once_kn x m n (spotsf x) (asO x) (asN x) (asO x + 256 * asN x) (i + spotsf x) (i - spotsf x) i k (aK x i) (aS x i) (szf (asN x)) (aK x k) (aS x k) w l0 u0 l1 u1 l2 u2 s1 s2 hi hk i1 i2 k1 k2 T1 T2 T3 T4 rfl (by simpa using ik) (by simpa using ik) (by simp; omega) (by simp; omega) (by simp; omega) (by omega) (by simpa using e1) (by simpa using e1) o1 o2 n1 n2 A B (Lib.hid (at_is x i _ _ _ l0 u0 (by omega) (by omega) bi rfl rfl)) (Lib.hid (at_is x k _ _ _ l0 u0 (by omega) (by omega) bk rfl rfl)) (Lib.hid (fun j w h => by rcases h with rfl | rfl; exact at_is x _ _ _ _ l0 u0 (by omega) (by omega) (pB.trans bi) pK pS w; exact at_is x _ _ _ _ l0 u0 (by omega) (by omega) (mB.trans bi) mK mS w)) p7 v1 v2 y1 y2 y3 y4 y5 y6
    · have bk := (spot_lo x k kk0 (by omega)).1
      have ik : ¬ i = k := by omega
      exact once_bn x m n (spotsf x) (asO x) (asN x) (asO x + 256 * asN x) (i + spotsf x) (i - spotsf x) i k (aK x i) (aS x i) (szf (asN x)) (aK x k) (aS x k) w l0 u0 l1 u1 l2 u2 s1 s2 hi hk i1 i2 k1 k2 T1 T2 T3 T4 rfl (by simpa using ik) (by simpa using ik) (by simp; omega) (by simp; omega) (by simp; omega) (by omega) o1 o2 n1 n2 A B (Lib.hid (at_is x i _ _ _ l0 u0 (by omega) (by omega) bi rfl rfl)) (Lib.hid (at_is x k _ _ _ l0 u0 (by omega) (by omega) bk rfl rfl)) (Lib.hid (fun j w h => by rcases h with rfl | rfl; exact at_is x _ _ _ _ l0 u0 (by omega) (by omega) (pB.trans bi) pK pS w; exact at_is x _ _ _ _ l0 u0 (by omega) (by omega) (mB.trans bi) mK mS w)) p7 v1 v2 y1 y2 y3 y4 y5 y6
  · have bi := (spot_lo x i ki0 (by omega)).1
    have gi := (spot_lo x i ki0 (by omega)).2
    have T4 : decide (szf (asO x) ≤ aK x i) = false := by rw [decide_eq_false_iff_not, gi.1]; omega
    by_cases ck : 4 * szf (asO x) ≤ k
    · have bk := (spot_hi x k kk0 ck).1
      have ik : ¬ i = k := by omega
      have hn : asN x = asO x + 1 := by
        rcases hN with h | h
        · rw [h, hz0] at hsp; omega
        · exact h.1
      exact once_bo x m n (spotsf x) (asO x) (asN x) (asO x + 256 * asN x) (i + spotsf x) (i - spotsf x) i k (aK x i) (aS x i) (szf (asO x)) (aK x k) (aS x k) w l0 u0 l1 u1 l2 u2 s1 s2 hi hk i1 i2 k1 k2 T1 T2 T3 T4 rfl (by simpa using ik) (by simpa using ik) (by simp; omega) (by simp; omega) (by simp; omega) (by omega) (by simp; omega) (by simp; omega) o1 o2 n1 n2 A B (Lib.hid (at_is x i _ _ _ l0 u0 (by omega) (by omega) bi rfl rfl)) (Lib.hid (at_is x k _ _ _ l0 u0 (by omega) (by omega) bk rfl rfl)) (Lib.hid (fun j w h => by rcases h with rfl | rfl; exact at_is x _ _ _ _ l0 u0 (by omega) (by omega) (pB.trans bi) pK pS w; exact at_is x _ _ _ _ l0 u0 (by omega) (by omega) (mB.trans bi) mK mS w)) p7 v1 v2 y1 y2 y3 y4 y5 y6
    · have bk := (spot_lo x k kk0 (by omega)).1
      have gk := (spot_lo x k kk0 (by omega)).2
      by_cases ik : i = k
      · subst ik
        exact once_eo x m n (spotsf x) (asO x) (asN x) (asO x + 256 * asN x) (i + spotsf x) (i - spotsf x) i (aK x i) (aS x i) (szf (asO x)) w l0 u0 l1 u1 l2 u2 s1 s2 hi hk i1 i2 k1 k2 T1 T2 T3 T4 rfl  o1 o2 n1 n2 A B (Lib.hid (at_is x i _ _ _ l0 u0 (by omega) (by omega) bi rfl rfl)) (Lib.hid (at_is x i _ _ _ l0 u0 (by omega) (by omega) bi rfl rfl)) (Lib.hid (fun j w h => by rcases h with rfl | rfl; exact at_is x _ _ _ _ l0 u0 (by omega) (by omega) (pB.trans bi) pK pS w; exact at_is x _ _ _ _ l0 u0 (by omega) (by omega) (mB.trans bi) mK mS w)) p7 v1 v2 y1 y2 y3 y4 y5 y6
      · by_cases e1 : aK x i = aK x k
        · have e2 : ¬ aS x i = aS x k := by rw [gi.2, gk.2]; rw [gi.1, gk.1] at e1; omega
          exact once_so x m n (spotsf x) (asO x) (asN x) (asO x + 256 * asN x) (i + spotsf x) (i - spotsf x) i k (aK x i) (aS x i) (szf (asO x)) (aS x k) w l0 u0 l1 u1 l2 u2 s1 s2 hi hk i1 i2 k1 k2 T1 T2 T3 T4 rfl (by simpa using ik) (by simpa using ik) (by simpa using e2) (by simpa using e2) o1 o2 n1 n2 A B (Lib.hid (at_is x i _ _ _ l0 u0 (by omega) (by omega) bi rfl rfl)) (Lib.hid (at_is x k _ _ _ l0 u0 (by omega) (by omega) bk e1.symm rfl)) (Lib.hid (fun j w h => by rcases h with rfl | rfl; exact at_is x _ _ _ _ l0 u0 (by omega) (by omega) (pB.trans bi) pK pS w; exact at_is x _ _ _ _ l0 u0 (by omega) (by omega) (mB.trans bi) mK mS w)) p7 v1 v2 y1 y2 y3 y4 y5 y6
        · exact once_ko x m n (spotsf x) (asO x) (asN x) (asO x + 256 * asN x) (i + spotsf x) (i - spotsf x) i k (aK x i) (aS x i) (szf (asO x)) (aK x k) (aS x k) w l0 u0 l1 u1 l2 u2 s1 s2 hi hk i1 i2 k1 k2 T1 T2 T3 T4 rfl (by simpa using ik) (by simpa using ik) (by simpa using e1) (by simpa using e1) o1 o2 n1 n2 A B (Lib.hid (at_is x i _ _ _ l0 u0 (by omega) (by omega) bi rfl rfl)) (Lib.hid (at_is x k _ _ _ l0 u0 (by omega) (by omega) bk rfl rfl)) (Lib.hid (fun j w h => by rcases h with rfl | rfl; exact at_is x _ _ _ _ l0 u0 (by omega) (by omega) (pB.trans bi) pK pS w; exact at_is x _ _ _ _ l0 u0 (by omega) (by omega) (mB.trans bi) mK mS w)) p7 v1 v2 y1 y2 y3 y4 y5 y6
end Go.Proofs.Yteofbgbjibbdaac
