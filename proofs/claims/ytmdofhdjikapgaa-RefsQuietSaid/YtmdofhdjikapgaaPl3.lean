/- Contracts of package places and of its chapter's answers: words put together, spots by number, whether a table may grow. -/
import Derived.Test.YtmdofhdjikapgaaPl2
namespace Go.Proofs.Ytmdofhdjikapgaa
open Go.RowKit
set_option linter.unusedVariables false

theorem word_bits (o n : Int) (h1 : 0 ≤ o) (h2 : o < 256) (h3 : 0 ≤ n) (h4 : n < 256) : bits .or .u64 o (n * 256) = o + n * 256 := by
  obtain ⟨o, rfl⟩ := Int.eq_ofNat_of_zero_le h1
  obtain ⟨n, rfl⟩ := Int.eq_ofNat_of_zero_le h3
  have h := (bits_nat .u64 64 (by decide) (fun n a b => by rw [IntKind.wrap_u64]; omega) o (n * 256) (by omega) (by omega)).2
  have e : ((n * 256 : Nat) : Int) = (n : Int) * 256 := by simp
  rw [e] at h
  rw [h, Nat.or_comm]
  have := Nat.two_pow_add_eq_or_of_lt (i := 8) (show o < 2 ^ 8 by omega) n
  rw [show n * 256 = 2 ^ 8 * n by omega, ← this]
  omega
theorem wordw8 (o n : Int) (w : World) :
    Calls Try.prog 36 #[.int .i64 o, .int .i64 n] w fun e w' => e = .returned (.int .u64 (wordf o n)) ∧ w = w' := by
  obtain ⟨p, ep⟩ : ∃ p, o % 256 = p := ⟨_, rfl⟩
  obtain ⟨q, eq⟩ : ∃ p, n % 256 = p := ⟨_, rfl⟩
  have m1 : bits .and .u64 (IntKind.u64.wrap o) 255 = p := by rw [IntKind.wrap_u64, and255 _ (by omega) (by omega)]; omega
  have m2 : bits .and .u64 (IntKind.u64.wrap n) 255 = q := by rw [IntKind.wrap_u64, and255 _ (by omega) (by omega)]; omega
  have b1 : 0 ≤ p := by omega
  have b2 : p < 256 := by omega
  have b3 : 0 ≤ q := by omega
  have b4 : q < 256 := by omega
  have wb := word_bits p q b1 b2 b3 b4
  have ef : wordf o n = p + q * 256 := by unfold wordf; rw [ep, eq]
  have EF := Lib.hid ef
  clear ef ep eq
  go_enter Try.func36, Try.ntmps36
  go_wp2_with fail
  go_ret
  exact ⟨ret_u64' EF.out.symm, rfl⟩
def mayf (f g b : Int) : Bool := decide (1 ≤ f ∧ f ≤ 12 ∧ 1 ≤ b ∧ b ≤ 11 ∧ 4 * szf b + 4 * szf (b + 1) ≤ 8 * max (min g 65536) (4 * szf f))
theorem szf_zero (b : Int) : (szf b == 0) = !(decide (1 ≤ b) && decide (b ≤ 12)) := by
  unfold szf
  by_cases c : 1 ≤ b ∧ b ≤ 12
  · have := pow_le b c.1 c.2
    rw [if_pos c]; simp [c]; omega
  · rw [if_neg c]; simp; omega
theorem mayw (f g b : Int) (w : World) :
    Calls Try.prog 59 #[.int .i64 f, .int .i64 g, .int .i64 b] w fun e w' => e = .returned (.bool (mayf f g b)) ∧ w = w' := by
  have z1 := szf_zero f
  have z2 := szf_zero b
  obtain ⟨s1, s2⟩ := szf_range f
  obtain ⟨s3, s4⟩ := szf_range b
  obtain ⟨s5, s6⟩ := szf_range (b + 1)
  by_cases cf : 1 ≤ f ∧ f ≤ 12
  · rw [show (decide (1 ≤ f) && decide (f ≤ 12)) = true by simp [cf]] at z1
    simp only [Bool.not_true] at z1
    by_cases cb : 1 ≤ b ∧ b ≤ 12
    · rw [show (decide (1 ≤ b) && decide (b ≤ 12)) = true by simp [cb]] at z2
      simp only [Bool.not_true] at z2
      by_cases c12 : 12 ≤ b
      · have e : mayf f g b = false := by unfold mayf; simp; omega
        rw [e]
        clear e cf cb
        go_enter Try.func59, Try.ntmps59
        go_wp2_with (go_at_call 87; refine (size_any _ _).mono ?_; rintro e w2 ⟨rfl, rfl⟩)
        go_ret
        exact ⟨rfl, rfl⟩
      · have e : mayf f g b = decide (4 * szf b + 4 * szf (b + 1) ≤ 8 * max (min g 65536) (4 * szf f)) := by
          unfold mayf
          rw [decide_eq_decide]
          exact ⟨fun h => h.2.2.2.2, fun h => ⟨cf.1, cf.2, cb.1, by omega, h⟩⟩
        obtain ⟨b1, b2⟩ := cb
        have hm : (g < 65536 ∨ 65536 ≤ g) := by omega
        have E := Lib.hid e
        obtain ⟨r, hr⟩ : ∃ r, mayf f g b = r := ⟨_, rfl⟩
        have R := Lib.hid hr
        rw [hr]
        clear e cf hr
        by_cases m1 : 65536 < g
        case' neg => by_cases m2 : g < 4 * szf f
        all_goals
          go_enter Try.func59, Try.ntmps59
          go_wp2_with (first | (go_at_call 87; refine (size_any _ _).mono ?_; rintro e w2 ⟨rfl, rfl⟩) | (go_at_call 78; refine (slotsw _ _).mono ?_; rintro e w2 ⟨rfl, rfl⟩))
        all_goals go_ret
        all_goals exact ⟨ret_bool (by rw [← R.out, E.out, decide_eq_decide]; omega), rfl⟩
    · rw [show (decide (1 ≤ b) && decide (b ≤ 12)) = false by simp; omega] at z2
      simp only [Bool.not_false] at z2
      have e : mayf f g b = false := by unfold mayf; simp; omega
      rw [e]
      clear e cf cb
      go_enter Try.func59, Try.ntmps59
      go_wp2_with (go_at_call 87; refine (size_any _ _).mono ?_; rintro e w2 ⟨rfl, rfl⟩)
      go_ret
      exact ⟨rfl, rfl⟩
  · rw [show (decide (1 ≤ f) && decide (f ≤ 12)) = false by simp; omega] at z1
    simp only [Bool.not_false] at z1
    have e : mayf f g b = false := by unfold mayf; simp; omega
    rw [e]
    clear e cf z2
    go_enter Try.func59, Try.ntmps59
    go_wp2_with (go_at_call 87; refine (size_any _ _).mono ?_; rintro e w2 ⟨rfl, rfl⟩)
    go_ret
    exact ⟨rfl, rfl⟩
theorem spotsf_range (x : Int) : 8 ≤ spotsf x ∧ spotsf x ≤ 32768 := by
  have a := as_range x
  have b := szf_range (asN x)
  have c := pow_le (asO x) a.1 a.2.1
  have d : szf (asO x) = 2 ^ (asO x).toNat := by unfold szf; rw [if_pos ⟨a.1, a.2.1⟩]
  unfold spotsf
  omega
theorem turn_eq (n s : Int) (l1 : -9223372036854775808 ≤ n) (u1 : n ≤ 9223372036854775807) (s1 : 0 < s) (s2 : s ≤ 32768) : (wrap64 (n.tmod s + s)).tmod s = n % s := by
  have h := Int.mul_tdiv_add_tmod n s
  have r1 := Int.tmod_lt_of_pos n s1
  have r2 : -s < n.tmod s := by
    have := Int.tmod_lt_of_pos (-n) s1
    rw [Int.neg_tmod] at this; omega
  have e : wrap64 (n.tmod s + s) = n.tmod s + s := by
    unfold wrap64; omega
  rw [e, Int.tmod_eq_emod_of_nonneg (by omega), Int.add_emod_right]
  conv => rhs; rw [← h]
  rw [Int.add_comm, Int.add_mul_emod_self_left]
/-- The spot of a number, in numbers. -/
def kf (x n : Int) : Int := n % spotsf x
def aB (x n : Int) : Int := if 4 * szf (asO x) ≤ kf x n then asN x else asO x
def aK (x n : Int) : Int := (if 4 * szf (asO x) ≤ kf x n then kf x n - 4 * szf (asO x) else kf x n) / 4
def aS (x n : Int) : Int := (if 4 * szf (asO x) ≤ kf x n then kf x n - 4 * szf (asO x) else kf x n) % 4
theorem kf_range (x n : Int) : 0 ≤ kf x n ∧ kf x n < spotsf x := by
  have := spotsf_range x
  exact ⟨Int.emod_nonneg _ (by omega), Int.emod_lt_of_pos _ (by omega)⟩
end Go.Proofs.Ytmdofhdjikapgaa
