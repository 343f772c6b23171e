/- The law FnvsStripes; the chapter's examples. -/
import Derived.Test.YtbfokakglanbdaaFnvs
namespace Go.Proofs.Ytbfokakglanbdaa
open Go.RowKit

theorem oth_a : oth 5 203 4 = 2 := by decide +kernel
theorem oth_b : oth 2 203 4 = 5 := by decide +kernel
theorem lives01 (w : World) : Calls Try.prog 14 #[] w fun e w' => e = .returned (.bool true) ∧ Below w.heap.size w w' := by
  have e0 : hsl [] = 14695981039346656037 := rfl
  have e1 := oth_a
  have e2 := oth_b
  go_enter Try.func14, Try.ntmps14
  go_wp2_with fail
  refine (hash _ _ (by decide)).mono ?_
  rintro e w1 ⟨rfl, hb1⟩
  go_wp2_with fail
  refine (tag _ _ (by omega) (by omega)).mono ?_
  rintro e w2 ⟨rfl, rfl⟩
  go_wp2_with fail
  refine (bucket _ _ _ (by omega) (by omega) (by omega) (by omega)).mono ?_
  rintro e w2 ⟨rfl, rfl⟩
  go_wp2_with fail
  refine (other _ _ _ _ (by omega) (by decide) (by omega) (by omega) (by omega) (by omega)).mono ?_
  rintro e w2 ⟨rfl, rfl⟩
  go_wp2_with fail
  refine (other _ _ _ _ (by omega) (by decide) (by omega) (by omega) (by omega) (by omega)).mono ?_
  rintro e w2 ⟨rfl, rfl⟩
  go_wp2_with fail
  refine (stripe _ _ _ (by omega) (by decide) (by omega) (by omega)).mono ?_
  rintro e w2 ⟨rfl, hb2⟩
  go_wp2_with fail
  go_ret
  exact ⟨rfl, hb1.trans (hb2.mono (hb1.size))⟩
theorem walk_FnvsStripes (a0 : Int) (a1 : Int) (w : World) (w0 : (Lit.int .u8 a0).wf = true) (w1 : (Lit.int .u16 a1).wf = true) :
    Calls Try.prog 8 #[.int .u8 a0, .int .u16 a1] w fun e w' => e = .returned (.bool true) ∧ Below w.heap.size w w' := by
  have b0 := bounds_u8 w0
  have b1 := bounds_u16 w1
  clear w0 w1
  obtain ⟨l0, u0⟩ := b0
  obtain ⟨l1, u1⟩ := b1
  obtain ⟨n, hn⟩ : ∃ n, n = 1 + a0 % 11 := ⟨_, rfl⟩
  have n1 : 1 ≤ n := by omega
  have n2 : n ≤ 11 := by omega
  obtain ⟨p1, p2⟩ := pow_le n n1 (by omega)
  have hnn := Lib.hid hn
  clear hn
  have en : 1 + a0 % 11 = n := hnn.out.symm
  obtain ⟨m, em⟩ : ∃ m, a1 % (2 ^ n.toNat - 1) = m := ⟨_, rfl⟩
  have m1 : 0 ≤ m := by rw [← em]; exact Int.emod_nonneg _ (by omega)
  have m2 : m < 2 ^ n.toNat - 1 := by rw [← em]; exact Int.emod_lt_of_pos _ (by omega)
  obtain ⟨q1, q2⟩ := pow_le (n + 1) (by omega) (by omega)
  have q3 : (2 : Int) ^ (n + 1).toNat = 2 * 2 ^ n.toNat := by rw [show (n + 1).toNat = n.toNat + 1 by omega, Int.pow_succ, Int.mul_comm]
  have Q3 := Lib.hid q3
  have q4 : m < 2 ^ (n + 1).toNat := by omega
  have d1 : ((m + 31 * n) % 64 != (m + 1 + 31 * n) % 64) = true := by rw [bne_iff_ne]; omega
  have d2 : ((m + 31 * n) % 64 != (m + 31 * (n + 1)) % 64) = true := by rw [bne_iff_ne]; omega
  clear q3
  go_enter Try.func8, Try.ntmps8
  go_wp2_with fail
  refine (size_in _ _ (by omega) (by omega)).mono ?_
  rintro e w1 ⟨rfl, rfl⟩
  go_wp2_with fail
  refine (stripe _ _ _ (by omega) (by omega) (by omega) (by omega)).mono ?_
  rintro e w1 ⟨rfl, hb1⟩
  go_wp2_with fail
  refine (stripe _ _ _ (by omega) (by omega) (by omega) (by omega)).mono ?_
  rintro e w2 ⟨rfl, hb2⟩
  go_wp2_with fail
  refine (stripe _ _ _ (by omega) (by omega) (by omega) (by omega)).mono ?_
  rintro e w3 ⟨rfl, hb3⟩
  go_wp2_with fail
  refine (lives01 _).mono ?_
  rintro e w4 ⟨rfl, hb4⟩
  go_wp2_with fail
  go_ret
  have h2 := hb1.trans (hb2.mono hb1.size)
  have h3 := h2.trans (hb3.mono h2.size)
  exact ⟨rfl, h3.trans (hb4.mono h3.size)⟩
end Go.Proofs.Ytbfokakglanbdaa
