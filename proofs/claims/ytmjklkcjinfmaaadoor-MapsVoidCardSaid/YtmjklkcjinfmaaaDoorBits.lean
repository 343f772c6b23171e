/- Bits of a word, as numbers. -/
import Derived.Test.YtmjklkcjinfmaaaDoorLib
import Derived.Laws.BitsLemmas
namespace Go.Proofs.YtmjklkcjinfmaaaDoor

theorem wrap_u64_small (n : Nat) (h : n < 2 ^ 64) : IntKind.u64.wrap (n : Int) = n := by
  rw [IntKind.wrap_u64]; omega
theorem mask_u64 (i : Nat) (hi : i ≤ 64) (x : Int) (h0 : 0 ≤ x) (h1 : x < 2 ^ 64) : bits .and .u64 x (2 ^ i - 1) = x % 2 ^ i :=
  bits_mask .u64 64 (by decide) (fun n a b => by rw [IntKind.wrap_u64]; omega) i hi x h0 h1
theorem and255 (x : Int) (h0 : 0 ≤ x) (h1 : x < 18446744073709551616) : bits .and .u64 x 255 = x % 256 := mask_u64 8 (by decide) x h0 (by omega)

/-- A byte's bits struck, and another one put there. -/
theorem put_byte (X T k : Nat) (hX : X < 2 ^ 64) (hT : T < 256) (hk : k + 8 ≤ 64) :
    (X &&& (2 ^ 64 - 1 - 255 * 2 ^ k)) ||| (T * 2 ^ k) = X / 2 ^ (k + 8) * 2 ^ (k + 8) + T * 2 ^ k + X % 2 ^ k := by
  have hm : X % 2 ^ k < 2 ^ k := Nat.mod_lt _ (Nat.two_pow_pos k)
  have e : X / 2 ^ (k + 8) * 2 ^ (k + 8) + T * 2 ^ k + X % 2 ^ k = ((X / 2 ^ (k + 8)) <<< (k + 8)) ||| ((T <<< k) ||| (X % 2 ^ k)) := by
    rw [Nat.shiftLeft_eq, Nat.shiftLeft_eq]
    have a := Nat.two_pow_add_eq_or_of_lt hm T
    have b : 2 ^ k * T + X % 2 ^ k < 2 ^ (k + 8) := by
      have := Nat.mul_le_mul_left (2 ^ k) (show T ≤ 255 by omega)
      rw [Nat.pow_add]; omega
    have c := Nat.two_pow_add_eq_or_of_lt b (X / 2 ^ (k + 8))
    rw [Nat.mul_comm T, ← a, Nat.mul_comm (X / _), ← c]; omega
  have f : 2 ^ 64 - 1 - 255 * 2 ^ k = 2 ^ 64 - (255 <<< k + 1) := by rw [Nat.shiftLeft_eq]; omega
  have g : 255 <<< k < 2 ^ 64 := by
    rw [Nat.shiftLeft_eq]
    have hp : 2 ^ (k + 8) ≤ 2 ^ 64 := Nat.pow_le_pow_right (by decide) hk
    rw [Nat.pow_add] at hp
    have := Nat.two_pow_pos k
    omega
  rw [e, f, show T * 2 ^ k = T <<< k from (Nat.shiftLeft_eq _ _).symm]
  apply Nat.eq_of_testBit_eq
  intro i
  simp only [Nat.testBit_or, Nat.testBit_and, Nat.testBit_shiftLeft, Nat.testBit_mod_two_pow, Nat.testBit_div_two_pow, Nat.testBit_two_pow_sub_succ g]
  have h255 : ∀ j, Nat.testBit 255 j = decide (j < 8) := fun j => Nat.testBit_two_pow_sub_one 8 j
  rw [h255]
  have hx64 : 64 ≤ i → X.testBit i = false := fun h => Nat.testBit_lt_two_pow (Nat.lt_of_lt_of_le hX (Nat.pow_le_pow_right (by decide) h))
  have ht8 : 8 ≤ i - k → T.testBit (i - k) = false := fun h => Nat.testBit_lt_two_pow (Nat.lt_of_lt_of_le hT (Nat.pow_le_pow_right (n := 2) (i := 8) (by decide) h))
  by_cases c1 : i < k
  · have c2 : ¬ k ≤ i := by omega
    have c3 : ¬ k + 8 ≤ i := by omega
    have c4 : i < 64 := by omega
    simp [c1, c2, c3, c4]
  · have c2 : k ≤ i := by omega
    by_cases c3 : k + 8 ≤ i
    · have c5 : ¬ i - k < 8 := by omega
      rw [ht8 (by omega)]
      by_cases c7 : i < 64
      · simp [c1, c2, c3, c5, c7]
      · rw [hx64 (by omega)]; simp [c1, c3, hx64 (by omega)]
    · have c5 : i - k < 8 := by omega
      simp [c1, c2, c3, c5]
theorem with_bits (X T k : Nat) (hX : X < 2 ^ 64) (hT : T < 256) (hk : k + 8 ≤ 64) :
    bits .or .u64 (bits .andNot .u64 (X : Int) ((255 * 2 ^ k : Nat) : Int)) ((T * 2 ^ k : Nat) : Int) = ((X / 2 ^ (k + 8) * 2 ^ (k + 8) + T * 2 ^ k + X % 2 ^ k : Nat) : Int) := by
  have h64 : 2 ^ IntKind.u64.bits = 2 ^ 64 := rfl
  have hp : 2 ^ (k + 8) ≤ 2 ^ 64 := Nat.pow_le_pow_right (by decide) hk
  rw [Nat.pow_add] at hp
  have hTk := Nat.mul_le_mul_right (2 ^ k) (show T ≤ 255 by omega)
  have hk0 := Nat.two_pow_pos k
  have hb : 255 * 2 ^ k % 2 ^ IntKind.u64.bits = 255 * 2 ^ k := Nat.mod_eq_of_lt (by omega)
  have ht : T * 2 ^ k % 2 ^ IntKind.u64.bits = T * 2 ^ k := Nat.mod_eq_of_lt (by omega)
  have hx : X % 2 ^ IntKind.u64.bits = X := Nat.mod_eq_of_lt hX
  have e1 : bits .andNot .u64 (X : Int) ((255 * 2 ^ k : Nat) : Int) = ((X &&& (2 ^ 64 - 1 - 255 * 2 ^ k) : Nat) : Int) := by
    simp only [bits, BitVec.ofInt_natCast, BitVec.toNat_and, BitVec.toNat_not, BitVec.toNat_ofNat, hx, hb]
    rw [h64]
    exact wrap_u64_small _ (Nat.lt_of_le_of_lt Nat.and_le_left hX)
  rw [e1]
  have l1 : X &&& (2 ^ 64 - 1 - 255 * 2 ^ k) < 2 ^ 64 := Nat.lt_of_le_of_lt Nat.and_le_left hX
  have hy : (X &&& (2 ^ 64 - 1 - 255 * 2 ^ k)) % 2 ^ IntKind.u64.bits = (X &&& (2 ^ 64 - 1 - 255 * 2 ^ k)) := Nat.mod_eq_of_lt l1
  simp only [bits, BitVec.ofInt_natCast, BitVec.toNat_or, BitVec.toNat_ofNat, hy, ht]
  have := Nat.or_lt_two_pow l1 (show T * 2 ^ k < 2 ^ 64 by omega)
  rw [put_byte X T k hX hT hk] at *
  exact wrap_u64_small _ this
end Go.Proofs.YtmjklkcjinfmaaaDoor
