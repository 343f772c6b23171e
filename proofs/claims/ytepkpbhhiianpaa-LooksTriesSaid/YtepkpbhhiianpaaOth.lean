/- The other bucket, as numbers. -/
import Derived.Test.YtepkpbhhiianpaaFnvs
import Derived.Laws.BitsAllLaws
import Derived.Laws.BitsLemmas
namespace Go.Proofs.Ytepkpbhhiianpaa
theorem xor_i64 (a b : Nat) (ha : a < 2 ^ 62) (hb : b < 2 ^ 62) : bits .xor .i64 a b = ((a ^^^ b : Nat) : Int) := by
  have ha' : a % 2 ^ IntKind.i64.bits = a := Nat.mod_eq_of_lt (Nat.lt_of_lt_of_le ha (by decide))
  have hb' : b % 2 ^ IntKind.i64.bits = b := Nat.mod_eq_of_lt (Nat.lt_of_lt_of_le hb (by decide))
  have hx := Nat.xor_lt_two_pow ha hb
  simp only [bits, BitVec.ofInt_natCast, BitVec.toNat_xor, BitVec.toNat_ofNat, ha', hb']
  rw [IntKind.wrap_i64]
  omega
theorem oth_nat (a t : Nat) (b : Nat) (hb2 : b ≤ 12) (ha : a < 2 ^ b) : oth a t b = ((a ^^^ (t * 1540483477 % 2 ^ b) : Nat) : Int) := by
  have hm : t * 1540483477 % 2 ^ b < 2 ^ b := Nat.mod_lt _ (Nat.two_pow_pos b)
  have hp : (2 : Nat) ^ b ≤ 2 ^ 12 := Nat.pow_le_pow_right (by omega) hb2
  have e : ((t : Int) * 1540483477 % 2 ^ ((b : Int)).toNat) = ((t * 1540483477 % 2 ^ b : Nat) : Int) := by simp
  unfold oth
  rw [e, xor_i64 _ _ (by omega) (by omega)]
theorem oth_spec (a t b : Int) (ht : 1 ≤ t) (ha : 0 ≤ a) (ha2 : a < 2 ^ b.toNat) (hb : 1 ≤ b) (hb2 : b ≤ 12) : 0 ≤ oth a t b ∧ oth a t b < 2 ^ b.toNat ∧ oth (oth a t b) t b = a := by
  obtain ⟨a, rfl⟩ := Int.eq_ofNat_of_zero_le ha
  obtain ⟨t, rfl⟩ := Int.eq_ofNat_of_zero_le (show 0 ≤ t by omega)
  obtain ⟨b, rfl⟩ := Int.eq_ofNat_of_zero_le (show 0 ≤ b by omega)
  have ha' : a < 2 ^ b := by simpa using (Int.ofNat_lt.1 (by simpa using ha2))
  have hm : t * 1540483477 % 2 ^ b < 2 ^ b := Nat.mod_lt _ (Nat.two_pow_pos b)
  have hx := Nat.xor_lt_two_pow ha' hm
  rw [oth_nat a t b (by omega) ha', oth_nat _ t b (by omega) hx, Nat.xor_assoc, Nat.xor_self, Nat.xor_zero]
  refine ⟨by omega, ?_, rfl⟩
  have : ((a ^^^ (t * 1540483477 % 2 ^ b) : Nat) : Int) < ((2 ^ b : Nat) : Int) := Int.ofNat_lt.2 hx
  simpa using this
/-- One bit more: the same one, or that and the smaller table's size. -/
theorem mod_grow (h : Nat) (n : Nat) : h % 2 ^ (n + 1) = h % 2 ^ n ∨ h % 2 ^ (n + 1) = h % 2 ^ n + 2 ^ n := by
  have e : h % 2 ^ (n + 1) % 2 ^ n = h % 2 ^ n := Nat.mod_mod_of_dvd _ ⟨2, by rw [Nat.pow_succ]⟩
  have l : h % 2 ^ (n + 1) < 2 ^ (n + 1) := Nat.mod_lt _ (Nat.two_pow_pos _)
  have p := Nat.two_pow_pos n
  rw [Nat.pow_succ] at l
  by_cases c : h % 2 ^ (n + 1) < 2 ^ n
  · rw [Nat.mod_eq_of_lt c] at e; exact .inl e
  · rw [Nat.mod_eq_sub_mod (by omega), Nat.mod_eq_of_lt (by omega)] at e; exact .inr (by omega)
theorem oth_grow (h t n : Nat) (hn : n + 1 ≤ 12) : oth ((h % 2 ^ (n + 1) : Nat) : Int) t ((n + 1 : Nat) : Int) = oth ((h % 2 ^ n : Nat) : Int) t (n : Int) ∨ oth ((h % 2 ^ (n + 1) : Nat) : Int) t ((n + 1 : Nat) : Int) = oth ((h % 2 ^ n : Nat) : Int) t (n : Int) + ((2 ^ n : Nat) : Int) := by
  rw [oth_nat _ t (n + 1) hn (Nat.mod_lt _ (Nat.two_pow_pos _)), oth_nat _ t n (by omega) (Nat.mod_lt _ (Nat.two_pow_pos _))]
  have hd : (2 : Nat) ^ n ∣ 2 ^ (n + 1) := ⟨2, by rw [Nat.pow_succ]⟩
  have e1 : (h % 2 ^ (n + 1)) ^^^ (t * 1540483477 % 2 ^ (n + 1)) = (h ^^^ (t * 1540483477)) % 2 ^ (n + 1) := (Nat.xor_mod_two_pow).symm
  have e2 : (h % 2 ^ n) ^^^ (t * 1540483477 % 2 ^ n) = (h ^^^ (t * 1540483477)) % 2 ^ n := (Nat.xor_mod_two_pow).symm
  rw [e1, e2]
  rcases mod_grow (h ^^^ (t * 1540483477)) n with e | e
  · exact .inl (by rw [e])
  · exact .inr (by rw [e]; simp)
end Go.Proofs.Ytepkpbhhiianpaa
