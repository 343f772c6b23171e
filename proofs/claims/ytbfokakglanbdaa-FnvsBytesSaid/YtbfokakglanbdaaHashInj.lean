/- Texts that part in one byte have unlike hashes. -/
import Derived.Test.YtbfokakglanbdaaLives01
import Derived.Laws.BitsAllLaws
namespace Go.Proofs.Ytbfokakglanbdaa
open Go.RowKit
set_option linter.unusedVariables false

theorem hs1_nat (h : Nat) (c : UInt8) (hh : h < 18446744073709551616) : hs1 h c = (((h ^^^ c.toNat) * 1099511628211 % 18446744073709551616 : Nat) : Int) := by
  have hc : c.toNat < 256 := c.toNat_lt
  unfold hs1
  rw [IntKind.wrap_u64, IntKind.wrap_u64, show (c.toNat : Int) % 18446744073709551616 = (c.toNat : Int) by omega]
  rw [u64_xor_nat _ _ hh (by omega)]
  omega
theorem mul_inj (a b : Nat) (ha : a < 18446744073709551616) (hb : b < 18446744073709551616) (h : a * 1099511628211 % 18446744073709551616 = b * 1099511628211 % 18446744073709551616) : a = b := by
  have e : ∀ x : Nat, x < 18446744073709551616 → (x * 1099511628211 % 18446744073709551616) * 14886173955864302971 % 18446744073709551616 = x := by
    intro x hx
    rw [Nat.mod_mul_mod, Nat.mul_assoc]
    rw [show 1099511628211 * 14886173955864302971 = 887285111055 * 18446744073709551616 + 1 by decide +kernel]
    rw [Nat.mul_add, Nat.mul_one, ← Nat.mul_assoc, Nat.mul_comm (x * _) _, Nat.mul_add_mod, Nat.mod_eq_of_lt hx]
  rw [← e a ha, ← e b hb, h]
theorem xor_lt (h : Nat) (c : UInt8) (hh : h < 18446744073709551616) : h ^^^ c.toNat < 18446744073709551616 :=
  Nat.xor_lt_two_pow (n := 64) hh (Nat.lt_of_lt_of_le c.toNat_lt (by decide))
theorem hs1_inj (h h' : Int) (c c' : UInt8) (r1 : 0 ≤ h) (r2 : h < 18446744073709551616) (r3 : 0 ≤ h') (r4 : h' < 18446744073709551616) (e : hs1 h c = hs1 h' c') : h.toNat ^^^ c.toNat = h'.toNat ^^^ c'.toNat := by
  obtain ⟨h, rfl⟩ := Int.eq_ofNat_of_zero_le r1
  obtain ⟨h', rfl⟩ := Int.eq_ofNat_of_zero_le r3
  rw [hs1_nat h c (by omega), hs1_nat h' c' (by omega)] at e
  exact mul_inj _ _ (xor_lt h c (by omega)) (xor_lt h' c' (by omega)) (Int.ofNat.inj e)
theorem xor_cancel_right (a b c : Nat) (h : a ^^^ c = b ^^^ c) : a = b := by
  have := congrArg (· ^^^ c) h
  simpa [Nat.xor_assoc] using this
theorem xor_cancel_left (a b c : Nat) (h : c ^^^ a = c ^^^ b) : a = b := by
  rw [Nat.xor_comm c a, Nat.xor_comm c b] at h
  exact xor_cancel_right a b c h
theorem fold_inj : ∀ (l : List UInt8) (h h' : Int), 0 ≤ h → h < 18446744073709551616 → 0 ≤ h' → h' < 18446744073709551616 → l.foldl hs1 h = l.foldl hs1 h' → h = h'
  | [], _, _, _, _, _, _, e => e
  | c :: l, h, h', a, b, a', b', e => by
    have r := hs1_range h c
    have r' := hs1_range h' c
    have := fold_inj l _ _ r.1 r.2 r'.1 r'.2 e
    have := xor_cancel_right _ _ _ (hs1_inj h h' c c a b a' b' this)
    omega
/-- One byte turned: another hash. -/
theorem hsl_set (l : List UInt8) (k : Nat) (hk : k < l.length) (c : UInt8) (hc : c ≠ l[k]) : hsl (l.set k c) ≠ hsl l := by
  intro e
  have s1 : l = l.take k ++ l[k] :: l.drop (k + 1) := by simp
  have s2 : l.set k c = l.take k ++ c :: l.drop (k + 1) := List.set_eq_take_append_cons_drop .. |>.trans (by simp [hk])
  unfold hsl at e
  rw [s2] at e
  conv at e => rhs; rw [s1]
  rw [List.foldl_append, List.foldl_append, List.foldl_cons, List.foldl_cons] at e
  have r0 := hsl_range (l.take k)
  unfold hsl at r0
  have a := hs1_range (List.foldl hs1 14695981039346656037 (l.take k)) c
  have b := hs1_range (List.foldl hs1 14695981039346656037 (l.take k)) l[k]
  have i := fold_inj _ _ _ a.1 a.2 b.1 b.2 e
  have j := xor_cancel_left _ _ _ (hs1_inj _ _ _ _ r0.1 r0.2 r0.1 r0.2 i)
  exact hc (UInt8.toNat_inj.1 j)
end Go.Proofs.Ytbfokakglanbdaa
