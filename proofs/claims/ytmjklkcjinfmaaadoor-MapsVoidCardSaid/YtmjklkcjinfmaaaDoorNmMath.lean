/- Numbers as texts: what a text's number is; counting up and down. -/
import Derived.Test.YtmjklkcjinfmaaaDoorLib
namespace Go.Proofs.YtmjklkcjinfmaaaDoor
set_option linter.unusedVariables false

/-- A number of 64 bits, digit by digit, from what stood ahead. -/
def digsF : Int → List UInt8 → Int × Bool
  | n, [] => (n, true)
  | n, c :: t => if (c.toNat : Int) < 48 ∨ 57 < (c.toNat : Int) then (0, false) else if (18446744073709551615 - ((c.toNat : Int) - 48)) / 10 < n then (0, false) else digsF (10 * n + ((c.toNat : Int) - 48)) t
def parseF (s : List UInt8) : Int × Bool := if s.length < 1 ∨ 20 < s.length then (0, false) else digsF 0 s
theorem digsF_range : ∀ (s : List UInt8) (n : Int), 0 ≤ n → n ≤ 18446744073709551615 → 0 ≤ (digsF n s).1 ∧ (digsF n s).1 ≤ 18446744073709551615
  | [], n, h0, h1 => ⟨h0, h1⟩
  | c :: t, n, h0, h1 => by
    unfold digsF
    split
    · simp
    · split
      · simp
      · exact digsF_range t _ (by omega) (by omega)
theorem parseF_range (s : List UInt8) : 0 ≤ (parseF s).1 ∧ (parseF s).1 ≤ 18446744073709551615 := by
  unfold parseF
  split
  · simp
  · exact digsF_range s 0 (by omega) (by omega)
theorem digsF_none : ∀ (s : List UInt8) (n : Int), (digsF n s).2 = false → (digsF n s).1 = 0
  | [], n, h => by simp [digsF] at h
  | c :: t, n, h => by
    unfold digsF at h ⊢
    split
    · rfl
    · next h1 =>
      rw [if_neg h1] at h
      split
      · rfl
      · next h2 => rw [if_neg h2] at h; exact digsF_none t _ h
theorem parseF_none {s : List UInt8} (h : (parseF s).2 = false) : (parseF s).1 = 0 := by
  unfold parseF at h ⊢
  split
  · rfl
  · next h1 => rw [if_neg h1] at h; exact digsF_none s 0 h
theorem parseF_len {s : List UInt8} (h : s.length < 1 ∨ 20 < s.length) : parseF s = (0, false) := by unfold parseF; rw [if_pos h]
theorem digsF_bad {n : Int} {c : UInt8} {t : List UInt8} (h : (c.toNat : Int) < 48 ∨ 57 < (c.toNat : Int)) : digsF n (c :: t) = (0, false) := by simp [digsF, h]
theorem digsF_big {n : Int} {c : UInt8} {t : List UInt8} (h : ¬ ((c.toNat : Int) < 48 ∨ 57 < (c.toNat : Int))) (h2 : (18446744073709551615 - ((c.toNat : Int) - 48)) / 10 < n) : digsF n (c :: t) = (0, false) := by
  unfold digsF; rw [if_neg h, if_pos h2]
theorem digsF_go {n : Int} {c : UInt8} {t : List UInt8} (h : ¬ ((c.toNat : Int) < 48 ∨ 57 < (c.toNat : Int))) (h2 : ¬ (18446744073709551615 - ((c.toNat : Int) - 48)) / 10 < n) : digsF n (c :: t) = digsF (10 * n + ((c.toNat : Int) - 48)) t := by
  conv => lhs; unfold digsF
  rw [if_neg h, if_neg h2]
/-- One that may be below 0. -/
def signedOf (below : Bool) (p : Int × Bool) : Int × Bool := if p.2 = false then (0, false) else if below = true ∧ p.1 ≤ 9223372036854775808 then (-p.1, true) else if below = false ∧ p.1 < 9223372036854775808 then (p.1, true) else (0, false)
def signedF (s : List UInt8) : Int × Bool := if s.head? = some 45 then signedOf true (parseF s.tail) else signedOf false (parseF s)
/-- One of 32 bits. -/
def p32F (s : List UInt8) : Int × Bool := if (parseF s).2 = false ∨ 4294967295 < (parseF s).1 then (0, false) else parseF s
def incrF (n b : Int) : Int := (n + b) % 18446744073709551616
def decrF (n b : Int) : Int := if n < b then 0 else n - b
theorem incrF_range (n b : Int) : 0 ≤ incrF n b ∧ incrF n b ≤ 18446744073709551615 := by unfold incrF; omega
theorem decrF_range {n b : Int} (h0 : 0 ≤ n) (h1 : n ≤ 18446744073709551615) (hb : 0 ≤ b) : 0 ≤ decrF n b ∧ decrF n b ≤ 18446744073709551615 := by unfold decrF; split <;> omega
theorem ex04 : parseF [48, 48, 52, 50] = (42, true) ∧ parseF [49, 56, 52, 52, 54, 55, 52, 52, 48, 55, 51, 55, 48, 57, 53, 53, 49, 54, 49, 53] = (18446744073709551615, true) ∧ signedF [45, 57, 50, 50, 51, 51, 55, 50, 48, 51, 54, 56, 53, 52, 55, 55, 53, 56, 48, 56] = (-9223372036854775808, true) ∧ signedF [45] = (0, false) ∧ p32F [52, 50, 57, 52, 57, 54, 55, 50, 57, 54] = (0, false) := by decide
theorem ex04n : parseF [49, 56, 52, 52, 54, 55, 52, 52, 48, 55, 51, 55, 48, 57, 53, 53, 49, 54, 49, 54] = (0, false) ∧ parseF [] = (0, false) ∧ parseF [43, 49] = (0, false) := by decide
theorem p32F_none {s : List UInt8} (h : parseF s = (0, false)) : p32F s = (0, false) := by simp [p32F, h]
end Go.Proofs.YtmjklkcjinfmaaaDoor
