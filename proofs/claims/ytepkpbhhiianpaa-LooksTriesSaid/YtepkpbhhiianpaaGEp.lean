/- Contracts of package epochs. -/
import Derived.Test.YtepkpbhhiianpaaChecked
import Derived.Test.YtepkpbhhiianpaaBits
namespace Go.Proofs.Ytepkpbhhiianpaa
open Go.RowKit
set_option linter.unusedVariables false

theorem ret_u64 {a b : Int} (h : a = b) : Ending.returned (.int .u64 a) = .returned (.int .u64 b) := by rw [h]
def nowf (x : Int) : Int := x % 16777216
def atf (x : Int) : Int := x / 16777216 % 16777216
def genf (x : Int) : Int := x / 281474976710656 % 65536
theorem ep_masks (x : Int) (h1 : 0 ≤ x) (h2 : x < 18446744073709551616) : bits .and .u64 x 16777215 = nowf x ∧ bits .and .u64 (x / 16777216) 16777215 = atf x ∧ bits .and .u64 (x / 281474976710656) 65535 = genf x :=
  ⟨mask_u64 24 (by decide) x h1 (by omega), mask_u64 24 (by decide) _ (by omega) (by omega), mask_u64 16 (by decide) _ (by omega) (by omega)⟩
theorem ep_range (x : Int) : (0 ≤ nowf x ∧ nowf x ≤ 16777215) ∧ (0 ≤ atf x ∧ atf x ≤ 16777215) ∧ (0 ≤ genf x ∧ genf x ≤ 65535) := by
  unfold nowf atf genf; omega
def putf (n a g : Int) : Int := n % 16777216 + a % 16777216 * 16777216 + g % 65536 * 281474976710656
theorem put_bits (n a g : Int) (h1 : 0 ≤ n) (h2 : n < 16777216) (h3 : 0 ≤ a) (h4 : a < 16777216) (h5 : 0 ≤ g) (h6 : g < 65536) : bits .or .u64 (bits .or .u64 n (a * 16777216)) (g * 281474976710656) = n + a * 16777216 + g * 281474976710656 := by
  have j := fun i x y hx0 hx hx1 hy0 hy hy1 => bits_join .u64 64 (by decide) (fun n a b => by rw [IntKind.wrap_u64]; omega) i x y hx0 hx hx1 hy0 hy hy1
  have c : ∀ (x y : Int), 0 ≤ x → x < 18446744073709551616 → 0 ≤ y → y < 18446744073709551616 → bits .or .u64 x y = bits .or .u64 y x := by
    intro x y a b c d
    obtain ⟨x, rfl⟩ := Int.eq_ofNat_of_zero_le a
    obtain ⟨y, rfl⟩ := Int.eq_ofNat_of_zero_le c
    rw [(bits_nat .u64 64 (by decide) (fun n a b => by rw [IntKind.wrap_u64]; omega) x y (by omega) (by omega)).2, (bits_nat .u64 64 (by decide) (fun n a b => by rw [IntKind.wrap_u64]; omega) y x (by omega) (by omega)).2, Nat.or_comm]
  rw [c n _ h1 (by omega) (by omega) (by omega), j 24 (a * 16777216) n (by omega) (by omega) (by omega) (by omega) (by omega) (by omega)]
  rw [c (a * 16777216 + n) (g * 281474976710656) (by omega) (by omega) (by omega) (by omega), j 48 (g * 281474976710656) (a * 16777216 + n) (by omega) (by omega) (by omega) (by omega) (by omega) (by omega)]
  omega
end Go.Proofs.Ytepkpbhhiianpaa
/- Next: Contracts of package epochs: ticks, flushes, when items die. -/
namespace Go.Proofs.Ytepkpbhhiianpaa
open Go.RowKit
set_option linter.unusedVariables false

def tickf (x : Int) : Int :=
  if nowf x < 16777215 then
    if 0 < atf x ∧ atf x ≤ nowf x + 1 then putf (nowf x + 1) 0 (if genf x < 65535 then genf x + 1 else 65535) else putf (nowf x + 1) (atf x) (genf x)
  else if 0 < atf x then putf 16777215 0 (if genf x < 65535 then genf x + 1 else 65535) else putf 16777215 (atf x) (genf x)
def flushes (x : Int) : Bool := decide (genf x < 65535)
def flushf (x d : Int) : Int := if genf x < 65535 then (if d < 1 then putf (nowf x) 0 (genf x + 1) else putf (nowf x) (if d < 16777215 - nowf x then nowf x + d else 16777215) (genf x)) else x
def diesf (x e : Int) : Int := if e = 0 then -1 else if e < 0 then nowf x else if e ≤ 2592000 then nowf x + e else e
def alivef (g d x : Int) : Bool := genf x == g && !(d != -1 && decide (d ≤ nowf x))
end Go.Proofs.Ytepkpbhhiianpaa
